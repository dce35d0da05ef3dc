/-
  DERIVED. GIVEN WITH THE SEED: THE CARDS: each row of YtnpghhpcloljeabGreatDoorRows.lean that lists a variable, with what it lists TIED to the program's text (the seventh form; the later family's looks); each row that meets fmt, with fmt's text TOLD by the authors' own Lean function (tested against real Go, not proved from fmt's source: count such statements apart). THE CARD IS WHAT COUNTS. Prove the row's statement (the work); the ties are given (YtnpghhpcloljeabGreatDoorTie.lean); close each card by the builder's one call (the guide's Derived/Test/ToyasCard.lean, 'card_holds'). Laid BY PROGRAM, IN A SANDBOX (cutbox-door.mjs). By AI agents, Wed Nov 11 2026. No macro, syntax, notation, axiom, sorry.
-/
import Derived.Test.YtnpghhpcloljeabGreatDoorRows
import GoSem.ClaimSeven
namespace Go.Proofs.YtnpghhpcloljeabGreatDoor
namespace Rows

/-- THE TIED CARD OF 'laws.FnAdjustment'. -/
def fnAdjustmentCard : Claim7 := { stood := { row := fnAdjustmentRow, standIns := [], harness := (true, "131c7f4a5e2c490c4b0f6340c37fa6604092036a746e536c652d02ed7c80dcfd"), looks := false }, kinds := [], alts := [], laidByText := true, laidKinds := [.data], laidTests := true, laidLooks := .later }
def FnAdjustmentCardSaid : Prop := Claim7.holds Tryz.pinned (.plain (OpenSpec.ofChange fnAdjustmentSpec)) fnAdjustmentCard

/-- THE TIED CARD OF 'laws.FnResiduals'. -/
def fnResidualsCard : Claim7 := { stood := { row := fnResidualsRow, standIns := [], harness := (true, "131c7f4a5e2c490c4b0f6340c37fa6604092036a746e536c652d02ed7c80dcfd"), looks := false }, kinds := [], alts := [], laidByText := true, laidKinds := [.data], laidTests := true, laidLooks := .later }
def FnResidualsCardSaid : Prop := Claim7.holds Tryz.pinned (.plain (OpenSpec.ofChange fnResidualsSpec)) fnResidualsCard

/-- THE TIED CARD OF 'laws.FnBlunders'. -/
def fnBlundersCard : Claim7 := { stood := { row := fnBlundersRow, standIns := [], harness := (true, "131c7f4a5e2c490c4b0f6340c37fa6604092036a746e536c652d02ed7c80dcfd"), looks := false }, kinds := [], alts := [], laidByText := true, laidKinds := [.data], laidTests := true, laidLooks := .later }
def FnBlundersCardSaid : Prop := Claim7.holds Tryz.pinned (.plain (OpenSpec.ofChange fnBlundersSpec)) fnBlundersCard

/-- THE TIED CARD OF 'laws.FnFixes'. -/
def fnFixesCard : Claim7 := { stood := { row := fnFixesRow, standIns := [], harness := (true, "131c7f4a5e2c490c4b0f6340c37fa6604092036a746e536c652d02ed7c80dcfd"), looks := false }, kinds := [], alts := [], laidByText := true, laidKinds := [.data], laidTests := true, laidLooks := .later }
def FnFixesCardSaid : Prop := Claim7.holds Tryz.pinned (.plain (OpenSpec.ofChange fnFixesSpec)) fnFixesCard

/-- THE SECOND FORM's CARD OF 'laws.FnAdjustment'. -/
def fnAdjustmentUptoCard : Claim7 := { stood := { row := fnAdjustmentUptoRow, standIns := [], harness := (true, "131c7f4a5e2c490c4b0f6340c37fa6604092036a746e536c652d02ed7c80dcfd"), looks := false }, kinds := [], alts := [], laidByText := true, laidKinds := [.data], laidTests := true, laidLooks := .later }
def FnAdjustmentUptoCardSaid : Prop := Claim7.holds Tryz.pinned (.plain (OpenSpec.upto fnAdjustmentSpec)) fnAdjustmentUptoCard

/-- THE SECOND FORM's CARD OF 'laws.FnResiduals'. -/
def fnResidualsUptoCard : Claim7 := { stood := { row := fnResidualsUptoRow, standIns := [], harness := (true, "131c7f4a5e2c490c4b0f6340c37fa6604092036a746e536c652d02ed7c80dcfd"), looks := false }, kinds := [], alts := [], laidByText := true, laidKinds := [.data], laidTests := true, laidLooks := .later }
def FnResidualsUptoCardSaid : Prop := Claim7.holds Tryz.pinned (.plain (OpenSpec.upto fnResidualsSpec)) fnResidualsUptoCard

/-- THE SECOND FORM's CARD OF 'laws.FnBlunders'. -/
def fnBlundersUptoCard : Claim7 := { stood := { row := fnBlundersUptoRow, standIns := [], harness := (true, "131c7f4a5e2c490c4b0f6340c37fa6604092036a746e536c652d02ed7c80dcfd"), looks := false }, kinds := [], alts := [], laidByText := true, laidKinds := [.data], laidTests := true, laidLooks := .later }
def FnBlundersUptoCardSaid : Prop := Claim7.holds Tryz.pinned (.plain (OpenSpec.upto fnBlundersSpec)) fnBlundersUptoCard

/-- THE SECOND FORM's CARD OF 'laws.FnFixes'. -/
def fnFixesUptoCard : Claim7 := { stood := { row := fnFixesUptoRow, standIns := [], harness := (true, "131c7f4a5e2c490c4b0f6340c37fa6604092036a746e536c652d02ed7c80dcfd"), looks := false }, kinds := [], alts := [], laidByText := true, laidKinds := [.data], laidTests := true, laidLooks := .later }
def FnFixesUptoCardSaid : Prop := Claim7.holds Tryz.pinned (.plain (OpenSpec.upto fnFixesSpec)) fnFixesUptoCard
end Rows
end Go.Proofs.YtnpghhpcloljeabGreatDoor
