/-
  DERIVED. GIVEN WITH THE SEED: THE CARDS: each row of YtnpghhpcloljeaaDoorRows.lean that lists a variable, with what it lists TIED to the program's text (the seventh form; the later family's looks); each row that meets fmt, with fmt's text TOLD by the authors' own Lean function (tested against real Go, not proved from fmt's source: count such statements apart). THE CARD IS WHAT COUNTS. Prove the row's statement (the work); the ties are given (YtnpghhpcloljeaaDoorTie.lean); close each card by the builder's one call (the guide's Derived/Test/ToyasCard.lean, 'card_holds'). Laid BY PROGRAM, IN A SANDBOX (cutbox-door.mjs). By AI agents, Wed Nov 11 2026. No macro, syntax, notation, axiom, sorry.
-/
import Derived.Test.YtnpghhpcloljeaaDoorRows
import GoSem.ClaimSeven
namespace Go.Proofs.YtnpghhpcloljeaaDoor
namespace Rows

/-- THE TIED CARD OF 'laws.FnExactWallsAt'. -/
def fnExactWallsAtCard : Claim7 := { stood := { row := fnExactWallsAtRow, standIns := [], harness := (true, "830fe19c57206bd598b14fff8934325954924967726e858ebe6dc15e1f9c56ff"), looks := false }, kinds := [], alts := [], laidByText := true, laidKinds := [.data], laidTests := true, laidLooks := .later }
def FnExactWallsAtCardSaid : Prop := Claim7.holds Tryd.pinned (.plain (OpenSpec.ofChange fnExactWallsAtSpec)) fnExactWallsAtCard

/-- THE TIED CARD OF 'laws.FnWalls'. -/
def fnWallsCard : Claim7 := { stood := { row := fnWallsRow, standIns := [], harness := (true, "830fe19c57206bd598b14fff8934325954924967726e858ebe6dc15e1f9c56ff"), looks := false }, kinds := [], alts := [], laidByText := true, laidKinds := [.data], laidTests := true, laidLooks := .later }
def FnWallsCardSaid : Prop := Claim7.holds Tryd.pinned (.plain (OpenSpec.ofChange fnWallsSpec)) fnWallsCard

/-- THE SECOND FORM's CARD OF 'laws.FnExactWallsAt'. -/
def fnExactWallsAtUptoCard : Claim7 := { stood := { row := fnExactWallsAtUptoRow, standIns := [], harness := (true, "830fe19c57206bd598b14fff8934325954924967726e858ebe6dc15e1f9c56ff"), looks := false }, kinds := [], alts := [], laidByText := true, laidKinds := [.data], laidTests := true, laidLooks := .later }
def FnExactWallsAtUptoCardSaid : Prop := Claim7.holds Tryd.pinned (.plain (OpenSpec.upto fnExactWallsAtSpec)) fnExactWallsAtUptoCard

/-- THE SECOND FORM's CARD OF 'laws.FnWalls'. -/
def fnWallsUptoCard : Claim7 := { stood := { row := fnWallsUptoRow, standIns := [], harness := (true, "830fe19c57206bd598b14fff8934325954924967726e858ebe6dc15e1f9c56ff"), looks := false }, kinds := [], alts := [], laidByText := true, laidKinds := [.data], laidTests := true, laidLooks := .later }
def FnWallsUptoCardSaid : Prop := Claim7.holds Tryd.pinned (.plain (OpenSpec.upto fnWallsSpec)) fnWallsUptoCard
end Rows
end Go.Proofs.YtnpghhpcloljeaaDoor
