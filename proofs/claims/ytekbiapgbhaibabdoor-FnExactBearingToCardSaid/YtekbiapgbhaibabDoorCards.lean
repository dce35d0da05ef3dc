/-
  DERIVED. GIVEN WITH THE SEED: THE CARDS: each row of YtekbiapgbhaibabDoorRows.lean that lists a variable, with what it lists TIED to the program's text (the seventh form; the later family's looks); each row that meets fmt, with fmt's text TOLD by the authors' own Lean function (tested against real Go, not proved from fmt's source: count such statements apart). THE CARD IS WHAT COUNTS. Prove the row's statement (the work); the ties are given (YtekbiapgbhaibabDoorTie.lean); close each card by the builder's one call (the guide's Derived/Test/ToyasCard.lean, 'card_holds'). Laid BY PROGRAM, IN A SANDBOX (cutbox-door.mjs). By AI agents, Wed Nov 11 2026. No macro, syntax, notation, axiom, sorry.
-/
import Derived.Test.YtekbiapgbhaibabDoorRows
import GoSem.ClaimSeven
namespace Go.Proofs.YtekbiapgbhaibabDoor
namespace Rows

/-- THE TIED CARD OF 'laws.FnAngles'. -/
def fnAnglesCard : Claim7 := { stood := { row := fnAnglesRow, standIns := [], harness := (true, "b25549b0985b22b6eb60d6a1b2315c4dfdda6304a05c4e77d62de648e8f8dfa8"), looks := false }, kinds := [], alts := [], laidByText := true, laidKinds := [.data], laidTests := true, laidLooks := .later }
def FnAnglesCardSaid : Prop := Claim7.holds Tryd.pinned (.plain (OpenSpec.ofChange fnAnglesSpec)) fnAnglesCard

/-- THE TIED CARD OF 'laws.FnBearings'. -/
def fnBearingsCard : Claim7 := { stood := { row := fnBearingsRow, standIns := [], harness := (true, "b25549b0985b22b6eb60d6a1b2315c4dfdda6304a05c4e77d62de648e8f8dfa8"), looks := false }, kinds := [], alts := [], laidByText := true, laidKinds := [.data], laidTests := true, laidLooks := .later }
def FnBearingsCardSaid : Prop := Claim7.holds Tryd.pinned (.plain (OpenSpec.ofChange fnBearingsSpec)) fnBearingsCard

/-- THE TIED CARD OF 'laws.FnExactSineOf'. -/
def fnExactSineOfCard : Claim7 := { stood := { row := fnExactSineOfRow, standIns := [], harness := (true, "b25549b0985b22b6eb60d6a1b2315c4dfdda6304a05c4e77d62de648e8f8dfa8"), looks := false }, kinds := [], alts := [], laidByText := true, laidKinds := [.data], laidTests := true, laidLooks := .later }
def FnExactSineOfCardSaid : Prop := Claim7.holds Tryd.pinned (.plain (OpenSpec.ofChange fnExactSineOfSpec)) fnExactSineOfCard

/-- THE TIED CARD OF 'laws.FnExactCosineOf'. -/
def fnExactCosineOfCard : Claim7 := { stood := { row := fnExactCosineOfRow, standIns := [], harness := (true, "b25549b0985b22b6eb60d6a1b2315c4dfdda6304a05c4e77d62de648e8f8dfa8"), looks := false }, kinds := [], alts := [], laidByText := true, laidKinds := [.data], laidTests := true, laidLooks := .later }
def FnExactCosineOfCardSaid : Prop := Claim7.holds Tryd.pinned (.plain (OpenSpec.ofChange fnExactCosineOfSpec)) fnExactCosineOfCard

/-- THE TIED CARD OF 'laws.FnExactPartOf'. -/
def fnExactPartOfCard : Claim7 := { stood := { row := fnExactPartOfRow, standIns := [], harness := (true, "b25549b0985b22b6eb60d6a1b2315c4dfdda6304a05c4e77d62de648e8f8dfa8"), looks := false }, kinds := [], alts := [], laidByText := true, laidKinds := [.data], laidTests := true, laidLooks := .later }
def FnExactPartOfCardSaid : Prop := Claim7.holds Tryd.pinned (.plain (OpenSpec.ofChange fnExactPartOfSpec)) fnExactPartOfCard

/-- THE TIED CARD OF 'laws.FnExactBearingTo'. -/
def fnExactBearingToCard : Claim7 := { stood := { row := fnExactBearingToRow, standIns := [], harness := (true, "b25549b0985b22b6eb60d6a1b2315c4dfdda6304a05c4e77d62de648e8f8dfa8"), looks := false }, kinds := [], alts := [], laidByText := true, laidKinds := [.data], laidTests := true, laidLooks := .later }
def FnExactBearingToCardSaid : Prop := Claim7.holds Tryd.pinned (.plain (OpenSpec.ofChange fnExactBearingToSpec)) fnExactBearingToCard

/-- THE TIED CARD OF 'laws.FnExactSlopeTo'. -/
def fnExactSlopeToCard : Claim7 := { stood := { row := fnExactSlopeToRow, standIns := [], harness := (true, "b25549b0985b22b6eb60d6a1b2315c4dfdda6304a05c4e77d62de648e8f8dfa8"), looks := false }, kinds := [], alts := [], laidByText := true, laidKinds := [.data], laidTests := true, laidLooks := .later }
def FnExactSlopeToCardSaid : Prop := Claim7.holds Tryd.pinned (.plain (OpenSpec.ofChange fnExactSlopeToSpec)) fnExactSlopeToCard

/-- THE SECOND FORM's CARD OF 'laws.FnAngles'. -/
def fnAnglesUptoCard : Claim7 := { stood := { row := fnAnglesUptoRow, standIns := [], harness := (true, "b25549b0985b22b6eb60d6a1b2315c4dfdda6304a05c4e77d62de648e8f8dfa8"), looks := false }, kinds := [], alts := [], laidByText := true, laidKinds := [.data], laidTests := true, laidLooks := .later }
def FnAnglesUptoCardSaid : Prop := Claim7.holds Tryd.pinned (.plain (OpenSpec.upto fnAnglesSpec)) fnAnglesUptoCard

/-- THE SECOND FORM's CARD OF 'laws.FnBearings'. -/
def fnBearingsUptoCard : Claim7 := { stood := { row := fnBearingsUptoRow, standIns := [], harness := (true, "b25549b0985b22b6eb60d6a1b2315c4dfdda6304a05c4e77d62de648e8f8dfa8"), looks := false }, kinds := [], alts := [], laidByText := true, laidKinds := [.data], laidTests := true, laidLooks := .later }
def FnBearingsUptoCardSaid : Prop := Claim7.holds Tryd.pinned (.plain (OpenSpec.upto fnBearingsSpec)) fnBearingsUptoCard

/-- THE SECOND FORM's CARD OF 'laws.FnExactSineOf'. -/
def fnExactSineOfUptoCard : Claim7 := { stood := { row := fnExactSineOfUptoRow, standIns := [], harness := (true, "b25549b0985b22b6eb60d6a1b2315c4dfdda6304a05c4e77d62de648e8f8dfa8"), looks := false }, kinds := [], alts := [], laidByText := true, laidKinds := [.data], laidTests := true, laidLooks := .later }
def FnExactSineOfUptoCardSaid : Prop := Claim7.holds Tryd.pinned (.plain (OpenSpec.upto fnExactSineOfSpec)) fnExactSineOfUptoCard

/-- THE SECOND FORM's CARD OF 'laws.FnExactCosineOf'. -/
def fnExactCosineOfUptoCard : Claim7 := { stood := { row := fnExactCosineOfUptoRow, standIns := [], harness := (true, "b25549b0985b22b6eb60d6a1b2315c4dfdda6304a05c4e77d62de648e8f8dfa8"), looks := false }, kinds := [], alts := [], laidByText := true, laidKinds := [.data], laidTests := true, laidLooks := .later }
def FnExactCosineOfUptoCardSaid : Prop := Claim7.holds Tryd.pinned (.plain (OpenSpec.upto fnExactCosineOfSpec)) fnExactCosineOfUptoCard

/-- THE SECOND FORM's CARD OF 'laws.FnExactPartOf'. -/
def fnExactPartOfUptoCard : Claim7 := { stood := { row := fnExactPartOfUptoRow, standIns := [], harness := (true, "b25549b0985b22b6eb60d6a1b2315c4dfdda6304a05c4e77d62de648e8f8dfa8"), looks := false }, kinds := [], alts := [], laidByText := true, laidKinds := [.data], laidTests := true, laidLooks := .later }
def FnExactPartOfUptoCardSaid : Prop := Claim7.holds Tryd.pinned (.plain (OpenSpec.upto fnExactPartOfSpec)) fnExactPartOfUptoCard

/-- THE SECOND FORM's CARD OF 'laws.FnExactBearingTo'. -/
def fnExactBearingToUptoCard : Claim7 := { stood := { row := fnExactBearingToUptoRow, standIns := [], harness := (true, "b25549b0985b22b6eb60d6a1b2315c4dfdda6304a05c4e77d62de648e8f8dfa8"), looks := false }, kinds := [], alts := [], laidByText := true, laidKinds := [.data], laidTests := true, laidLooks := .later }
def FnExactBearingToUptoCardSaid : Prop := Claim7.holds Tryd.pinned (.plain (OpenSpec.upto fnExactBearingToSpec)) fnExactBearingToUptoCard

/-- THE SECOND FORM's CARD OF 'laws.FnExactSlopeTo'. -/
def fnExactSlopeToUptoCard : Claim7 := { stood := { row := fnExactSlopeToUptoRow, standIns := [], harness := (true, "b25549b0985b22b6eb60d6a1b2315c4dfdda6304a05c4e77d62de648e8f8dfa8"), looks := false }, kinds := [], alts := [], laidByText := true, laidKinds := [.data], laidTests := true, laidLooks := .later }
def FnExactSlopeToUptoCardSaid : Prop := Claim7.holds Tryd.pinned (.plain (OpenSpec.upto fnExactSlopeToSpec)) fnExactSlopeToUptoCard
end Rows
end Go.Proofs.YtekbiapgbhaibabDoor
