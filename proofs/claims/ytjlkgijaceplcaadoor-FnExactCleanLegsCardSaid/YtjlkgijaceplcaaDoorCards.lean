/-
  DERIVED. GIVEN WITH THE SEED: THE CARDS: each row of YtjlkgijaceplcaaDoorRows.lean that lists a variable, with what it lists TIED to the program's text (the seventh form; the later family's looks); each row that meets fmt, with fmt's text TOLD by the authors' own Lean function (tested against real Go, not proved from fmt's source: count such statements apart). THE CARD IS WHAT COUNTS. Prove the row's statement (the work); the ties are given (YtjlkgijaceplcaaDoorTie.lean); close each card by the builder's one call (the guide's Derived/Test/ToyasCard.lean, 'card_holds'). Laid BY PROGRAM, IN A SANDBOX (cutbox-door.mjs). By AI agents, Wed Nov 11 2026. No macro, syntax, notation, axiom, sorry.
-/
import Derived.Test.YtjlkgijaceplcaaDoorRows
import GoSem.ClaimSeven
namespace Go.Proofs.YtjlkgijaceplcaaDoor
namespace Rows

/-- THE TIED CARD OF 'laws.FnExactStrainOf'. -/
def fnExactStrainOfCard : Claim7 := { stood := { row := fnExactStrainOfRow, standIns := [], harness := (true, "40b7048428da08f19c2d167c3fdd2d01427f6c115caf63eae99d521caf513a08"), looks := false }, kinds := [], alts := [], laidByText := true, laidKinds := [.data], laidTests := true, laidLooks := .later }
def FnExactStrainOfCardSaid : Prop := Claim7.holds Tryd.pinned (.plain (OpenSpec.ofChange fnExactStrainOfSpec)) fnExactStrainOfCard

/-- THE TIED CARD OF 'laws.FnExactStrainWithout'. -/
def fnExactStrainWithoutCard : Claim7 := { stood := { row := fnExactStrainWithoutRow, standIns := [], harness := (true, "40b7048428da08f19c2d167c3fdd2d01427f6c115caf63eae99d521caf513a08"), looks := false }, kinds := [], alts := [], laidByText := true, laidKinds := [.data], laidTests := true, laidLooks := .later }
def FnExactStrainWithoutCardSaid : Prop := Claim7.holds Tryd.pinned (.plain (OpenSpec.ofChange fnExactStrainWithoutSpec)) fnExactStrainWithoutCard

/-- THE TIED CARD OF 'laws.FnExactSuspectLeg'. -/
def fnExactSuspectLegCard : Claim7 := { stood := { row := fnExactSuspectLegRow, standIns := [], harness := (true, "40b7048428da08f19c2d167c3fdd2d01427f6c115caf63eae99d521caf513a08"), looks := false }, kinds := [], alts := [], laidByText := true, laidKinds := [.data], laidTests := true, laidLooks := .later }
def FnExactSuspectLegCardSaid : Prop := Claim7.holds Tryd.pinned (.plain (OpenSpec.ofChange fnExactSuspectLegSpec)) fnExactSuspectLegCard

/-- THE TIED CARD OF 'laws.FnExactFixLeg'. -/
def fnExactFixLegCard : Claim7 := { stood := { row := fnExactFixLegRow, standIns := [], harness := (true, "40b7048428da08f19c2d167c3fdd2d01427f6c115caf63eae99d521caf513a08"), looks := false }, kinds := [], alts := [], laidByText := true, laidKinds := [.data], laidTests := true, laidLooks := .later }
def FnExactFixLegCardSaid : Prop := Claim7.holds Tryd.pinned (.plain (OpenSpec.ofChange fnExactFixLegSpec)) fnExactFixLegCard

/-- THE TIED CARD OF 'laws.FnExactStrainAfter'. -/
def fnExactStrainAfterCard : Claim7 := { stood := { row := fnExactStrainAfterRow, standIns := [], harness := (true, "40b7048428da08f19c2d167c3fdd2d01427f6c115caf63eae99d521caf513a08"), looks := false }, kinds := [], alts := [], laidByText := true, laidKinds := [.data], laidTests := true, laidLooks := .later }
def FnExactStrainAfterCardSaid : Prop := Claim7.holds Tryd.pinned (.plain (OpenSpec.ofChange fnExactStrainAfterSpec)) fnExactStrainAfterCard

/-- THE TIED CARD OF 'laws.FnExactBestFix'. -/
def fnExactBestFixCard : Claim7 := { stood := { row := fnExactBestFixRow, standIns := [], harness := (true, "40b7048428da08f19c2d167c3fdd2d01427f6c115caf63eae99d521caf513a08"), looks := false }, kinds := [], alts := [], laidByText := true, laidKinds := [.data], laidTests := true, laidLooks := .later }
def FnExactBestFixCardSaid : Prop := Claim7.holds Tryd.pinned (.plain (OpenSpec.ofChange fnExactBestFixSpec)) fnExactBestFixCard

/-- THE TIED CARD OF 'laws.FnExactCompareStrains'. -/
def fnExactCompareStrainsCard : Claim7 := { stood := { row := fnExactCompareStrainsRow, standIns := [], harness := (true, "40b7048428da08f19c2d167c3fdd2d01427f6c115caf63eae99d521caf513a08"), looks := false }, kinds := [], alts := [], laidByText := true, laidKinds := [.data], laidTests := true, laidLooks := .later }
def FnExactCompareStrainsCardSaid : Prop := Claim7.holds Tryd.pinned (.plain (OpenSpec.ofChange fnExactCompareStrainsSpec)) fnExactCompareStrainsCard

/-- THE TIED CARD OF 'laws.FnExactCleanLegs'. -/
def fnExactCleanLegsCard : Claim7 := { stood := { row := fnExactCleanLegsRow, standIns := [], harness := (true, "40b7048428da08f19c2d167c3fdd2d01427f6c115caf63eae99d521caf513a08"), looks := false }, kinds := [], alts := [], laidByText := true, laidKinds := [.data], laidTests := true, laidLooks := .later }
def FnExactCleanLegsCardSaid : Prop := Claim7.holds Tryd.pinned (.plain (OpenSpec.ofChange fnExactCleanLegsSpec)) fnExactCleanLegsCard

/-- THE TIED CARD OF 'laws.FnExactTreeCount'. -/
def fnExactTreeCountCard : Claim7 := { stood := { row := fnExactTreeCountRow, standIns := [], harness := (true, "40b7048428da08f19c2d167c3fdd2d01427f6c115caf63eae99d521caf513a08"), looks := false }, kinds := [], alts := [], laidByText := true, laidKinds := [.data], laidTests := true, laidLooks := .later }
def FnExactTreeCountCardSaid : Prop := Claim7.holds Tryd.pinned (.plain (OpenSpec.ofChange fnExactTreeCountSpec)) fnExactTreeCountCard

/-- THE TIED CARD OF 'laws.FnExactAdjustAxis'. -/
def fnExactAdjustAxisCard : Claim7 := { stood := { row := fnExactAdjustAxisRow, standIns := [], harness := (true, "40b7048428da08f19c2d167c3fdd2d01427f6c115caf63eae99d521caf513a08"), looks := false }, kinds := [], alts := [], laidByText := true, laidKinds := [.data], laidTests := true, laidLooks := .later }
def FnExactAdjustAxisCardSaid : Prop := Claim7.holds Tryd.pinned (.plain (OpenSpec.ofChange fnExactAdjustAxisSpec)) fnExactAdjustAxisCard

/-- THE TIED CARD OF 'laws.FnExactSquareSum'. -/
def fnExactSquareSumCard : Claim7 := { stood := { row := fnExactSquareSumRow, standIns := [], harness := (true, "40b7048428da08f19c2d167c3fdd2d01427f6c115caf63eae99d521caf513a08"), looks := false }, kinds := [], alts := [], laidByText := true, laidKinds := [.data], laidTests := true, laidLooks := .later }
def FnExactSquareSumCardSaid : Prop := Claim7.holds Tryd.pinned (.plain (OpenSpec.ofChange fnExactSquareSumSpec)) fnExactSquareSumCard

/-- THE TIED CARD OF 'laws.FnExactBridgesOf'. -/
def fnExactBridgesOfCard : Claim7 := { stood := { row := fnExactBridgesOfRow, standIns := [], harness := (true, "40b7048428da08f19c2d167c3fdd2d01427f6c115caf63eae99d521caf513a08"), looks := false }, kinds := [], alts := [], laidByText := true, laidKinds := [.data], laidTests := true, laidLooks := .later }
def FnExactBridgesOfCardSaid : Prop := Claim7.holds Tryd.pinned (.plain (OpenSpec.ofChange fnExactBridgesOfSpec)) fnExactBridgesOfCard

/-- THE SECOND FORM's CARD OF 'laws.FnExactStrainOf'. -/
def fnExactStrainOfUptoCard : Claim7 := { stood := { row := fnExactStrainOfUptoRow, standIns := [], harness := (true, "40b7048428da08f19c2d167c3fdd2d01427f6c115caf63eae99d521caf513a08"), looks := false }, kinds := [], alts := [], laidByText := true, laidKinds := [.data], laidTests := true, laidLooks := .later }
def FnExactStrainOfUptoCardSaid : Prop := Claim7.holds Tryd.pinned (.plain (OpenSpec.upto fnExactStrainOfSpec)) fnExactStrainOfUptoCard

/-- THE SECOND FORM's CARD OF 'laws.FnExactStrainWithout'. -/
def fnExactStrainWithoutUptoCard : Claim7 := { stood := { row := fnExactStrainWithoutUptoRow, standIns := [], harness := (true, "40b7048428da08f19c2d167c3fdd2d01427f6c115caf63eae99d521caf513a08"), looks := false }, kinds := [], alts := [], laidByText := true, laidKinds := [.data], laidTests := true, laidLooks := .later }
def FnExactStrainWithoutUptoCardSaid : Prop := Claim7.holds Tryd.pinned (.plain (OpenSpec.upto fnExactStrainWithoutSpec)) fnExactStrainWithoutUptoCard

/-- THE SECOND FORM's CARD OF 'laws.FnExactSuspectLeg'. -/
def fnExactSuspectLegUptoCard : Claim7 := { stood := { row := fnExactSuspectLegUptoRow, standIns := [], harness := (true, "40b7048428da08f19c2d167c3fdd2d01427f6c115caf63eae99d521caf513a08"), looks := false }, kinds := [], alts := [], laidByText := true, laidKinds := [.data], laidTests := true, laidLooks := .later }
def FnExactSuspectLegUptoCardSaid : Prop := Claim7.holds Tryd.pinned (.plain (OpenSpec.upto fnExactSuspectLegSpec)) fnExactSuspectLegUptoCard

/-- THE SECOND FORM's CARD OF 'laws.FnExactFixLeg'. -/
def fnExactFixLegUptoCard : Claim7 := { stood := { row := fnExactFixLegUptoRow, standIns := [], harness := (true, "40b7048428da08f19c2d167c3fdd2d01427f6c115caf63eae99d521caf513a08"), looks := false }, kinds := [], alts := [], laidByText := true, laidKinds := [.data], laidTests := true, laidLooks := .later }
def FnExactFixLegUptoCardSaid : Prop := Claim7.holds Tryd.pinned (.plain (OpenSpec.upto fnExactFixLegSpec)) fnExactFixLegUptoCard

/-- THE SECOND FORM's CARD OF 'laws.FnExactStrainAfter'. -/
def fnExactStrainAfterUptoCard : Claim7 := { stood := { row := fnExactStrainAfterUptoRow, standIns := [], harness := (true, "40b7048428da08f19c2d167c3fdd2d01427f6c115caf63eae99d521caf513a08"), looks := false }, kinds := [], alts := [], laidByText := true, laidKinds := [.data], laidTests := true, laidLooks := .later }
def FnExactStrainAfterUptoCardSaid : Prop := Claim7.holds Tryd.pinned (.plain (OpenSpec.upto fnExactStrainAfterSpec)) fnExactStrainAfterUptoCard

/-- THE SECOND FORM's CARD OF 'laws.FnExactBestFix'. -/
def fnExactBestFixUptoCard : Claim7 := { stood := { row := fnExactBestFixUptoRow, standIns := [], harness := (true, "40b7048428da08f19c2d167c3fdd2d01427f6c115caf63eae99d521caf513a08"), looks := false }, kinds := [], alts := [], laidByText := true, laidKinds := [.data], laidTests := true, laidLooks := .later }
def FnExactBestFixUptoCardSaid : Prop := Claim7.holds Tryd.pinned (.plain (OpenSpec.upto fnExactBestFixSpec)) fnExactBestFixUptoCard

/-- THE SECOND FORM's CARD OF 'laws.FnExactCompareStrains'. -/
def fnExactCompareStrainsUptoCard : Claim7 := { stood := { row := fnExactCompareStrainsUptoRow, standIns := [], harness := (true, "40b7048428da08f19c2d167c3fdd2d01427f6c115caf63eae99d521caf513a08"), looks := false }, kinds := [], alts := [], laidByText := true, laidKinds := [.data], laidTests := true, laidLooks := .later }
def FnExactCompareStrainsUptoCardSaid : Prop := Claim7.holds Tryd.pinned (.plain (OpenSpec.upto fnExactCompareStrainsSpec)) fnExactCompareStrainsUptoCard

/-- THE SECOND FORM's CARD OF 'laws.FnExactCleanLegs'. -/
def fnExactCleanLegsUptoCard : Claim7 := { stood := { row := fnExactCleanLegsUptoRow, standIns := [], harness := (true, "40b7048428da08f19c2d167c3fdd2d01427f6c115caf63eae99d521caf513a08"), looks := false }, kinds := [], alts := [], laidByText := true, laidKinds := [.data], laidTests := true, laidLooks := .later }
def FnExactCleanLegsUptoCardSaid : Prop := Claim7.holds Tryd.pinned (.plain (OpenSpec.upto fnExactCleanLegsSpec)) fnExactCleanLegsUptoCard

/-- THE SECOND FORM's CARD OF 'laws.FnExactTreeCount'. -/
def fnExactTreeCountUptoCard : Claim7 := { stood := { row := fnExactTreeCountUptoRow, standIns := [], harness := (true, "40b7048428da08f19c2d167c3fdd2d01427f6c115caf63eae99d521caf513a08"), looks := false }, kinds := [], alts := [], laidByText := true, laidKinds := [.data], laidTests := true, laidLooks := .later }
def FnExactTreeCountUptoCardSaid : Prop := Claim7.holds Tryd.pinned (.plain (OpenSpec.upto fnExactTreeCountSpec)) fnExactTreeCountUptoCard

/-- THE SECOND FORM's CARD OF 'laws.FnExactAdjustAxis'. -/
def fnExactAdjustAxisUptoCard : Claim7 := { stood := { row := fnExactAdjustAxisUptoRow, standIns := [], harness := (true, "40b7048428da08f19c2d167c3fdd2d01427f6c115caf63eae99d521caf513a08"), looks := false }, kinds := [], alts := [], laidByText := true, laidKinds := [.data], laidTests := true, laidLooks := .later }
def FnExactAdjustAxisUptoCardSaid : Prop := Claim7.holds Tryd.pinned (.plain (OpenSpec.upto fnExactAdjustAxisSpec)) fnExactAdjustAxisUptoCard

/-- THE SECOND FORM's CARD OF 'laws.FnExactSquareSum'. -/
def fnExactSquareSumUptoCard : Claim7 := { stood := { row := fnExactSquareSumUptoRow, standIns := [], harness := (true, "40b7048428da08f19c2d167c3fdd2d01427f6c115caf63eae99d521caf513a08"), looks := false }, kinds := [], alts := [], laidByText := true, laidKinds := [.data], laidTests := true, laidLooks := .later }
def FnExactSquareSumUptoCardSaid : Prop := Claim7.holds Tryd.pinned (.plain (OpenSpec.upto fnExactSquareSumSpec)) fnExactSquareSumUptoCard

/-- THE SECOND FORM's CARD OF 'laws.FnExactBridgesOf'. -/
def fnExactBridgesOfUptoCard : Claim7 := { stood := { row := fnExactBridgesOfUptoRow, standIns := [], harness := (true, "40b7048428da08f19c2d167c3fdd2d01427f6c115caf63eae99d521caf513a08"), looks := false }, kinds := [], alts := [], laidByText := true, laidKinds := [.data], laidTests := true, laidLooks := .later }
def FnExactBridgesOfUptoCardSaid : Prop := Claim7.holds Tryd.pinned (.plain (OpenSpec.upto fnExactBridgesOfSpec)) fnExactBridgesOfUptoCard
end Rows
end Go.Proofs.YtjlkgijaceplcaaDoor
