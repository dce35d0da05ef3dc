/-
  DERIVED. GIVEN WITH THE SEED: THE CARDS: each row of YtgfopehceojahaaDoorRows.lean that lists a variable, with what it lists TIED to the program's text (the seventh form; the later family's looks); each row that meets fmt, with fmt's text TOLD by the authors' own Lean function (tested against real Go, not proved from fmt's source: count such statements apart). THE CARD IS WHAT COUNTS. Prove the row's statement (the work); the ties are given (YtgfopehceojahaaDoorTie.lean); close each card by the builder's one call (the guide's Derived/Test/ToyasCard.lean, 'card_holds'). Laid BY PROGRAM, IN A SANDBOX (cutbox-door.mjs). By AI agents, Wed Nov 11 2026. No macro, syntax, notation, axiom, sorry.
-/
import Derived.Test.YtgfopehceojahaaDoorRows
import GoSem.ClaimSeven
namespace Go.Proofs.YtgfopehceojahaaDoor
namespace Rows

/-- THE TIED CARD OF 'laws.FnExactTreeCount'. -/
def fnExactTreeCountCard : Claim7 := { stood := { row := fnExactTreeCountRow, standIns := [], harness := (true, "5479e1175198be0aae28a19edeaed86ad0a19647d42f60182cd417c5881ba860"), looks := false }, kinds := [], alts := [], laidByText := true, laidKinds := [.data], laidTests := true, laidLooks := .later }
def FnExactTreeCountCardSaid : Prop := Claim7.holds Tryd.pinned (.plain (OpenSpec.ofChange fnExactTreeCountSpec)) fnExactTreeCountCard

/-- THE TIED CARD OF 'laws.FnExactAdjustAxis'. -/
def fnExactAdjustAxisCard : Claim7 := { stood := { row := fnExactAdjustAxisRow, standIns := [], harness := (true, "5479e1175198be0aae28a19edeaed86ad0a19647d42f60182cd417c5881ba860"), looks := false }, kinds := [], alts := [], laidByText := true, laidKinds := [.data], laidTests := true, laidLooks := .later }
def FnExactAdjustAxisCardSaid : Prop := Claim7.holds Tryd.pinned (.plain (OpenSpec.ofChange fnExactAdjustAxisSpec)) fnExactAdjustAxisCard

/-- THE TIED CARD OF 'laws.FnExactResidualOf'. -/
def fnExactResidualOfCard : Claim7 := { stood := { row := fnExactResidualOfRow, standIns := [], harness := (true, "5479e1175198be0aae28a19edeaed86ad0a19647d42f60182cd417c5881ba860"), looks := false }, kinds := [], alts := [], laidByText := true, laidKinds := [.data], laidTests := true, laidLooks := .later }
def FnExactResidualOfCardSaid : Prop := Claim7.holds Tryd.pinned (.plain (OpenSpec.ofChange fnExactResidualOfSpec)) fnExactResidualOfCard

/-- THE TIED CARD OF 'laws.FnExactIsBalanced'. -/
def fnExactIsBalancedCard : Claim7 := { stood := { row := fnExactIsBalancedRow, standIns := [], harness := (true, "5479e1175198be0aae28a19edeaed86ad0a19647d42f60182cd417c5881ba860"), looks := false }, kinds := [], alts := [], laidByText := true, laidKinds := [.data], laidTests := true, laidLooks := .later }
def FnExactIsBalancedCardSaid : Prop := Claim7.holds Tryd.pinned (.plain (OpenSpec.ofChange fnExactIsBalancedSpec)) fnExactIsBalancedCard

/-- THE TIED CARD OF 'laws.FnExactSquareSum'. -/
def fnExactSquareSumCard : Claim7 := { stood := { row := fnExactSquareSumRow, standIns := [], harness := (true, "5479e1175198be0aae28a19edeaed86ad0a19647d42f60182cd417c5881ba860"), looks := false }, kinds := [], alts := [], laidByText := true, laidKinds := [.data], laidTests := true, laidLooks := .later }
def FnExactSquareSumCardSaid : Prop := Claim7.holds Tryd.pinned (.plain (OpenSpec.ofChange fnExactSquareSumSpec)) fnExactSquareSumCard

/-- THE TIED CARD OF 'laws.FnExactExactLegs'. -/
def fnExactExactLegsCard : Claim7 := { stood := { row := fnExactExactLegsRow, standIns := [], harness := (true, "5479e1175198be0aae28a19edeaed86ad0a19647d42f60182cd417c5881ba860"), looks := false }, kinds := [], alts := [], laidByText := true, laidKinds := [.data], laidTests := true, laidLooks := .later }
def FnExactExactLegsCardSaid : Prop := Claim7.holds Tryd.pinned (.plain (OpenSpec.ofChange fnExactExactLegsSpec)) fnExactExactLegsCard

/-- THE TIED CARD OF 'laws.FnExactAdjustedDepth'. -/
def fnExactAdjustedDepthCard : Claim7 := { stood := { row := fnExactAdjustedDepthRow, standIns := [], harness := (true, "5479e1175198be0aae28a19edeaed86ad0a19647d42f60182cd417c5881ba860"), looks := false }, kinds := [], alts := [], laidByText := true, laidKinds := [.data], laidTests := true, laidLooks := .later }
def FnExactAdjustedDepthCardSaid : Prop := Claim7.holds Tryd.pinned (.plain (OpenSpec.ofChange fnExactAdjustedDepthSpec)) fnExactAdjustedDepthCard

/-- THE TIED CARD OF 'laws.FnExactLargestResidual'. -/
def fnExactLargestResidualCard : Claim7 := { stood := { row := fnExactLargestResidualRow, standIns := [], harness := (true, "5479e1175198be0aae28a19edeaed86ad0a19647d42f60182cd417c5881ba860"), looks := false }, kinds := [], alts := [], laidByText := true, laidKinds := [.data], laidTests := true, laidLooks := .later }
def FnExactLargestResidualCardSaid : Prop := Claim7.holds Tryd.pinned (.plain (OpenSpec.ofChange fnExactLargestResidualSpec)) fnExactLargestResidualCard

/-- THE SECOND FORM's CARD OF 'laws.FnExactTreeCount'. -/
def fnExactTreeCountUptoCard : Claim7 := { stood := { row := fnExactTreeCountUptoRow, standIns := [], harness := (true, "5479e1175198be0aae28a19edeaed86ad0a19647d42f60182cd417c5881ba860"), looks := false }, kinds := [], alts := [], laidByText := true, laidKinds := [.data], laidTests := true, laidLooks := .later }
def FnExactTreeCountUptoCardSaid : Prop := Claim7.holds Tryd.pinned (.plain (OpenSpec.upto fnExactTreeCountSpec)) fnExactTreeCountUptoCard

/-- THE SECOND FORM's CARD OF 'laws.FnExactAdjustAxis'. -/
def fnExactAdjustAxisUptoCard : Claim7 := { stood := { row := fnExactAdjustAxisUptoRow, standIns := [], harness := (true, "5479e1175198be0aae28a19edeaed86ad0a19647d42f60182cd417c5881ba860"), looks := false }, kinds := [], alts := [], laidByText := true, laidKinds := [.data], laidTests := true, laidLooks := .later }
def FnExactAdjustAxisUptoCardSaid : Prop := Claim7.holds Tryd.pinned (.plain (OpenSpec.upto fnExactAdjustAxisSpec)) fnExactAdjustAxisUptoCard

/-- THE SECOND FORM's CARD OF 'laws.FnExactResidualOf'. -/
def fnExactResidualOfUptoCard : Claim7 := { stood := { row := fnExactResidualOfUptoRow, standIns := [], harness := (true, "5479e1175198be0aae28a19edeaed86ad0a19647d42f60182cd417c5881ba860"), looks := false }, kinds := [], alts := [], laidByText := true, laidKinds := [.data], laidTests := true, laidLooks := .later }
def FnExactResidualOfUptoCardSaid : Prop := Claim7.holds Tryd.pinned (.plain (OpenSpec.upto fnExactResidualOfSpec)) fnExactResidualOfUptoCard

/-- THE SECOND FORM's CARD OF 'laws.FnExactIsBalanced'. -/
def fnExactIsBalancedUptoCard : Claim7 := { stood := { row := fnExactIsBalancedUptoRow, standIns := [], harness := (true, "5479e1175198be0aae28a19edeaed86ad0a19647d42f60182cd417c5881ba860"), looks := false }, kinds := [], alts := [], laidByText := true, laidKinds := [.data], laidTests := true, laidLooks := .later }
def FnExactIsBalancedUptoCardSaid : Prop := Claim7.holds Tryd.pinned (.plain (OpenSpec.upto fnExactIsBalancedSpec)) fnExactIsBalancedUptoCard

/-- THE SECOND FORM's CARD OF 'laws.FnExactSquareSum'. -/
def fnExactSquareSumUptoCard : Claim7 := { stood := { row := fnExactSquareSumUptoRow, standIns := [], harness := (true, "5479e1175198be0aae28a19edeaed86ad0a19647d42f60182cd417c5881ba860"), looks := false }, kinds := [], alts := [], laidByText := true, laidKinds := [.data], laidTests := true, laidLooks := .later }
def FnExactSquareSumUptoCardSaid : Prop := Claim7.holds Tryd.pinned (.plain (OpenSpec.upto fnExactSquareSumSpec)) fnExactSquareSumUptoCard

/-- THE SECOND FORM's CARD OF 'laws.FnExactExactLegs'. -/
def fnExactExactLegsUptoCard : Claim7 := { stood := { row := fnExactExactLegsUptoRow, standIns := [], harness := (true, "5479e1175198be0aae28a19edeaed86ad0a19647d42f60182cd417c5881ba860"), looks := false }, kinds := [], alts := [], laidByText := true, laidKinds := [.data], laidTests := true, laidLooks := .later }
def FnExactExactLegsUptoCardSaid : Prop := Claim7.holds Tryd.pinned (.plain (OpenSpec.upto fnExactExactLegsSpec)) fnExactExactLegsUptoCard

/-- THE SECOND FORM's CARD OF 'laws.FnExactAdjustedDepth'. -/
def fnExactAdjustedDepthUptoCard : Claim7 := { stood := { row := fnExactAdjustedDepthUptoRow, standIns := [], harness := (true, "5479e1175198be0aae28a19edeaed86ad0a19647d42f60182cd417c5881ba860"), looks := false }, kinds := [], alts := [], laidByText := true, laidKinds := [.data], laidTests := true, laidLooks := .later }
def FnExactAdjustedDepthUptoCardSaid : Prop := Claim7.holds Tryd.pinned (.plain (OpenSpec.upto fnExactAdjustedDepthSpec)) fnExactAdjustedDepthUptoCard

/-- THE SECOND FORM's CARD OF 'laws.FnExactLargestResidual'. -/
def fnExactLargestResidualUptoCard : Claim7 := { stood := { row := fnExactLargestResidualUptoRow, standIns := [], harness := (true, "5479e1175198be0aae28a19edeaed86ad0a19647d42f60182cd417c5881ba860"), looks := false }, kinds := [], alts := [], laidByText := true, laidKinds := [.data], laidTests := true, laidLooks := .later }
def FnExactLargestResidualUptoCardSaid : Prop := Claim7.holds Tryd.pinned (.plain (OpenSpec.upto fnExactLargestResidualSpec)) fnExactLargestResidualUptoCard
end Rows
end Go.Proofs.YtgfopehceojahaaDoor
