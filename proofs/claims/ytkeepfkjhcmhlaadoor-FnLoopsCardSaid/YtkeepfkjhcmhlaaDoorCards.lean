/-
  DERIVED. GIVEN WITH THE SEED: THE CARDS: each row of YtkeepfkjhcmhlaaDoorRows.lean that lists a variable, with what it lists TIED to the program's text (the seventh form; the later family's looks); each row that meets fmt, with fmt's text TOLD by the authors' own Lean function (tested against real Go, not proved from fmt's source: count such statements apart). THE CARD IS WHAT COUNTS. Prove the row's statement (the work); the ties are given (YtkeepfkjhcmhlaaDoorTie.lean); close each card by the builder's one call (the guide's Derived/Test/ToyasCard.lean, 'card_holds'). Laid BY PROGRAM, IN A SANDBOX (cutbox-door.mjs). By AI agents, Wed Nov 11 2026. No macro, syntax, notation, axiom, sorry.
-/
import Derived.Test.YtkeepfkjhcmhlaaDoorRows
import GoSem.ClaimSeven
namespace Go.Proofs.YtkeepfkjhcmhlaaDoor
namespace Rows

/-- THE TIED CARD OF 'laws.FnExactLoopOf'. -/
def fnExactLoopOfCard : Claim7 := { stood := { row := fnExactLoopOfRow, standIns := [], harness := (true, "68ed9d7cbc42ddf7be231caff9b3efba85456ae08fb5243cea5354a7f560761d"), looks := false }, kinds := [], alts := [], laidByText := true, laidKinds := [.data], laidTests := true, laidLooks := .later }
def FnExactLoopOfCardSaid : Prop := Claim7.holds Tryd.pinned (.plain (OpenSpec.ofChange fnExactLoopOfSpec)) fnExactLoopOfCard

/-- THE TIED CARD OF 'laws.FnExactLoopLegs'. -/
def fnExactLoopLegsCard : Claim7 := { stood := { row := fnExactLoopLegsRow, standIns := [], harness := (true, "68ed9d7cbc42ddf7be231caff9b3efba85456ae08fb5243cea5354a7f560761d"), looks := false }, kinds := [], alts := [], laidByText := true, laidKinds := [.data], laidTests := true, laidLooks := .later }
def FnExactLoopLegsCardSaid : Prop := Claim7.holds Tryd.pinned (.plain (OpenSpec.ofChange fnExactLoopLegsSpec)) fnExactLoopLegsCard

/-- THE TIED CARD OF 'laws.FnExactMisclosureOf'. -/
def fnExactMisclosureOfCard : Claim7 := { stood := { row := fnExactMisclosureOfRow, standIns := [], harness := (true, "68ed9d7cbc42ddf7be231caff9b3efba85456ae08fb5243cea5354a7f560761d"), looks := false }, kinds := [], alts := [], laidByText := true, laidKinds := [.data], laidTests := true, laidLooks := .later }
def FnExactMisclosureOfCardSaid : Prop := Claim7.holds Tryd.pinned (.plain (OpenSpec.ofChange fnExactMisclosureOfSpec)) fnExactMisclosureOfCard

/-- THE TIED CARD OF 'laws.FnExactLoopLength'. -/
def fnExactLoopLengthCard : Claim7 := { stood := { row := fnExactLoopLengthRow, standIns := [], harness := (true, "68ed9d7cbc42ddf7be231caff9b3efba85456ae08fb5243cea5354a7f560761d"), looks := false }, kinds := [], alts := [], laidByText := true, laidKinds := [.data], laidTests := true, laidLooks := .later }
def FnExactLoopLengthCardSaid : Prop := Claim7.holds Tryd.pinned (.plain (OpenSpec.ofChange fnExactLoopLengthSpec)) fnExactLoopLengthCard

/-- THE TIED CARD OF 'laws.FnExactWorstLoop'. -/
def fnExactWorstLoopCard : Claim7 := { stood := { row := fnExactWorstLoopRow, standIns := [], harness := (true, "68ed9d7cbc42ddf7be231caff9b3efba85456ae08fb5243cea5354a7f560761d"), looks := false }, kinds := [], alts := [], laidByText := true, laidKinds := [.data], laidTests := true, laidLooks := .later }
def FnExactWorstLoopCardSaid : Prop := Claim7.holds Tryd.pinned (.plain (OpenSpec.ofChange fnExactWorstLoopSpec)) fnExactWorstLoopCard

/-- THE TIED CARD OF 'laws.FnExactIsBridge'. -/
def fnExactIsBridgeCard : Claim7 := { stood := { row := fnExactIsBridgeRow, standIns := [], harness := (true, "68ed9d7cbc42ddf7be231caff9b3efba85456ae08fb5243cea5354a7f560761d"), looks := false }, kinds := [], alts := [], laidByText := true, laidKinds := [.data], laidTests := true, laidLooks := .later }
def FnExactIsBridgeCardSaid : Prop := Claim7.holds Tryd.pinned (.plain (OpenSpec.ofChange fnExactIsBridgeSpec)) fnExactIsBridgeCard

/-- THE TIED CARD OF 'laws.FnExactBridgesOf'. -/
def fnExactBridgesOfCard : Claim7 := { stood := { row := fnExactBridgesOfRow, standIns := [], harness := (true, "68ed9d7cbc42ddf7be231caff9b3efba85456ae08fb5243cea5354a7f560761d"), looks := false }, kinds := [], alts := [], laidByText := true, laidKinds := [.data], laidTests := true, laidLooks := .later }
def FnExactBridgesOfCardSaid : Prop := Claim7.holds Tryd.pinned (.plain (OpenSpec.ofChange fnExactBridgesOfSpec)) fnExactBridgesOfCard

/-- THE TIED CARD OF 'laws.FnExactLoopsThrough'. -/
def fnExactLoopsThroughCard : Claim7 := { stood := { row := fnExactLoopsThroughRow, standIns := [], harness := (true, "68ed9d7cbc42ddf7be231caff9b3efba85456ae08fb5243cea5354a7f560761d"), looks := false }, kinds := [], alts := [], laidByText := true, laidKinds := [.data], laidTests := true, laidLooks := .later }
def FnExactLoopsThroughCardSaid : Prop := Claim7.holds Tryd.pinned (.plain (OpenSpec.ofChange fnExactLoopsThroughSpec)) fnExactLoopsThroughCard

/-- THE TIED CARD OF 'laws.FnExactCountLoops'. -/
def fnExactCountLoopsCard : Claim7 := { stood := { row := fnExactCountLoopsRow, standIns := [], harness := (true, "68ed9d7cbc42ddf7be231caff9b3efba85456ae08fb5243cea5354a7f560761d"), looks := false }, kinds := [], alts := [], laidByText := true, laidKinds := [.data], laidTests := true, laidLooks := .later }
def FnExactCountLoopsCardSaid : Prop := Claim7.holds Tryd.pinned (.plain (OpenSpec.ofChange fnExactCountLoopsSpec)) fnExactCountLoopsCard

/-- THE TIED CARD OF 'laws.FnLoops'. -/
def fnLoopsCard : Claim7 := { stood := { row := fnLoopsRow, standIns := [], harness := (true, "68ed9d7cbc42ddf7be231caff9b3efba85456ae08fb5243cea5354a7f560761d"), looks := false }, kinds := [], alts := [], laidByText := true, laidKinds := [.data], laidTests := true, laidLooks := .later }
def FnLoopsCardSaid : Prop := Claim7.holds Tryd.pinned (.plain (OpenSpec.ofChange fnLoopsSpec)) fnLoopsCard

/-- THE TIED CARD OF 'laws.FnBridges'. -/
def fnBridgesCard : Claim7 := { stood := { row := fnBridgesRow, standIns := [], harness := (true, "68ed9d7cbc42ddf7be231caff9b3efba85456ae08fb5243cea5354a7f560761d"), looks := false }, kinds := [], alts := [], laidByText := true, laidKinds := [.data], laidTests := true, laidLooks := .later }
def FnBridgesCardSaid : Prop := Claim7.holds Tryd.pinned (.plain (OpenSpec.ofChange fnBridgesSpec)) fnBridgesCard

/-- THE SECOND FORM's CARD OF 'laws.FnExactLoopOf'. -/
def fnExactLoopOfUptoCard : Claim7 := { stood := { row := fnExactLoopOfUptoRow, standIns := [], harness := (true, "68ed9d7cbc42ddf7be231caff9b3efba85456ae08fb5243cea5354a7f560761d"), looks := false }, kinds := [], alts := [], laidByText := true, laidKinds := [.data], laidTests := true, laidLooks := .later }
def FnExactLoopOfUptoCardSaid : Prop := Claim7.holds Tryd.pinned (.plain (OpenSpec.upto fnExactLoopOfSpec)) fnExactLoopOfUptoCard

/-- THE SECOND FORM's CARD OF 'laws.FnExactLoopLegs'. -/
def fnExactLoopLegsUptoCard : Claim7 := { stood := { row := fnExactLoopLegsUptoRow, standIns := [], harness := (true, "68ed9d7cbc42ddf7be231caff9b3efba85456ae08fb5243cea5354a7f560761d"), looks := false }, kinds := [], alts := [], laidByText := true, laidKinds := [.data], laidTests := true, laidLooks := .later }
def FnExactLoopLegsUptoCardSaid : Prop := Claim7.holds Tryd.pinned (.plain (OpenSpec.upto fnExactLoopLegsSpec)) fnExactLoopLegsUptoCard

/-- THE SECOND FORM's CARD OF 'laws.FnExactMisclosureOf'. -/
def fnExactMisclosureOfUptoCard : Claim7 := { stood := { row := fnExactMisclosureOfUptoRow, standIns := [], harness := (true, "68ed9d7cbc42ddf7be231caff9b3efba85456ae08fb5243cea5354a7f560761d"), looks := false }, kinds := [], alts := [], laidByText := true, laidKinds := [.data], laidTests := true, laidLooks := .later }
def FnExactMisclosureOfUptoCardSaid : Prop := Claim7.holds Tryd.pinned (.plain (OpenSpec.upto fnExactMisclosureOfSpec)) fnExactMisclosureOfUptoCard

/-- THE SECOND FORM's CARD OF 'laws.FnExactLoopLength'. -/
def fnExactLoopLengthUptoCard : Claim7 := { stood := { row := fnExactLoopLengthUptoRow, standIns := [], harness := (true, "68ed9d7cbc42ddf7be231caff9b3efba85456ae08fb5243cea5354a7f560761d"), looks := false }, kinds := [], alts := [], laidByText := true, laidKinds := [.data], laidTests := true, laidLooks := .later }
def FnExactLoopLengthUptoCardSaid : Prop := Claim7.holds Tryd.pinned (.plain (OpenSpec.upto fnExactLoopLengthSpec)) fnExactLoopLengthUptoCard

/-- THE SECOND FORM's CARD OF 'laws.FnExactWorstLoop'. -/
def fnExactWorstLoopUptoCard : Claim7 := { stood := { row := fnExactWorstLoopUptoRow, standIns := [], harness := (true, "68ed9d7cbc42ddf7be231caff9b3efba85456ae08fb5243cea5354a7f560761d"), looks := false }, kinds := [], alts := [], laidByText := true, laidKinds := [.data], laidTests := true, laidLooks := .later }
def FnExactWorstLoopUptoCardSaid : Prop := Claim7.holds Tryd.pinned (.plain (OpenSpec.upto fnExactWorstLoopSpec)) fnExactWorstLoopUptoCard

/-- THE SECOND FORM's CARD OF 'laws.FnExactIsBridge'. -/
def fnExactIsBridgeUptoCard : Claim7 := { stood := { row := fnExactIsBridgeUptoRow, standIns := [], harness := (true, "68ed9d7cbc42ddf7be231caff9b3efba85456ae08fb5243cea5354a7f560761d"), looks := false }, kinds := [], alts := [], laidByText := true, laidKinds := [.data], laidTests := true, laidLooks := .later }
def FnExactIsBridgeUptoCardSaid : Prop := Claim7.holds Tryd.pinned (.plain (OpenSpec.upto fnExactIsBridgeSpec)) fnExactIsBridgeUptoCard

/-- THE SECOND FORM's CARD OF 'laws.FnExactBridgesOf'. -/
def fnExactBridgesOfUptoCard : Claim7 := { stood := { row := fnExactBridgesOfUptoRow, standIns := [], harness := (true, "68ed9d7cbc42ddf7be231caff9b3efba85456ae08fb5243cea5354a7f560761d"), looks := false }, kinds := [], alts := [], laidByText := true, laidKinds := [.data], laidTests := true, laidLooks := .later }
def FnExactBridgesOfUptoCardSaid : Prop := Claim7.holds Tryd.pinned (.plain (OpenSpec.upto fnExactBridgesOfSpec)) fnExactBridgesOfUptoCard

/-- THE SECOND FORM's CARD OF 'laws.FnExactLoopsThrough'. -/
def fnExactLoopsThroughUptoCard : Claim7 := { stood := { row := fnExactLoopsThroughUptoRow, standIns := [], harness := (true, "68ed9d7cbc42ddf7be231caff9b3efba85456ae08fb5243cea5354a7f560761d"), looks := false }, kinds := [], alts := [], laidByText := true, laidKinds := [.data], laidTests := true, laidLooks := .later }
def FnExactLoopsThroughUptoCardSaid : Prop := Claim7.holds Tryd.pinned (.plain (OpenSpec.upto fnExactLoopsThroughSpec)) fnExactLoopsThroughUptoCard

/-- THE SECOND FORM's CARD OF 'laws.FnExactCountLoops'. -/
def fnExactCountLoopsUptoCard : Claim7 := { stood := { row := fnExactCountLoopsUptoRow, standIns := [], harness := (true, "68ed9d7cbc42ddf7be231caff9b3efba85456ae08fb5243cea5354a7f560761d"), looks := false }, kinds := [], alts := [], laidByText := true, laidKinds := [.data], laidTests := true, laidLooks := .later }
def FnExactCountLoopsUptoCardSaid : Prop := Claim7.holds Tryd.pinned (.plain (OpenSpec.upto fnExactCountLoopsSpec)) fnExactCountLoopsUptoCard

/-- THE SECOND FORM's CARD OF 'laws.FnLoops'. -/
def fnLoopsUptoCard : Claim7 := { stood := { row := fnLoopsUptoRow, standIns := [], harness := (true, "68ed9d7cbc42ddf7be231caff9b3efba85456ae08fb5243cea5354a7f560761d"), looks := false }, kinds := [], alts := [], laidByText := true, laidKinds := [.data], laidTests := true, laidLooks := .later }
def FnLoopsUptoCardSaid : Prop := Claim7.holds Tryd.pinned (.plain (OpenSpec.upto fnLoopsSpec)) fnLoopsUptoCard

/-- THE SECOND FORM's CARD OF 'laws.FnBridges'. -/
def fnBridgesUptoCard : Claim7 := { stood := { row := fnBridgesUptoRow, standIns := [], harness := (true, "68ed9d7cbc42ddf7be231caff9b3efba85456ae08fb5243cea5354a7f560761d"), looks := false }, kinds := [], alts := [], laidByText := true, laidKinds := [.data], laidTests := true, laidLooks := .later }
def FnBridgesUptoCardSaid : Prop := Claim7.holds Tryd.pinned (.plain (OpenSpec.upto fnBridgesSpec)) fnBridgesUptoCard
end Rows
end Go.Proofs.YtkeepfkjhcmhlaaDoor
