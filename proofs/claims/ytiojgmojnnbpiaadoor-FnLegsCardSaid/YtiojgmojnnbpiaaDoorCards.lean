/-
  DERIVED. GIVEN WITH THE SEED: THE CARDS: each row of YtiojgmojnnbpiaaDoorRows.lean that lists a variable, with what it lists TIED to the program's text (the seventh form; the later family's looks); each row that meets fmt, with fmt's text TOLD by the authors' own Lean function (tested against real Go, not proved from fmt's source: count such statements apart). THE CARD IS WHAT COUNTS. Prove the row's statement (the work); the ties are given (YtiojgmojnnbpiaaDoorTie.lean); close each card by the builder's one call (the guide's Derived/Test/ToyasCard.lean, 'card_holds'). Laid BY PROGRAM, IN A SANDBOX (cutbox-door.mjs). By AI agents, Wed Nov 11 2026. No macro, syntax, notation, axiom, sorry.
-/
import Derived.Test.YtiojgmojnnbpiaaDoorRows
import GoSem.ClaimSeven
namespace Go.Proofs.YtiojgmojnnbpiaaDoor
namespace Rows

/-- THE TIED CARD OF 'laws.FnChains'. -/
def fnChainsCard : Claim7 := { stood := { row := fnChainsRow, standIns := [], harness := (true, "cbb336b3047b494465acf4d46ce64926cb24af95eec22a0adebacc190a4bed84"), looks := true }, kinds := [], alts := [], laidByText := true, laidKinds := [.data], laidTests := true, laidLooks := .later }
def FnChainsCardSaid : Prop := Claim7.holds Tryd.pinned (.plain (OpenSpec.ofChange fnChainsSpec)) fnChainsCard

/-- THE TIED CARD OF 'laws.FnExactShiftOf'. -/
def fnExactShiftOfCard : Claim7 := { stood := { row := fnExactShiftOfRow, standIns := [], harness := (true, "cbb336b3047b494465acf4d46ce64926cb24af95eec22a0adebacc190a4bed84"), looks := true }, kinds := [], alts := [], laidByText := true, laidKinds := [.data], laidTests := true, laidLooks := .later }
def FnExactShiftOfCardSaid : Prop := Claim7.holds Tryd.pinned (.plain (OpenSpec.ofChange fnExactShiftOfSpec)) fnExactShiftOfCard

/-- THE TIED CARD OF 'laws.FnExactChainShift'. -/
def fnExactChainShiftCard : Claim7 := { stood := { row := fnExactChainShiftRow, standIns := [], harness := (true, "cbb336b3047b494465acf4d46ce64926cb24af95eec22a0adebacc190a4bed84"), looks := true }, kinds := [], alts := [], laidByText := true, laidKinds := [.data], laidTests := true, laidLooks := .later }
def FnExactChainShiftCardSaid : Prop := Claim7.holds Tryd.pinned (.plain (OpenSpec.ofChange fnExactChainShiftSpec)) fnExactChainShiftCard

/-- THE TIED CARD OF 'laws.FnExactLegText'. -/
def fnExactLegTextCard : Claim7 := { stood := { row := fnExactLegTextRow, standIns := [], harness := (true, "cbb336b3047b494465acf4d46ce64926cb24af95eec22a0adebacc190a4bed84"), looks := true }, kinds := [], alts := [], laidByText := true, laidKinds := [.data, .data, .data], laidTests := true, laidLooks := .later }
def FnExactLegTextCardSaid : Prop := Claim7.holds Tryd.pinned (.plain (OpenSpec.ofChange fnExactLegTextSpec)) fnExactLegTextCard

/-- THE TIED CARD OF 'laws.FnExactParseLeg'. -/
def fnExactParseLegCard : Claim7 := { stood := { row := fnExactParseLegRow, standIns := [], harness := (true, "cbb336b3047b494465acf4d46ce64926cb24af95eec22a0adebacc190a4bed84"), looks := true }, kinds := [], alts := [], laidByText := true, laidKinds := [.data, .data, .data, .sentinel, .sentinel], laidTests := true, laidLooks := .later }
def FnExactParseLegCardSaid : Prop := Claim7.holds Tryd.pinned (.plain (OpenSpec.ofChange fnExactParseLegSpec)) fnExactParseLegCard

/-- THE TIED CARD OF 'laws.FnLegs'. -/
def fnLegsCard : Claim7 := { stood := { row := fnLegsRow, standIns := [], harness := (true, "cbb336b3047b494465acf4d46ce64926cb24af95eec22a0adebacc190a4bed84"), looks := true }, kinds := [], alts := [], laidByText := true, laidKinds := [.data, .data, .data, .sentinel, .sentinel, .data], laidTests := true, laidLooks := .later }
def FnLegsCardSaid : Prop := Claim7.holds Tryd.pinned (.plain (OpenSpec.ofChange fnLegsSpec)) fnLegsCard

/-- THE SECOND FORM's CARD OF 'laws.FnChains'. -/
def fnChainsUptoCard : Claim7 := { stood := { row := fnChainsUptoRow, standIns := [], harness := (true, "cbb336b3047b494465acf4d46ce64926cb24af95eec22a0adebacc190a4bed84"), looks := true }, kinds := [], alts := [], laidByText := true, laidKinds := [.data], laidTests := true, laidLooks := .later }
def FnChainsUptoCardSaid : Prop := Claim7.holds Tryd.pinned (.plain (OpenSpec.upto fnChainsSpec)) fnChainsUptoCard

/-- THE SECOND FORM's CARD OF 'laws.FnExactShiftOf'. -/
def fnExactShiftOfUptoCard : Claim7 := { stood := { row := fnExactShiftOfUptoRow, standIns := [], harness := (true, "cbb336b3047b494465acf4d46ce64926cb24af95eec22a0adebacc190a4bed84"), looks := true }, kinds := [], alts := [], laidByText := true, laidKinds := [.data], laidTests := true, laidLooks := .later }
def FnExactShiftOfUptoCardSaid : Prop := Claim7.holds Tryd.pinned (.plain (OpenSpec.upto fnExactShiftOfSpec)) fnExactShiftOfUptoCard

/-- THE SECOND FORM's CARD OF 'laws.FnExactChainShift'. -/
def fnExactChainShiftUptoCard : Claim7 := { stood := { row := fnExactChainShiftUptoRow, standIns := [], harness := (true, "cbb336b3047b494465acf4d46ce64926cb24af95eec22a0adebacc190a4bed84"), looks := true }, kinds := [], alts := [], laidByText := true, laidKinds := [.data], laidTests := true, laidLooks := .later }
def FnExactChainShiftUptoCardSaid : Prop := Claim7.holds Tryd.pinned (.plain (OpenSpec.upto fnExactChainShiftSpec)) fnExactChainShiftUptoCard

/-- THE SECOND FORM's CARD OF 'laws.FnExactLegText'. -/
def fnExactLegTextUptoCard : Claim7 := { stood := { row := fnExactLegTextUptoRow, standIns := [], harness := (true, "cbb336b3047b494465acf4d46ce64926cb24af95eec22a0adebacc190a4bed84"), looks := true }, kinds := [], alts := [], laidByText := true, laidKinds := [.data, .data, .data], laidTests := true, laidLooks := .later }
def FnExactLegTextUptoCardSaid : Prop := Claim7.holds Tryd.pinned (.plain (OpenSpec.upto fnExactLegTextSpec)) fnExactLegTextUptoCard

/-- THE SECOND FORM's CARD OF 'laws.FnExactParseLeg'. -/
def fnExactParseLegUptoCard : Claim7 := { stood := { row := fnExactParseLegUptoRow, standIns := [], harness := (true, "cbb336b3047b494465acf4d46ce64926cb24af95eec22a0adebacc190a4bed84"), looks := true }, kinds := [], alts := [], laidByText := true, laidKinds := [.data, .data, .data, .sentinel, .sentinel], laidTests := true, laidLooks := .later }
def FnExactParseLegUptoCardSaid : Prop := Claim7.holds Tryd.pinned (.plain (OpenSpec.upto fnExactParseLegSpec)) fnExactParseLegUptoCard

/-- THE SECOND FORM's CARD OF 'laws.FnLegs'. -/
def fnLegsUptoCard : Claim7 := { stood := { row := fnLegsUptoRow, standIns := [], harness := (true, "cbb336b3047b494465acf4d46ce64926cb24af95eec22a0adebacc190a4bed84"), looks := true }, kinds := [], alts := [], laidByText := true, laidKinds := [.data, .data, .data, .sentinel, .sentinel, .data], laidTests := true, laidLooks := .later }
def FnLegsUptoCardSaid : Prop := Claim7.holds Tryd.pinned (.plain (OpenSpec.upto fnLegsSpec)) fnLegsUptoCard
end Rows
end Go.Proofs.YtiojgmojnnbpiaaDoor
