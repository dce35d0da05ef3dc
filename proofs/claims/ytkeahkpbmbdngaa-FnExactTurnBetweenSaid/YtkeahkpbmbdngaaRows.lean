/-
  No cell of these rows narrows 'for every input' (looked for: loops, veiled, ifaces, maps, wideKeys, modest, calm, conditions, laid).
  DERIVED. THE GIVEN ROWS OF THIS SEAT. 4 by the template 'for every input the law returns true; each argument reads behind the call as it read before'; 0 by the template 'total and deterministic' (their statements: YtkeahkpbmbdngaaTotals.lean).
  GIVEN WITH THE SEED: the statements are not yours to turn. If you find one false, say at which input.
  Laid BY PROGRAM, IN A SANDBOX (cutbox-rows.mjs): the forced cells as the released guide's own fill.sh prints them over the translation 7249598ea5dc6bb1… (all of the seat's roots in one cut). By AI agents, Wed Nov 11 2026. No macro, syntax, notation, axiom, sorry.
-/
import Derived.Test.YtkeahkpbmbdngaaChecked
import GoSem.Claim
import GoSem.ClaimJoined
import GoSem.ClaimMapViews
import Derived.JoinedTies
import Derived.KernelRfl
namespace Go.Proofs.Ytkeahkpbmbdngaa
/- THE CELL 'sum', in the pinned program and in every row, IS THE sha256 OF THE DUMP (.gsa) THAT YtkeahkpbmbdngaaProg.lean LOADS. Nothing in Lean hashes anything: it is a label: what it is worth is what the hold of that sum in a sandbox is worth. -/
noncomputable def Try.pinned : Pinned := { name := "ytkeahkpbmbdngaa", sum := "7249598ea5dc6bb19a05f370cfa9a1b1da338b2e81ba565dc2867ac7ef7d2ff1", checked := Try.checked }
namespace Rows
def none {H : Type} : Left H := { results := [], args := [] }

/-- 'laws.FnExactRoundedDiv': WHATEVER THE INPUT: true; the input reads as it did. -/
def fnExactRoundedDivSpec : ChangeSpec := { name := "fnExactRoundedDiv", fn := fun _ => fun
  | [d1, d2] => { results := [.lit (.bool true)], args := [d1, d2] }
  | _ => none }
def fnExactRoundedDivRow : OpenClaim := { program := "ytkeahkpbmbdngaa", sum := "7249598ea5dc6bb19a05f370cfa9a1b1da338b2e81ba565dc2867ac7ef7d2ff1", func := "loop.example/g00933/laws.FnExactRoundedDiv", spec := "fnExactRoundedDiv", recurses := true, apart := false }
def FnExactRoundedDivSaid : Prop := fnExactRoundedDivRow.holds Try.pinned (OpenSpec.ofChange fnExactRoundedDivSpec)

/-- ITS FALSE NEIGHBOUR: 'it returns false'. Refute it at one input. -/
def fnExactRoundedDivWrong : ChangeSpec := { name := "fnExactRoundedDiv", fn := fun _ => fun
  | [d1, d2] => { results := [.lit (.bool false)], args := [d1, d2] }
  | _ => none }
def FnExactRoundedDivWrongFalsely : Prop := fnExactRoundedDivRow.holds Try.pinned (OpenSpec.ofChange fnExactRoundedDivWrong)

/-- 'laws.FnExactTurnBetween': WHATEVER THE INPUT: true; the input reads as it did. -/
def fnExactTurnBetweenSpec : ChangeSpec := { name := "fnExactTurnBetween", fn := fun _ => fun
  | [d1, d2] => { results := [.lit (.bool true)], args := [d1, d2] }
  | _ => none }
def fnExactTurnBetweenRow : OpenClaim := { program := "ytkeahkpbmbdngaa", sum := "7249598ea5dc6bb19a05f370cfa9a1b1da338b2e81ba565dc2867ac7ef7d2ff1", func := "loop.example/g00933/laws.FnExactTurnBetween", spec := "fnExactTurnBetween", apart := false }
def FnExactTurnBetweenSaid : Prop := fnExactTurnBetweenRow.holds Try.pinned (OpenSpec.ofChange fnExactTurnBetweenSpec)

/-- ITS FALSE NEIGHBOUR: 'it returns false'. Refute it at one input. -/
def fnExactTurnBetweenWrong : ChangeSpec := { name := "fnExactTurnBetween", fn := fun _ => fun
  | [d1, d2] => { results := [.lit (.bool false)], args := [d1, d2] }
  | _ => none }
def FnExactTurnBetweenWrongFalsely : Prop := fnExactTurnBetweenRow.holds Try.pinned (OpenSpec.ofChange fnExactTurnBetweenWrong)

/-- 'laws.FnExactBackBearing': WHATEVER THE INPUT: true; the input reads as it did. -/
def fnExactBackBearingSpec : ChangeSpec := { name := "fnExactBackBearing", fn := fun _ => fun
  | [d] => { results := [.lit (.bool true)], args := [d] }
  | _ => none }
def fnExactBackBearingRow : OpenClaim := { program := "ytkeahkpbmbdngaa", sum := "7249598ea5dc6bb19a05f370cfa9a1b1da338b2e81ba565dc2867ac7ef7d2ff1", func := "loop.example/g00933/laws.FnExactBackBearing", spec := "fnExactBackBearing", apart := false }
def FnExactBackBearingSaid : Prop := fnExactBackBearingRow.holds Try.pinned (OpenSpec.ofChange fnExactBackBearingSpec)

/-- ITS FALSE NEIGHBOUR: 'it returns false'. Refute it at one input. -/
def fnExactBackBearingWrong : ChangeSpec := { name := "fnExactBackBearing", fn := fun _ => fun
  | [d] => { results := [.lit (.bool false)], args := [d] }
  | _ => none }
def FnExactBackBearingWrongFalsely : Prop := fnExactBackBearingRow.holds Try.pinned (OpenSpec.ofChange fnExactBackBearingWrong)

/-- 'laws.FnExactLengthOf': WHATEVER THE INPUT: true; the input reads as it did. -/
def fnExactLengthOfSpec : ChangeSpec := { name := "fnExactLengthOf", fn := fun _ => fun
  | [d1, d2, d3] => { results := [.lit (.bool true)], args := [d1, d2, d3] }
  | _ => none }
def fnExactLengthOfRow : OpenClaim := { program := "ytkeahkpbmbdngaa", sum := "7249598ea5dc6bb19a05f370cfa9a1b1da338b2e81ba565dc2867ac7ef7d2ff1", func := "loop.example/g00933/laws.FnExactLengthOf", spec := "fnExactLengthOf", apart := false }
def FnExactLengthOfSaid : Prop := fnExactLengthOfRow.holds Try.pinned (OpenSpec.ofChange fnExactLengthOfSpec)

/-- ITS FALSE NEIGHBOUR: 'it returns false'. Refute it at one input. -/
def fnExactLengthOfWrong : ChangeSpec := { name := "fnExactLengthOf", fn := fun _ => fun
  | [d1, d2, d3] => { results := [.lit (.bool false)], args := [d1, d2, d3] }
  | _ => none }
def FnExactLengthOfWrongFalsely : Prop := fnExactLengthOfRow.holds Try.pinned (OpenSpec.ofChange fnExactLengthOfWrong)

/- THE SECOND FORM. 'bulk': how many values and letters a reading holds, each counted each time it is reached (what is shared counts as often as it is met; a slice's spare places count too). A statement '..UptoSaid' is the law's where the arguments, and the package variables that the reading takes, are together of bulk at most 1048576: NARROWER than '..Said'. Prove '..Said' where nothing that the law and all that it calls make is longer than what came in: it says more and counts as full. Else prove '..UptoSaid'. A law counts once. -/
mutual
def uptoBulk {H : Type} : DataW H → Nat
  | .lit (.string bytes) => bytes.length + 1
  | .lit _ => 1
  | .nil => 1
  | .ptr d => uptoBulk d + 1
  | .slice elems spare => uptoBulkAll elems + uptoBulkAll spare + 1
  | .agg parts => uptoBulkAll parts + 1
  | .iface _ d => uptoBulk d + 1
  | .map entries => uptoBulkEntries entries + 1
  | .held _ => 1
def uptoBulkAll {H : Type} : List (DataW H) → Nat
  | [] => 0
  | d :: r => uptoBulk d + uptoBulkAll r
def uptoBulkEntries {H : Type} : List (Lit × DataW H) → Nat
  | [] => 0
  | x :: r => uptoBulkEntry x + uptoBulkEntries r
def uptoBulkEntry {H : Type} : Lit × DataW H → Nat
  | (.string bytes, d) => bytes.length + uptoBulk d + 1
  | (_, d) => uptoBulk d + 1
 end
def uptoSmall : (H : Type) → List (DataW H) → Bool := fun _ ds => decide (uptoBulkAll ds ≤ 1048576)
def OpenSpec.upto (s : _root_.Go.ChangeSpec) : _root_.Go.OpenSpec := { _root_.Go.OpenSpec.ofChange s with cond := some uptoSmall }

/-- 'laws.FnExactRoundedDiv', WHERE WHAT IT READS IS OF BULK AT MOST 1048576: true; the input reads as it did. -/
def fnExactRoundedDivUptoRow : OpenClaim := { program := "ytkeahkpbmbdngaa", sum := "7249598ea5dc6bb19a05f370cfa9a1b1da338b2e81ba565dc2867ac7ef7d2ff1", func := "loop.example/g00933/laws.FnExactRoundedDiv", spec := "fnExactRoundedDiv", recurses := true, apart := false, narrowed := true }
def FnExactRoundedDivUptoSaid : Prop := fnExactRoundedDivUptoRow.holds Try.pinned (OpenSpec.upto fnExactRoundedDivSpec)

/-- 'laws.FnExactTurnBetween', WHERE WHAT IT READS IS OF BULK AT MOST 1048576: true; the input reads as it did. -/
def fnExactTurnBetweenUptoRow : OpenClaim := { program := "ytkeahkpbmbdngaa", sum := "7249598ea5dc6bb19a05f370cfa9a1b1da338b2e81ba565dc2867ac7ef7d2ff1", func := "loop.example/g00933/laws.FnExactTurnBetween", spec := "fnExactTurnBetween", apart := false, narrowed := true }
def FnExactTurnBetweenUptoSaid : Prop := fnExactTurnBetweenUptoRow.holds Try.pinned (OpenSpec.upto fnExactTurnBetweenSpec)

/-- 'laws.FnExactBackBearing', WHERE WHAT IT READS IS OF BULK AT MOST 1048576: true; the input reads as it did. -/
def fnExactBackBearingUptoRow : OpenClaim := { program := "ytkeahkpbmbdngaa", sum := "7249598ea5dc6bb19a05f370cfa9a1b1da338b2e81ba565dc2867ac7ef7d2ff1", func := "loop.example/g00933/laws.FnExactBackBearing", spec := "fnExactBackBearing", apart := false, narrowed := true }
def FnExactBackBearingUptoSaid : Prop := fnExactBackBearingUptoRow.holds Try.pinned (OpenSpec.upto fnExactBackBearingSpec)

/-- 'laws.FnExactLengthOf', WHERE WHAT IT READS IS OF BULK AT MOST 1048576: true; the input reads as it did. -/
def fnExactLengthOfUptoRow : OpenClaim := { program := "ytkeahkpbmbdngaa", sum := "7249598ea5dc6bb19a05f370cfa9a1b1da338b2e81ba565dc2867ac7ef7d2ff1", func := "loop.example/g00933/laws.FnExactLengthOf", spec := "fnExactLengthOf", apart := false, narrowed := true }
def FnExactLengthOfUptoSaid : Prop := fnExactLengthOfUptoRow.holds Try.pinned (OpenSpec.upto fnExactLengthOfSpec)

end Rows
end Go.Proofs.Ytkeahkpbmbdngaa
