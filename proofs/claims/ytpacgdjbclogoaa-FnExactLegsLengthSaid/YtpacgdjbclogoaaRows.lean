/-
  No cell of these rows narrows 'for every input' (looked for: loops, veiled, ifaces, maps, wideKeys, modest, calm, conditions, laid).
  DERIVED. THE GIVEN ROWS OF THIS SEAT. 6 by the template 'for every input the law returns true; each argument reads behind the call as it read before'; 0 by the template 'total and deterministic' (their statements: YtpacgdjbclogoaaTotals.lean).
  GIVEN WITH THE SEED: the statements are not yours to turn. If you find one false, say at which input.
  Laid BY PROGRAM, IN A SANDBOX (cutbox-rows.mjs): the forced cells as the released guide's own fill.sh prints them over the translation 6a4dbd8a78ce9c09… (all of the seat's roots in one cut). By AI agents, Wed Nov 11 2026. No macro, syntax, notation, axiom, sorry.
-/
import Derived.Test.YtpacgdjbclogoaaChecked
import GoSem.Claim
import GoSem.ClaimJoined
import GoSem.ClaimMapViews
import Derived.JoinedTies
import Derived.KernelRfl
namespace Go.Proofs.Ytpacgdjbclogoaa
/- THE CELL 'sum', in the pinned program and in every row, IS THE sha256 OF THE DUMP (.gsa) THAT YtpacgdjbclogoaaProg.lean LOADS. Nothing in Lean hashes anything: it is a label: what it is worth is what the hold of that sum in a sandbox is worth. -/
noncomputable def Try.pinned : Pinned := { name := "ytpacgdjbclogoaa", sum := "6a4dbd8a78ce9c095e2121d9708fbac2fdb7d1fd7a25a1598c87d168573c3beb", checked := Try.checked }
namespace Rows
def none {H : Type} : Left H := { results := [], args := [] }

/-- 'laws.FnExactTurnBetween': WHATEVER THE INPUT: true; the input reads as it did. -/
def fnExactTurnBetweenSpec : ChangeSpec := { name := "fnExactTurnBetween", fn := fun _ => fun
  | [d1, d2] => { results := [.lit (.bool true)], args := [d1, d2] }
  | _ => none }
def fnExactTurnBetweenRow : OpenClaim := { program := "ytpacgdjbclogoaa", sum := "6a4dbd8a78ce9c095e2121d9708fbac2fdb7d1fd7a25a1598c87d168573c3beb", func := "loop.example/g00933/laws.FnExactTurnBetween", spec := "fnExactTurnBetween", apart := false }
def FnExactTurnBetweenSaid : Prop := fnExactTurnBetweenRow.holds Try.pinned (OpenSpec.ofChange fnExactTurnBetweenSpec)

/-- ITS FALSE NEIGHBOUR: 'it returns false'. Refute it at one input. -/
def fnExactTurnBetweenWrong : ChangeSpec := { name := "fnExactTurnBetween", fn := fun _ => fun
  | [d1, d2] => { results := [.lit (.bool false)], args := [d1, d2] }
  | _ => none }
def FnExactTurnBetweenWrongFalsely : Prop := fnExactTurnBetweenRow.holds Try.pinned (OpenSpec.ofChange fnExactTurnBetweenWrong)

/-- 'laws.FnExactIsLeg': WHATEVER THE INPUT: true; the input reads as it did. -/
def fnExactIsLegSpec : ChangeSpec := { name := "fnExactIsLeg", fn := fun _ => fun
  | [d] => { results := [.lit (.bool true)], args := [d] }
  | _ => none }
def fnExactIsLegRow : OpenClaim := { program := "ytpacgdjbclogoaa", sum := "6a4dbd8a78ce9c095e2121d9708fbac2fdb7d1fd7a25a1598c87d168573c3beb", func := "loop.example/g00933/laws.FnExactIsLeg", spec := "fnExactIsLeg", apart := false }
def FnExactIsLegSaid : Prop := fnExactIsLegRow.holds Try.pinned (OpenSpec.ofChange fnExactIsLegSpec)

/-- ITS FALSE NEIGHBOUR: 'it returns false'. Refute it at one input. -/
def fnExactIsLegWrong : ChangeSpec := { name := "fnExactIsLeg", fn := fun _ => fun
  | [d] => { results := [.lit (.bool false)], args := [d] }
  | _ => none }
def FnExactIsLegWrongFalsely : Prop := fnExactIsLegRow.holds Try.pinned (OpenSpec.ofChange fnExactIsLegWrong)

/-- 'laws.FnExactReverseLeg': WHATEVER THE INPUT: true; the input reads as it did. -/
def fnExactReverseLegSpec : ChangeSpec := { name := "fnExactReverseLeg", fn := fun _ => fun
  | [d] => { results := [.lit (.bool true)], args := [d] }
  | _ => none }
def fnExactReverseLegRow : OpenClaim := { program := "ytpacgdjbclogoaa", sum := "6a4dbd8a78ce9c095e2121d9708fbac2fdb7d1fd7a25a1598c87d168573c3beb", func := "loop.example/g00933/laws.FnExactReverseLeg", spec := "fnExactReverseLeg", apart := false }
def FnExactReverseLegSaid : Prop := fnExactReverseLegRow.holds Try.pinned (OpenSpec.ofChange fnExactReverseLegSpec)

/-- ITS FALSE NEIGHBOUR: 'it returns false'. Refute it at one input. -/
def fnExactReverseLegWrong : ChangeSpec := { name := "fnExactReverseLeg", fn := fun _ => fun
  | [d] => { results := [.lit (.bool false)], args := [d] }
  | _ => none }
def FnExactReverseLegWrongFalsely : Prop := fnExactReverseLegRow.holds Try.pinned (OpenSpec.ofChange fnExactReverseLegWrong)

/-- 'laws.FnExactDoAgree': WHATEVER THE INPUT: true; the input reads as it did. -/
def fnExactDoAgreeSpec : ChangeSpec := { name := "fnExactDoAgree", fn := fun _ => fun
  | [d1, d2, d3, d4] => { results := [.lit (.bool true)], args := [d1, d2, d3, d4] }
  | _ => none }
def fnExactDoAgreeRow : OpenClaim := { program := "ytpacgdjbclogoaa", sum := "6a4dbd8a78ce9c095e2121d9708fbac2fdb7d1fd7a25a1598c87d168573c3beb", func := "loop.example/g00933/laws.FnExactDoAgree", spec := "fnExactDoAgree", apart := false }
def FnExactDoAgreeSaid : Prop := fnExactDoAgreeRow.holds Try.pinned (OpenSpec.ofChange fnExactDoAgreeSpec)

/-- ITS FALSE NEIGHBOUR: 'it returns false'. Refute it at one input. -/
def fnExactDoAgreeWrong : ChangeSpec := { name := "fnExactDoAgree", fn := fun _ => fun
  | [d1, d2, d3, d4] => { results := [.lit (.bool false)], args := [d1, d2, d3, d4] }
  | _ => none }
def FnExactDoAgreeWrongFalsely : Prop := fnExactDoAgreeRow.holds Try.pinned (OpenSpec.ofChange fnExactDoAgreeWrong)

/-- 'laws.FnExactLegsLength': WHATEVER THE INPUT: true; the input reads as it did. -/
def fnExactLegsLengthSpec : ChangeSpec := { name := "fnExactLegsLength", fn := fun _ => fun
  | [d] => { results := [.lit (.bool true)], args := [d] }
  | _ => none }
def fnExactLegsLengthRow : OpenClaim := { program := "ytpacgdjbclogoaa", sum := "6a4dbd8a78ce9c095e2121d9708fbac2fdb7d1fd7a25a1598c87d168573c3beb", func := "loop.example/g00933/laws.FnExactLegsLength", spec := "fnExactLegsLength", apart := false }
def FnExactLegsLengthSaid : Prop := fnExactLegsLengthRow.holds Try.pinned (OpenSpec.ofChange fnExactLegsLengthSpec)

/-- ITS FALSE NEIGHBOUR: 'it returns false'. Refute it at one input. -/
def fnExactLegsLengthWrong : ChangeSpec := { name := "fnExactLegsLength", fn := fun _ => fun
  | [d] => { results := [.lit (.bool false)], args := [d] }
  | _ => none }
def FnExactLegsLengthWrongFalsely : Prop := fnExactLegsLengthRow.holds Try.pinned (OpenSpec.ofChange fnExactLegsLengthWrong)

/-- 'laws.FnExactLegsAt': WHATEVER THE INPUT: true; the input reads as it did. -/
def fnExactLegsAtSpec : ChangeSpec := { name := "fnExactLegsAt", fn := fun _ => fun
  | [d1, d2] => { results := [.lit (.bool true)], args := [d1, d2] }
  | _ => none }
def fnExactLegsAtRow : OpenClaim := { program := "ytpacgdjbclogoaa", sum := "6a4dbd8a78ce9c095e2121d9708fbac2fdb7d1fd7a25a1598c87d168573c3beb", func := "loop.example/g00933/laws.FnExactLegsAt", spec := "fnExactLegsAt", apart := false }
def FnExactLegsAtSaid : Prop := fnExactLegsAtRow.holds Try.pinned (OpenSpec.ofChange fnExactLegsAtSpec)

/-- ITS FALSE NEIGHBOUR: 'it returns false'. Refute it at one input. -/
def fnExactLegsAtWrong : ChangeSpec := { name := "fnExactLegsAt", fn := fun _ => fun
  | [d1, d2] => { results := [.lit (.bool false)], args := [d1, d2] }
  | _ => none }
def FnExactLegsAtWrongFalsely : Prop := fnExactLegsAtRow.holds Try.pinned (OpenSpec.ofChange fnExactLegsAtWrong)

/- THE SECOND FORM. 'bulk': how many values and letters a reading holds, each counted each time it is reached (what is shared counts as often as it is met; a slice's spare places count too). A statement '..UptoSaid' is the law's where the arguments, and the package variables that the reading takes, are together of bulk at most 1048576: NARROWER than '..Said'. Prove '..Said' where nothing that the law and all that it calls make is longer than what came in: it says more and counts as full. Else prove '..UptoSaid'. A law counts once. -/
mutual
def uptoBulk {H : Type} : DataW H → Nat
  | .lit (.string bytes) => bytes.length + 1
  | .lit _ => 1
  | .nil => 1
  | .ptr d => uptoBulk d + 1
  | .slice elems spare => uptoBulkAll elems + uptoBulkAll spare + 1
  | .agg parts => uptoBulkAll parts + 1
  | .iface _ d => uptoBulk d + 1
  | .map entries => uptoBulkEntries entries + 1
  | .held _ => 1
def uptoBulkAll {H : Type} : List (DataW H) → Nat
  | [] => 0
  | d :: r => uptoBulk d + uptoBulkAll r
def uptoBulkEntries {H : Type} : List (Lit × DataW H) → Nat
  | [] => 0
  | x :: r => uptoBulkEntry x + uptoBulkEntries r
def uptoBulkEntry {H : Type} : Lit × DataW H → Nat
  | (.string bytes, d) => bytes.length + uptoBulk d + 1
  | (_, d) => uptoBulk d + 1
 end
def uptoSmall : (H : Type) → List (DataW H) → Bool := fun _ ds => decide (uptoBulkAll ds ≤ 1048576)
def OpenSpec.upto (s : _root_.Go.ChangeSpec) : _root_.Go.OpenSpec := { _root_.Go.OpenSpec.ofChange s with cond := some uptoSmall }

/-- 'laws.FnExactTurnBetween', WHERE WHAT IT READS IS OF BULK AT MOST 1048576: true; the input reads as it did. -/
def fnExactTurnBetweenUptoRow : OpenClaim := { program := "ytpacgdjbclogoaa", sum := "6a4dbd8a78ce9c095e2121d9708fbac2fdb7d1fd7a25a1598c87d168573c3beb", func := "loop.example/g00933/laws.FnExactTurnBetween", spec := "fnExactTurnBetween", apart := false, narrowed := true }
def FnExactTurnBetweenUptoSaid : Prop := fnExactTurnBetweenUptoRow.holds Try.pinned (OpenSpec.upto fnExactTurnBetweenSpec)

/-- 'laws.FnExactIsLeg', WHERE WHAT IT READS IS OF BULK AT MOST 1048576: true; the input reads as it did. -/
def fnExactIsLegUptoRow : OpenClaim := { program := "ytpacgdjbclogoaa", sum := "6a4dbd8a78ce9c095e2121d9708fbac2fdb7d1fd7a25a1598c87d168573c3beb", func := "loop.example/g00933/laws.FnExactIsLeg", spec := "fnExactIsLeg", apart := false, narrowed := true }
def FnExactIsLegUptoSaid : Prop := fnExactIsLegUptoRow.holds Try.pinned (OpenSpec.upto fnExactIsLegSpec)

/-- 'laws.FnExactReverseLeg', WHERE WHAT IT READS IS OF BULK AT MOST 1048576: true; the input reads as it did. -/
def fnExactReverseLegUptoRow : OpenClaim := { program := "ytpacgdjbclogoaa", sum := "6a4dbd8a78ce9c095e2121d9708fbac2fdb7d1fd7a25a1598c87d168573c3beb", func := "loop.example/g00933/laws.FnExactReverseLeg", spec := "fnExactReverseLeg", apart := false, narrowed := true }
def FnExactReverseLegUptoSaid : Prop := fnExactReverseLegUptoRow.holds Try.pinned (OpenSpec.upto fnExactReverseLegSpec)

/-- 'laws.FnExactDoAgree', WHERE WHAT IT READS IS OF BULK AT MOST 1048576: true; the input reads as it did. -/
def fnExactDoAgreeUptoRow : OpenClaim := { program := "ytpacgdjbclogoaa", sum := "6a4dbd8a78ce9c095e2121d9708fbac2fdb7d1fd7a25a1598c87d168573c3beb", func := "loop.example/g00933/laws.FnExactDoAgree", spec := "fnExactDoAgree", apart := false, narrowed := true }
def FnExactDoAgreeUptoSaid : Prop := fnExactDoAgreeUptoRow.holds Try.pinned (OpenSpec.upto fnExactDoAgreeSpec)

/-- 'laws.FnExactLegsLength', WHERE WHAT IT READS IS OF BULK AT MOST 1048576: true; the input reads as it did. -/
def fnExactLegsLengthUptoRow : OpenClaim := { program := "ytpacgdjbclogoaa", sum := "6a4dbd8a78ce9c095e2121d9708fbac2fdb7d1fd7a25a1598c87d168573c3beb", func := "loop.example/g00933/laws.FnExactLegsLength", spec := "fnExactLegsLength", apart := false, narrowed := true }
def FnExactLegsLengthUptoSaid : Prop := fnExactLegsLengthUptoRow.holds Try.pinned (OpenSpec.upto fnExactLegsLengthSpec)

/-- 'laws.FnExactLegsAt', WHERE WHAT IT READS IS OF BULK AT MOST 1048576: true; the input reads as it did. -/
def fnExactLegsAtUptoRow : OpenClaim := { program := "ytpacgdjbclogoaa", sum := "6a4dbd8a78ce9c095e2121d9708fbac2fdb7d1fd7a25a1598c87d168573c3beb", func := "loop.example/g00933/laws.FnExactLegsAt", spec := "fnExactLegsAt", apart := false, narrowed := true }
def FnExactLegsAtUptoSaid : Prop := fnExactLegsAtUptoRow.holds Try.pinned (OpenSpec.upto fnExactLegsAtSpec)

end Rows
end Go.Proofs.Ytpacgdjbclogoaa
