/-
  No cell of these rows narrows 'for every input' (looked for: loops, veiled, ifaces, maps, wideKeys, modest, calm, conditions, laid).
  DERIVED. THE GIVEN ROWS OF THIS SEAT. 7 by the template 'for every input the law returns true; each argument reads behind the call as it read before'; 0 by the template 'total and deterministic' (their statements: YtnlljdepcldibaaTotals.lean).
  GIVEN WITH THE SEED: the statements are not yours to turn. If you find one false, say at which input.
  Laid BY PROGRAM, IN A SANDBOX (cutbox-rows.mjs): the forced cells as the released guide's own fill.sh prints them over the translation bfa51894b08bd937… (all of the seat's roots in one cut). By AI agents, Wed Nov 11 2026. No macro, syntax, notation, axiom, sorry.
-/
import Derived.Test.YtnlljdepcldibaaChecked
import GoSem.Claim
import GoSem.ClaimJoined
import GoSem.ClaimMapViews
import Derived.JoinedTies
import Derived.KernelRfl
namespace Go.Proofs.Ytnlljdepcldibaa
/- THE CELL 'sum', in the pinned program and in every row, IS THE sha256 OF THE DUMP (.gsa) THAT YtnlljdepcldibaaProg.lean LOADS. Nothing in Lean hashes anything: it is a label: what it is worth is what the hold of that sum in a sandbox is worth. -/
noncomputable def Try.pinned : Pinned := { name := "ytnlljdepcldibaa", sum := "bfa51894b08bd9377ffaec7099115e8f0d68991b132d6fee18df200ba2cd43d2", checked := Try.checked }
namespace Rows
def none {H : Type} : Left H := { results := [], args := [] }

/-- 'laws.FnExactIsEntry': WHATEVER THE INPUT: true; the input reads as it did. -/
def fnExactIsEntrySpec : ChangeSpec := { name := "fnExactIsEntry", fn := fun _ => fun
  | [d] => { results := [.lit (.bool true)], args := [d] }
  | _ => none }
def fnExactIsEntryRow : OpenClaim := { program := "ytnlljdepcldibaa", sum := "bfa51894b08bd9377ffaec7099115e8f0d68991b132d6fee18df200ba2cd43d2", func := "loop.example/g00933/laws.FnExactIsEntry", spec := "fnExactIsEntry", apart := false }
def FnExactIsEntrySaid : Prop := fnExactIsEntryRow.holds Try.pinned (OpenSpec.ofChange fnExactIsEntrySpec)

/-- ITS FALSE NEIGHBOUR: 'it returns false'. Refute it at one input. -/
def fnExactIsEntryWrong : ChangeSpec := { name := "fnExactIsEntry", fn := fun _ => fun
  | [d] => { results := [.lit (.bool false)], args := [d] }
  | _ => none }
def FnExactIsEntryWrongFalsely : Prop := fnExactIsEntryRow.holds Try.pinned (OpenSpec.ofChange fnExactIsEntryWrong)

/-- 'laws.FnExactLegOf': WHATEVER THE INPUT: true; the input reads as it did. -/
def fnExactLegOfSpec : ChangeSpec := { name := "fnExactLegOf", fn := fun _ => fun
  | [d] => { results := [.lit (.bool true)], args := [d] }
  | _ => none }
def fnExactLegOfRow : OpenClaim := { program := "ytnlljdepcldibaa", sum := "bfa51894b08bd9377ffaec7099115e8f0d68991b132d6fee18df200ba2cd43d2", func := "loop.example/g00933/laws.FnExactLegOf", spec := "fnExactLegOf", apart := false }
def FnExactLegOfSaid : Prop := fnExactLegOfRow.holds Try.pinned (OpenSpec.ofChange fnExactLegOfSpec)

/-- ITS FALSE NEIGHBOUR: 'it returns false'. Refute it at one input. -/
def fnExactLegOfWrong : ChangeSpec := { name := "fnExactLegOf", fn := fun _ => fun
  | [d] => { results := [.lit (.bool false)], args := [d] }
  | _ => none }
def FnExactLegOfWrongFalsely : Prop := fnExactLegOfRow.holds Try.pinned (OpenSpec.ofChange fnExactLegOfWrong)

/-- 'laws.FnExactBookLength': WHATEVER THE INPUT: true; the input reads as it did. -/
def fnExactBookLengthSpec : ChangeSpec := { name := "fnExactBookLength", fn := fun _ => fun
  | [d] => { results := [.lit (.bool true)], args := [d] }
  | _ => none }
def fnExactBookLengthRow : OpenClaim := { program := "ytnlljdepcldibaa", sum := "bfa51894b08bd9377ffaec7099115e8f0d68991b132d6fee18df200ba2cd43d2", func := "loop.example/g00933/laws.FnExactBookLength", spec := "fnExactBookLength", apart := false }
def FnExactBookLengthSaid : Prop := fnExactBookLengthRow.holds Try.pinned (OpenSpec.ofChange fnExactBookLengthSpec)

/-- ITS FALSE NEIGHBOUR: 'it returns false'. Refute it at one input. -/
def fnExactBookLengthWrong : ChangeSpec := { name := "fnExactBookLength", fn := fun _ => fun
  | [d] => { results := [.lit (.bool false)], args := [d] }
  | _ => none }
def FnExactBookLengthWrongFalsely : Prop := fnExactBookLengthRow.holds Try.pinned (OpenSpec.ofChange fnExactBookLengthWrong)

/-- 'laws.FnExactPairErrors': WHATEVER THE INPUT: true; the input reads as it did. -/
def fnExactPairErrorsSpec : ChangeSpec := { name := "fnExactPairErrors", fn := fun _ => fun
  | [d] => { results := [.lit (.bool true)], args := [d] }
  | _ => none }
def fnExactPairErrorsRow : OpenClaim := { program := "ytnlljdepcldibaa", sum := "bfa51894b08bd9377ffaec7099115e8f0d68991b132d6fee18df200ba2cd43d2", func := "loop.example/g00933/laws.FnExactPairErrors", spec := "fnExactPairErrors", unfollowed := true, recurses := true, apart := false }
def FnExactPairErrorsSaid : Prop := fnExactPairErrorsRow.holds Try.pinned (OpenSpec.ofChange fnExactPairErrorsSpec)

/-- ITS FALSE NEIGHBOUR: 'it returns false'. Refute it at one input. -/
def fnExactPairErrorsWrong : ChangeSpec := { name := "fnExactPairErrors", fn := fun _ => fun
  | [d] => { results := [.lit (.bool false)], args := [d] }
  | _ => none }
def FnExactPairErrorsWrongFalsely : Prop := fnExactPairErrorsRow.holds Try.pinned (OpenSpec.ofChange fnExactPairErrorsWrong)

/-- 'laws.FnExactMergePairs': WHATEVER THE INPUT: true; the input reads as it did. -/
def fnExactMergePairsSpec : ChangeSpec := { name := "fnExactMergePairs", fn := fun _ => fun
  | [d] => { results := [.lit (.bool true)], args := [d] }
  | _ => none }
def fnExactMergePairsRow : OpenClaim := { program := "ytnlljdepcldibaa", sum := "bfa51894b08bd9377ffaec7099115e8f0d68991b132d6fee18df200ba2cd43d2", func := "loop.example/g00933/laws.FnExactMergePairs", spec := "fnExactMergePairs", unfollowed := true, recurses := true, apart := false }
def FnExactMergePairsSaid : Prop := fnExactMergePairsRow.holds Try.pinned (OpenSpec.ofChange fnExactMergePairsSpec)

/-- ITS FALSE NEIGHBOUR: 'it returns false'. Refute it at one input. -/
def fnExactMergePairsWrong : ChangeSpec := { name := "fnExactMergePairs", fn := fun _ => fun
  | [d] => { results := [.lit (.bool false)], args := [d] }
  | _ => none }
def FnExactMergePairsWrongFalsely : Prop := fnExactMergePairsRow.holds Try.pinned (OpenSpec.ofChange fnExactMergePairsWrong)

/-- 'laws.FnExactReverseBook': WHATEVER THE INPUT: true; the input reads as it did. -/
def fnExactReverseBookSpec : ChangeSpec := { name := "fnExactReverseBook", fn := fun _ => fun
  | [d] => { results := [.lit (.bool true)], args := [d] }
  | _ => none }
def fnExactReverseBookRow : OpenClaim := { program := "ytnlljdepcldibaa", sum := "bfa51894b08bd9377ffaec7099115e8f0d68991b132d6fee18df200ba2cd43d2", func := "loop.example/g00933/laws.FnExactReverseBook", spec := "fnExactReverseBook", unfollowed := true, recurses := true, apart := false }
def FnExactReverseBookSaid : Prop := fnExactReverseBookRow.holds Try.pinned (OpenSpec.ofChange fnExactReverseBookSpec)

/-- ITS FALSE NEIGHBOUR: 'it returns false'. Refute it at one input. -/
def fnExactReverseBookWrong : ChangeSpec := { name := "fnExactReverseBook", fn := fun _ => fun
  | [d] => { results := [.lit (.bool false)], args := [d] }
  | _ => none }
def FnExactReverseBookWrongFalsely : Prop := fnExactReverseBookRow.holds Try.pinned (OpenSpec.ofChange fnExactReverseBookWrong)

/-- 'laws.FnReverses': WHATEVER THE INPUT: true; the input reads as it did. -/
def fnReversesSpec : ChangeSpec := { name := "fnReverses", fn := fun _ => fun
  | [d] => { results := [.lit (.bool true)], args := [d] }
  | _ => none }
def fnReversesRow : OpenClaim := { program := "ytnlljdepcldibaa", sum := "bfa51894b08bd9377ffaec7099115e8f0d68991b132d6fee18df200ba2cd43d2", func := "loop.example/g00933/laws.FnReverses", spec := "fnReverses", unfollowed := true, recurses := true, apart := false }
def FnReversesSaid : Prop := fnReversesRow.holds Try.pinned (OpenSpec.ofChange fnReversesSpec)

/-- ITS FALSE NEIGHBOUR: 'it returns false'. Refute it at one input. -/
def fnReversesWrong : ChangeSpec := { name := "fnReverses", fn := fun _ => fun
  | [d] => { results := [.lit (.bool false)], args := [d] }
  | _ => none }
def FnReversesWrongFalsely : Prop := fnReversesRow.holds Try.pinned (OpenSpec.ofChange fnReversesWrong)

/- THE SECOND FORM. 'bulk': how many values and letters a reading holds, each counted each time it is reached (what is shared counts as often as it is met; a slice's spare places count too). A statement '..UptoSaid' is the law's where the arguments, and the package variables that the reading takes, are together of bulk at most 1048576: NARROWER than '..Said'. Prove '..Said' where nothing that the law and all that it calls make is longer than what came in: it says more and counts as full. Else prove '..UptoSaid'. A law counts once. -/
mutual
def uptoBulk {H : Type} : DataW H → Nat
  | .lit (.string bytes) => bytes.length + 1
  | .lit _ => 1
  | .nil => 1
  | .ptr d => uptoBulk d + 1
  | .slice elems spare => uptoBulkAll elems + uptoBulkAll spare + 1
  | .agg parts => uptoBulkAll parts + 1
  | .iface _ d => uptoBulk d + 1
  | .map entries => uptoBulkEntries entries + 1
  | .held _ => 1
def uptoBulkAll {H : Type} : List (DataW H) → Nat
  | [] => 0
  | d :: r => uptoBulk d + uptoBulkAll r
def uptoBulkEntries {H : Type} : List (Lit × DataW H) → Nat
  | [] => 0
  | x :: r => uptoBulkEntry x + uptoBulkEntries r
def uptoBulkEntry {H : Type} : Lit × DataW H → Nat
  | (.string bytes, d) => bytes.length + uptoBulk d + 1
  | (_, d) => uptoBulk d + 1
 end
def uptoSmall : (H : Type) → List (DataW H) → Bool := fun _ ds => decide (uptoBulkAll ds ≤ 1048576)
def OpenSpec.upto (s : _root_.Go.ChangeSpec) : _root_.Go.OpenSpec := { _root_.Go.OpenSpec.ofChange s with cond := some uptoSmall }

/-- 'laws.FnExactIsEntry', WHERE WHAT IT READS IS OF BULK AT MOST 1048576: true; the input reads as it did. -/
def fnExactIsEntryUptoRow : OpenClaim := { program := "ytnlljdepcldibaa", sum := "bfa51894b08bd9377ffaec7099115e8f0d68991b132d6fee18df200ba2cd43d2", func := "loop.example/g00933/laws.FnExactIsEntry", spec := "fnExactIsEntry", apart := false, narrowed := true }
def FnExactIsEntryUptoSaid : Prop := fnExactIsEntryUptoRow.holds Try.pinned (OpenSpec.upto fnExactIsEntrySpec)

/-- 'laws.FnExactLegOf', WHERE WHAT IT READS IS OF BULK AT MOST 1048576: true; the input reads as it did. -/
def fnExactLegOfUptoRow : OpenClaim := { program := "ytnlljdepcldibaa", sum := "bfa51894b08bd9377ffaec7099115e8f0d68991b132d6fee18df200ba2cd43d2", func := "loop.example/g00933/laws.FnExactLegOf", spec := "fnExactLegOf", apart := false, narrowed := true }
def FnExactLegOfUptoSaid : Prop := fnExactLegOfUptoRow.holds Try.pinned (OpenSpec.upto fnExactLegOfSpec)

/-- 'laws.FnExactBookLength', WHERE WHAT IT READS IS OF BULK AT MOST 1048576: true; the input reads as it did. -/
def fnExactBookLengthUptoRow : OpenClaim := { program := "ytnlljdepcldibaa", sum := "bfa51894b08bd9377ffaec7099115e8f0d68991b132d6fee18df200ba2cd43d2", func := "loop.example/g00933/laws.FnExactBookLength", spec := "fnExactBookLength", apart := false, narrowed := true }
def FnExactBookLengthUptoSaid : Prop := fnExactBookLengthUptoRow.holds Try.pinned (OpenSpec.upto fnExactBookLengthSpec)

/-- 'laws.FnExactPairErrors', WHERE WHAT IT READS IS OF BULK AT MOST 1048576: true; the input reads as it did. -/
def fnExactPairErrorsUptoRow : OpenClaim := { program := "ytnlljdepcldibaa", sum := "bfa51894b08bd9377ffaec7099115e8f0d68991b132d6fee18df200ba2cd43d2", func := "loop.example/g00933/laws.FnExactPairErrors", spec := "fnExactPairErrors", unfollowed := true, recurses := true, apart := false, narrowed := true }
def FnExactPairErrorsUptoSaid : Prop := fnExactPairErrorsUptoRow.holds Try.pinned (OpenSpec.upto fnExactPairErrorsSpec)

/-- 'laws.FnExactMergePairs', WHERE WHAT IT READS IS OF BULK AT MOST 1048576: true; the input reads as it did. -/
def fnExactMergePairsUptoRow : OpenClaim := { program := "ytnlljdepcldibaa", sum := "bfa51894b08bd9377ffaec7099115e8f0d68991b132d6fee18df200ba2cd43d2", func := "loop.example/g00933/laws.FnExactMergePairs", spec := "fnExactMergePairs", unfollowed := true, recurses := true, apart := false, narrowed := true }
def FnExactMergePairsUptoSaid : Prop := fnExactMergePairsUptoRow.holds Try.pinned (OpenSpec.upto fnExactMergePairsSpec)

/-- 'laws.FnExactReverseBook', WHERE WHAT IT READS IS OF BULK AT MOST 1048576: true; the input reads as it did. -/
def fnExactReverseBookUptoRow : OpenClaim := { program := "ytnlljdepcldibaa", sum := "bfa51894b08bd9377ffaec7099115e8f0d68991b132d6fee18df200ba2cd43d2", func := "loop.example/g00933/laws.FnExactReverseBook", spec := "fnExactReverseBook", unfollowed := true, recurses := true, apart := false, narrowed := true }
def FnExactReverseBookUptoSaid : Prop := fnExactReverseBookUptoRow.holds Try.pinned (OpenSpec.upto fnExactReverseBookSpec)

/-- 'laws.FnReverses', WHERE WHAT IT READS IS OF BULK AT MOST 1048576: true; the input reads as it did. -/
def fnReversesUptoRow : OpenClaim := { program := "ytnlljdepcldibaa", sum := "bfa51894b08bd9377ffaec7099115e8f0d68991b132d6fee18df200ba2cd43d2", func := "loop.example/g00933/laws.FnReverses", spec := "fnReverses", unfollowed := true, recurses := true, apart := false, narrowed := true }
def FnReversesUptoSaid : Prop := fnReversesUptoRow.holds Try.pinned (OpenSpec.upto fnReversesSpec)

end Rows
end Go.Proofs.Ytnlljdepcldibaa
