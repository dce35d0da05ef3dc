/-
  No cell of these rows narrows 'for every input' (looked for: loops, veiled, ifaces, maps, wideKeys, modest, calm, conditions, laid).
  DERIVED. THE GIVEN ROWS OF THIS SEAT. 11 by the template 'for every input the law returns true; each argument reads behind the call as it read before'; 0 by the template 'total and deterministic' (their statements: YtekbiapgbhaibaaTotals.lean).
  GIVEN WITH THE SEED: the statements are not yours to turn. If you find one false, say at which input.
  Laid BY PROGRAM, IN A SANDBOX (cutbox-rows.mjs): the forced cells as the released guide's own fill.sh prints them over the translation 36f3d48608f86ebb… (all of the seat's roots in one cut). By AI agents, Wed Nov 11 2026. No macro, syntax, notation, axiom, sorry.
-/
import Derived.Test.YtekbiapgbhaibaaChecked
import GoSem.Claim
import GoSem.ClaimJoined
import GoSem.ClaimMapViews
import Derived.JoinedTies
import Derived.KernelRfl
namespace Go.Proofs.Ytekbiapgbhaibaa
/- THE CELL 'sum', in the pinned program and in every row, IS THE sha256 OF THE DUMP (.gsa) THAT YtekbiapgbhaibaaProg.lean LOADS. Nothing in Lean hashes anything: it is a label: what it is worth is what the hold of that sum in a sandbox is worth. -/
noncomputable def Try.pinned : Pinned := { name := "ytekbiapgbhaibaa", sum := "36f3d48608f86ebbdfb924cb9b748ef647b70d9dd1d6a1ca757b0705a0a12a8d", checked := Try.checked }
namespace Rows
def none {H : Type} : Left H := { results := [], args := [] }

/-- 'laws.FnTools': WHATEVER THE INPUT: true; the input reads as it did. -/
def fnToolsSpec : ChangeSpec := { name := "fnTools", fn := fun _ => fun
  | [d] => { results := [.lit (.bool true)], args := [d] }
  | _ => none }
def fnToolsRow : OpenClaim := { program := "ytekbiapgbhaibaa", sum := "36f3d48608f86ebbdfb924cb9b748ef647b70d9dd1d6a1ca757b0705a0a12a8d", func := "loop.example/g00933/laws.FnTools", spec := "fnTools", recurses := true, apart := false }
def FnToolsSaid : Prop := fnToolsRow.holds Try.pinned (OpenSpec.ofChange fnToolsSpec)

/-- ITS FALSE NEIGHBOUR: 'it returns false'. Refute it at one input. -/
def fnToolsWrong : ChangeSpec := { name := "fnTools", fn := fun _ => fun
  | [d] => { results := [.lit (.bool false)], args := [d] }
  | _ => none }
def FnToolsWrongFalsely : Prop := fnToolsRow.holds Try.pinned (OpenSpec.ofChange fnToolsWrong)

/-- 'laws.FnToolKinds': WHATEVER THE INPUT: true; the input reads as it did. -/
def fnToolKindsSpec : ChangeSpec := { name := "fnToolKinds", fn := fun _ => fun
  | [d] => { results := [.lit (.bool true)], args := [d] }
  | _ => none }
def fnToolKindsRow : OpenClaim := { program := "ytekbiapgbhaibaa", sum := "36f3d48608f86ebbdfb924cb9b748ef647b70d9dd1d6a1ca757b0705a0a12a8d", func := "loop.example/g00933/laws.FnToolKinds", spec := "fnToolKinds", recurses := true, apart := false }
def FnToolKindsSaid : Prop := fnToolKindsRow.holds Try.pinned (OpenSpec.ofChange fnToolKindsSpec)

/-- ITS FALSE NEIGHBOUR: 'it returns false'. Refute it at one input. -/
def fnToolKindsWrong : ChangeSpec := { name := "fnToolKinds", fn := fun _ => fun
  | [d] => { results := [.lit (.bool false)], args := [d] }
  | _ => none }
def FnToolKindsWrongFalsely : Prop := fnToolKindsRow.holds Try.pinned (OpenSpec.ofChange fnToolKindsWrong)

/-- 'laws.FnExactIsTool': WHATEVER THE INPUT: true; the input reads as it did. -/
def fnExactIsToolSpec : ChangeSpec := { name := "fnExactIsTool", fn := fun _ => fun
  | [d] => { results := [.lit (.bool true)], args := [d] }
  | _ => none }
def fnExactIsToolRow : OpenClaim := { program := "ytekbiapgbhaibaa", sum := "36f3d48608f86ebbdfb924cb9b748ef647b70d9dd1d6a1ca757b0705a0a12a8d", func := "loop.example/g00933/laws.FnExactIsTool", spec := "fnExactIsTool", apart := false }
def FnExactIsToolSaid : Prop := fnExactIsToolRow.holds Try.pinned (OpenSpec.ofChange fnExactIsToolSpec)

/-- ITS FALSE NEIGHBOUR: 'it returns false'. Refute it at one input. -/
def fnExactIsToolWrong : ChangeSpec := { name := "fnExactIsTool", fn := fun _ => fun
  | [d] => { results := [.lit (.bool false)], args := [d] }
  | _ => none }
def FnExactIsToolWrongFalsely : Prop := fnExactIsToolRow.holds Try.pinned (OpenSpec.ofChange fnExactIsToolWrong)

/-- 'laws.FnExactAreTools': WHATEVER THE INPUT: true; the input reads as it did. -/
def fnExactAreToolsSpec : ChangeSpec := { name := "fnExactAreTools", fn := fun _ => fun
  | [d] => { results := [.lit (.bool true)], args := [d] }
  | _ => none }
def fnExactAreToolsRow : OpenClaim := { program := "ytekbiapgbhaibaa", sum := "36f3d48608f86ebbdfb924cb9b748ef647b70d9dd1d6a1ca757b0705a0a12a8d", func := "loop.example/g00933/laws.FnExactAreTools", spec := "fnExactAreTools", apart := false }
def FnExactAreToolsSaid : Prop := fnExactAreToolsRow.holds Try.pinned (OpenSpec.ofChange fnExactAreToolsSpec)

/-- ITS FALSE NEIGHBOUR: 'it returns false'. Refute it at one input. -/
def fnExactAreToolsWrong : ChangeSpec := { name := "fnExactAreTools", fn := fun _ => fun
  | [d] => { results := [.lit (.bool false)], args := [d] }
  | _ => none }
def FnExactAreToolsWrongFalsely : Prop := fnExactAreToolsRow.holds Try.pinned (OpenSpec.ofChange fnExactAreToolsWrong)

/-- 'laws.FnExactCorrectReading': WHATEVER THE INPUT: true; the input reads as it did. -/
def fnExactCorrectReadingSpec : ChangeSpec := { name := "fnExactCorrectReading", fn := fun _ => fun
  | [d1, d2] => { results := [.lit (.bool true)], args := [d1, d2] }
  | _ => none }
def fnExactCorrectReadingRow : OpenClaim := { program := "ytekbiapgbhaibaa", sum := "36f3d48608f86ebbdfb924cb9b748ef647b70d9dd1d6a1ca757b0705a0a12a8d", func := "loop.example/g00933/laws.FnExactCorrectReading", spec := "fnExactCorrectReading", recurses := true, apart := false }
def FnExactCorrectReadingSaid : Prop := fnExactCorrectReadingRow.holds Try.pinned (OpenSpec.ofChange fnExactCorrectReadingSpec)

/-- ITS FALSE NEIGHBOUR: 'it returns false'. Refute it at one input. -/
def fnExactCorrectReadingWrong : ChangeSpec := { name := "fnExactCorrectReading", fn := fun _ => fun
  | [d1, d2] => { results := [.lit (.bool false)], args := [d1, d2] }
  | _ => none }
def FnExactCorrectReadingWrongFalsely : Prop := fnExactCorrectReadingRow.holds Try.pinned (OpenSpec.ofChange fnExactCorrectReadingWrong)

/-- 'laws.FnExactCheckError': WHATEVER THE INPUT: true; the input reads as it did. -/
def fnExactCheckErrorSpec : ChangeSpec := { name := "fnExactCheckError", fn := fun _ => fun
  | [d1, d2] => { results := [.lit (.bool true)], args := [d1, d2] }
  | _ => none }
def fnExactCheckErrorRow : OpenClaim := { program := "ytekbiapgbhaibaa", sum := "36f3d48608f86ebbdfb924cb9b748ef647b70d9dd1d6a1ca757b0705a0a12a8d", func := "loop.example/g00933/laws.FnExactCheckError", spec := "fnExactCheckError", recurses := true, apart := false }
def FnExactCheckErrorSaid : Prop := fnExactCheckErrorRow.holds Try.pinned (OpenSpec.ofChange fnExactCheckErrorSpec)

/-- ITS FALSE NEIGHBOUR: 'it returns false'. Refute it at one input. -/
def fnExactCheckErrorWrong : ChangeSpec := { name := "fnExactCheckError", fn := fun _ => fun
  | [d1, d2] => { results := [.lit (.bool false)], args := [d1, d2] }
  | _ => none }
def FnExactCheckErrorWrongFalsely : Prop := fnExactCheckErrorRow.holds Try.pinned (OpenSpec.ofChange fnExactCheckErrorWrong)

/-- 'laws.FnExactWorstCheck': WHATEVER THE INPUT: true; the input reads as it did. -/
def fnExactWorstCheckSpec : ChangeSpec := { name := "fnExactWorstCheck", fn := fun _ => fun
  | [d1, d2] => { results := [.lit (.bool true)], args := [d1, d2] }
  | _ => none }
def fnExactWorstCheckRow : OpenClaim := { program := "ytekbiapgbhaibaa", sum := "36f3d48608f86ebbdfb924cb9b748ef647b70d9dd1d6a1ca757b0705a0a12a8d", func := "loop.example/g00933/laws.FnExactWorstCheck", spec := "fnExactWorstCheck", recurses := true, apart := false }
def FnExactWorstCheckSaid : Prop := fnExactWorstCheckRow.holds Try.pinned (OpenSpec.ofChange fnExactWorstCheckSpec)

/-- ITS FALSE NEIGHBOUR: 'it returns false'. Refute it at one input. -/
def fnExactWorstCheckWrong : ChangeSpec := { name := "fnExactWorstCheck", fn := fun _ => fun
  | [d1, d2] => { results := [.lit (.bool false)], args := [d1, d2] }
  | _ => none }
def FnExactWorstCheckWrongFalsely : Prop := fnExactWorstCheckRow.holds Try.pinned (OpenSpec.ofChange fnExactWorstCheckWrong)

/-- 'laws.FnExactFitZero': WHATEVER THE INPUT: true; the input reads as it did. -/
def fnExactFitZeroSpec : ChangeSpec := { name := "fnExactFitZero", fn := fun _ => fun
  | [d1, d2] => { results := [.lit (.bool true)], args := [d1, d2] }
  | _ => none }
def fnExactFitZeroRow : OpenClaim := { program := "ytekbiapgbhaibaa", sum := "36f3d48608f86ebbdfb924cb9b748ef647b70d9dd1d6a1ca757b0705a0a12a8d", func := "loop.example/g00933/laws.FnExactFitZero", spec := "fnExactFitZero", recurses := true, apart := false }
def FnExactFitZeroSaid : Prop := fnExactFitZeroRow.holds Try.pinned (OpenSpec.ofChange fnExactFitZeroSpec)

/-- ITS FALSE NEIGHBOUR: 'it returns false'. Refute it at one input. -/
def fnExactFitZeroWrong : ChangeSpec := { name := "fnExactFitZero", fn := fun _ => fun
  | [d1, d2] => { results := [.lit (.bool false)], args := [d1, d2] }
  | _ => none }
def FnExactFitZeroWrongFalsely : Prop := fnExactFitZeroRow.holds Try.pinned (OpenSpec.ofChange fnExactFitZeroWrong)

/-- 'laws.FnExactFitScale': WHATEVER THE INPUT: true; the input reads as it did. -/
def fnExactFitScaleSpec : ChangeSpec := { name := "fnExactFitScale", fn := fun _ => fun
  | [d1, d2] => { results := [.lit (.bool true)], args := [d1, d2] }
  | _ => none }
def fnExactFitScaleRow : OpenClaim := { program := "ytekbiapgbhaibaa", sum := "36f3d48608f86ebbdfb924cb9b748ef647b70d9dd1d6a1ca757b0705a0a12a8d", func := "loop.example/g00933/laws.FnExactFitScale", spec := "fnExactFitScale", recurses := true, apart := false }
def FnExactFitScaleSaid : Prop := fnExactFitScaleRow.holds Try.pinned (OpenSpec.ofChange fnExactFitScaleSpec)

/-- ITS FALSE NEIGHBOUR: 'it returns false'. Refute it at one input. -/
def fnExactFitScaleWrong : ChangeSpec := { name := "fnExactFitScale", fn := fun _ => fun
  | [d1, d2] => { results := [.lit (.bool false)], args := [d1, d2] }
  | _ => none }
def FnExactFitScaleWrongFalsely : Prop := fnExactFitScaleRow.holds Try.pinned (OpenSpec.ofChange fnExactFitScaleWrong)

/-- 'laws.FnExactToolsOf': WHATEVER THE INPUT: true; the input reads as it did. -/
def fnExactToolsOfSpec : ChangeSpec := { name := "fnExactToolsOf", fn := fun _ => fun
  | [d1, d2] => { results := [.lit (.bool true)], args := [d1, d2] }
  | _ => none }
def fnExactToolsOfRow : OpenClaim := { program := "ytekbiapgbhaibaa", sum := "36f3d48608f86ebbdfb924cb9b748ef647b70d9dd1d6a1ca757b0705a0a12a8d", func := "loop.example/g00933/laws.FnExactToolsOf", spec := "fnExactToolsOf", apart := false }
def FnExactToolsOfSaid : Prop := fnExactToolsOfRow.holds Try.pinned (OpenSpec.ofChange fnExactToolsOfSpec)

/-- ITS FALSE NEIGHBOUR: 'it returns false'. Refute it at one input. -/
def fnExactToolsOfWrong : ChangeSpec := { name := "fnExactToolsOf", fn := fun _ => fun
  | [d1, d2] => { results := [.lit (.bool false)], args := [d1, d2] }
  | _ => none }
def FnExactToolsOfWrongFalsely : Prop := fnExactToolsOfRow.holds Try.pinned (OpenSpec.ofChange fnExactToolsOfWrong)

/-- 'laws.FnExactReadBack': WHATEVER THE INPUT: true; the input reads as it did. -/
def fnExactReadBackSpec : ChangeSpec := { name := "fnExactReadBack", fn := fun _ => fun
  | [d1, d2] => { results := [.lit (.bool true)], args := [d1, d2] }
  | _ => none }
def fnExactReadBackRow : OpenClaim := { program := "ytekbiapgbhaibaa", sum := "36f3d48608f86ebbdfb924cb9b748ef647b70d9dd1d6a1ca757b0705a0a12a8d", func := "loop.example/g00933/laws.FnExactReadBack", spec := "fnExactReadBack", recurses := true, apart := false }
def FnExactReadBackSaid : Prop := fnExactReadBackRow.holds Try.pinned (OpenSpec.ofChange fnExactReadBackSpec)

/-- ITS FALSE NEIGHBOUR: 'it returns false'. Refute it at one input. -/
def fnExactReadBackWrong : ChangeSpec := { name := "fnExactReadBack", fn := fun _ => fun
  | [d1, d2] => { results := [.lit (.bool false)], args := [d1, d2] }
  | _ => none }
def FnExactReadBackWrongFalsely : Prop := fnExactReadBackRow.holds Try.pinned (OpenSpec.ofChange fnExactReadBackWrong)

/- THE SECOND FORM. 'bulk': how many values and letters a reading holds, each counted each time it is reached (what is shared counts as often as it is met; a slice's spare places count too). A statement '..UptoSaid' is the law's where the arguments, and the package variables that the reading takes, are together of bulk at most 1048576: NARROWER than '..Said'. Prove '..Said' where nothing that the law and all that it calls make is longer than what came in: it says more and counts as full. Else prove '..UptoSaid'. A law counts once. -/
mutual
def uptoBulk {H : Type} : DataW H → Nat
  | .lit (.string bytes) => bytes.length + 1
  | .lit _ => 1
  | .nil => 1
  | .ptr d => uptoBulk d + 1
  | .slice elems spare => uptoBulkAll elems + uptoBulkAll spare + 1
  | .agg parts => uptoBulkAll parts + 1
  | .iface _ d => uptoBulk d + 1
  | .map entries => uptoBulkEntries entries + 1
  | .held _ => 1
def uptoBulkAll {H : Type} : List (DataW H) → Nat
  | [] => 0
  | d :: r => uptoBulk d + uptoBulkAll r
def uptoBulkEntries {H : Type} : List (Lit × DataW H) → Nat
  | [] => 0
  | x :: r => uptoBulkEntry x + uptoBulkEntries r
def uptoBulkEntry {H : Type} : Lit × DataW H → Nat
  | (.string bytes, d) => bytes.length + uptoBulk d + 1
  | (_, d) => uptoBulk d + 1
 end
def uptoSmall : (H : Type) → List (DataW H) → Bool := fun _ ds => decide (uptoBulkAll ds ≤ 1048576)
def OpenSpec.upto (s : _root_.Go.ChangeSpec) : _root_.Go.OpenSpec := { _root_.Go.OpenSpec.ofChange s with cond := some uptoSmall }

/-- 'laws.FnTools', WHERE WHAT IT READS IS OF BULK AT MOST 1048576: true; the input reads as it did. -/
def fnToolsUptoRow : OpenClaim := { program := "ytekbiapgbhaibaa", sum := "36f3d48608f86ebbdfb924cb9b748ef647b70d9dd1d6a1ca757b0705a0a12a8d", func := "loop.example/g00933/laws.FnTools", spec := "fnTools", recurses := true, apart := false, narrowed := true }
def FnToolsUptoSaid : Prop := fnToolsUptoRow.holds Try.pinned (OpenSpec.upto fnToolsSpec)

/-- 'laws.FnToolKinds', WHERE WHAT IT READS IS OF BULK AT MOST 1048576: true; the input reads as it did. -/
def fnToolKindsUptoRow : OpenClaim := { program := "ytekbiapgbhaibaa", sum := "36f3d48608f86ebbdfb924cb9b748ef647b70d9dd1d6a1ca757b0705a0a12a8d", func := "loop.example/g00933/laws.FnToolKinds", spec := "fnToolKinds", recurses := true, apart := false, narrowed := true }
def FnToolKindsUptoSaid : Prop := fnToolKindsUptoRow.holds Try.pinned (OpenSpec.upto fnToolKindsSpec)

/-- 'laws.FnExactIsTool', WHERE WHAT IT READS IS OF BULK AT MOST 1048576: true; the input reads as it did. -/
def fnExactIsToolUptoRow : OpenClaim := { program := "ytekbiapgbhaibaa", sum := "36f3d48608f86ebbdfb924cb9b748ef647b70d9dd1d6a1ca757b0705a0a12a8d", func := "loop.example/g00933/laws.FnExactIsTool", spec := "fnExactIsTool", apart := false, narrowed := true }
def FnExactIsToolUptoSaid : Prop := fnExactIsToolUptoRow.holds Try.pinned (OpenSpec.upto fnExactIsToolSpec)

/-- 'laws.FnExactAreTools', WHERE WHAT IT READS IS OF BULK AT MOST 1048576: true; the input reads as it did. -/
def fnExactAreToolsUptoRow : OpenClaim := { program := "ytekbiapgbhaibaa", sum := "36f3d48608f86ebbdfb924cb9b748ef647b70d9dd1d6a1ca757b0705a0a12a8d", func := "loop.example/g00933/laws.FnExactAreTools", spec := "fnExactAreTools", apart := false, narrowed := true }
def FnExactAreToolsUptoSaid : Prop := fnExactAreToolsUptoRow.holds Try.pinned (OpenSpec.upto fnExactAreToolsSpec)

/-- 'laws.FnExactCorrectReading', WHERE WHAT IT READS IS OF BULK AT MOST 1048576: true; the input reads as it did. -/
def fnExactCorrectReadingUptoRow : OpenClaim := { program := "ytekbiapgbhaibaa", sum := "36f3d48608f86ebbdfb924cb9b748ef647b70d9dd1d6a1ca757b0705a0a12a8d", func := "loop.example/g00933/laws.FnExactCorrectReading", spec := "fnExactCorrectReading", recurses := true, apart := false, narrowed := true }
def FnExactCorrectReadingUptoSaid : Prop := fnExactCorrectReadingUptoRow.holds Try.pinned (OpenSpec.upto fnExactCorrectReadingSpec)

/-- 'laws.FnExactCheckError', WHERE WHAT IT READS IS OF BULK AT MOST 1048576: true; the input reads as it did. -/
def fnExactCheckErrorUptoRow : OpenClaim := { program := "ytekbiapgbhaibaa", sum := "36f3d48608f86ebbdfb924cb9b748ef647b70d9dd1d6a1ca757b0705a0a12a8d", func := "loop.example/g00933/laws.FnExactCheckError", spec := "fnExactCheckError", recurses := true, apart := false, narrowed := true }
def FnExactCheckErrorUptoSaid : Prop := fnExactCheckErrorUptoRow.holds Try.pinned (OpenSpec.upto fnExactCheckErrorSpec)

/-- 'laws.FnExactWorstCheck', WHERE WHAT IT READS IS OF BULK AT MOST 1048576: true; the input reads as it did. -/
def fnExactWorstCheckUptoRow : OpenClaim := { program := "ytekbiapgbhaibaa", sum := "36f3d48608f86ebbdfb924cb9b748ef647b70d9dd1d6a1ca757b0705a0a12a8d", func := "loop.example/g00933/laws.FnExactWorstCheck", spec := "fnExactWorstCheck", recurses := true, apart := false, narrowed := true }
def FnExactWorstCheckUptoSaid : Prop := fnExactWorstCheckUptoRow.holds Try.pinned (OpenSpec.upto fnExactWorstCheckSpec)

/-- 'laws.FnExactFitZero', WHERE WHAT IT READS IS OF BULK AT MOST 1048576: true; the input reads as it did. -/
def fnExactFitZeroUptoRow : OpenClaim := { program := "ytekbiapgbhaibaa", sum := "36f3d48608f86ebbdfb924cb9b748ef647b70d9dd1d6a1ca757b0705a0a12a8d", func := "loop.example/g00933/laws.FnExactFitZero", spec := "fnExactFitZero", recurses := true, apart := false, narrowed := true }
def FnExactFitZeroUptoSaid : Prop := fnExactFitZeroUptoRow.holds Try.pinned (OpenSpec.upto fnExactFitZeroSpec)

/-- 'laws.FnExactFitScale', WHERE WHAT IT READS IS OF BULK AT MOST 1048576: true; the input reads as it did. -/
def fnExactFitScaleUptoRow : OpenClaim := { program := "ytekbiapgbhaibaa", sum := "36f3d48608f86ebbdfb924cb9b748ef647b70d9dd1d6a1ca757b0705a0a12a8d", func := "loop.example/g00933/laws.FnExactFitScale", spec := "fnExactFitScale", recurses := true, apart := false, narrowed := true }
def FnExactFitScaleUptoSaid : Prop := fnExactFitScaleUptoRow.holds Try.pinned (OpenSpec.upto fnExactFitScaleSpec)

/-- 'laws.FnExactToolsOf', WHERE WHAT IT READS IS OF BULK AT MOST 1048576: true; the input reads as it did. -/
def fnExactToolsOfUptoRow : OpenClaim := { program := "ytekbiapgbhaibaa", sum := "36f3d48608f86ebbdfb924cb9b748ef647b70d9dd1d6a1ca757b0705a0a12a8d", func := "loop.example/g00933/laws.FnExactToolsOf", spec := "fnExactToolsOf", apart := false, narrowed := true }
def FnExactToolsOfUptoSaid : Prop := fnExactToolsOfUptoRow.holds Try.pinned (OpenSpec.upto fnExactToolsOfSpec)

/-- 'laws.FnExactReadBack', WHERE WHAT IT READS IS OF BULK AT MOST 1048576: true; the input reads as it did. -/
def fnExactReadBackUptoRow : OpenClaim := { program := "ytekbiapgbhaibaa", sum := "36f3d48608f86ebbdfb924cb9b748ef647b70d9dd1d6a1ca757b0705a0a12a8d", func := "loop.example/g00933/laws.FnExactReadBack", spec := "fnExactReadBack", recurses := true, apart := false, narrowed := true }
def FnExactReadBackUptoSaid : Prop := fnExactReadBackUptoRow.holds Try.pinned (OpenSpec.upto fnExactReadBackSpec)

end Rows
end Go.Proofs.Ytekbiapgbhaibaa
