/-
  NARROWER THAN 'FOR EVERY INPUT', by the rows' own cells (each row's printed sentence says how): FnExactLoopOf: laid · FnExactLoopLegs: laid · FnExactMisclosureOf: laid · FnExactLoopLength: laid · FnExactWorstLoop: laid · FnExactIsBridge: laid · FnExactBridgesOf: laid · FnExactLoopsThrough: laid · FnExactCountLoops: laid · FnLoops: laid · FnBridges: laid.
  DERIVED. THE GIVEN ROWS OF THIS SEAT. 11 by the template 'for every input the law returns true; each argument reads behind the call as it read before'; 0 by the template 'total and deterministic' (their statements: YtkeepfkjhcmhlaaDoorTotals.lean).
  GIVEN WITH THE SEED: the statements are not yours to turn. If you find one false, say at which input.
  Laid BY PROGRAM, IN A SANDBOX (cutbox-rows.mjs): the forced cells as the released guide's own fill.sh prints them over the translation 2fdb29e15c856396… (all of the seat's roots in one cut). By AI agents, Wed Nov 11 2026. No macro, syntax, notation, axiom, sorry.
-/
import Derived.Test.YtkeepfkjhcmhlaaDoorChecked
import GoSem.Claim
import GoSem.ClaimJoined
import GoSem.ClaimMapViews
import Derived.JoinedTies
import Derived.KernelRfl
namespace Go.Proofs.YtkeepfkjhcmhlaaDoor
/- THE CELL 'sum', in the pinned program and in every row, IS THE sha256 OF THE DUMP (.gsa) THAT YtkeepfkjhcmhlaaDoorProg.lean LOADS. Nothing in Lean hashes anything: it is a label: what it is worth is what the hold of that sum in a sandbox is worth. -/
noncomputable def Tryd.pinned : Pinned := { name := "ytkeepfkjhcmhlaadoor", sum := "2fdb29e15c85639693ebf529b82d2c2cc41e5852065e8676d8ac455edbe18e7f", checked := Tryd.checked }
namespace Rows
def none {H : Type} : Left H := { results := [], args := [] }

/- WHAT THE LISTED PACKAGE-LEVEL VARIABLES READ AS WHEN THE CALL BEGINS. Each datum BY PROGRAM (the guide's laid-datum.mjs) off the statement by which the dump's own 'gosem.cut.vars' lays the variable. In a bare row this is a premise. The card (YtkeepfkjhcmhlaaDoorCards.lean) ties it to the program's text. -/
def laid_loop_example_g00933_impl_sines {H : Type} : DataW H := .agg [.lit (.int .i64 0), .lit (.int .i64 17), .lit (.int .i64 35), .lit (.int .i64 52), .lit (.int .i64 70), .lit (.int .i64 87), .lit (.int .i64 105), .lit (.int .i64 122), .lit (.int .i64 139), .lit (.int .i64 156), .lit (.int .i64 174), .lit (.int .i64 191), .lit (.int .i64 208), .lit (.int .i64 225), .lit (.int .i64 242), .lit (.int .i64 259), .lit (.int .i64 276), .lit (.int .i64 292), .lit (.int .i64 309), .lit (.int .i64 326), .lit (.int .i64 342), .lit (.int .i64 358), .lit (.int .i64 375), .lit (.int .i64 391), .lit (.int .i64 407), .lit (.int .i64 423), .lit (.int .i64 438), .lit (.int .i64 454), .lit (.int .i64 469), .lit (.int .i64 485), .lit (.int .i64 500), .lit (.int .i64 515), .lit (.int .i64 530), .lit (.int .i64 545), .lit (.int .i64 559), .lit (.int .i64 574), .lit (.int .i64 588), .lit (.int .i64 602), .lit (.int .i64 616), .lit (.int .i64 629), .lit (.int .i64 643), .lit (.int .i64 656), .lit (.int .i64 669), .lit (.int .i64 682), .lit (.int .i64 695), .lit (.int .i64 707), .lit (.int .i64 719), .lit (.int .i64 731), .lit (.int .i64 743), .lit (.int .i64 755), .lit (.int .i64 766), .lit (.int .i64 777), .lit (.int .i64 788), .lit (.int .i64 799), .lit (.int .i64 809), .lit (.int .i64 819), .lit (.int .i64 829), .lit (.int .i64 839), .lit (.int .i64 848), .lit (.int .i64 857), .lit (.int .i64 866), .lit (.int .i64 875), .lit (.int .i64 883), .lit (.int .i64 891), .lit (.int .i64 899), .lit (.int .i64 906), .lit (.int .i64 914), .lit (.int .i64 921), .lit (.int .i64 927), .lit (.int .i64 934), .lit (.int .i64 940), .lit (.int .i64 946), .lit (.int .i64 951), .lit (.int .i64 956), .lit (.int .i64 961), .lit (.int .i64 966), .lit (.int .i64 970), .lit (.int .i64 974), .lit (.int .i64 978), .lit (.int .i64 982), .lit (.int .i64 985), .lit (.int .i64 988), .lit (.int .i64 990), .lit (.int .i64 993), .lit (.int .i64 995), .lit (.int .i64 996), .lit (.int .i64 998), .lit (.int .i64 999), .lit (.int .i64 999), .lit (.int .i64 1000), .lit (.int .i64 1000)]

/-- 'laws.FnExactLoopOf': WHATEVER THE INPUT: true; the input reads as it did. -/
def fnExactLoopOfSpec : ChangeSpec := { name := "fnExactLoopOf", vars := ["loop.example/g00933/impl.sines"], fn := fun _ => fun
  | [d1, d2, g1] => { results := [.lit (.bool true)], args := [d1, d2], vars := [g1] }
  | _ => none }
def fnExactLoopOfRow : OpenClaim := { program := "ytkeepfkjhcmhlaadoor", sum := "2fdb29e15c85639693ebf529b82d2c2cc41e5852065e8676d8ac455edbe18e7f", func := "loop.example/g00933/laws.FnExactLoopOf", spec := "fnExactLoopOf", recurses := true, named := ["loop.example/g00933/impl.sines"], apart := false, laid := [("loop.example/g00933/impl.sines", laid_loop_example_g00933_impl_sines)] }
def FnExactLoopOfSaid : Prop := fnExactLoopOfRow.holds Tryd.pinned (OpenSpec.ofChange fnExactLoopOfSpec)

/-- ITS FALSE NEIGHBOUR: 'it returns false'. Refute it at one input. -/
def fnExactLoopOfWrong : ChangeSpec := { name := "fnExactLoopOf", vars := ["loop.example/g00933/impl.sines"], fn := fun _ => fun
  | [d1, d2, g1] => { results := [.lit (.bool false)], args := [d1, d2], vars := [g1] }
  | _ => none }
def FnExactLoopOfWrongFalsely : Prop := fnExactLoopOfRow.holds Tryd.pinned (OpenSpec.ofChange fnExactLoopOfWrong)

/-- 'laws.FnExactLoopLegs': WHATEVER THE INPUT: true; the input reads as it did. -/
def fnExactLoopLegsSpec : ChangeSpec := { name := "fnExactLoopLegs", vars := ["loop.example/g00933/impl.sines"], fn := fun _ => fun
  | [d1, d2, g1] => { results := [.lit (.bool true)], args := [d1, d2], vars := [g1] }
  | _ => none }
def fnExactLoopLegsRow : OpenClaim := { program := "ytkeepfkjhcmhlaadoor", sum := "2fdb29e15c85639693ebf529b82d2c2cc41e5852065e8676d8ac455edbe18e7f", func := "loop.example/g00933/laws.FnExactLoopLegs", spec := "fnExactLoopLegs", recurses := true, named := ["loop.example/g00933/impl.sines"], apart := false, laid := [("loop.example/g00933/impl.sines", laid_loop_example_g00933_impl_sines)] }
def FnExactLoopLegsSaid : Prop := fnExactLoopLegsRow.holds Tryd.pinned (OpenSpec.ofChange fnExactLoopLegsSpec)

/-- ITS FALSE NEIGHBOUR: 'it returns false'. Refute it at one input. -/
def fnExactLoopLegsWrong : ChangeSpec := { name := "fnExactLoopLegs", vars := ["loop.example/g00933/impl.sines"], fn := fun _ => fun
  | [d1, d2, g1] => { results := [.lit (.bool false)], args := [d1, d2], vars := [g1] }
  | _ => none }
def FnExactLoopLegsWrongFalsely : Prop := fnExactLoopLegsRow.holds Tryd.pinned (OpenSpec.ofChange fnExactLoopLegsWrong)

/-- 'laws.FnExactMisclosureOf': WHATEVER THE INPUT: true; the input reads as it did. -/
def fnExactMisclosureOfSpec : ChangeSpec := { name := "fnExactMisclosureOf", vars := ["loop.example/g00933/impl.sines"], fn := fun _ => fun
  | [d1, d2, g1] => { results := [.lit (.bool true)], args := [d1, d2], vars := [g1] }
  | _ => none }
def fnExactMisclosureOfRow : OpenClaim := { program := "ytkeepfkjhcmhlaadoor", sum := "2fdb29e15c85639693ebf529b82d2c2cc41e5852065e8676d8ac455edbe18e7f", func := "loop.example/g00933/laws.FnExactMisclosureOf", spec := "fnExactMisclosureOf", recurses := true, named := ["loop.example/g00933/impl.sines"], apart := false, laid := [("loop.example/g00933/impl.sines", laid_loop_example_g00933_impl_sines)] }
def FnExactMisclosureOfSaid : Prop := fnExactMisclosureOfRow.holds Tryd.pinned (OpenSpec.ofChange fnExactMisclosureOfSpec)

/-- ITS FALSE NEIGHBOUR: 'it returns false'. Refute it at one input. -/
def fnExactMisclosureOfWrong : ChangeSpec := { name := "fnExactMisclosureOf", vars := ["loop.example/g00933/impl.sines"], fn := fun _ => fun
  | [d1, d2, g1] => { results := [.lit (.bool false)], args := [d1, d2], vars := [g1] }
  | _ => none }
def FnExactMisclosureOfWrongFalsely : Prop := fnExactMisclosureOfRow.holds Tryd.pinned (OpenSpec.ofChange fnExactMisclosureOfWrong)

/-- 'laws.FnExactLoopLength': WHATEVER THE INPUT: true; the input reads as it did. -/
def fnExactLoopLengthSpec : ChangeSpec := { name := "fnExactLoopLength", vars := ["loop.example/g00933/impl.sines"], fn := fun _ => fun
  | [d1, d2, g1] => { results := [.lit (.bool true)], args := [d1, d2], vars := [g1] }
  | _ => none }
def fnExactLoopLengthRow : OpenClaim := { program := "ytkeepfkjhcmhlaadoor", sum := "2fdb29e15c85639693ebf529b82d2c2cc41e5852065e8676d8ac455edbe18e7f", func := "loop.example/g00933/laws.FnExactLoopLength", spec := "fnExactLoopLength", recurses := true, named := ["loop.example/g00933/impl.sines"], apart := false, laid := [("loop.example/g00933/impl.sines", laid_loop_example_g00933_impl_sines)] }
def FnExactLoopLengthSaid : Prop := fnExactLoopLengthRow.holds Tryd.pinned (OpenSpec.ofChange fnExactLoopLengthSpec)

/-- ITS FALSE NEIGHBOUR: 'it returns false'. Refute it at one input. -/
def fnExactLoopLengthWrong : ChangeSpec := { name := "fnExactLoopLength", vars := ["loop.example/g00933/impl.sines"], fn := fun _ => fun
  | [d1, d2, g1] => { results := [.lit (.bool false)], args := [d1, d2], vars := [g1] }
  | _ => none }
def FnExactLoopLengthWrongFalsely : Prop := fnExactLoopLengthRow.holds Tryd.pinned (OpenSpec.ofChange fnExactLoopLengthWrong)

/-- 'laws.FnExactWorstLoop': WHATEVER THE INPUT: true; the input reads as it did. -/
def fnExactWorstLoopSpec : ChangeSpec := { name := "fnExactWorstLoop", vars := ["loop.example/g00933/impl.sines"], fn := fun _ => fun
  | [d, g1] => { results := [.lit (.bool true)], args := [d], vars := [g1] }
  | _ => none }
def fnExactWorstLoopRow : OpenClaim := { program := "ytkeepfkjhcmhlaadoor", sum := "2fdb29e15c85639693ebf529b82d2c2cc41e5852065e8676d8ac455edbe18e7f", func := "loop.example/g00933/laws.FnExactWorstLoop", spec := "fnExactWorstLoop", recurses := true, named := ["loop.example/g00933/impl.sines"], apart := false, laid := [("loop.example/g00933/impl.sines", laid_loop_example_g00933_impl_sines)] }
def FnExactWorstLoopSaid : Prop := fnExactWorstLoopRow.holds Tryd.pinned (OpenSpec.ofChange fnExactWorstLoopSpec)

/-- ITS FALSE NEIGHBOUR: 'it returns false'. Refute it at one input. -/
def fnExactWorstLoopWrong : ChangeSpec := { name := "fnExactWorstLoop", vars := ["loop.example/g00933/impl.sines"], fn := fun _ => fun
  | [d, g1] => { results := [.lit (.bool false)], args := [d], vars := [g1] }
  | _ => none }
def FnExactWorstLoopWrongFalsely : Prop := fnExactWorstLoopRow.holds Tryd.pinned (OpenSpec.ofChange fnExactWorstLoopWrong)

/-- 'laws.FnExactIsBridge': WHATEVER THE INPUT: true; the input reads as it did. -/
def fnExactIsBridgeSpec : ChangeSpec := { name := "fnExactIsBridge", vars := ["loop.example/g00933/impl.sines"], fn := fun _ => fun
  | [d1, d2, g1] => { results := [.lit (.bool true)], args := [d1, d2], vars := [g1] }
  | _ => none }
def fnExactIsBridgeRow : OpenClaim := { program := "ytkeepfkjhcmhlaadoor", sum := "2fdb29e15c85639693ebf529b82d2c2cc41e5852065e8676d8ac455edbe18e7f", func := "loop.example/g00933/laws.FnExactIsBridge", spec := "fnExactIsBridge", recurses := true, named := ["loop.example/g00933/impl.sines"], apart := false, laid := [("loop.example/g00933/impl.sines", laid_loop_example_g00933_impl_sines)] }
def FnExactIsBridgeSaid : Prop := fnExactIsBridgeRow.holds Tryd.pinned (OpenSpec.ofChange fnExactIsBridgeSpec)

/-- ITS FALSE NEIGHBOUR: 'it returns false'. Refute it at one input. -/
def fnExactIsBridgeWrong : ChangeSpec := { name := "fnExactIsBridge", vars := ["loop.example/g00933/impl.sines"], fn := fun _ => fun
  | [d1, d2, g1] => { results := [.lit (.bool false)], args := [d1, d2], vars := [g1] }
  | _ => none }
def FnExactIsBridgeWrongFalsely : Prop := fnExactIsBridgeRow.holds Tryd.pinned (OpenSpec.ofChange fnExactIsBridgeWrong)

/-- 'laws.FnExactBridgesOf': WHATEVER THE INPUT: true; the input reads as it did. -/
def fnExactBridgesOfSpec : ChangeSpec := { name := "fnExactBridgesOf", vars := ["loop.example/g00933/impl.sines"], fn := fun _ => fun
  | [d, g1] => { results := [.lit (.bool true)], args := [d], vars := [g1] }
  | _ => none }
def fnExactBridgesOfRow : OpenClaim := { program := "ytkeepfkjhcmhlaadoor", sum := "2fdb29e15c85639693ebf529b82d2c2cc41e5852065e8676d8ac455edbe18e7f", func := "loop.example/g00933/laws.FnExactBridgesOf", spec := "fnExactBridgesOf", recurses := true, named := ["loop.example/g00933/impl.sines"], apart := false, laid := [("loop.example/g00933/impl.sines", laid_loop_example_g00933_impl_sines)] }
def FnExactBridgesOfSaid : Prop := fnExactBridgesOfRow.holds Tryd.pinned (OpenSpec.ofChange fnExactBridgesOfSpec)

/-- ITS FALSE NEIGHBOUR: 'it returns false'. Refute it at one input. -/
def fnExactBridgesOfWrong : ChangeSpec := { name := "fnExactBridgesOf", vars := ["loop.example/g00933/impl.sines"], fn := fun _ => fun
  | [d, g1] => { results := [.lit (.bool false)], args := [d], vars := [g1] }
  | _ => none }
def FnExactBridgesOfWrongFalsely : Prop := fnExactBridgesOfRow.holds Tryd.pinned (OpenSpec.ofChange fnExactBridgesOfWrong)

/-- 'laws.FnExactLoopsThrough': WHATEVER THE INPUT: true; the input reads as it did. -/
def fnExactLoopsThroughSpec : ChangeSpec := { name := "fnExactLoopsThrough", vars := ["loop.example/g00933/impl.sines"], fn := fun _ => fun
  | [d1, d2, g1] => { results := [.lit (.bool true)], args := [d1, d2], vars := [g1] }
  | _ => none }
def fnExactLoopsThroughRow : OpenClaim := { program := "ytkeepfkjhcmhlaadoor", sum := "2fdb29e15c85639693ebf529b82d2c2cc41e5852065e8676d8ac455edbe18e7f", func := "loop.example/g00933/laws.FnExactLoopsThrough", spec := "fnExactLoopsThrough", recurses := true, named := ["loop.example/g00933/impl.sines"], apart := false, laid := [("loop.example/g00933/impl.sines", laid_loop_example_g00933_impl_sines)] }
def FnExactLoopsThroughSaid : Prop := fnExactLoopsThroughRow.holds Tryd.pinned (OpenSpec.ofChange fnExactLoopsThroughSpec)

/-- ITS FALSE NEIGHBOUR: 'it returns false'. Refute it at one input. -/
def fnExactLoopsThroughWrong : ChangeSpec := { name := "fnExactLoopsThrough", vars := ["loop.example/g00933/impl.sines"], fn := fun _ => fun
  | [d1, d2, g1] => { results := [.lit (.bool false)], args := [d1, d2], vars := [g1] }
  | _ => none }
def FnExactLoopsThroughWrongFalsely : Prop := fnExactLoopsThroughRow.holds Tryd.pinned (OpenSpec.ofChange fnExactLoopsThroughWrong)

/-- 'laws.FnExactCountLoops': WHATEVER THE INPUT: true; the input reads as it did. -/
def fnExactCountLoopsSpec : ChangeSpec := { name := "fnExactCountLoops", vars := ["loop.example/g00933/impl.sines"], fn := fun _ => fun
  | [d, g1] => { results := [.lit (.bool true)], args := [d], vars := [g1] }
  | _ => none }
def fnExactCountLoopsRow : OpenClaim := { program := "ytkeepfkjhcmhlaadoor", sum := "2fdb29e15c85639693ebf529b82d2c2cc41e5852065e8676d8ac455edbe18e7f", func := "loop.example/g00933/laws.FnExactCountLoops", spec := "fnExactCountLoops", recurses := true, named := ["loop.example/g00933/impl.sines"], apart := false, laid := [("loop.example/g00933/impl.sines", laid_loop_example_g00933_impl_sines)] }
def FnExactCountLoopsSaid : Prop := fnExactCountLoopsRow.holds Tryd.pinned (OpenSpec.ofChange fnExactCountLoopsSpec)

/-- ITS FALSE NEIGHBOUR: 'it returns false'. Refute it at one input. -/
def fnExactCountLoopsWrong : ChangeSpec := { name := "fnExactCountLoops", vars := ["loop.example/g00933/impl.sines"], fn := fun _ => fun
  | [d, g1] => { results := [.lit (.bool false)], args := [d], vars := [g1] }
  | _ => none }
def FnExactCountLoopsWrongFalsely : Prop := fnExactCountLoopsRow.holds Tryd.pinned (OpenSpec.ofChange fnExactCountLoopsWrong)

/-- 'laws.FnLoops': WHATEVER THE INPUT: true; the input reads as it did. -/
def fnLoopsSpec : ChangeSpec := { name := "fnLoops", vars := ["loop.example/g00933/impl.sines"], fn := fun _ => fun
  | [d, g1] => { results := [.lit (.bool true)], args := [d], vars := [g1] }
  | _ => none }
def fnLoopsRow : OpenClaim := { program := "ytkeepfkjhcmhlaadoor", sum := "2fdb29e15c85639693ebf529b82d2c2cc41e5852065e8676d8ac455edbe18e7f", func := "loop.example/g00933/laws.FnLoops", spec := "fnLoops", recurses := true, named := ["loop.example/g00933/impl.sines"], apart := false, laid := [("loop.example/g00933/impl.sines", laid_loop_example_g00933_impl_sines)] }
def FnLoopsSaid : Prop := fnLoopsRow.holds Tryd.pinned (OpenSpec.ofChange fnLoopsSpec)

/-- ITS FALSE NEIGHBOUR: 'it returns false'. Refute it at one input. -/
def fnLoopsWrong : ChangeSpec := { name := "fnLoops", vars := ["loop.example/g00933/impl.sines"], fn := fun _ => fun
  | [d, g1] => { results := [.lit (.bool false)], args := [d], vars := [g1] }
  | _ => none }
def FnLoopsWrongFalsely : Prop := fnLoopsRow.holds Tryd.pinned (OpenSpec.ofChange fnLoopsWrong)

/-- 'laws.FnBridges': WHATEVER THE INPUT: true; the input reads as it did. -/
def fnBridgesSpec : ChangeSpec := { name := "fnBridges", vars := ["loop.example/g00933/impl.sines"], fn := fun _ => fun
  | [d, g1] => { results := [.lit (.bool true)], args := [d], vars := [g1] }
  | _ => none }
def fnBridgesRow : OpenClaim := { program := "ytkeepfkjhcmhlaadoor", sum := "2fdb29e15c85639693ebf529b82d2c2cc41e5852065e8676d8ac455edbe18e7f", func := "loop.example/g00933/laws.FnBridges", spec := "fnBridges", recurses := true, named := ["loop.example/g00933/impl.sines"], apart := false, laid := [("loop.example/g00933/impl.sines", laid_loop_example_g00933_impl_sines)] }
def FnBridgesSaid : Prop := fnBridgesRow.holds Tryd.pinned (OpenSpec.ofChange fnBridgesSpec)

/-- ITS FALSE NEIGHBOUR: 'it returns false'. Refute it at one input. -/
def fnBridgesWrong : ChangeSpec := { name := "fnBridges", vars := ["loop.example/g00933/impl.sines"], fn := fun _ => fun
  | [d, g1] => { results := [.lit (.bool false)], args := [d], vars := [g1] }
  | _ => none }
def FnBridgesWrongFalsely : Prop := fnBridgesRow.holds Tryd.pinned (OpenSpec.ofChange fnBridgesWrong)

/- THE SECOND FORM. 'bulk': how many values and letters a reading holds, each counted each time it is reached (what is shared counts as often as it is met; a slice's spare places count too). A statement '..UptoSaid' is the law's where the arguments, and the package variables that the reading takes, are together of bulk at most 1048576: NARROWER than '..Said'. Prove '..Said' where nothing that the law and all that it calls make is longer than what came in: it says more and counts as full. Else prove '..UptoSaid'. A law counts once. -/
mutual
def uptoBulk {H : Type} : DataW H → Nat
  | .lit (.string bytes) => bytes.length + 1
  | .lit _ => 1
  | .nil => 1
  | .ptr d => uptoBulk d + 1
  | .slice elems spare => uptoBulkAll elems + uptoBulkAll spare + 1
  | .agg parts => uptoBulkAll parts + 1
  | .iface _ d => uptoBulk d + 1
  | .map entries => uptoBulkEntries entries + 1
  | .held _ => 1
def uptoBulkAll {H : Type} : List (DataW H) → Nat
  | [] => 0
  | d :: r => uptoBulk d + uptoBulkAll r
def uptoBulkEntries {H : Type} : List (Lit × DataW H) → Nat
  | [] => 0
  | x :: r => uptoBulkEntry x + uptoBulkEntries r
def uptoBulkEntry {H : Type} : Lit × DataW H → Nat
  | (.string bytes, d) => bytes.length + uptoBulk d + 1
  | (_, d) => uptoBulk d + 1
 end
def uptoSmall : (H : Type) → List (DataW H) → Bool := fun _ ds => decide (uptoBulkAll ds ≤ 1048576)
def OpenSpec.upto (s : _root_.Go.ChangeSpec) : _root_.Go.OpenSpec := { _root_.Go.OpenSpec.ofChange s with cond := some uptoSmall }

/-- 'laws.FnExactLoopOf', WHERE WHAT IT READS IS OF BULK AT MOST 1048576: true; the input reads as it did. -/
def fnExactLoopOfUptoRow : OpenClaim := { program := "ytkeepfkjhcmhlaadoor", sum := "2fdb29e15c85639693ebf529b82d2c2cc41e5852065e8676d8ac455edbe18e7f", func := "loop.example/g00933/laws.FnExactLoopOf", spec := "fnExactLoopOf", recurses := true, named := ["loop.example/g00933/impl.sines"], apart := false, laid := [("loop.example/g00933/impl.sines", laid_loop_example_g00933_impl_sines)], narrowed := true }
def FnExactLoopOfUptoSaid : Prop := fnExactLoopOfUptoRow.holds Tryd.pinned (OpenSpec.upto fnExactLoopOfSpec)

/-- 'laws.FnExactLoopLegs', WHERE WHAT IT READS IS OF BULK AT MOST 1048576: true; the input reads as it did. -/
def fnExactLoopLegsUptoRow : OpenClaim := { program := "ytkeepfkjhcmhlaadoor", sum := "2fdb29e15c85639693ebf529b82d2c2cc41e5852065e8676d8ac455edbe18e7f", func := "loop.example/g00933/laws.FnExactLoopLegs", spec := "fnExactLoopLegs", recurses := true, named := ["loop.example/g00933/impl.sines"], apart := false, laid := [("loop.example/g00933/impl.sines", laid_loop_example_g00933_impl_sines)], narrowed := true }
def FnExactLoopLegsUptoSaid : Prop := fnExactLoopLegsUptoRow.holds Tryd.pinned (OpenSpec.upto fnExactLoopLegsSpec)

/-- 'laws.FnExactMisclosureOf', WHERE WHAT IT READS IS OF BULK AT MOST 1048576: true; the input reads as it did. -/
def fnExactMisclosureOfUptoRow : OpenClaim := { program := "ytkeepfkjhcmhlaadoor", sum := "2fdb29e15c85639693ebf529b82d2c2cc41e5852065e8676d8ac455edbe18e7f", func := "loop.example/g00933/laws.FnExactMisclosureOf", spec := "fnExactMisclosureOf", recurses := true, named := ["loop.example/g00933/impl.sines"], apart := false, laid := [("loop.example/g00933/impl.sines", laid_loop_example_g00933_impl_sines)], narrowed := true }
def FnExactMisclosureOfUptoSaid : Prop := fnExactMisclosureOfUptoRow.holds Tryd.pinned (OpenSpec.upto fnExactMisclosureOfSpec)

/-- 'laws.FnExactLoopLength', WHERE WHAT IT READS IS OF BULK AT MOST 1048576: true; the input reads as it did. -/
def fnExactLoopLengthUptoRow : OpenClaim := { program := "ytkeepfkjhcmhlaadoor", sum := "2fdb29e15c85639693ebf529b82d2c2cc41e5852065e8676d8ac455edbe18e7f", func := "loop.example/g00933/laws.FnExactLoopLength", spec := "fnExactLoopLength", recurses := true, named := ["loop.example/g00933/impl.sines"], apart := false, laid := [("loop.example/g00933/impl.sines", laid_loop_example_g00933_impl_sines)], narrowed := true }
def FnExactLoopLengthUptoSaid : Prop := fnExactLoopLengthUptoRow.holds Tryd.pinned (OpenSpec.upto fnExactLoopLengthSpec)

/-- 'laws.FnExactWorstLoop', WHERE WHAT IT READS IS OF BULK AT MOST 1048576: true; the input reads as it did. -/
def fnExactWorstLoopUptoRow : OpenClaim := { program := "ytkeepfkjhcmhlaadoor", sum := "2fdb29e15c85639693ebf529b82d2c2cc41e5852065e8676d8ac455edbe18e7f", func := "loop.example/g00933/laws.FnExactWorstLoop", spec := "fnExactWorstLoop", recurses := true, named := ["loop.example/g00933/impl.sines"], apart := false, laid := [("loop.example/g00933/impl.sines", laid_loop_example_g00933_impl_sines)], narrowed := true }
def FnExactWorstLoopUptoSaid : Prop := fnExactWorstLoopUptoRow.holds Tryd.pinned (OpenSpec.upto fnExactWorstLoopSpec)

/-- 'laws.FnExactIsBridge', WHERE WHAT IT READS IS OF BULK AT MOST 1048576: true; the input reads as it did. -/
def fnExactIsBridgeUptoRow : OpenClaim := { program := "ytkeepfkjhcmhlaadoor", sum := "2fdb29e15c85639693ebf529b82d2c2cc41e5852065e8676d8ac455edbe18e7f", func := "loop.example/g00933/laws.FnExactIsBridge", spec := "fnExactIsBridge", recurses := true, named := ["loop.example/g00933/impl.sines"], apart := false, laid := [("loop.example/g00933/impl.sines", laid_loop_example_g00933_impl_sines)], narrowed := true }
def FnExactIsBridgeUptoSaid : Prop := fnExactIsBridgeUptoRow.holds Tryd.pinned (OpenSpec.upto fnExactIsBridgeSpec)

/-- 'laws.FnExactBridgesOf', WHERE WHAT IT READS IS OF BULK AT MOST 1048576: true; the input reads as it did. -/
def fnExactBridgesOfUptoRow : OpenClaim := { program := "ytkeepfkjhcmhlaadoor", sum := "2fdb29e15c85639693ebf529b82d2c2cc41e5852065e8676d8ac455edbe18e7f", func := "loop.example/g00933/laws.FnExactBridgesOf", spec := "fnExactBridgesOf", recurses := true, named := ["loop.example/g00933/impl.sines"], apart := false, laid := [("loop.example/g00933/impl.sines", laid_loop_example_g00933_impl_sines)], narrowed := true }
def FnExactBridgesOfUptoSaid : Prop := fnExactBridgesOfUptoRow.holds Tryd.pinned (OpenSpec.upto fnExactBridgesOfSpec)

/-- 'laws.FnExactLoopsThrough', WHERE WHAT IT READS IS OF BULK AT MOST 1048576: true; the input reads as it did. -/
def fnExactLoopsThroughUptoRow : OpenClaim := { program := "ytkeepfkjhcmhlaadoor", sum := "2fdb29e15c85639693ebf529b82d2c2cc41e5852065e8676d8ac455edbe18e7f", func := "loop.example/g00933/laws.FnExactLoopsThrough", spec := "fnExactLoopsThrough", recurses := true, named := ["loop.example/g00933/impl.sines"], apart := false, laid := [("loop.example/g00933/impl.sines", laid_loop_example_g00933_impl_sines)], narrowed := true }
def FnExactLoopsThroughUptoSaid : Prop := fnExactLoopsThroughUptoRow.holds Tryd.pinned (OpenSpec.upto fnExactLoopsThroughSpec)

/-- 'laws.FnExactCountLoops', WHERE WHAT IT READS IS OF BULK AT MOST 1048576: true; the input reads as it did. -/
def fnExactCountLoopsUptoRow : OpenClaim := { program := "ytkeepfkjhcmhlaadoor", sum := "2fdb29e15c85639693ebf529b82d2c2cc41e5852065e8676d8ac455edbe18e7f", func := "loop.example/g00933/laws.FnExactCountLoops", spec := "fnExactCountLoops", recurses := true, named := ["loop.example/g00933/impl.sines"], apart := false, laid := [("loop.example/g00933/impl.sines", laid_loop_example_g00933_impl_sines)], narrowed := true }
def FnExactCountLoopsUptoSaid : Prop := fnExactCountLoopsUptoRow.holds Tryd.pinned (OpenSpec.upto fnExactCountLoopsSpec)

/-- 'laws.FnLoops', WHERE WHAT IT READS IS OF BULK AT MOST 1048576: true; the input reads as it did. -/
def fnLoopsUptoRow : OpenClaim := { program := "ytkeepfkjhcmhlaadoor", sum := "2fdb29e15c85639693ebf529b82d2c2cc41e5852065e8676d8ac455edbe18e7f", func := "loop.example/g00933/laws.FnLoops", spec := "fnLoops", recurses := true, named := ["loop.example/g00933/impl.sines"], apart := false, laid := [("loop.example/g00933/impl.sines", laid_loop_example_g00933_impl_sines)], narrowed := true }
def FnLoopsUptoSaid : Prop := fnLoopsUptoRow.holds Tryd.pinned (OpenSpec.upto fnLoopsSpec)

/-- 'laws.FnBridges', WHERE WHAT IT READS IS OF BULK AT MOST 1048576: true; the input reads as it did. -/
def fnBridgesUptoRow : OpenClaim := { program := "ytkeepfkjhcmhlaadoor", sum := "2fdb29e15c85639693ebf529b82d2c2cc41e5852065e8676d8ac455edbe18e7f", func := "loop.example/g00933/laws.FnBridges", spec := "fnBridges", recurses := true, named := ["loop.example/g00933/impl.sines"], apart := false, laid := [("loop.example/g00933/impl.sines", laid_loop_example_g00933_impl_sines)], narrowed := true }
def FnBridgesUptoSaid : Prop := fnBridgesUptoRow.holds Tryd.pinned (OpenSpec.upto fnBridgesSpec)

end Rows
end Go.Proofs.YtkeepfkjhcmhlaaDoor
