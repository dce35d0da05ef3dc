/-
  NARROWER THAN 'FOR EVERY INPUT', by the rows' own cells (each row's printed sentence says how): FnExactWallsAt: laid · FnWalls: laid.
  DERIVED. THE GIVEN ROWS OF THIS SEAT. 2 by the template 'for every input the law returns true; each argument reads behind the call as it read before'; 0 by the template 'total and deterministic' (their statements: YtnpghhpcloljeaaDoorTotals.lean).
  GIVEN WITH THE SEED: the statements are not yours to turn. If you find one false, say at which input.
  Laid BY PROGRAM, IN A SANDBOX (cutbox-rows.mjs): the forced cells as the released guide's own fill.sh prints them over the translation de573af074cbabdd… (all of the seat's roots in one cut). By AI agents, Wed Nov 11 2026. No macro, syntax, notation, axiom, sorry.
-/
import Derived.Test.YtnpghhpcloljeaaDoorChecked
import GoSem.Claim
import GoSem.ClaimJoined
import GoSem.ClaimMapViews
import Derived.JoinedTies
import Derived.KernelRfl
namespace Go.Proofs.YtnpghhpcloljeaaDoor
/- THE CELL 'sum', in the pinned program and in every row, IS THE sha256 OF THE DUMP (.gsa) THAT YtnpghhpcloljeaaDoorProg.lean LOADS. Nothing in Lean hashes anything: it is a label: what it is worth is what the hold of that sum in a sandbox is worth. -/
noncomputable def Tryd.pinned : Pinned := { name := "ytnpghhpcloljeaadoor", sum := "de573af074cbabdd33d77b44d582ea4a59d2f152008a8d4a785e40355fc5adbc", checked := Tryd.checked }
namespace Rows
def none {H : Type} : Left H := { results := [], args := [] }

/- WHAT THE LISTED PACKAGE-LEVEL VARIABLES READ AS WHEN THE CALL BEGINS. Each datum BY PROGRAM (the guide's laid-datum.mjs) off the statement by which the dump's own 'gosem.cut.vars' lays the variable. In a bare row this is a premise. The card (YtnpghhpcloljeaaDoorCards.lean) ties it to the program's text. -/
def laid_loop_example_g00933_impl_sines {H : Type} : DataW H := .agg [.lit (.int .i64 0), .lit (.int .i64 17), .lit (.int .i64 35), .lit (.int .i64 52), .lit (.int .i64 70), .lit (.int .i64 87), .lit (.int .i64 105), .lit (.int .i64 122), .lit (.int .i64 139), .lit (.int .i64 156), .lit (.int .i64 174), .lit (.int .i64 191), .lit (.int .i64 208), .lit (.int .i64 225), .lit (.int .i64 242), .lit (.int .i64 259), .lit (.int .i64 276), .lit (.int .i64 292), .lit (.int .i64 309), .lit (.int .i64 326), .lit (.int .i64 342), .lit (.int .i64 358), .lit (.int .i64 375), .lit (.int .i64 391), .lit (.int .i64 407), .lit (.int .i64 423), .lit (.int .i64 438), .lit (.int .i64 454), .lit (.int .i64 469), .lit (.int .i64 485), .lit (.int .i64 500), .lit (.int .i64 515), .lit (.int .i64 530), .lit (.int .i64 545), .lit (.int .i64 559), .lit (.int .i64 574), .lit (.int .i64 588), .lit (.int .i64 602), .lit (.int .i64 616), .lit (.int .i64 629), .lit (.int .i64 643), .lit (.int .i64 656), .lit (.int .i64 669), .lit (.int .i64 682), .lit (.int .i64 695), .lit (.int .i64 707), .lit (.int .i64 719), .lit (.int .i64 731), .lit (.int .i64 743), .lit (.int .i64 755), .lit (.int .i64 766), .lit (.int .i64 777), .lit (.int .i64 788), .lit (.int .i64 799), .lit (.int .i64 809), .lit (.int .i64 819), .lit (.int .i64 829), .lit (.int .i64 839), .lit (.int .i64 848), .lit (.int .i64 857), .lit (.int .i64 866), .lit (.int .i64 875), .lit (.int .i64 883), .lit (.int .i64 891), .lit (.int .i64 899), .lit (.int .i64 906), .lit (.int .i64 914), .lit (.int .i64 921), .lit (.int .i64 927), .lit (.int .i64 934), .lit (.int .i64 940), .lit (.int .i64 946), .lit (.int .i64 951), .lit (.int .i64 956), .lit (.int .i64 961), .lit (.int .i64 966), .lit (.int .i64 970), .lit (.int .i64 974), .lit (.int .i64 978), .lit (.int .i64 982), .lit (.int .i64 985), .lit (.int .i64 988), .lit (.int .i64 990), .lit (.int .i64 993), .lit (.int .i64 995), .lit (.int .i64 996), .lit (.int .i64 998), .lit (.int .i64 999), .lit (.int .i64 999), .lit (.int .i64 1000), .lit (.int .i64 1000)]

/-- 'laws.FnExactWallsAt': WHATEVER THE INPUT: true; the input reads as it did. -/
def fnExactWallsAtSpec : ChangeSpec := { name := "fnExactWallsAt", vars := ["loop.example/g00933/impl.sines"], fn := fun _ => fun
  | [d1, d2, g1] => { results := [.lit (.bool true)], args := [d1, d2], vars := [g1] }
  | _ => none }
def fnExactWallsAtRow : OpenClaim := { program := "ytnpghhpcloljeaadoor", sum := "de573af074cbabdd33d77b44d582ea4a59d2f152008a8d4a785e40355fc5adbc", func := "loop.example/g00933/laws.FnExactWallsAt", spec := "fnExactWallsAt", unfollowed := true, recurses := true, named := ["loop.example/g00933/impl.sines"], apart := false, laid := [("loop.example/g00933/impl.sines", laid_loop_example_g00933_impl_sines)] }
def FnExactWallsAtSaid : Prop := fnExactWallsAtRow.holds Tryd.pinned (OpenSpec.ofChange fnExactWallsAtSpec)

/-- ITS FALSE NEIGHBOUR: 'it returns false'. Refute it at one input. -/
def fnExactWallsAtWrong : ChangeSpec := { name := "fnExactWallsAt", vars := ["loop.example/g00933/impl.sines"], fn := fun _ => fun
  | [d1, d2, g1] => { results := [.lit (.bool false)], args := [d1, d2], vars := [g1] }
  | _ => none }
def FnExactWallsAtWrongFalsely : Prop := fnExactWallsAtRow.holds Tryd.pinned (OpenSpec.ofChange fnExactWallsAtWrong)

/-- 'laws.FnWalls': WHATEVER THE INPUT: true; the input reads as it did. -/
def fnWallsSpec : ChangeSpec := { name := "fnWalls", vars := ["loop.example/g00933/impl.sines"], fn := fun _ => fun
  | [d, g1] => { results := [.lit (.bool true)], args := [d], vars := [g1] }
  | _ => none }
def fnWallsRow : OpenClaim := { program := "ytnpghhpcloljeaadoor", sum := "de573af074cbabdd33d77b44d582ea4a59d2f152008a8d4a785e40355fc5adbc", func := "loop.example/g00933/laws.FnWalls", spec := "fnWalls", unfollowed := true, recurses := true, named := ["loop.example/g00933/impl.sines"], apart := false, laid := [("loop.example/g00933/impl.sines", laid_loop_example_g00933_impl_sines)] }
def FnWallsSaid : Prop := fnWallsRow.holds Tryd.pinned (OpenSpec.ofChange fnWallsSpec)

/-- ITS FALSE NEIGHBOUR: 'it returns false'. Refute it at one input. -/
def fnWallsWrong : ChangeSpec := { name := "fnWalls", vars := ["loop.example/g00933/impl.sines"], fn := fun _ => fun
  | [d, g1] => { results := [.lit (.bool false)], args := [d], vars := [g1] }
  | _ => none }
def FnWallsWrongFalsely : Prop := fnWallsRow.holds Tryd.pinned (OpenSpec.ofChange fnWallsWrong)

/- THE SECOND FORM. 'bulk': how many values and letters a reading holds, each counted each time it is reached (what is shared counts as often as it is met; a slice's spare places count too). A statement '..UptoSaid' is the law's where the arguments, and the package variables that the reading takes, are together of bulk at most 1048576: NARROWER than '..Said'. Prove '..Said' where nothing that the law and all that it calls make is longer than what came in: it says more and counts as full. Else prove '..UptoSaid'. A law counts once. -/
mutual
def uptoBulk {H : Type} : DataW H → Nat
  | .lit (.string bytes) => bytes.length + 1
  | .lit _ => 1
  | .nil => 1
  | .ptr d => uptoBulk d + 1
  | .slice elems spare => uptoBulkAll elems + uptoBulkAll spare + 1
  | .agg parts => uptoBulkAll parts + 1
  | .iface _ d => uptoBulk d + 1
  | .map entries => uptoBulkEntries entries + 1
  | .held _ => 1
def uptoBulkAll {H : Type} : List (DataW H) → Nat
  | [] => 0
  | d :: r => uptoBulk d + uptoBulkAll r
def uptoBulkEntries {H : Type} : List (Lit × DataW H) → Nat
  | [] => 0
  | x :: r => uptoBulkEntry x + uptoBulkEntries r
def uptoBulkEntry {H : Type} : Lit × DataW H → Nat
  | (.string bytes, d) => bytes.length + uptoBulk d + 1
  | (_, d) => uptoBulk d + 1
 end
def uptoSmall : (H : Type) → List (DataW H) → Bool := fun _ ds => decide (uptoBulkAll ds ≤ 1048576)
def OpenSpec.upto (s : _root_.Go.ChangeSpec) : _root_.Go.OpenSpec := { _root_.Go.OpenSpec.ofChange s with cond := some uptoSmall }

/-- 'laws.FnExactWallsAt', WHERE WHAT IT READS IS OF BULK AT MOST 1048576: true; the input reads as it did. -/
def fnExactWallsAtUptoRow : OpenClaim := { program := "ytnpghhpcloljeaadoor", sum := "de573af074cbabdd33d77b44d582ea4a59d2f152008a8d4a785e40355fc5adbc", func := "loop.example/g00933/laws.FnExactWallsAt", spec := "fnExactWallsAt", unfollowed := true, recurses := true, named := ["loop.example/g00933/impl.sines"], apart := false, laid := [("loop.example/g00933/impl.sines", laid_loop_example_g00933_impl_sines)], narrowed := true }
def FnExactWallsAtUptoSaid : Prop := fnExactWallsAtUptoRow.holds Tryd.pinned (OpenSpec.upto fnExactWallsAtSpec)

/-- 'laws.FnWalls', WHERE WHAT IT READS IS OF BULK AT MOST 1048576: true; the input reads as it did. -/
def fnWallsUptoRow : OpenClaim := { program := "ytnpghhpcloljeaadoor", sum := "de573af074cbabdd33d77b44d582ea4a59d2f152008a8d4a785e40355fc5adbc", func := "loop.example/g00933/laws.FnWalls", spec := "fnWalls", unfollowed := true, recurses := true, named := ["loop.example/g00933/impl.sines"], apart := false, laid := [("loop.example/g00933/impl.sines", laid_loop_example_g00933_impl_sines)], narrowed := true }
def FnWallsUptoSaid : Prop := fnWallsUptoRow.holds Tryd.pinned (OpenSpec.upto fnWallsSpec)

end Rows
end Go.Proofs.YtnpghhpcloljeaaDoor
