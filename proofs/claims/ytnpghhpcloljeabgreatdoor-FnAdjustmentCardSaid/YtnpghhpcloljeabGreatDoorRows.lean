/-
  NARROWER THAN 'FOR EVERY INPUT', by the rows' own cells (each row's printed sentence says how): FnAdjustment: laid · FnResiduals: laid · FnBlunders: laid · FnFixes: laid.
  DERIVED. THE GIVEN ROWS OF THIS SEAT. 4 by the template 'for every input the law returns true; each argument reads behind the call as it read before'; 0 by the template 'total and deterministic' (their statements: YtnpghhpcloljeabGreatDoorTotals.lean).
  GIVEN WITH THE SEED: the statements are not yours to turn. If you find one false, say at which input.
  Laid BY PROGRAM, IN A SANDBOX (cutbox-rows.mjs): the forced cells as the released guide's own fill.sh prints them over the translation 3cf1c75f0eafeadc… (all of the seat's roots in one cut). By AI agents, Wed Nov 11 2026. No macro, syntax, notation, axiom, sorry.
-/
import Derived.Test.YtnpghhpcloljeabGreatDoorChecked
import GoSem.Claim
import GoSem.ClaimJoined
import GoSem.ClaimMapViews
import Derived.JoinedTies
import Derived.KernelRfl
namespace Go.Proofs.YtnpghhpcloljeabGreatDoor
/- THE CELL 'sum', in the pinned program and in every row, IS THE sha256 OF THE DUMP (.gsa) THAT YtnpghhpcloljeabGreatDoorProg.lean LOADS. Nothing in Lean hashes anything: it is a label: what it is worth is what the hold of that sum in a sandbox is worth. -/
noncomputable def Tryz.pinned : Pinned := { name := "ytnpghhpcloljeabgreatdoor", sum := "3cf1c75f0eafeadc986fd6c12efd18ac43d0558a4a64390bc57f73a5c35a57d7", checked := Tryz.checked }
namespace Rows
def none {H : Type} : Left H := { results := [], args := [] }

/- WHAT THE LISTED PACKAGE-LEVEL VARIABLES READ AS WHEN THE CALL BEGINS. Each datum BY PROGRAM (the guide's laid-datum.mjs) off the statement by which the dump's own 'gosem.cut.vars' lays the variable. In a bare row this is a premise. The card (YtnpghhpcloljeabGreatDoorCards.lean) ties it to the program's text. -/
def laid_loop_example_g00933_impl_sines {H : Type} : DataW H := .agg [.lit (.int .i64 0), .lit (.int .i64 17), .lit (.int .i64 35), .lit (.int .i64 52), .lit (.int .i64 70), .lit (.int .i64 87), .lit (.int .i64 105), .lit (.int .i64 122), .lit (.int .i64 139), .lit (.int .i64 156), .lit (.int .i64 174), .lit (.int .i64 191), .lit (.int .i64 208), .lit (.int .i64 225), .lit (.int .i64 242), .lit (.int .i64 259), .lit (.int .i64 276), .lit (.int .i64 292), .lit (.int .i64 309), .lit (.int .i64 326), .lit (.int .i64 342), .lit (.int .i64 358), .lit (.int .i64 375), .lit (.int .i64 391), .lit (.int .i64 407), .lit (.int .i64 423), .lit (.int .i64 438), .lit (.int .i64 454), .lit (.int .i64 469), .lit (.int .i64 485), .lit (.int .i64 500), .lit (.int .i64 515), .lit (.int .i64 530), .lit (.int .i64 545), .lit (.int .i64 559), .lit (.int .i64 574), .lit (.int .i64 588), .lit (.int .i64 602), .lit (.int .i64 616), .lit (.int .i64 629), .lit (.int .i64 643), .lit (.int .i64 656), .lit (.int .i64 669), .lit (.int .i64 682), .lit (.int .i64 695), .lit (.int .i64 707), .lit (.int .i64 719), .lit (.int .i64 731), .lit (.int .i64 743), .lit (.int .i64 755), .lit (.int .i64 766), .lit (.int .i64 777), .lit (.int .i64 788), .lit (.int .i64 799), .lit (.int .i64 809), .lit (.int .i64 819), .lit (.int .i64 829), .lit (.int .i64 839), .lit (.int .i64 848), .lit (.int .i64 857), .lit (.int .i64 866), .lit (.int .i64 875), .lit (.int .i64 883), .lit (.int .i64 891), .lit (.int .i64 899), .lit (.int .i64 906), .lit (.int .i64 914), .lit (.int .i64 921), .lit (.int .i64 927), .lit (.int .i64 934), .lit (.int .i64 940), .lit (.int .i64 946), .lit (.int .i64 951), .lit (.int .i64 956), .lit (.int .i64 961), .lit (.int .i64 966), .lit (.int .i64 970), .lit (.int .i64 974), .lit (.int .i64 978), .lit (.int .i64 982), .lit (.int .i64 985), .lit (.int .i64 988), .lit (.int .i64 990), .lit (.int .i64 993), .lit (.int .i64 995), .lit (.int .i64 996), .lit (.int .i64 998), .lit (.int .i64 999), .lit (.int .i64 999), .lit (.int .i64 1000), .lit (.int .i64 1000)]

/-- 'laws.FnAdjustment': WHATEVER THE INPUT: true; the input reads as it did. -/
def fnAdjustmentSpec : ChangeSpec := { name := "fnAdjustment", vars := ["loop.example/g00933/impl.sines"], fn := fun _ => fun
  | [d, g1] => { results := [.lit (.bool true)], args := [d], vars := [g1] }
  | _ => none }
def fnAdjustmentRow : OpenClaim := { program := "ytnpghhpcloljeabgreatdoor", sum := "3cf1c75f0eafeadc986fd6c12efd18ac43d0558a4a64390bc57f73a5c35a57d7", func := "loop.example/g00933/laws.FnAdjustment", spec := "fnAdjustment", recurses := true, named := ["loop.example/g00933/impl.sines"], apart := false, laid := [("loop.example/g00933/impl.sines", laid_loop_example_g00933_impl_sines)] }
def FnAdjustmentSaid : Prop := fnAdjustmentRow.holds Tryz.pinned (OpenSpec.ofChange fnAdjustmentSpec)

/-- ITS FALSE NEIGHBOUR: 'it returns false'. Refute it at one input. -/
def fnAdjustmentWrong : ChangeSpec := { name := "fnAdjustment", vars := ["loop.example/g00933/impl.sines"], fn := fun _ => fun
  | [d, g1] => { results := [.lit (.bool false)], args := [d], vars := [g1] }
  | _ => none }
def FnAdjustmentWrongFalsely : Prop := fnAdjustmentRow.holds Tryz.pinned (OpenSpec.ofChange fnAdjustmentWrong)

/-- 'laws.FnResiduals': WHATEVER THE INPUT: true; the input reads as it did. -/
def fnResidualsSpec : ChangeSpec := { name := "fnResiduals", vars := ["loop.example/g00933/impl.sines"], fn := fun _ => fun
  | [d, g1] => { results := [.lit (.bool true)], args := [d], vars := [g1] }
  | _ => none }
def fnResidualsRow : OpenClaim := { program := "ytnpghhpcloljeabgreatdoor", sum := "3cf1c75f0eafeadc986fd6c12efd18ac43d0558a4a64390bc57f73a5c35a57d7", func := "loop.example/g00933/laws.FnResiduals", spec := "fnResiduals", recurses := true, named := ["loop.example/g00933/impl.sines"], apart := false, laid := [("loop.example/g00933/impl.sines", laid_loop_example_g00933_impl_sines)] }
def FnResidualsSaid : Prop := fnResidualsRow.holds Tryz.pinned (OpenSpec.ofChange fnResidualsSpec)

/-- ITS FALSE NEIGHBOUR: 'it returns false'. Refute it at one input. -/
def fnResidualsWrong : ChangeSpec := { name := "fnResiduals", vars := ["loop.example/g00933/impl.sines"], fn := fun _ => fun
  | [d, g1] => { results := [.lit (.bool false)], args := [d], vars := [g1] }
  | _ => none }
def FnResidualsWrongFalsely : Prop := fnResidualsRow.holds Tryz.pinned (OpenSpec.ofChange fnResidualsWrong)

/-- 'laws.FnBlunders': WHATEVER THE INPUT: true; the input reads as it did. -/
def fnBlundersSpec : ChangeSpec := { name := "fnBlunders", vars := ["loop.example/g00933/impl.sines"], fn := fun _ => fun
  | [d, g1] => { results := [.lit (.bool true)], args := [d], vars := [g1] }
  | _ => none }
def fnBlundersRow : OpenClaim := { program := "ytnpghhpcloljeabgreatdoor", sum := "3cf1c75f0eafeadc986fd6c12efd18ac43d0558a4a64390bc57f73a5c35a57d7", func := "loop.example/g00933/laws.FnBlunders", spec := "fnBlunders", unfollowed := true, recurses := true, named := ["loop.example/g00933/impl.sines"], apart := false, laid := [("loop.example/g00933/impl.sines", laid_loop_example_g00933_impl_sines)] }
def FnBlundersSaid : Prop := fnBlundersRow.holds Tryz.pinned (OpenSpec.ofChange fnBlundersSpec)

/-- ITS FALSE NEIGHBOUR: 'it returns false'. Refute it at one input. -/
def fnBlundersWrong : ChangeSpec := { name := "fnBlunders", vars := ["loop.example/g00933/impl.sines"], fn := fun _ => fun
  | [d, g1] => { results := [.lit (.bool false)], args := [d], vars := [g1] }
  | _ => none }
def FnBlundersWrongFalsely : Prop := fnBlundersRow.holds Tryz.pinned (OpenSpec.ofChange fnBlundersWrong)

/-- 'laws.FnFixes': WHATEVER THE INPUT: true; the input reads as it did. -/
def fnFixesSpec : ChangeSpec := { name := "fnFixes", vars := ["loop.example/g00933/impl.sines"], fn := fun _ => fun
  | [d, g1] => { results := [.lit (.bool true)], args := [d], vars := [g1] }
  | _ => none }
def fnFixesRow : OpenClaim := { program := "ytnpghhpcloljeabgreatdoor", sum := "3cf1c75f0eafeadc986fd6c12efd18ac43d0558a4a64390bc57f73a5c35a57d7", func := "loop.example/g00933/laws.FnFixes", spec := "fnFixes", unfollowed := true, recurses := true, named := ["loop.example/g00933/impl.sines"], apart := false, laid := [("loop.example/g00933/impl.sines", laid_loop_example_g00933_impl_sines)] }
def FnFixesSaid : Prop := fnFixesRow.holds Tryz.pinned (OpenSpec.ofChange fnFixesSpec)

/-- ITS FALSE NEIGHBOUR: 'it returns false'. Refute it at one input. -/
def fnFixesWrong : ChangeSpec := { name := "fnFixes", vars := ["loop.example/g00933/impl.sines"], fn := fun _ => fun
  | [d, g1] => { results := [.lit (.bool false)], args := [d], vars := [g1] }
  | _ => none }
def FnFixesWrongFalsely : Prop := fnFixesRow.holds Tryz.pinned (OpenSpec.ofChange fnFixesWrong)

/- THE SECOND FORM. 'bulk': how many values and letters a reading holds, each counted each time it is reached (what is shared counts as often as it is met; a slice's spare places count too). A statement '..UptoSaid' is the law's where the arguments, and the package variables that the reading takes, are together of bulk at most 1048576: NARROWER than '..Said'. Prove '..Said' where nothing that the law and all that it calls make is longer than what came in: it says more and counts as full. Else prove '..UptoSaid'. A law counts once. -/
mutual
def uptoBulk {H : Type} : DataW H → Nat
  | .lit (.string bytes) => bytes.length + 1
  | .lit _ => 1
  | .nil => 1
  | .ptr d => uptoBulk d + 1
  | .slice elems spare => uptoBulkAll elems + uptoBulkAll spare + 1
  | .agg parts => uptoBulkAll parts + 1
  | .iface _ d => uptoBulk d + 1
  | .map entries => uptoBulkEntries entries + 1
  | .held _ => 1
def uptoBulkAll {H : Type} : List (DataW H) → Nat
  | [] => 0
  | d :: r => uptoBulk d + uptoBulkAll r
def uptoBulkEntries {H : Type} : List (Lit × DataW H) → Nat
  | [] => 0
  | x :: r => uptoBulkEntry x + uptoBulkEntries r
def uptoBulkEntry {H : Type} : Lit × DataW H → Nat
  | (.string bytes, d) => bytes.length + uptoBulk d + 1
  | (_, d) => uptoBulk d + 1
 end
def uptoSmall : (H : Type) → List (DataW H) → Bool := fun _ ds => decide (uptoBulkAll ds ≤ 1048576)
def OpenSpec.upto (s : _root_.Go.ChangeSpec) : _root_.Go.OpenSpec := { _root_.Go.OpenSpec.ofChange s with cond := some uptoSmall }

/-- 'laws.FnAdjustment', WHERE WHAT IT READS IS OF BULK AT MOST 1048576: true; the input reads as it did. -/
def fnAdjustmentUptoRow : OpenClaim := { program := "ytnpghhpcloljeabgreatdoor", sum := "3cf1c75f0eafeadc986fd6c12efd18ac43d0558a4a64390bc57f73a5c35a57d7", func := "loop.example/g00933/laws.FnAdjustment", spec := "fnAdjustment", recurses := true, named := ["loop.example/g00933/impl.sines"], apart := false, laid := [("loop.example/g00933/impl.sines", laid_loop_example_g00933_impl_sines)], narrowed := true }
def FnAdjustmentUptoSaid : Prop := fnAdjustmentUptoRow.holds Tryz.pinned (OpenSpec.upto fnAdjustmentSpec)

/-- 'laws.FnResiduals', WHERE WHAT IT READS IS OF BULK AT MOST 1048576: true; the input reads as it did. -/
def fnResidualsUptoRow : OpenClaim := { program := "ytnpghhpcloljeabgreatdoor", sum := "3cf1c75f0eafeadc986fd6c12efd18ac43d0558a4a64390bc57f73a5c35a57d7", func := "loop.example/g00933/laws.FnResiduals", spec := "fnResiduals", recurses := true, named := ["loop.example/g00933/impl.sines"], apart := false, laid := [("loop.example/g00933/impl.sines", laid_loop_example_g00933_impl_sines)], narrowed := true }
def FnResidualsUptoSaid : Prop := fnResidualsUptoRow.holds Tryz.pinned (OpenSpec.upto fnResidualsSpec)

/-- 'laws.FnBlunders', WHERE WHAT IT READS IS OF BULK AT MOST 1048576: true; the input reads as it did. -/
def fnBlundersUptoRow : OpenClaim := { program := "ytnpghhpcloljeabgreatdoor", sum := "3cf1c75f0eafeadc986fd6c12efd18ac43d0558a4a64390bc57f73a5c35a57d7", func := "loop.example/g00933/laws.FnBlunders", spec := "fnBlunders", unfollowed := true, recurses := true, named := ["loop.example/g00933/impl.sines"], apart := false, laid := [("loop.example/g00933/impl.sines", laid_loop_example_g00933_impl_sines)], narrowed := true }
def FnBlundersUptoSaid : Prop := fnBlundersUptoRow.holds Tryz.pinned (OpenSpec.upto fnBlundersSpec)

/-- 'laws.FnFixes', WHERE WHAT IT READS IS OF BULK AT MOST 1048576: true; the input reads as it did. -/
def fnFixesUptoRow : OpenClaim := { program := "ytnpghhpcloljeabgreatdoor", sum := "3cf1c75f0eafeadc986fd6c12efd18ac43d0558a4a64390bc57f73a5c35a57d7", func := "loop.example/g00933/laws.FnFixes", spec := "fnFixes", unfollowed := true, recurses := true, named := ["loop.example/g00933/impl.sines"], apart := false, laid := [("loop.example/g00933/impl.sines", laid_loop_example_g00933_impl_sines)], narrowed := true }
def FnFixesUptoSaid : Prop := fnFixesUptoRow.holds Tryz.pinned (OpenSpec.upto fnFixesSpec)

end Rows
end Go.Proofs.YtnpghhpcloljeabGreatDoor
