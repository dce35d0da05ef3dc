/-
  NARROWER THAN 'FOR EVERY INPUT', by the rows' own cells (each row's printed sentence says how): FnExactStrainOf: laid · FnExactStrainWithout: laid · FnExactSuspectLeg: laid · FnExactFixLeg: laid · FnExactStrainAfter: laid · FnExactBestFix: laid · FnExactCompareStrains: laid · FnExactCleanLegs: laid · FnExactTreeCount: laid · FnExactAdjustAxis: laid · FnExactSquareSum: laid · FnExactBridgesOf: laid.
  DERIVED. THE GIVEN ROWS OF THIS SEAT. 12 by the template 'for every input the law returns true; each argument reads behind the call as it read before'; 0 by the template 'total and deterministic' (their statements: YtjlkgijaceplcaaDoorTotals.lean).
  GIVEN WITH THE SEED: the statements are not yours to turn. If you find one false, say at which input.
  Laid BY PROGRAM, IN A SANDBOX (cutbox-rows.mjs): the forced cells as the released guide's own fill.sh prints them over the translation b2371377c1f6e1be… (all of the seat's roots in one cut). By AI agents, Wed Nov 11 2026. No macro, syntax, notation, axiom, sorry.
-/
import Derived.Test.YtjlkgijaceplcaaDoorChecked
import GoSem.Claim
import GoSem.ClaimJoined
import GoSem.ClaimMapViews
import Derived.JoinedTies
import Derived.KernelRfl
namespace Go.Proofs.YtjlkgijaceplcaaDoor
/- THE CELL 'sum', in the pinned program and in every row, IS THE sha256 OF THE DUMP (.gsa) THAT YtjlkgijaceplcaaDoorProg.lean LOADS. Nothing in Lean hashes anything: it is a label: what it is worth is what the hold of that sum in a sandbox is worth. -/
noncomputable def Tryd.pinned : Pinned := { name := "ytjlkgijaceplcaadoor", sum := "b2371377c1f6e1be924e8682d664782d2be21857be3ffef4a0c5bf469082c0c6", checked := Tryd.checked }
namespace Rows
def none {H : Type} : Left H := { results := [], args := [] }

/- WHAT THE LISTED PACKAGE-LEVEL VARIABLES READ AS WHEN THE CALL BEGINS. Each datum BY PROGRAM (the guide's laid-datum.mjs) off the statement by which the dump's own 'gosem.cut.vars' lays the variable. In a bare row this is a premise. The card (YtjlkgijaceplcaaDoorCards.lean) ties it to the program's text. -/
def laid_loop_example_g00933_impl_sines {H : Type} : DataW H := .agg [.lit (.int .i64 0), .lit (.int .i64 17), .lit (.int .i64 35), .lit (.int .i64 52), .lit (.int .i64 70), .lit (.int .i64 87), .lit (.int .i64 105), .lit (.int .i64 122), .lit (.int .i64 139), .lit (.int .i64 156), .lit (.int .i64 174), .lit (.int .i64 191), .lit (.int .i64 208), .lit (.int .i64 225), .lit (.int .i64 242), .lit (.int .i64 259), .lit (.int .i64 276), .lit (.int .i64 292), .lit (.int .i64 309), .lit (.int .i64 326), .lit (.int .i64 342), .lit (.int .i64 358), .lit (.int .i64 375), .lit (.int .i64 391), .lit (.int .i64 407), .lit (.int .i64 423), .lit (.int .i64 438), .lit (.int .i64 454), .lit (.int .i64 469), .lit (.int .i64 485), .lit (.int .i64 500), .lit (.int .i64 515), .lit (.int .i64 530), .lit (.int .i64 545), .lit (.int .i64 559), .lit (.int .i64 574), .lit (.int .i64 588), .lit (.int .i64 602), .lit (.int .i64 616), .lit (.int .i64 629), .lit (.int .i64 643), .lit (.int .i64 656), .lit (.int .i64 669), .lit (.int .i64 682), .lit (.int .i64 695), .lit (.int .i64 707), .lit (.int .i64 719), .lit (.int .i64 731), .lit (.int .i64 743), .lit (.int .i64 755), .lit (.int .i64 766), .lit (.int .i64 777), .lit (.int .i64 788), .lit (.int .i64 799), .lit (.int .i64 809), .lit (.int .i64 819), .lit (.int .i64 829), .lit (.int .i64 839), .lit (.int .i64 848), .lit (.int .i64 857), .lit (.int .i64 866), .lit (.int .i64 875), .lit (.int .i64 883), .lit (.int .i64 891), .lit (.int .i64 899), .lit (.int .i64 906), .lit (.int .i64 914), .lit (.int .i64 921), .lit (.int .i64 927), .lit (.int .i64 934), .lit (.int .i64 940), .lit (.int .i64 946), .lit (.int .i64 951), .lit (.int .i64 956), .lit (.int .i64 961), .lit (.int .i64 966), .lit (.int .i64 970), .lit (.int .i64 974), .lit (.int .i64 978), .lit (.int .i64 982), .lit (.int .i64 985), .lit (.int .i64 988), .lit (.int .i64 990), .lit (.int .i64 993), .lit (.int .i64 995), .lit (.int .i64 996), .lit (.int .i64 998), .lit (.int .i64 999), .lit (.int .i64 999), .lit (.int .i64 1000), .lit (.int .i64 1000)]

/-- 'laws.FnExactStrainOf': WHATEVER THE INPUT: true; the input reads as it did. -/
def fnExactStrainOfSpec : ChangeSpec := { name := "fnExactStrainOf", vars := ["loop.example/g00933/impl.sines"], fn := fun _ => fun
  | [d, g1] => { results := [.lit (.bool true)], args := [d], vars := [g1] }
  | _ => none }
def fnExactStrainOfRow : OpenClaim := { program := "ytjlkgijaceplcaadoor", sum := "b2371377c1f6e1be924e8682d664782d2be21857be3ffef4a0c5bf469082c0c6", func := "loop.example/g00933/laws.FnExactStrainOf", spec := "fnExactStrainOf", recurses := true, named := ["loop.example/g00933/impl.sines"], apart := false, laid := [("loop.example/g00933/impl.sines", laid_loop_example_g00933_impl_sines)] }
def FnExactStrainOfSaid : Prop := fnExactStrainOfRow.holds Tryd.pinned (OpenSpec.ofChange fnExactStrainOfSpec)

/-- ITS FALSE NEIGHBOUR: 'it returns false'. Refute it at one input. -/
def fnExactStrainOfWrong : ChangeSpec := { name := "fnExactStrainOf", vars := ["loop.example/g00933/impl.sines"], fn := fun _ => fun
  | [d, g1] => { results := [.lit (.bool false)], args := [d], vars := [g1] }
  | _ => none }
def FnExactStrainOfWrongFalsely : Prop := fnExactStrainOfRow.holds Tryd.pinned (OpenSpec.ofChange fnExactStrainOfWrong)

/-- 'laws.FnExactStrainWithout': WHATEVER THE INPUT: true; the input reads as it did. -/
def fnExactStrainWithoutSpec : ChangeSpec := { name := "fnExactStrainWithout", vars := ["loop.example/g00933/impl.sines"], fn := fun _ => fun
  | [d1, d2, g1] => { results := [.lit (.bool true)], args := [d1, d2], vars := [g1] }
  | _ => none }
def fnExactStrainWithoutRow : OpenClaim := { program := "ytjlkgijaceplcaadoor", sum := "b2371377c1f6e1be924e8682d664782d2be21857be3ffef4a0c5bf469082c0c6", func := "loop.example/g00933/laws.FnExactStrainWithout", spec := "fnExactStrainWithout", recurses := true, named := ["loop.example/g00933/impl.sines"], apart := false, laid := [("loop.example/g00933/impl.sines", laid_loop_example_g00933_impl_sines)] }
def FnExactStrainWithoutSaid : Prop := fnExactStrainWithoutRow.holds Tryd.pinned (OpenSpec.ofChange fnExactStrainWithoutSpec)

/-- ITS FALSE NEIGHBOUR: 'it returns false'. Refute it at one input. -/
def fnExactStrainWithoutWrong : ChangeSpec := { name := "fnExactStrainWithout", vars := ["loop.example/g00933/impl.sines"], fn := fun _ => fun
  | [d1, d2, g1] => { results := [.lit (.bool false)], args := [d1, d2], vars := [g1] }
  | _ => none }
def FnExactStrainWithoutWrongFalsely : Prop := fnExactStrainWithoutRow.holds Tryd.pinned (OpenSpec.ofChange fnExactStrainWithoutWrong)

/-- 'laws.FnExactSuspectLeg': WHATEVER THE INPUT: true; the input reads as it did. -/
def fnExactSuspectLegSpec : ChangeSpec := { name := "fnExactSuspectLeg", vars := ["loop.example/g00933/impl.sines"], fn := fun _ => fun
  | [d, g1] => { results := [.lit (.bool true)], args := [d], vars := [g1] }
  | _ => none }
def fnExactSuspectLegRow : OpenClaim := { program := "ytjlkgijaceplcaadoor", sum := "b2371377c1f6e1be924e8682d664782d2be21857be3ffef4a0c5bf469082c0c6", func := "loop.example/g00933/laws.FnExactSuspectLeg", spec := "fnExactSuspectLeg", unfollowed := true, recurses := true, named := ["loop.example/g00933/impl.sines"], apart := false, laid := [("loop.example/g00933/impl.sines", laid_loop_example_g00933_impl_sines)] }
def FnExactSuspectLegSaid : Prop := fnExactSuspectLegRow.holds Tryd.pinned (OpenSpec.ofChange fnExactSuspectLegSpec)

/-- ITS FALSE NEIGHBOUR: 'it returns false'. Refute it at one input. -/
def fnExactSuspectLegWrong : ChangeSpec := { name := "fnExactSuspectLeg", vars := ["loop.example/g00933/impl.sines"], fn := fun _ => fun
  | [d, g1] => { results := [.lit (.bool false)], args := [d], vars := [g1] }
  | _ => none }
def FnExactSuspectLegWrongFalsely : Prop := fnExactSuspectLegRow.holds Tryd.pinned (OpenSpec.ofChange fnExactSuspectLegWrong)

/-- 'laws.FnExactFixLeg': WHATEVER THE INPUT: true; the input reads as it did. -/
def fnExactFixLegSpec : ChangeSpec := { name := "fnExactFixLeg", vars := ["loop.example/g00933/impl.sines"], fn := fun _ => fun
  | [d1, d2, d3, g1] => { results := [.lit (.bool true)], args := [d1, d2, d3], vars := [g1] }
  | _ => none }
def fnExactFixLegRow : OpenClaim := { program := "ytjlkgijaceplcaadoor", sum := "b2371377c1f6e1be924e8682d664782d2be21857be3ffef4a0c5bf469082c0c6", func := "loop.example/g00933/laws.FnExactFixLeg", spec := "fnExactFixLeg", recurses := true, named := ["loop.example/g00933/impl.sines"], apart := false, laid := [("loop.example/g00933/impl.sines", laid_loop_example_g00933_impl_sines)] }
def FnExactFixLegSaid : Prop := fnExactFixLegRow.holds Tryd.pinned (OpenSpec.ofChange fnExactFixLegSpec)

/-- ITS FALSE NEIGHBOUR: 'it returns false'. Refute it at one input. -/
def fnExactFixLegWrong : ChangeSpec := { name := "fnExactFixLeg", vars := ["loop.example/g00933/impl.sines"], fn := fun _ => fun
  | [d1, d2, d3, g1] => { results := [.lit (.bool false)], args := [d1, d2, d3], vars := [g1] }
  | _ => none }
def FnExactFixLegWrongFalsely : Prop := fnExactFixLegRow.holds Tryd.pinned (OpenSpec.ofChange fnExactFixLegWrong)

/-- 'laws.FnExactStrainAfter': WHATEVER THE INPUT: true; the input reads as it did. -/
def fnExactStrainAfterSpec : ChangeSpec := { name := "fnExactStrainAfter", vars := ["loop.example/g00933/impl.sines"], fn := fun _ => fun
  | [d1, d2, d3, g1] => { results := [.lit (.bool true)], args := [d1, d2, d3], vars := [g1] }
  | _ => none }
def fnExactStrainAfterRow : OpenClaim := { program := "ytjlkgijaceplcaadoor", sum := "b2371377c1f6e1be924e8682d664782d2be21857be3ffef4a0c5bf469082c0c6", func := "loop.example/g00933/laws.FnExactStrainAfter", spec := "fnExactStrainAfter", recurses := true, named := ["loop.example/g00933/impl.sines"], apart := false, laid := [("loop.example/g00933/impl.sines", laid_loop_example_g00933_impl_sines)] }
def FnExactStrainAfterSaid : Prop := fnExactStrainAfterRow.holds Tryd.pinned (OpenSpec.ofChange fnExactStrainAfterSpec)

/-- ITS FALSE NEIGHBOUR: 'it returns false'. Refute it at one input. -/
def fnExactStrainAfterWrong : ChangeSpec := { name := "fnExactStrainAfter", vars := ["loop.example/g00933/impl.sines"], fn := fun _ => fun
  | [d1, d2, d3, g1] => { results := [.lit (.bool false)], args := [d1, d2, d3], vars := [g1] }
  | _ => none }
def FnExactStrainAfterWrongFalsely : Prop := fnExactStrainAfterRow.holds Tryd.pinned (OpenSpec.ofChange fnExactStrainAfterWrong)

/-- 'laws.FnExactBestFix': WHATEVER THE INPUT: true; the input reads as it did. -/
def fnExactBestFixSpec : ChangeSpec := { name := "fnExactBestFix", vars := ["loop.example/g00933/impl.sines"], fn := fun _ => fun
  | [d, g1] => { results := [.lit (.bool true)], args := [d], vars := [g1] }
  | _ => none }
def fnExactBestFixRow : OpenClaim := { program := "ytjlkgijaceplcaadoor", sum := "b2371377c1f6e1be924e8682d664782d2be21857be3ffef4a0c5bf469082c0c6", func := "loop.example/g00933/laws.FnExactBestFix", spec := "fnExactBestFix", unfollowed := true, recurses := true, named := ["loop.example/g00933/impl.sines"], apart := false, laid := [("loop.example/g00933/impl.sines", laid_loop_example_g00933_impl_sines)] }
def FnExactBestFixSaid : Prop := fnExactBestFixRow.holds Tryd.pinned (OpenSpec.ofChange fnExactBestFixSpec)

/-- ITS FALSE NEIGHBOUR: 'it returns false'. Refute it at one input. -/
def fnExactBestFixWrong : ChangeSpec := { name := "fnExactBestFix", vars := ["loop.example/g00933/impl.sines"], fn := fun _ => fun
  | [d, g1] => { results := [.lit (.bool false)], args := [d], vars := [g1] }
  | _ => none }
def FnExactBestFixWrongFalsely : Prop := fnExactBestFixRow.holds Tryd.pinned (OpenSpec.ofChange fnExactBestFixWrong)

/-- 'laws.FnExactCompareStrains': WHATEVER THE INPUT: true; the input reads as it did. -/
def fnExactCompareStrainsSpec : ChangeSpec := { name := "fnExactCompareStrains", vars := ["loop.example/g00933/impl.sines"], fn := fun _ => fun
  | [d1, d2, g1] => { results := [.lit (.bool true)], args := [d1, d2], vars := [g1] }
  | _ => none }
def fnExactCompareStrainsRow : OpenClaim := { program := "ytjlkgijaceplcaadoor", sum := "b2371377c1f6e1be924e8682d664782d2be21857be3ffef4a0c5bf469082c0c6", func := "loop.example/g00933/laws.FnExactCompareStrains", spec := "fnExactCompareStrains", recurses := true, named := ["loop.example/g00933/impl.sines"], apart := false, laid := [("loop.example/g00933/impl.sines", laid_loop_example_g00933_impl_sines)] }
def FnExactCompareStrainsSaid : Prop := fnExactCompareStrainsRow.holds Tryd.pinned (OpenSpec.ofChange fnExactCompareStrainsSpec)

/-- ITS FALSE NEIGHBOUR: 'it returns false'. Refute it at one input. -/
def fnExactCompareStrainsWrong : ChangeSpec := { name := "fnExactCompareStrains", vars := ["loop.example/g00933/impl.sines"], fn := fun _ => fun
  | [d1, d2, g1] => { results := [.lit (.bool false)], args := [d1, d2], vars := [g1] }
  | _ => none }
def FnExactCompareStrainsWrongFalsely : Prop := fnExactCompareStrainsRow.holds Tryd.pinned (OpenSpec.ofChange fnExactCompareStrainsWrong)

/-- 'laws.FnExactCleanLegs': WHATEVER THE INPUT: true; the input reads as it did. -/
def fnExactCleanLegsSpec : ChangeSpec := { name := "fnExactCleanLegs", vars := ["loop.example/g00933/impl.sines"], fn := fun _ => fun
  | [d, g1] => { results := [.lit (.bool true)], args := [d], vars := [g1] }
  | _ => none }
def fnExactCleanLegsRow : OpenClaim := { program := "ytjlkgijaceplcaadoor", sum := "b2371377c1f6e1be924e8682d664782d2be21857be3ffef4a0c5bf469082c0c6", func := "loop.example/g00933/laws.FnExactCleanLegs", spec := "fnExactCleanLegs", unfollowed := true, recurses := true, named := ["loop.example/g00933/impl.sines"], apart := false, laid := [("loop.example/g00933/impl.sines", laid_loop_example_g00933_impl_sines)] }
def FnExactCleanLegsSaid : Prop := fnExactCleanLegsRow.holds Tryd.pinned (OpenSpec.ofChange fnExactCleanLegsSpec)

/-- ITS FALSE NEIGHBOUR: 'it returns false'. Refute it at one input. -/
def fnExactCleanLegsWrong : ChangeSpec := { name := "fnExactCleanLegs", vars := ["loop.example/g00933/impl.sines"], fn := fun _ => fun
  | [d, g1] => { results := [.lit (.bool false)], args := [d], vars := [g1] }
  | _ => none }
def FnExactCleanLegsWrongFalsely : Prop := fnExactCleanLegsRow.holds Tryd.pinned (OpenSpec.ofChange fnExactCleanLegsWrong)

/-- 'laws.FnExactTreeCount': WHATEVER THE INPUT: true; the input reads as it did. -/
def fnExactTreeCountSpec : ChangeSpec := { name := "fnExactTreeCount", vars := ["loop.example/g00933/impl.sines"], fn := fun _ => fun
  | [d, g1] => { results := [.lit (.bool true)], args := [d], vars := [g1] }
  | _ => none }
def fnExactTreeCountRow : OpenClaim := { program := "ytjlkgijaceplcaadoor", sum := "b2371377c1f6e1be924e8682d664782d2be21857be3ffef4a0c5bf469082c0c6", func := "loop.example/g00933/laws.FnExactTreeCount", spec := "fnExactTreeCount", recurses := true, named := ["loop.example/g00933/impl.sines"], apart := false, laid := [("loop.example/g00933/impl.sines", laid_loop_example_g00933_impl_sines)] }
def FnExactTreeCountSaid : Prop := fnExactTreeCountRow.holds Tryd.pinned (OpenSpec.ofChange fnExactTreeCountSpec)

/-- ITS FALSE NEIGHBOUR: 'it returns false'. Refute it at one input. -/
def fnExactTreeCountWrong : ChangeSpec := { name := "fnExactTreeCount", vars := ["loop.example/g00933/impl.sines"], fn := fun _ => fun
  | [d, g1] => { results := [.lit (.bool false)], args := [d], vars := [g1] }
  | _ => none }
def FnExactTreeCountWrongFalsely : Prop := fnExactTreeCountRow.holds Tryd.pinned (OpenSpec.ofChange fnExactTreeCountWrong)

/-- 'laws.FnExactAdjustAxis': WHATEVER THE INPUT: true; the input reads as it did. -/
def fnExactAdjustAxisSpec : ChangeSpec := { name := "fnExactAdjustAxis", vars := ["loop.example/g00933/impl.sines"], fn := fun _ => fun
  | [d1, d2, g1] => { results := [.lit (.bool true)], args := [d1, d2], vars := [g1] }
  | _ => none }
def fnExactAdjustAxisRow : OpenClaim := { program := "ytjlkgijaceplcaadoor", sum := "b2371377c1f6e1be924e8682d664782d2be21857be3ffef4a0c5bf469082c0c6", func := "loop.example/g00933/laws.FnExactAdjustAxis", spec := "fnExactAdjustAxis", recurses := true, named := ["loop.example/g00933/impl.sines"], apart := false, laid := [("loop.example/g00933/impl.sines", laid_loop_example_g00933_impl_sines)] }
def FnExactAdjustAxisSaid : Prop := fnExactAdjustAxisRow.holds Tryd.pinned (OpenSpec.ofChange fnExactAdjustAxisSpec)

/-- ITS FALSE NEIGHBOUR: 'it returns false'. Refute it at one input. -/
def fnExactAdjustAxisWrong : ChangeSpec := { name := "fnExactAdjustAxis", vars := ["loop.example/g00933/impl.sines"], fn := fun _ => fun
  | [d1, d2, g1] => { results := [.lit (.bool false)], args := [d1, d2], vars := [g1] }
  | _ => none }
def FnExactAdjustAxisWrongFalsely : Prop := fnExactAdjustAxisRow.holds Tryd.pinned (OpenSpec.ofChange fnExactAdjustAxisWrong)

/-- 'laws.FnExactSquareSum': WHATEVER THE INPUT: true; the input reads as it did. -/
def fnExactSquareSumSpec : ChangeSpec := { name := "fnExactSquareSum", vars := ["loop.example/g00933/impl.sines"], fn := fun _ => fun
  | [d1, d2, g1] => { results := [.lit (.bool true)], args := [d1, d2], vars := [g1] }
  | _ => none }
def fnExactSquareSumRow : OpenClaim := { program := "ytjlkgijaceplcaadoor", sum := "b2371377c1f6e1be924e8682d664782d2be21857be3ffef4a0c5bf469082c0c6", func := "loop.example/g00933/laws.FnExactSquareSum", spec := "fnExactSquareSum", recurses := true, named := ["loop.example/g00933/impl.sines"], apart := false, laid := [("loop.example/g00933/impl.sines", laid_loop_example_g00933_impl_sines)] }
def FnExactSquareSumSaid : Prop := fnExactSquareSumRow.holds Tryd.pinned (OpenSpec.ofChange fnExactSquareSumSpec)

/-- ITS FALSE NEIGHBOUR: 'it returns false'. Refute it at one input. -/
def fnExactSquareSumWrong : ChangeSpec := { name := "fnExactSquareSum", vars := ["loop.example/g00933/impl.sines"], fn := fun _ => fun
  | [d1, d2, g1] => { results := [.lit (.bool false)], args := [d1, d2], vars := [g1] }
  | _ => none }
def FnExactSquareSumWrongFalsely : Prop := fnExactSquareSumRow.holds Tryd.pinned (OpenSpec.ofChange fnExactSquareSumWrong)

/-- 'laws.FnExactBridgesOf': WHATEVER THE INPUT: true; the input reads as it did. -/
def fnExactBridgesOfSpec : ChangeSpec := { name := "fnExactBridgesOf", vars := ["loop.example/g00933/impl.sines"], fn := fun _ => fun
  | [d, g1] => { results := [.lit (.bool true)], args := [d], vars := [g1] }
  | _ => none }
def fnExactBridgesOfRow : OpenClaim := { program := "ytjlkgijaceplcaadoor", sum := "b2371377c1f6e1be924e8682d664782d2be21857be3ffef4a0c5bf469082c0c6", func := "loop.example/g00933/laws.FnExactBridgesOf", spec := "fnExactBridgesOf", recurses := true, named := ["loop.example/g00933/impl.sines"], apart := false, laid := [("loop.example/g00933/impl.sines", laid_loop_example_g00933_impl_sines)] }
def FnExactBridgesOfSaid : Prop := fnExactBridgesOfRow.holds Tryd.pinned (OpenSpec.ofChange fnExactBridgesOfSpec)

/-- ITS FALSE NEIGHBOUR: 'it returns false'. Refute it at one input. -/
def fnExactBridgesOfWrong : ChangeSpec := { name := "fnExactBridgesOf", vars := ["loop.example/g00933/impl.sines"], fn := fun _ => fun
  | [d, g1] => { results := [.lit (.bool false)], args := [d], vars := [g1] }
  | _ => none }
def FnExactBridgesOfWrongFalsely : Prop := fnExactBridgesOfRow.holds Tryd.pinned (OpenSpec.ofChange fnExactBridgesOfWrong)

/- THE SECOND FORM. 'bulk': how many values and letters a reading holds, each counted each time it is reached (what is shared counts as often as it is met; a slice's spare places count too). A statement '..UptoSaid' is the law's where the arguments, and the package variables that the reading takes, are together of bulk at most 1048576: NARROWER than '..Said'. Prove '..Said' where nothing that the law and all that it calls make is longer than what came in: it says more and counts as full. Else prove '..UptoSaid'. A law counts once. -/
mutual
def uptoBulk {H : Type} : DataW H → Nat
  | .lit (.string bytes) => bytes.length + 1
  | .lit _ => 1
  | .nil => 1
  | .ptr d => uptoBulk d + 1
  | .slice elems spare => uptoBulkAll elems + uptoBulkAll spare + 1
  | .agg parts => uptoBulkAll parts + 1
  | .iface _ d => uptoBulk d + 1
  | .map entries => uptoBulkEntries entries + 1
  | .held _ => 1
def uptoBulkAll {H : Type} : List (DataW H) → Nat
  | [] => 0
  | d :: r => uptoBulk d + uptoBulkAll r
def uptoBulkEntries {H : Type} : List (Lit × DataW H) → Nat
  | [] => 0
  | x :: r => uptoBulkEntry x + uptoBulkEntries r
def uptoBulkEntry {H : Type} : Lit × DataW H → Nat
  | (.string bytes, d) => bytes.length + uptoBulk d + 1
  | (_, d) => uptoBulk d + 1
 end
def uptoSmall : (H : Type) → List (DataW H) → Bool := fun _ ds => decide (uptoBulkAll ds ≤ 1048576)
def OpenSpec.upto (s : _root_.Go.ChangeSpec) : _root_.Go.OpenSpec := { _root_.Go.OpenSpec.ofChange s with cond := some uptoSmall }

/-- 'laws.FnExactStrainOf', WHERE WHAT IT READS IS OF BULK AT MOST 1048576: true; the input reads as it did. -/
def fnExactStrainOfUptoRow : OpenClaim := { program := "ytjlkgijaceplcaadoor", sum := "b2371377c1f6e1be924e8682d664782d2be21857be3ffef4a0c5bf469082c0c6", func := "loop.example/g00933/laws.FnExactStrainOf", spec := "fnExactStrainOf", recurses := true, named := ["loop.example/g00933/impl.sines"], apart := false, laid := [("loop.example/g00933/impl.sines", laid_loop_example_g00933_impl_sines)], narrowed := true }
def FnExactStrainOfUptoSaid : Prop := fnExactStrainOfUptoRow.holds Tryd.pinned (OpenSpec.upto fnExactStrainOfSpec)

/-- 'laws.FnExactStrainWithout', WHERE WHAT IT READS IS OF BULK AT MOST 1048576: true; the input reads as it did. -/
def fnExactStrainWithoutUptoRow : OpenClaim := { program := "ytjlkgijaceplcaadoor", sum := "b2371377c1f6e1be924e8682d664782d2be21857be3ffef4a0c5bf469082c0c6", func := "loop.example/g00933/laws.FnExactStrainWithout", spec := "fnExactStrainWithout", recurses := true, named := ["loop.example/g00933/impl.sines"], apart := false, laid := [("loop.example/g00933/impl.sines", laid_loop_example_g00933_impl_sines)], narrowed := true }
def FnExactStrainWithoutUptoSaid : Prop := fnExactStrainWithoutUptoRow.holds Tryd.pinned (OpenSpec.upto fnExactStrainWithoutSpec)

/-- 'laws.FnExactSuspectLeg', WHERE WHAT IT READS IS OF BULK AT MOST 1048576: true; the input reads as it did. -/
def fnExactSuspectLegUptoRow : OpenClaim := { program := "ytjlkgijaceplcaadoor", sum := "b2371377c1f6e1be924e8682d664782d2be21857be3ffef4a0c5bf469082c0c6", func := "loop.example/g00933/laws.FnExactSuspectLeg", spec := "fnExactSuspectLeg", unfollowed := true, recurses := true, named := ["loop.example/g00933/impl.sines"], apart := false, laid := [("loop.example/g00933/impl.sines", laid_loop_example_g00933_impl_sines)], narrowed := true }
def FnExactSuspectLegUptoSaid : Prop := fnExactSuspectLegUptoRow.holds Tryd.pinned (OpenSpec.upto fnExactSuspectLegSpec)

/-- 'laws.FnExactFixLeg', WHERE WHAT IT READS IS OF BULK AT MOST 1048576: true; the input reads as it did. -/
def fnExactFixLegUptoRow : OpenClaim := { program := "ytjlkgijaceplcaadoor", sum := "b2371377c1f6e1be924e8682d664782d2be21857be3ffef4a0c5bf469082c0c6", func := "loop.example/g00933/laws.FnExactFixLeg", spec := "fnExactFixLeg", recurses := true, named := ["loop.example/g00933/impl.sines"], apart := false, laid := [("loop.example/g00933/impl.sines", laid_loop_example_g00933_impl_sines)], narrowed := true }
def FnExactFixLegUptoSaid : Prop := fnExactFixLegUptoRow.holds Tryd.pinned (OpenSpec.upto fnExactFixLegSpec)

/-- 'laws.FnExactStrainAfter', WHERE WHAT IT READS IS OF BULK AT MOST 1048576: true; the input reads as it did. -/
def fnExactStrainAfterUptoRow : OpenClaim := { program := "ytjlkgijaceplcaadoor", sum := "b2371377c1f6e1be924e8682d664782d2be21857be3ffef4a0c5bf469082c0c6", func := "loop.example/g00933/laws.FnExactStrainAfter", spec := "fnExactStrainAfter", recurses := true, named := ["loop.example/g00933/impl.sines"], apart := false, laid := [("loop.example/g00933/impl.sines", laid_loop_example_g00933_impl_sines)], narrowed := true }
def FnExactStrainAfterUptoSaid : Prop := fnExactStrainAfterUptoRow.holds Tryd.pinned (OpenSpec.upto fnExactStrainAfterSpec)

/-- 'laws.FnExactBestFix', WHERE WHAT IT READS IS OF BULK AT MOST 1048576: true; the input reads as it did. -/
def fnExactBestFixUptoRow : OpenClaim := { program := "ytjlkgijaceplcaadoor", sum := "b2371377c1f6e1be924e8682d664782d2be21857be3ffef4a0c5bf469082c0c6", func := "loop.example/g00933/laws.FnExactBestFix", spec := "fnExactBestFix", unfollowed := true, recurses := true, named := ["loop.example/g00933/impl.sines"], apart := false, laid := [("loop.example/g00933/impl.sines", laid_loop_example_g00933_impl_sines)], narrowed := true }
def FnExactBestFixUptoSaid : Prop := fnExactBestFixUptoRow.holds Tryd.pinned (OpenSpec.upto fnExactBestFixSpec)

/-- 'laws.FnExactCompareStrains', WHERE WHAT IT READS IS OF BULK AT MOST 1048576: true; the input reads as it did. -/
def fnExactCompareStrainsUptoRow : OpenClaim := { program := "ytjlkgijaceplcaadoor", sum := "b2371377c1f6e1be924e8682d664782d2be21857be3ffef4a0c5bf469082c0c6", func := "loop.example/g00933/laws.FnExactCompareStrains", spec := "fnExactCompareStrains", recurses := true, named := ["loop.example/g00933/impl.sines"], apart := false, laid := [("loop.example/g00933/impl.sines", laid_loop_example_g00933_impl_sines)], narrowed := true }
def FnExactCompareStrainsUptoSaid : Prop := fnExactCompareStrainsUptoRow.holds Tryd.pinned (OpenSpec.upto fnExactCompareStrainsSpec)

/-- 'laws.FnExactCleanLegs', WHERE WHAT IT READS IS OF BULK AT MOST 1048576: true; the input reads as it did. -/
def fnExactCleanLegsUptoRow : OpenClaim := { program := "ytjlkgijaceplcaadoor", sum := "b2371377c1f6e1be924e8682d664782d2be21857be3ffef4a0c5bf469082c0c6", func := "loop.example/g00933/laws.FnExactCleanLegs", spec := "fnExactCleanLegs", unfollowed := true, recurses := true, named := ["loop.example/g00933/impl.sines"], apart := false, laid := [("loop.example/g00933/impl.sines", laid_loop_example_g00933_impl_sines)], narrowed := true }
def FnExactCleanLegsUptoSaid : Prop := fnExactCleanLegsUptoRow.holds Tryd.pinned (OpenSpec.upto fnExactCleanLegsSpec)

/-- 'laws.FnExactTreeCount', WHERE WHAT IT READS IS OF BULK AT MOST 1048576: true; the input reads as it did. -/
def fnExactTreeCountUptoRow : OpenClaim := { program := "ytjlkgijaceplcaadoor", sum := "b2371377c1f6e1be924e8682d664782d2be21857be3ffef4a0c5bf469082c0c6", func := "loop.example/g00933/laws.FnExactTreeCount", spec := "fnExactTreeCount", recurses := true, named := ["loop.example/g00933/impl.sines"], apart := false, laid := [("loop.example/g00933/impl.sines", laid_loop_example_g00933_impl_sines)], narrowed := true }
def FnExactTreeCountUptoSaid : Prop := fnExactTreeCountUptoRow.holds Tryd.pinned (OpenSpec.upto fnExactTreeCountSpec)

/-- 'laws.FnExactAdjustAxis', WHERE WHAT IT READS IS OF BULK AT MOST 1048576: true; the input reads as it did. -/
def fnExactAdjustAxisUptoRow : OpenClaim := { program := "ytjlkgijaceplcaadoor", sum := "b2371377c1f6e1be924e8682d664782d2be21857be3ffef4a0c5bf469082c0c6", func := "loop.example/g00933/laws.FnExactAdjustAxis", spec := "fnExactAdjustAxis", recurses := true, named := ["loop.example/g00933/impl.sines"], apart := false, laid := [("loop.example/g00933/impl.sines", laid_loop_example_g00933_impl_sines)], narrowed := true }
def FnExactAdjustAxisUptoSaid : Prop := fnExactAdjustAxisUptoRow.holds Tryd.pinned (OpenSpec.upto fnExactAdjustAxisSpec)

/-- 'laws.FnExactSquareSum', WHERE WHAT IT READS IS OF BULK AT MOST 1048576: true; the input reads as it did. -/
def fnExactSquareSumUptoRow : OpenClaim := { program := "ytjlkgijaceplcaadoor", sum := "b2371377c1f6e1be924e8682d664782d2be21857be3ffef4a0c5bf469082c0c6", func := "loop.example/g00933/laws.FnExactSquareSum", spec := "fnExactSquareSum", recurses := true, named := ["loop.example/g00933/impl.sines"], apart := false, laid := [("loop.example/g00933/impl.sines", laid_loop_example_g00933_impl_sines)], narrowed := true }
def FnExactSquareSumUptoSaid : Prop := fnExactSquareSumUptoRow.holds Tryd.pinned (OpenSpec.upto fnExactSquareSumSpec)

/-- 'laws.FnExactBridgesOf', WHERE WHAT IT READS IS OF BULK AT MOST 1048576: true; the input reads as it did. -/
def fnExactBridgesOfUptoRow : OpenClaim := { program := "ytjlkgijaceplcaadoor", sum := "b2371377c1f6e1be924e8682d664782d2be21857be3ffef4a0c5bf469082c0c6", func := "loop.example/g00933/laws.FnExactBridgesOf", spec := "fnExactBridgesOf", recurses := true, named := ["loop.example/g00933/impl.sines"], apart := false, laid := [("loop.example/g00933/impl.sines", laid_loop_example_g00933_impl_sines)], narrowed := true }
def FnExactBridgesOfUptoSaid : Prop := fnExactBridgesOfUptoRow.holds Tryd.pinned (OpenSpec.upto fnExactBridgesOfSpec)

end Rows
end Go.Proofs.YtjlkgijaceplcaaDoor
