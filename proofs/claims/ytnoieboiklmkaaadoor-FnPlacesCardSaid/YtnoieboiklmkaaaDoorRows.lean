/-
  NARROWER THAN 'FOR EVERY INPUT', by the rows' own cells (each row's printed sentence says how): FnExactPlacedStations: laid · FnExactPlaceOf: laid · FnExactTreeLegs: laid · FnExactClosingLegs: laid · FnExactErrorOf: laid · FnExactDepthOf: laid · FnExactExtentOf: laid · FnExactDeepestStation: laid · FnExactStationsWithin: laid · FnPlaces: laid · FnExtents: laid.
  DERIVED. THE GIVEN ROWS OF THIS SEAT. 11 by the template 'for every input the law returns true; each argument reads behind the call as it read before'; 0 by the template 'total and deterministic' (their statements: YtnoieboiklmkaaaDoorTotals.lean).
  GIVEN WITH THE SEED: the statements are not yours to turn. If you find one false, say at which input.
  Laid BY PROGRAM, IN A SANDBOX (cutbox-rows.mjs): the forced cells as the released guide's own fill.sh prints them over the translation f96639f373b8ed48… (all of the seat's roots in one cut). By AI agents, Wed Nov 11 2026. No macro, syntax, notation, axiom, sorry.
-/
import Derived.Test.YtnoieboiklmkaaaDoorChecked
import GoSem.Claim
import GoSem.ClaimJoined
import GoSem.ClaimMapViews
import Derived.JoinedTies
import Derived.KernelRfl
namespace Go.Proofs.YtnoieboiklmkaaaDoor
/- THE CELL 'sum', in the pinned program and in every row, IS THE sha256 OF THE DUMP (.gsa) THAT YtnoieboiklmkaaaDoorProg.lean LOADS. Nothing in Lean hashes anything: it is a label: what it is worth is what the hold of that sum in a sandbox is worth. -/
noncomputable def Tryd.pinned : Pinned := { name := "ytnoieboiklmkaaadoor", sum := "f96639f373b8ed48461ad8ccc973c3ffbf2a327b1201349ed5ff9e8216314e7c", checked := Tryd.checked }
namespace Rows
def none {H : Type} : Left H := { results := [], args := [] }

/- WHAT THE LISTED PACKAGE-LEVEL VARIABLES READ AS WHEN THE CALL BEGINS. Each datum BY PROGRAM (the guide's laid-datum.mjs) off the statement by which the dump's own 'gosem.cut.vars' lays the variable. In a bare row this is a premise. The card (YtnoieboiklmkaaaDoorCards.lean) ties it to the program's text. -/
def laid_loop_example_g00933_impl_sines {H : Type} : DataW H := .agg [.lit (.int .i64 0), .lit (.int .i64 17), .lit (.int .i64 35), .lit (.int .i64 52), .lit (.int .i64 70), .lit (.int .i64 87), .lit (.int .i64 105), .lit (.int .i64 122), .lit (.int .i64 139), .lit (.int .i64 156), .lit (.int .i64 174), .lit (.int .i64 191), .lit (.int .i64 208), .lit (.int .i64 225), .lit (.int .i64 242), .lit (.int .i64 259), .lit (.int .i64 276), .lit (.int .i64 292), .lit (.int .i64 309), .lit (.int .i64 326), .lit (.int .i64 342), .lit (.int .i64 358), .lit (.int .i64 375), .lit (.int .i64 391), .lit (.int .i64 407), .lit (.int .i64 423), .lit (.int .i64 438), .lit (.int .i64 454), .lit (.int .i64 469), .lit (.int .i64 485), .lit (.int .i64 500), .lit (.int .i64 515), .lit (.int .i64 530), .lit (.int .i64 545), .lit (.int .i64 559), .lit (.int .i64 574), .lit (.int .i64 588), .lit (.int .i64 602), .lit (.int .i64 616), .lit (.int .i64 629), .lit (.int .i64 643), .lit (.int .i64 656), .lit (.int .i64 669), .lit (.int .i64 682), .lit (.int .i64 695), .lit (.int .i64 707), .lit (.int .i64 719), .lit (.int .i64 731), .lit (.int .i64 743), .lit (.int .i64 755), .lit (.int .i64 766), .lit (.int .i64 777), .lit (.int .i64 788), .lit (.int .i64 799), .lit (.int .i64 809), .lit (.int .i64 819), .lit (.int .i64 829), .lit (.int .i64 839), .lit (.int .i64 848), .lit (.int .i64 857), .lit (.int .i64 866), .lit (.int .i64 875), .lit (.int .i64 883), .lit (.int .i64 891), .lit (.int .i64 899), .lit (.int .i64 906), .lit (.int .i64 914), .lit (.int .i64 921), .lit (.int .i64 927), .lit (.int .i64 934), .lit (.int .i64 940), .lit (.int .i64 946), .lit (.int .i64 951), .lit (.int .i64 956), .lit (.int .i64 961), .lit (.int .i64 966), .lit (.int .i64 970), .lit (.int .i64 974), .lit (.int .i64 978), .lit (.int .i64 982), .lit (.int .i64 985), .lit (.int .i64 988), .lit (.int .i64 990), .lit (.int .i64 993), .lit (.int .i64 995), .lit (.int .i64 996), .lit (.int .i64 998), .lit (.int .i64 999), .lit (.int .i64 999), .lit (.int .i64 1000), .lit (.int .i64 1000)]

/-- 'laws.FnExactPlacedStations': WHATEVER THE INPUT: true; the input reads as it did. -/
def fnExactPlacedStationsSpec : ChangeSpec := { name := "fnExactPlacedStations", vars := ["loop.example/g00933/impl.sines"], fn := fun _ => fun
  | [d, g1] => { results := [.lit (.bool true)], args := [d], vars := [g1] }
  | _ => none }
def fnExactPlacedStationsRow : OpenClaim := { program := "ytnoieboiklmkaaadoor", sum := "f96639f373b8ed48461ad8ccc973c3ffbf2a327b1201349ed5ff9e8216314e7c", func := "loop.example/g00933/laws.FnExactPlacedStations", spec := "fnExactPlacedStations", recurses := true, named := ["loop.example/g00933/impl.sines"], apart := false, laid := [("loop.example/g00933/impl.sines", laid_loop_example_g00933_impl_sines)] }
def FnExactPlacedStationsSaid : Prop := fnExactPlacedStationsRow.holds Tryd.pinned (OpenSpec.ofChange fnExactPlacedStationsSpec)

/-- ITS FALSE NEIGHBOUR: 'it returns false'. Refute it at one input. -/
def fnExactPlacedStationsWrong : ChangeSpec := { name := "fnExactPlacedStations", vars := ["loop.example/g00933/impl.sines"], fn := fun _ => fun
  | [d, g1] => { results := [.lit (.bool false)], args := [d], vars := [g1] }
  | _ => none }
def FnExactPlacedStationsWrongFalsely : Prop := fnExactPlacedStationsRow.holds Tryd.pinned (OpenSpec.ofChange fnExactPlacedStationsWrong)

/-- 'laws.FnExactPlaceOf': WHATEVER THE INPUT: true; the input reads as it did. -/
def fnExactPlaceOfSpec : ChangeSpec := { name := "fnExactPlaceOf", vars := ["loop.example/g00933/impl.sines"], fn := fun _ => fun
  | [d1, d2, g1] => { results := [.lit (.bool true)], args := [d1, d2], vars := [g1] }
  | _ => none }
def fnExactPlaceOfRow : OpenClaim := { program := "ytnoieboiklmkaaadoor", sum := "f96639f373b8ed48461ad8ccc973c3ffbf2a327b1201349ed5ff9e8216314e7c", func := "loop.example/g00933/laws.FnExactPlaceOf", spec := "fnExactPlaceOf", recurses := true, named := ["loop.example/g00933/impl.sines"], apart := false, laid := [("loop.example/g00933/impl.sines", laid_loop_example_g00933_impl_sines)] }
def FnExactPlaceOfSaid : Prop := fnExactPlaceOfRow.holds Tryd.pinned (OpenSpec.ofChange fnExactPlaceOfSpec)

/-- ITS FALSE NEIGHBOUR: 'it returns false'. Refute it at one input. -/
def fnExactPlaceOfWrong : ChangeSpec := { name := "fnExactPlaceOf", vars := ["loop.example/g00933/impl.sines"], fn := fun _ => fun
  | [d1, d2, g1] => { results := [.lit (.bool false)], args := [d1, d2], vars := [g1] }
  | _ => none }
def FnExactPlaceOfWrongFalsely : Prop := fnExactPlaceOfRow.holds Tryd.pinned (OpenSpec.ofChange fnExactPlaceOfWrong)

/-- 'laws.FnExactTreeLegs': WHATEVER THE INPUT: true; the input reads as it did. -/
def fnExactTreeLegsSpec : ChangeSpec := { name := "fnExactTreeLegs", vars := ["loop.example/g00933/impl.sines"], fn := fun _ => fun
  | [d, g1] => { results := [.lit (.bool true)], args := [d], vars := [g1] }
  | _ => none }
def fnExactTreeLegsRow : OpenClaim := { program := "ytnoieboiklmkaaadoor", sum := "f96639f373b8ed48461ad8ccc973c3ffbf2a327b1201349ed5ff9e8216314e7c", func := "loop.example/g00933/laws.FnExactTreeLegs", spec := "fnExactTreeLegs", recurses := true, named := ["loop.example/g00933/impl.sines"], apart := false, laid := [("loop.example/g00933/impl.sines", laid_loop_example_g00933_impl_sines)] }
def FnExactTreeLegsSaid : Prop := fnExactTreeLegsRow.holds Tryd.pinned (OpenSpec.ofChange fnExactTreeLegsSpec)

/-- ITS FALSE NEIGHBOUR: 'it returns false'. Refute it at one input. -/
def fnExactTreeLegsWrong : ChangeSpec := { name := "fnExactTreeLegs", vars := ["loop.example/g00933/impl.sines"], fn := fun _ => fun
  | [d, g1] => { results := [.lit (.bool false)], args := [d], vars := [g1] }
  | _ => none }
def FnExactTreeLegsWrongFalsely : Prop := fnExactTreeLegsRow.holds Tryd.pinned (OpenSpec.ofChange fnExactTreeLegsWrong)

/-- 'laws.FnExactClosingLegs': WHATEVER THE INPUT: true; the input reads as it did. -/
def fnExactClosingLegsSpec : ChangeSpec := { name := "fnExactClosingLegs", vars := ["loop.example/g00933/impl.sines"], fn := fun _ => fun
  | [d, g1] => { results := [.lit (.bool true)], args := [d], vars := [g1] }
  | _ => none }
def fnExactClosingLegsRow : OpenClaim := { program := "ytnoieboiklmkaaadoor", sum := "f96639f373b8ed48461ad8ccc973c3ffbf2a327b1201349ed5ff9e8216314e7c", func := "loop.example/g00933/laws.FnExactClosingLegs", spec := "fnExactClosingLegs", recurses := true, named := ["loop.example/g00933/impl.sines"], apart := false, laid := [("loop.example/g00933/impl.sines", laid_loop_example_g00933_impl_sines)] }
def FnExactClosingLegsSaid : Prop := fnExactClosingLegsRow.holds Tryd.pinned (OpenSpec.ofChange fnExactClosingLegsSpec)

/-- ITS FALSE NEIGHBOUR: 'it returns false'. Refute it at one input. -/
def fnExactClosingLegsWrong : ChangeSpec := { name := "fnExactClosingLegs", vars := ["loop.example/g00933/impl.sines"], fn := fun _ => fun
  | [d, g1] => { results := [.lit (.bool false)], args := [d], vars := [g1] }
  | _ => none }
def FnExactClosingLegsWrongFalsely : Prop := fnExactClosingLegsRow.holds Tryd.pinned (OpenSpec.ofChange fnExactClosingLegsWrong)

/-- 'laws.FnExactErrorOf': WHATEVER THE INPUT: true; the input reads as it did. -/
def fnExactErrorOfSpec : ChangeSpec := { name := "fnExactErrorOf", vars := ["loop.example/g00933/impl.sines"], fn := fun _ => fun
  | [d1, d2, g1] => { results := [.lit (.bool true)], args := [d1, d2], vars := [g1] }
  | _ => none }
def fnExactErrorOfRow : OpenClaim := { program := "ytnoieboiklmkaaadoor", sum := "f96639f373b8ed48461ad8ccc973c3ffbf2a327b1201349ed5ff9e8216314e7c", func := "loop.example/g00933/laws.FnExactErrorOf", spec := "fnExactErrorOf", recurses := true, named := ["loop.example/g00933/impl.sines"], apart := false, laid := [("loop.example/g00933/impl.sines", laid_loop_example_g00933_impl_sines)] }
def FnExactErrorOfSaid : Prop := fnExactErrorOfRow.holds Tryd.pinned (OpenSpec.ofChange fnExactErrorOfSpec)

/-- ITS FALSE NEIGHBOUR: 'it returns false'. Refute it at one input. -/
def fnExactErrorOfWrong : ChangeSpec := { name := "fnExactErrorOf", vars := ["loop.example/g00933/impl.sines"], fn := fun _ => fun
  | [d1, d2, g1] => { results := [.lit (.bool false)], args := [d1, d2], vars := [g1] }
  | _ => none }
def FnExactErrorOfWrongFalsely : Prop := fnExactErrorOfRow.holds Tryd.pinned (OpenSpec.ofChange fnExactErrorOfWrong)

/-- 'laws.FnExactDepthOf': WHATEVER THE INPUT: true; the input reads as it did. -/
def fnExactDepthOfSpec : ChangeSpec := { name := "fnExactDepthOf", vars := ["loop.example/g00933/impl.sines"], fn := fun _ => fun
  | [d, g1] => { results := [.lit (.bool true)], args := [d], vars := [g1] }
  | _ => none }
def fnExactDepthOfRow : OpenClaim := { program := "ytnoieboiklmkaaadoor", sum := "f96639f373b8ed48461ad8ccc973c3ffbf2a327b1201349ed5ff9e8216314e7c", func := "loop.example/g00933/laws.FnExactDepthOf", spec := "fnExactDepthOf", recurses := true, named := ["loop.example/g00933/impl.sines"], apart := false, laid := [("loop.example/g00933/impl.sines", laid_loop_example_g00933_impl_sines)] }
def FnExactDepthOfSaid : Prop := fnExactDepthOfRow.holds Tryd.pinned (OpenSpec.ofChange fnExactDepthOfSpec)

/-- ITS FALSE NEIGHBOUR: 'it returns false'. Refute it at one input. -/
def fnExactDepthOfWrong : ChangeSpec := { name := "fnExactDepthOf", vars := ["loop.example/g00933/impl.sines"], fn := fun _ => fun
  | [d, g1] => { results := [.lit (.bool false)], args := [d], vars := [g1] }
  | _ => none }
def FnExactDepthOfWrongFalsely : Prop := fnExactDepthOfRow.holds Tryd.pinned (OpenSpec.ofChange fnExactDepthOfWrong)

/-- 'laws.FnExactExtentOf': WHATEVER THE INPUT: true; the input reads as it did. -/
def fnExactExtentOfSpec : ChangeSpec := { name := "fnExactExtentOf", vars := ["loop.example/g00933/impl.sines"], fn := fun _ => fun
  | [d, g1] => { results := [.lit (.bool true)], args := [d], vars := [g1] }
  | _ => none }
def fnExactExtentOfRow : OpenClaim := { program := "ytnoieboiklmkaaadoor", sum := "f96639f373b8ed48461ad8ccc973c3ffbf2a327b1201349ed5ff9e8216314e7c", func := "loop.example/g00933/laws.FnExactExtentOf", spec := "fnExactExtentOf", recurses := true, named := ["loop.example/g00933/impl.sines"], apart := false, laid := [("loop.example/g00933/impl.sines", laid_loop_example_g00933_impl_sines)] }
def FnExactExtentOfSaid : Prop := fnExactExtentOfRow.holds Tryd.pinned (OpenSpec.ofChange fnExactExtentOfSpec)

/-- ITS FALSE NEIGHBOUR: 'it returns false'. Refute it at one input. -/
def fnExactExtentOfWrong : ChangeSpec := { name := "fnExactExtentOf", vars := ["loop.example/g00933/impl.sines"], fn := fun _ => fun
  | [d, g1] => { results := [.lit (.bool false)], args := [d], vars := [g1] }
  | _ => none }
def FnExactExtentOfWrongFalsely : Prop := fnExactExtentOfRow.holds Tryd.pinned (OpenSpec.ofChange fnExactExtentOfWrong)

/-- 'laws.FnExactDeepestStation': WHATEVER THE INPUT: true; the input reads as it did. -/
def fnExactDeepestStationSpec : ChangeSpec := { name := "fnExactDeepestStation", vars := ["loop.example/g00933/impl.sines"], fn := fun _ => fun
  | [d, g1] => { results := [.lit (.bool true)], args := [d], vars := [g1] }
  | _ => none }
def fnExactDeepestStationRow : OpenClaim := { program := "ytnoieboiklmkaaadoor", sum := "f96639f373b8ed48461ad8ccc973c3ffbf2a327b1201349ed5ff9e8216314e7c", func := "loop.example/g00933/laws.FnExactDeepestStation", spec := "fnExactDeepestStation", recurses := true, named := ["loop.example/g00933/impl.sines"], apart := false, laid := [("loop.example/g00933/impl.sines", laid_loop_example_g00933_impl_sines)] }
def FnExactDeepestStationSaid : Prop := fnExactDeepestStationRow.holds Tryd.pinned (OpenSpec.ofChange fnExactDeepestStationSpec)

/-- ITS FALSE NEIGHBOUR: 'it returns false'. Refute it at one input. -/
def fnExactDeepestStationWrong : ChangeSpec := { name := "fnExactDeepestStation", vars := ["loop.example/g00933/impl.sines"], fn := fun _ => fun
  | [d, g1] => { results := [.lit (.bool false)], args := [d], vars := [g1] }
  | _ => none }
def FnExactDeepestStationWrongFalsely : Prop := fnExactDeepestStationRow.holds Tryd.pinned (OpenSpec.ofChange fnExactDeepestStationWrong)

/-- 'laws.FnExactStationsWithin': WHATEVER THE INPUT: true; the input reads as it did. -/
def fnExactStationsWithinSpec : ChangeSpec := { name := "fnExactStationsWithin", vars := ["loop.example/g00933/impl.sines"], fn := fun _ => fun
  | [d1, d2, d3, g1] => { results := [.lit (.bool true)], args := [d1, d2, d3], vars := [g1] }
  | _ => none }
def fnExactStationsWithinRow : OpenClaim := { program := "ytnoieboiklmkaaadoor", sum := "f96639f373b8ed48461ad8ccc973c3ffbf2a327b1201349ed5ff9e8216314e7c", func := "loop.example/g00933/laws.FnExactStationsWithin", spec := "fnExactStationsWithin", recurses := true, named := ["loop.example/g00933/impl.sines"], apart := false, laid := [("loop.example/g00933/impl.sines", laid_loop_example_g00933_impl_sines)] }
def FnExactStationsWithinSaid : Prop := fnExactStationsWithinRow.holds Tryd.pinned (OpenSpec.ofChange fnExactStationsWithinSpec)

/-- ITS FALSE NEIGHBOUR: 'it returns false'. Refute it at one input. -/
def fnExactStationsWithinWrong : ChangeSpec := { name := "fnExactStationsWithin", vars := ["loop.example/g00933/impl.sines"], fn := fun _ => fun
  | [d1, d2, d3, g1] => { results := [.lit (.bool false)], args := [d1, d2, d3], vars := [g1] }
  | _ => none }
def FnExactStationsWithinWrongFalsely : Prop := fnExactStationsWithinRow.holds Tryd.pinned (OpenSpec.ofChange fnExactStationsWithinWrong)

/-- 'laws.FnPlaces': WHATEVER THE INPUT: true; the input reads as it did. -/
def fnPlacesSpec : ChangeSpec := { name := "fnPlaces", vars := ["loop.example/g00933/impl.sines"], fn := fun _ => fun
  | [d, g1] => { results := [.lit (.bool true)], args := [d], vars := [g1] }
  | _ => none }
def fnPlacesRow : OpenClaim := { program := "ytnoieboiklmkaaadoor", sum := "f96639f373b8ed48461ad8ccc973c3ffbf2a327b1201349ed5ff9e8216314e7c", func := "loop.example/g00933/laws.FnPlaces", spec := "fnPlaces", recurses := true, named := ["loop.example/g00933/impl.sines"], apart := false, laid := [("loop.example/g00933/impl.sines", laid_loop_example_g00933_impl_sines)] }
def FnPlacesSaid : Prop := fnPlacesRow.holds Tryd.pinned (OpenSpec.ofChange fnPlacesSpec)

/-- ITS FALSE NEIGHBOUR: 'it returns false'. Refute it at one input. -/
def fnPlacesWrong : ChangeSpec := { name := "fnPlaces", vars := ["loop.example/g00933/impl.sines"], fn := fun _ => fun
  | [d, g1] => { results := [.lit (.bool false)], args := [d], vars := [g1] }
  | _ => none }
def FnPlacesWrongFalsely : Prop := fnPlacesRow.holds Tryd.pinned (OpenSpec.ofChange fnPlacesWrong)

/-- 'laws.FnExtents': WHATEVER THE INPUT: true; the input reads as it did. -/
def fnExtentsSpec : ChangeSpec := { name := "fnExtents", vars := ["loop.example/g00933/impl.sines"], fn := fun _ => fun
  | [d, g1] => { results := [.lit (.bool true)], args := [d], vars := [g1] }
  | _ => none }
def fnExtentsRow : OpenClaim := { program := "ytnoieboiklmkaaadoor", sum := "f96639f373b8ed48461ad8ccc973c3ffbf2a327b1201349ed5ff9e8216314e7c", func := "loop.example/g00933/laws.FnExtents", spec := "fnExtents", recurses := true, named := ["loop.example/g00933/impl.sines"], apart := false, laid := [("loop.example/g00933/impl.sines", laid_loop_example_g00933_impl_sines)] }
def FnExtentsSaid : Prop := fnExtentsRow.holds Tryd.pinned (OpenSpec.ofChange fnExtentsSpec)

/-- ITS FALSE NEIGHBOUR: 'it returns false'. Refute it at one input. -/
def fnExtentsWrong : ChangeSpec := { name := "fnExtents", vars := ["loop.example/g00933/impl.sines"], fn := fun _ => fun
  | [d, g1] => { results := [.lit (.bool false)], args := [d], vars := [g1] }
  | _ => none }
def FnExtentsWrongFalsely : Prop := fnExtentsRow.holds Tryd.pinned (OpenSpec.ofChange fnExtentsWrong)

/- THE SECOND FORM. 'bulk': how many values and letters a reading holds, each counted each time it is reached (what is shared counts as often as it is met; a slice's spare places count too). A statement '..UptoSaid' is the law's where the arguments, and the package variables that the reading takes, are together of bulk at most 1048576: NARROWER than '..Said'. Prove '..Said' where nothing that the law and all that it calls make is longer than what came in: it says more and counts as full. Else prove '..UptoSaid'. A law counts once. -/
mutual
def uptoBulk {H : Type} : DataW H → Nat
  | .lit (.string bytes) => bytes.length + 1
  | .lit _ => 1
  | .nil => 1
  | .ptr d => uptoBulk d + 1
  | .slice elems spare => uptoBulkAll elems + uptoBulkAll spare + 1
  | .agg parts => uptoBulkAll parts + 1
  | .iface _ d => uptoBulk d + 1
  | .map entries => uptoBulkEntries entries + 1
  | .held _ => 1
def uptoBulkAll {H : Type} : List (DataW H) → Nat
  | [] => 0
  | d :: r => uptoBulk d + uptoBulkAll r
def uptoBulkEntries {H : Type} : List (Lit × DataW H) → Nat
  | [] => 0
  | x :: r => uptoBulkEntry x + uptoBulkEntries r
def uptoBulkEntry {H : Type} : Lit × DataW H → Nat
  | (.string bytes, d) => bytes.length + uptoBulk d + 1
  | (_, d) => uptoBulk d + 1
 end
def uptoSmall : (H : Type) → List (DataW H) → Bool := fun _ ds => decide (uptoBulkAll ds ≤ 1048576)
def OpenSpec.upto (s : _root_.Go.ChangeSpec) : _root_.Go.OpenSpec := { _root_.Go.OpenSpec.ofChange s with cond := some uptoSmall }

/-- 'laws.FnExactPlacedStations', WHERE WHAT IT READS IS OF BULK AT MOST 1048576: true; the input reads as it did. -/
def fnExactPlacedStationsUptoRow : OpenClaim := { program := "ytnoieboiklmkaaadoor", sum := "f96639f373b8ed48461ad8ccc973c3ffbf2a327b1201349ed5ff9e8216314e7c", func := "loop.example/g00933/laws.FnExactPlacedStations", spec := "fnExactPlacedStations", recurses := true, named := ["loop.example/g00933/impl.sines"], apart := false, laid := [("loop.example/g00933/impl.sines", laid_loop_example_g00933_impl_sines)], narrowed := true }
def FnExactPlacedStationsUptoSaid : Prop := fnExactPlacedStationsUptoRow.holds Tryd.pinned (OpenSpec.upto fnExactPlacedStationsSpec)

/-- 'laws.FnExactPlaceOf', WHERE WHAT IT READS IS OF BULK AT MOST 1048576: true; the input reads as it did. -/
def fnExactPlaceOfUptoRow : OpenClaim := { program := "ytnoieboiklmkaaadoor", sum := "f96639f373b8ed48461ad8ccc973c3ffbf2a327b1201349ed5ff9e8216314e7c", func := "loop.example/g00933/laws.FnExactPlaceOf", spec := "fnExactPlaceOf", recurses := true, named := ["loop.example/g00933/impl.sines"], apart := false, laid := [("loop.example/g00933/impl.sines", laid_loop_example_g00933_impl_sines)], narrowed := true }
def FnExactPlaceOfUptoSaid : Prop := fnExactPlaceOfUptoRow.holds Tryd.pinned (OpenSpec.upto fnExactPlaceOfSpec)

/-- 'laws.FnExactTreeLegs', WHERE WHAT IT READS IS OF BULK AT MOST 1048576: true; the input reads as it did. -/
def fnExactTreeLegsUptoRow : OpenClaim := { program := "ytnoieboiklmkaaadoor", sum := "f96639f373b8ed48461ad8ccc973c3ffbf2a327b1201349ed5ff9e8216314e7c", func := "loop.example/g00933/laws.FnExactTreeLegs", spec := "fnExactTreeLegs", recurses := true, named := ["loop.example/g00933/impl.sines"], apart := false, laid := [("loop.example/g00933/impl.sines", laid_loop_example_g00933_impl_sines)], narrowed := true }
def FnExactTreeLegsUptoSaid : Prop := fnExactTreeLegsUptoRow.holds Tryd.pinned (OpenSpec.upto fnExactTreeLegsSpec)

/-- 'laws.FnExactClosingLegs', WHERE WHAT IT READS IS OF BULK AT MOST 1048576: true; the input reads as it did. -/
def fnExactClosingLegsUptoRow : OpenClaim := { program := "ytnoieboiklmkaaadoor", sum := "f96639f373b8ed48461ad8ccc973c3ffbf2a327b1201349ed5ff9e8216314e7c", func := "loop.example/g00933/laws.FnExactClosingLegs", spec := "fnExactClosingLegs", recurses := true, named := ["loop.example/g00933/impl.sines"], apart := false, laid := [("loop.example/g00933/impl.sines", laid_loop_example_g00933_impl_sines)], narrowed := true }
def FnExactClosingLegsUptoSaid : Prop := fnExactClosingLegsUptoRow.holds Tryd.pinned (OpenSpec.upto fnExactClosingLegsSpec)

/-- 'laws.FnExactErrorOf', WHERE WHAT IT READS IS OF BULK AT MOST 1048576: true; the input reads as it did. -/
def fnExactErrorOfUptoRow : OpenClaim := { program := "ytnoieboiklmkaaadoor", sum := "f96639f373b8ed48461ad8ccc973c3ffbf2a327b1201349ed5ff9e8216314e7c", func := "loop.example/g00933/laws.FnExactErrorOf", spec := "fnExactErrorOf", recurses := true, named := ["loop.example/g00933/impl.sines"], apart := false, laid := [("loop.example/g00933/impl.sines", laid_loop_example_g00933_impl_sines)], narrowed := true }
def FnExactErrorOfUptoSaid : Prop := fnExactErrorOfUptoRow.holds Tryd.pinned (OpenSpec.upto fnExactErrorOfSpec)

/-- 'laws.FnExactDepthOf', WHERE WHAT IT READS IS OF BULK AT MOST 1048576: true; the input reads as it did. -/
def fnExactDepthOfUptoRow : OpenClaim := { program := "ytnoieboiklmkaaadoor", sum := "f96639f373b8ed48461ad8ccc973c3ffbf2a327b1201349ed5ff9e8216314e7c", func := "loop.example/g00933/laws.FnExactDepthOf", spec := "fnExactDepthOf", recurses := true, named := ["loop.example/g00933/impl.sines"], apart := false, laid := [("loop.example/g00933/impl.sines", laid_loop_example_g00933_impl_sines)], narrowed := true }
def FnExactDepthOfUptoSaid : Prop := fnExactDepthOfUptoRow.holds Tryd.pinned (OpenSpec.upto fnExactDepthOfSpec)

/-- 'laws.FnExactExtentOf', WHERE WHAT IT READS IS OF BULK AT MOST 1048576: true; the input reads as it did. -/
def fnExactExtentOfUptoRow : OpenClaim := { program := "ytnoieboiklmkaaadoor", sum := "f96639f373b8ed48461ad8ccc973c3ffbf2a327b1201349ed5ff9e8216314e7c", func := "loop.example/g00933/laws.FnExactExtentOf", spec := "fnExactExtentOf", recurses := true, named := ["loop.example/g00933/impl.sines"], apart := false, laid := [("loop.example/g00933/impl.sines", laid_loop_example_g00933_impl_sines)], narrowed := true }
def FnExactExtentOfUptoSaid : Prop := fnExactExtentOfUptoRow.holds Tryd.pinned (OpenSpec.upto fnExactExtentOfSpec)

/-- 'laws.FnExactDeepestStation', WHERE WHAT IT READS IS OF BULK AT MOST 1048576: true; the input reads as it did. -/
def fnExactDeepestStationUptoRow : OpenClaim := { program := "ytnoieboiklmkaaadoor", sum := "f96639f373b8ed48461ad8ccc973c3ffbf2a327b1201349ed5ff9e8216314e7c", func := "loop.example/g00933/laws.FnExactDeepestStation", spec := "fnExactDeepestStation", recurses := true, named := ["loop.example/g00933/impl.sines"], apart := false, laid := [("loop.example/g00933/impl.sines", laid_loop_example_g00933_impl_sines)], narrowed := true }
def FnExactDeepestStationUptoSaid : Prop := fnExactDeepestStationUptoRow.holds Tryd.pinned (OpenSpec.upto fnExactDeepestStationSpec)

/-- 'laws.FnExactStationsWithin', WHERE WHAT IT READS IS OF BULK AT MOST 1048576: true; the input reads as it did. -/
def fnExactStationsWithinUptoRow : OpenClaim := { program := "ytnoieboiklmkaaadoor", sum := "f96639f373b8ed48461ad8ccc973c3ffbf2a327b1201349ed5ff9e8216314e7c", func := "loop.example/g00933/laws.FnExactStationsWithin", spec := "fnExactStationsWithin", recurses := true, named := ["loop.example/g00933/impl.sines"], apart := false, laid := [("loop.example/g00933/impl.sines", laid_loop_example_g00933_impl_sines)], narrowed := true }
def FnExactStationsWithinUptoSaid : Prop := fnExactStationsWithinUptoRow.holds Tryd.pinned (OpenSpec.upto fnExactStationsWithinSpec)

/-- 'laws.FnPlaces', WHERE WHAT IT READS IS OF BULK AT MOST 1048576: true; the input reads as it did. -/
def fnPlacesUptoRow : OpenClaim := { program := "ytnoieboiklmkaaadoor", sum := "f96639f373b8ed48461ad8ccc973c3ffbf2a327b1201349ed5ff9e8216314e7c", func := "loop.example/g00933/laws.FnPlaces", spec := "fnPlaces", recurses := true, named := ["loop.example/g00933/impl.sines"], apart := false, laid := [("loop.example/g00933/impl.sines", laid_loop_example_g00933_impl_sines)], narrowed := true }
def FnPlacesUptoSaid : Prop := fnPlacesUptoRow.holds Tryd.pinned (OpenSpec.upto fnPlacesSpec)

/-- 'laws.FnExtents', WHERE WHAT IT READS IS OF BULK AT MOST 1048576: true; the input reads as it did. -/
def fnExtentsUptoRow : OpenClaim := { program := "ytnoieboiklmkaaadoor", sum := "f96639f373b8ed48461ad8ccc973c3ffbf2a327b1201349ed5ff9e8216314e7c", func := "loop.example/g00933/laws.FnExtents", spec := "fnExtents", recurses := true, named := ["loop.example/g00933/impl.sines"], apart := false, laid := [("loop.example/g00933/impl.sines", laid_loop_example_g00933_impl_sines)], narrowed := true }
def FnExtentsUptoSaid : Prop := fnExtentsUptoRow.holds Tryd.pinned (OpenSpec.upto fnExtentsSpec)

end Rows
end Go.Proofs.YtnoieboiklmkaaaDoor
