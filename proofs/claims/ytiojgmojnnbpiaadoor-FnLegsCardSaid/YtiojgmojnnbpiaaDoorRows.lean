/-
  NARROWER THAN 'FOR EVERY INPUT', by the rows' own cells (each row's printed sentence says how): FnChains: laid · FnExactShiftOf: laid · FnExactChainShift: laid · FnExactLegText: laid · FnExactParseLeg: laid · FnLegs: laid.
  DERIVED. THE GIVEN ROWS OF THIS SEAT. 6 by the template 'for every input the law returns true; each argument reads behind the call as it read before'; 0 by the template 'total and deterministic' (their statements: YtiojgmojnnbpiaaDoorTotals.lean).
  GIVEN WITH THE SEED: the statements are not yours to turn. If you find one false, say at which input.
  Laid BY PROGRAM, IN A SANDBOX (cutbox-rows.mjs): the forced cells as the released guide's own fill.sh prints them over the translation d33ff347b4539eae… (all of the seat's roots in one cut). By AI agents, Wed Nov 11 2026. No macro, syntax, notation, axiom, sorry.
-/
import Derived.Test.YtiojgmojnnbpiaaDoorChecked
import GoSem.Claim
import GoSem.ClaimJoined
import GoSem.ClaimMapViews
import Derived.JoinedTies
import Derived.KernelRfl
namespace Go.Proofs.YtiojgmojnnbpiaaDoor
/- THE CELL 'sum', in the pinned program and in every row, IS THE sha256 OF THE DUMP (.gsa) THAT YtiojgmojnnbpiaaDoorProg.lean LOADS. Nothing in Lean hashes anything: it is a label: what it is worth is what the hold of that sum in a sandbox is worth. -/
noncomputable def Tryd.pinned : Pinned := { name := "ytiojgmojnnbpiaadoor", sum := "d33ff347b4539eaee1f72bae088e98de8607a9d6d855d8e7110a8cf2d2c1031a", checked := Tryd.checked }
namespace Rows
def none {H : Type} : Left H := { results := [], args := [] }

/- WHAT THE LISTED PACKAGE-LEVEL VARIABLES READ AS WHEN THE CALL BEGINS. Each datum BY PROGRAM (the guide's laid-datum.mjs) off the statement by which the dump's own 'gosem.cut.vars' lays the variable. In a bare row this is a premise. The card (YtiojgmojnnbpiaaDoorCards.lean) ties it to the program's text. -/
def laid_loop_example_g00933_impl_sines {H : Type} : DataW H := .agg [.lit (.int .i64 0), .lit (.int .i64 17), .lit (.int .i64 35), .lit (.int .i64 52), .lit (.int .i64 70), .lit (.int .i64 87), .lit (.int .i64 105), .lit (.int .i64 122), .lit (.int .i64 139), .lit (.int .i64 156), .lit (.int .i64 174), .lit (.int .i64 191), .lit (.int .i64 208), .lit (.int .i64 225), .lit (.int .i64 242), .lit (.int .i64 259), .lit (.int .i64 276), .lit (.int .i64 292), .lit (.int .i64 309), .lit (.int .i64 326), .lit (.int .i64 342), .lit (.int .i64 358), .lit (.int .i64 375), .lit (.int .i64 391), .lit (.int .i64 407), .lit (.int .i64 423), .lit (.int .i64 438), .lit (.int .i64 454), .lit (.int .i64 469), .lit (.int .i64 485), .lit (.int .i64 500), .lit (.int .i64 515), .lit (.int .i64 530), .lit (.int .i64 545), .lit (.int .i64 559), .lit (.int .i64 574), .lit (.int .i64 588), .lit (.int .i64 602), .lit (.int .i64 616), .lit (.int .i64 629), .lit (.int .i64 643), .lit (.int .i64 656), .lit (.int .i64 669), .lit (.int .i64 682), .lit (.int .i64 695), .lit (.int .i64 707), .lit (.int .i64 719), .lit (.int .i64 731), .lit (.int .i64 743), .lit (.int .i64 755), .lit (.int .i64 766), .lit (.int .i64 777), .lit (.int .i64 788), .lit (.int .i64 799), .lit (.int .i64 809), .lit (.int .i64 819), .lit (.int .i64 829), .lit (.int .i64 839), .lit (.int .i64 848), .lit (.int .i64 857), .lit (.int .i64 866), .lit (.int .i64 875), .lit (.int .i64 883), .lit (.int .i64 891), .lit (.int .i64 899), .lit (.int .i64 906), .lit (.int .i64 914), .lit (.int .i64 921), .lit (.int .i64 927), .lit (.int .i64 934), .lit (.int .i64 940), .lit (.int .i64 946), .lit (.int .i64 951), .lit (.int .i64 956), .lit (.int .i64 961), .lit (.int .i64 966), .lit (.int .i64 970), .lit (.int .i64 974), .lit (.int .i64 978), .lit (.int .i64 982), .lit (.int .i64 985), .lit (.int .i64 988), .lit (.int .i64 990), .lit (.int .i64 993), .lit (.int .i64 995), .lit (.int .i64 996), .lit (.int .i64 998), .lit (.int .i64 999), .lit (.int .i64 999), .lit (.int .i64 1000), .lit (.int .i64 1000)]
def laid_math_bits_deBruijn32tab {H : Type} : DataW H := .agg [.lit (.int .u8 0), .lit (.int .u8 1), .lit (.int .u8 28), .lit (.int .u8 2), .lit (.int .u8 29), .lit (.int .u8 14), .lit (.int .u8 24), .lit (.int .u8 3), .lit (.int .u8 30), .lit (.int .u8 22), .lit (.int .u8 20), .lit (.int .u8 15), .lit (.int .u8 25), .lit (.int .u8 17), .lit (.int .u8 4), .lit (.int .u8 8), .lit (.int .u8 31), .lit (.int .u8 27), .lit (.int .u8 13), .lit (.int .u8 23), .lit (.int .u8 21), .lit (.int .u8 19), .lit (.int .u8 16), .lit (.int .u8 7), .lit (.int .u8 26), .lit (.int .u8 12), .lit (.int .u8 18), .lit (.int .u8 6), .lit (.int .u8 11), .lit (.int .u8 5), .lit (.int .u8 10), .lit (.int .u8 9)]
def laid_math_bits_deBruijn64tab {H : Type} : DataW H := .agg [.lit (.int .u8 0), .lit (.int .u8 1), .lit (.int .u8 56), .lit (.int .u8 2), .lit (.int .u8 57), .lit (.int .u8 49), .lit (.int .u8 28), .lit (.int .u8 3), .lit (.int .u8 61), .lit (.int .u8 58), .lit (.int .u8 42), .lit (.int .u8 50), .lit (.int .u8 38), .lit (.int .u8 29), .lit (.int .u8 17), .lit (.int .u8 4), .lit (.int .u8 62), .lit (.int .u8 47), .lit (.int .u8 59), .lit (.int .u8 36), .lit (.int .u8 45), .lit (.int .u8 43), .lit (.int .u8 51), .lit (.int .u8 22), .lit (.int .u8 53), .lit (.int .u8 39), .lit (.int .u8 33), .lit (.int .u8 30), .lit (.int .u8 24), .lit (.int .u8 18), .lit (.int .u8 12), .lit (.int .u8 5), .lit (.int .u8 63), .lit (.int .u8 55), .lit (.int .u8 48), .lit (.int .u8 27), .lit (.int .u8 60), .lit (.int .u8 41), .lit (.int .u8 37), .lit (.int .u8 16), .lit (.int .u8 46), .lit (.int .u8 35), .lit (.int .u8 44), .lit (.int .u8 21), .lit (.int .u8 52), .lit (.int .u8 32), .lit (.int .u8 23), .lit (.int .u8 11), .lit (.int .u8 54), .lit (.int .u8 26), .lit (.int .u8 40), .lit (.int .u8 15), .lit (.int .u8 34), .lit (.int .u8 20), .lit (.int .u8 31), .lit (.int .u8 10), .lit (.int .u8 25), .lit (.int .u8 14), .lit (.int .u8 19), .lit (.int .u8 9), .lit (.int .u8 13), .lit (.int .u8 8), .lit (.int .u8 7), .lit (.int .u8 6)]
def laid_internal_strconv_uint64pow10 {H : Type} : DataW H := .agg [.lit (.int .u64 1), .lit (.int .u64 10), .lit (.int .u64 100), .lit (.int .u64 1000), .lit (.int .u64 10000), .lit (.int .u64 100000), .lit (.int .u64 1000000), .lit (.int .u64 10000000), .lit (.int .u64 100000000), .lit (.int .u64 1000000000), .lit (.int .u64 10000000000), .lit (.int .u64 100000000000), .lit (.int .u64 1000000000000), .lit (.int .u64 10000000000000), .lit (.int .u64 100000000000000), .lit (.int .u64 1000000000000000), .lit (.int .u64 10000000000000000), .lit (.int .u64 100000000000000000), .lit (.int .u64 1000000000000000000), .lit (.int .u64 10000000000000000000)]
def laid_strconv_ErrRange {H : Type} : DataW H := .iface "*errors.errorString" (.ptr (.agg [.lit (.string [118, 97, 108, 117, 101, 32, 111, 117, 116, 32, 111, 102, 32, 114, 97, 110, 103, 101])]))
def laid_strconv_ErrSyntax {H : Type} : DataW H := .iface "*errors.errorString" (.ptr (.agg [.lit (.string [105, 110, 118, 97, 108, 105, 100, 32, 115, 121, 110, 116, 97, 120])]))

/-- 'laws.FnChains': WHATEVER THE INPUT: true; the input reads as it did. -/
def fnChainsSpec : ChangeSpec := { name := "fnChains", vars := ["loop.example/g00933/impl.sines"], fn := fun _ => fun
  | [d, g1] => { results := [.lit (.bool true)], args := [d], vars := [g1] }
  | _ => none }
def fnChainsRow : OpenClaim := { program := "ytiojgmojnnbpiaadoor", sum := "d33ff347b4539eaee1f72bae088e98de8607a9d6d855d8e7110a8cf2d2c1031a", func := "loop.example/g00933/laws.FnChains", spec := "fnChains", recurses := true, named := ["loop.example/g00933/impl.sines"], apart := false, laid := [("loop.example/g00933/impl.sines", laid_loop_example_g00933_impl_sines)] }
def FnChainsSaid : Prop := fnChainsRow.holds Tryd.pinned (OpenSpec.ofChange fnChainsSpec)

/-- ITS FALSE NEIGHBOUR: 'it returns false'. Refute it at one input. -/
def fnChainsWrong : ChangeSpec := { name := "fnChains", vars := ["loop.example/g00933/impl.sines"], fn := fun _ => fun
  | [d, g1] => { results := [.lit (.bool false)], args := [d], vars := [g1] }
  | _ => none }
def FnChainsWrongFalsely : Prop := fnChainsRow.holds Tryd.pinned (OpenSpec.ofChange fnChainsWrong)

/-- 'laws.FnExactShiftOf': WHATEVER THE INPUT: true; the input reads as it did. -/
def fnExactShiftOfSpec : ChangeSpec := { name := "fnExactShiftOf", vars := ["loop.example/g00933/impl.sines"], fn := fun _ => fun
  | [d, g1] => { results := [.lit (.bool true)], args := [d], vars := [g1] }
  | _ => none }
def fnExactShiftOfRow : OpenClaim := { program := "ytiojgmojnnbpiaadoor", sum := "d33ff347b4539eaee1f72bae088e98de8607a9d6d855d8e7110a8cf2d2c1031a", func := "loop.example/g00933/laws.FnExactShiftOf", spec := "fnExactShiftOf", recurses := true, named := ["loop.example/g00933/impl.sines"], apart := false, laid := [("loop.example/g00933/impl.sines", laid_loop_example_g00933_impl_sines)] }
def FnExactShiftOfSaid : Prop := fnExactShiftOfRow.holds Tryd.pinned (OpenSpec.ofChange fnExactShiftOfSpec)

/-- ITS FALSE NEIGHBOUR: 'it returns false'. Refute it at one input. -/
def fnExactShiftOfWrong : ChangeSpec := { name := "fnExactShiftOf", vars := ["loop.example/g00933/impl.sines"], fn := fun _ => fun
  | [d, g1] => { results := [.lit (.bool false)], args := [d], vars := [g1] }
  | _ => none }
def FnExactShiftOfWrongFalsely : Prop := fnExactShiftOfRow.holds Tryd.pinned (OpenSpec.ofChange fnExactShiftOfWrong)

/-- 'laws.FnExactChainShift': WHATEVER THE INPUT: true; the input reads as it did. -/
def fnExactChainShiftSpec : ChangeSpec := { name := "fnExactChainShift", vars := ["loop.example/g00933/impl.sines"], fn := fun _ => fun
  | [d, g1] => { results := [.lit (.bool true)], args := [d], vars := [g1] }
  | _ => none }
def fnExactChainShiftRow : OpenClaim := { program := "ytiojgmojnnbpiaadoor", sum := "d33ff347b4539eaee1f72bae088e98de8607a9d6d855d8e7110a8cf2d2c1031a", func := "loop.example/g00933/laws.FnExactChainShift", spec := "fnExactChainShift", recurses := true, named := ["loop.example/g00933/impl.sines"], apart := false, laid := [("loop.example/g00933/impl.sines", laid_loop_example_g00933_impl_sines)] }
def FnExactChainShiftSaid : Prop := fnExactChainShiftRow.holds Tryd.pinned (OpenSpec.ofChange fnExactChainShiftSpec)

/-- ITS FALSE NEIGHBOUR: 'it returns false'. Refute it at one input. -/
def fnExactChainShiftWrong : ChangeSpec := { name := "fnExactChainShift", vars := ["loop.example/g00933/impl.sines"], fn := fun _ => fun
  | [d, g1] => { results := [.lit (.bool false)], args := [d], vars := [g1] }
  | _ => none }
def FnExactChainShiftWrongFalsely : Prop := fnExactChainShiftRow.holds Tryd.pinned (OpenSpec.ofChange fnExactChainShiftWrong)

/-- 'laws.FnExactLegText': WHATEVER THE INPUT: true; the input reads as it did. -/
def fnExactLegTextSpec : ChangeSpec := { name := "fnExactLegText", fn := fun _ => fun
  | [d] => { results := [.lit (.bool true)], args := [d] }
  | _ => none }
def fnExactLegTextRow : OpenClaim := { program := "ytiojgmojnnbpiaadoor", sum := "d33ff347b4539eaee1f72bae088e98de8607a9d6d855d8e7110a8cf2d2c1031a", func := "loop.example/g00933/laws.FnExactLegText", spec := "fnExactLegText", recurses := true, named := ["internal/strconv.uint64pow10", "math/bits.deBruijn32tab", "math/bits.deBruijn64tab"], apart := false, laid := [("math/bits.deBruijn32tab", laid_math_bits_deBruijn32tab), ("math/bits.deBruijn64tab", laid_math_bits_deBruijn64tab), ("internal/strconv.uint64pow10", laid_internal_strconv_uint64pow10)] }
def FnExactLegTextSaid : Prop := fnExactLegTextRow.holds Tryd.pinned (OpenSpec.ofChange fnExactLegTextSpec)

/-- ITS FALSE NEIGHBOUR: 'it returns false'. Refute it at one input. -/
def fnExactLegTextWrong : ChangeSpec := { name := "fnExactLegText", fn := fun _ => fun
  | [d] => { results := [.lit (.bool false)], args := [d] }
  | _ => none }
def FnExactLegTextWrongFalsely : Prop := fnExactLegTextRow.holds Tryd.pinned (OpenSpec.ofChange fnExactLegTextWrong)

/-- 'laws.FnExactParseLeg': WHATEVER THE INPUT: true; the input reads as it did. -/
def fnExactParseLegSpec : ChangeSpec := { name := "fnExactParseLeg", fn := fun _ => fun
  | [d] => { results := [.lit (.bool true)], args := [d] }
  | _ => none }
def fnExactParseLegRow : OpenClaim := { program := "ytiojgmojnnbpiaadoor", sum := "d33ff347b4539eaee1f72bae088e98de8607a9d6d855d8e7110a8cf2d2c1031a", func := "loop.example/g00933/laws.FnExactParseLeg", spec := "fnExactParseLeg", unfollowed := true, recurses := true, named := ["strconv.ErrSyntax", "strconv.ErrRange", "internal/strconv.uint64pow10", "math/bits.deBruijn32tab", "math/bits.deBruijn64tab"], apart := false, laid := [("math/bits.deBruijn32tab", laid_math_bits_deBruijn32tab), ("math/bits.deBruijn64tab", laid_math_bits_deBruijn64tab), ("internal/strconv.uint64pow10", laid_internal_strconv_uint64pow10), ("strconv.ErrRange", laid_strconv_ErrRange), ("strconv.ErrSyntax", laid_strconv_ErrSyntax)] }
def FnExactParseLegSaid : Prop := fnExactParseLegRow.holds Tryd.pinned (OpenSpec.ofChange fnExactParseLegSpec)

/-- ITS FALSE NEIGHBOUR: 'it returns false'. Refute it at one input. -/
def fnExactParseLegWrong : ChangeSpec := { name := "fnExactParseLeg", fn := fun _ => fun
  | [d] => { results := [.lit (.bool false)], args := [d] }
  | _ => none }
def FnExactParseLegWrongFalsely : Prop := fnExactParseLegRow.holds Tryd.pinned (OpenSpec.ofChange fnExactParseLegWrong)

/-- 'laws.FnLegs': WHATEVER THE INPUT: true; the input reads as it did. -/
def fnLegsSpec : ChangeSpec := { name := "fnLegs", vars := ["loop.example/g00933/impl.sines"], fn := fun _ => fun
  | [d, g1] => { results := [.lit (.bool true)], args := [d], vars := [g1] }
  | _ => none }
def fnLegsRow : OpenClaim := { program := "ytiojgmojnnbpiaadoor", sum := "d33ff347b4539eaee1f72bae088e98de8607a9d6d855d8e7110a8cf2d2c1031a", func := "loop.example/g00933/laws.FnLegs", spec := "fnLegs", unfollowed := true, recurses := true, named := ["loop.example/g00933/impl.sines", "internal/strconv.uint64pow10", "math/bits.deBruijn32tab", "math/bits.deBruijn64tab", "strconv.ErrSyntax", "strconv.ErrRange"], apart := false, laid := [("math/bits.deBruijn32tab", laid_math_bits_deBruijn32tab), ("math/bits.deBruijn64tab", laid_math_bits_deBruijn64tab), ("internal/strconv.uint64pow10", laid_internal_strconv_uint64pow10), ("strconv.ErrRange", laid_strconv_ErrRange), ("strconv.ErrSyntax", laid_strconv_ErrSyntax), ("loop.example/g00933/impl.sines", laid_loop_example_g00933_impl_sines)] }
def FnLegsSaid : Prop := fnLegsRow.holds Tryd.pinned (OpenSpec.ofChange fnLegsSpec)

/-- ITS FALSE NEIGHBOUR: 'it returns false'. Refute it at one input. -/
def fnLegsWrong : ChangeSpec := { name := "fnLegs", vars := ["loop.example/g00933/impl.sines"], fn := fun _ => fun
  | [d, g1] => { results := [.lit (.bool false)], args := [d], vars := [g1] }
  | _ => none }
def FnLegsWrongFalsely : Prop := fnLegsRow.holds Tryd.pinned (OpenSpec.ofChange fnLegsWrong)

/- THE SECOND FORM. 'bulk': how many values and letters a reading holds, each counted each time it is reached (what is shared counts as often as it is met; a slice's spare places count too). A statement '..UptoSaid' is the law's where the arguments, and the package variables that the reading takes, are together of bulk at most 1048576: NARROWER than '..Said'. Prove '..Said' where nothing that the law and all that it calls make is longer than what came in: it says more and counts as full. Else prove '..UptoSaid'. A law counts once. -/
mutual
def uptoBulk {H : Type} : DataW H → Nat
  | .lit (.string bytes) => bytes.length + 1
  | .lit _ => 1
  | .nil => 1
  | .ptr d => uptoBulk d + 1
  | .slice elems spare => uptoBulkAll elems + uptoBulkAll spare + 1
  | .agg parts => uptoBulkAll parts + 1
  | .iface _ d => uptoBulk d + 1
  | .map entries => uptoBulkEntries entries + 1
  | .held _ => 1
def uptoBulkAll {H : Type} : List (DataW H) → Nat
  | [] => 0
  | d :: r => uptoBulk d + uptoBulkAll r
def uptoBulkEntries {H : Type} : List (Lit × DataW H) → Nat
  | [] => 0
  | x :: r => uptoBulkEntry x + uptoBulkEntries r
def uptoBulkEntry {H : Type} : Lit × DataW H → Nat
  | (.string bytes, d) => bytes.length + uptoBulk d + 1
  | (_, d) => uptoBulk d + 1
 end
def uptoSmall : (H : Type) → List (DataW H) → Bool := fun _ ds => decide (uptoBulkAll ds ≤ 1048576)
def OpenSpec.upto (s : _root_.Go.ChangeSpec) : _root_.Go.OpenSpec := { _root_.Go.OpenSpec.ofChange s with cond := some uptoSmall }

/-- 'laws.FnChains', WHERE WHAT IT READS IS OF BULK AT MOST 1048576: true; the input reads as it did. -/
def fnChainsUptoRow : OpenClaim := { program := "ytiojgmojnnbpiaadoor", sum := "d33ff347b4539eaee1f72bae088e98de8607a9d6d855d8e7110a8cf2d2c1031a", func := "loop.example/g00933/laws.FnChains", spec := "fnChains", recurses := true, named := ["loop.example/g00933/impl.sines"], apart := false, laid := [("loop.example/g00933/impl.sines", laid_loop_example_g00933_impl_sines)], narrowed := true }
def FnChainsUptoSaid : Prop := fnChainsUptoRow.holds Tryd.pinned (OpenSpec.upto fnChainsSpec)

/-- 'laws.FnExactShiftOf', WHERE WHAT IT READS IS OF BULK AT MOST 1048576: true; the input reads as it did. -/
def fnExactShiftOfUptoRow : OpenClaim := { program := "ytiojgmojnnbpiaadoor", sum := "d33ff347b4539eaee1f72bae088e98de8607a9d6d855d8e7110a8cf2d2c1031a", func := "loop.example/g00933/laws.FnExactShiftOf", spec := "fnExactShiftOf", recurses := true, named := ["loop.example/g00933/impl.sines"], apart := false, laid := [("loop.example/g00933/impl.sines", laid_loop_example_g00933_impl_sines)], narrowed := true }
def FnExactShiftOfUptoSaid : Prop := fnExactShiftOfUptoRow.holds Tryd.pinned (OpenSpec.upto fnExactShiftOfSpec)

/-- 'laws.FnExactChainShift', WHERE WHAT IT READS IS OF BULK AT MOST 1048576: true; the input reads as it did. -/
def fnExactChainShiftUptoRow : OpenClaim := { program := "ytiojgmojnnbpiaadoor", sum := "d33ff347b4539eaee1f72bae088e98de8607a9d6d855d8e7110a8cf2d2c1031a", func := "loop.example/g00933/laws.FnExactChainShift", spec := "fnExactChainShift", recurses := true, named := ["loop.example/g00933/impl.sines"], apart := false, laid := [("loop.example/g00933/impl.sines", laid_loop_example_g00933_impl_sines)], narrowed := true }
def FnExactChainShiftUptoSaid : Prop := fnExactChainShiftUptoRow.holds Tryd.pinned (OpenSpec.upto fnExactChainShiftSpec)

/-- 'laws.FnExactLegText', WHERE WHAT IT READS IS OF BULK AT MOST 1048576: true; the input reads as it did. -/
def fnExactLegTextUptoRow : OpenClaim := { program := "ytiojgmojnnbpiaadoor", sum := "d33ff347b4539eaee1f72bae088e98de8607a9d6d855d8e7110a8cf2d2c1031a", func := "loop.example/g00933/laws.FnExactLegText", spec := "fnExactLegText", recurses := true, named := ["internal/strconv.uint64pow10", "math/bits.deBruijn32tab", "math/bits.deBruijn64tab"], apart := false, laid := [("math/bits.deBruijn32tab", laid_math_bits_deBruijn32tab), ("math/bits.deBruijn64tab", laid_math_bits_deBruijn64tab), ("internal/strconv.uint64pow10", laid_internal_strconv_uint64pow10)], narrowed := true }
def FnExactLegTextUptoSaid : Prop := fnExactLegTextUptoRow.holds Tryd.pinned (OpenSpec.upto fnExactLegTextSpec)

/-- 'laws.FnExactParseLeg', WHERE WHAT IT READS IS OF BULK AT MOST 1048576: true; the input reads as it did. -/
def fnExactParseLegUptoRow : OpenClaim := { program := "ytiojgmojnnbpiaadoor", sum := "d33ff347b4539eaee1f72bae088e98de8607a9d6d855d8e7110a8cf2d2c1031a", func := "loop.example/g00933/laws.FnExactParseLeg", spec := "fnExactParseLeg", unfollowed := true, recurses := true, named := ["strconv.ErrSyntax", "strconv.ErrRange", "internal/strconv.uint64pow10", "math/bits.deBruijn32tab", "math/bits.deBruijn64tab"], apart := false, laid := [("math/bits.deBruijn32tab", laid_math_bits_deBruijn32tab), ("math/bits.deBruijn64tab", laid_math_bits_deBruijn64tab), ("internal/strconv.uint64pow10", laid_internal_strconv_uint64pow10), ("strconv.ErrRange", laid_strconv_ErrRange), ("strconv.ErrSyntax", laid_strconv_ErrSyntax)], narrowed := true }
def FnExactParseLegUptoSaid : Prop := fnExactParseLegUptoRow.holds Tryd.pinned (OpenSpec.upto fnExactParseLegSpec)

/-- 'laws.FnLegs', WHERE WHAT IT READS IS OF BULK AT MOST 1048576: true; the input reads as it did. -/
def fnLegsUptoRow : OpenClaim := { program := "ytiojgmojnnbpiaadoor", sum := "d33ff347b4539eaee1f72bae088e98de8607a9d6d855d8e7110a8cf2d2c1031a", func := "loop.example/g00933/laws.FnLegs", spec := "fnLegs", unfollowed := true, recurses := true, named := ["loop.example/g00933/impl.sines", "internal/strconv.uint64pow10", "math/bits.deBruijn32tab", "math/bits.deBruijn64tab", "strconv.ErrSyntax", "strconv.ErrRange"], apart := false, laid := [("math/bits.deBruijn32tab", laid_math_bits_deBruijn32tab), ("math/bits.deBruijn64tab", laid_math_bits_deBruijn64tab), ("internal/strconv.uint64pow10", laid_internal_strconv_uint64pow10), ("strconv.ErrRange", laid_strconv_ErrRange), ("strconv.ErrSyntax", laid_strconv_ErrSyntax), ("loop.example/g00933/impl.sines", laid_loop_example_g00933_impl_sines)], narrowed := true }
def FnLegsUptoSaid : Prop := fnLegsUptoRow.holds Tryd.pinned (OpenSpec.upto fnLegsSpec)

end Rows
end Go.Proofs.YtiojgmojnnbpiaaDoor
