/-
  No cell of these rows narrows 'for every input' (looked for: loops, veiled, ifaces, maps, wideKeys, modest, calm, conditions, laid).
  DERIVED. THE GIVEN ROWS OF THIS SEAT. 11 by the template 'for every input the law returns true; each argument reads behind the call as it read before'; 0 by the template 'total and deterministic' (their statements: YtiimegmaokfpgaaTotals.lean).
  GIVEN WITH THE SEED: the statements are not yours to turn. If you find one false, say at which input.
  Laid BY PROGRAM, IN A SANDBOX (cutbox-rows.mjs): the forced cells as the released guide's own fill.sh prints them over the translation be06a119bc4b6ef8… (all of the seat's roots in one cut). By AI agents, Wed Nov 11 2026. No macro, syntax, notation, axiom, sorry.
-/
import Derived.Test.YtiimegmaokfpgaaChecked
import GoSem.Claim
import GoSem.ClaimJoined
import GoSem.ClaimMapViews
import Derived.JoinedTies
import Derived.KernelRfl
namespace Go.Proofs.Ytiimegmaokfpgaa
/- THE CELL 'sum', in the pinned program and in every row, IS THE sha256 OF THE DUMP (.gsa) THAT YtiimegmaokfpgaaProg.lean LOADS. Nothing in Lean hashes anything: it is a label: what it is worth is what the hold of that sum in a sandbox is worth. -/
noncomputable def Try.pinned : Pinned := { name := "ytiimegmaokfpgaa", sum := "be06a119bc4b6ef8fd795bb13b08157b8885623b77f8eebf70ca8d77d1fc1cbc", checked := Try.checked }
namespace Rows
def none {H : Type} : Left H := { results := [], args := [] }

/-- 'laws.FnDeclinations': WHATEVER THE INPUT: true; the input reads as it did. -/
def fnDeclinationsSpec : ChangeSpec := { name := "fnDeclinations", fn := fun _ => fun
  | [d] => { results := [.lit (.bool true)], args := [d] }
  | _ => none }
def fnDeclinationsRow : OpenClaim := { program := "ytiimegmaokfpgaa", sum := "be06a119bc4b6ef8fd795bb13b08157b8885623b77f8eebf70ca8d77d1fc1cbc", func := "loop.example/g00933/laws.FnDeclinations", spec := "fnDeclinations", unfollowed := true, recurses := true, apart := false }
def FnDeclinationsSaid : Prop := fnDeclinationsRow.holds Try.pinned (OpenSpec.ofChange fnDeclinationsSpec)

/-- ITS FALSE NEIGHBOUR: 'it returns false'. Refute it at one input. -/
def fnDeclinationsWrong : ChangeSpec := { name := "fnDeclinations", fn := fun _ => fun
  | [d] => { results := [.lit (.bool false)], args := [d] }
  | _ => none }
def FnDeclinationsWrongFalsely : Prop := fnDeclinationsRow.holds Try.pinned (OpenSpec.ofChange fnDeclinationsWrong)

/-- 'laws.FnPoints': WHATEVER THE INPUT: true; the input reads as it did. -/
def fnPointsSpec : ChangeSpec := { name := "fnPoints", fn := fun _ => fun
  | [d] => { results := [.lit (.bool true)], args := [d] }
  | _ => none }
def fnPointsRow : OpenClaim := { program := "ytiimegmaokfpgaa", sum := "be06a119bc4b6ef8fd795bb13b08157b8885623b77f8eebf70ca8d77d1fc1cbc", func := "loop.example/g00933/laws.FnPoints", spec := "fnPoints", unfollowed := true, recurses := true, apart := false }
def FnPointsSaid : Prop := fnPointsRow.holds Try.pinned (OpenSpec.ofChange fnPointsSpec)

/-- ITS FALSE NEIGHBOUR: 'it returns false'. Refute it at one input. -/
def fnPointsWrong : ChangeSpec := { name := "fnPoints", fn := fun _ => fun
  | [d] => { results := [.lit (.bool false)], args := [d] }
  | _ => none }
def FnPointsWrongFalsely : Prop := fnPointsRow.holds Try.pinned (OpenSpec.ofChange fnPointsWrong)

/-- 'laws.FnExactArePoints': WHATEVER THE INPUT: true; the input reads as it did. -/
def fnExactArePointsSpec : ChangeSpec := { name := "fnExactArePoints", fn := fun _ => fun
  | [d] => { results := [.lit (.bool true)], args := [d] }
  | _ => none }
def fnExactArePointsRow : OpenClaim := { program := "ytiimegmaokfpgaa", sum := "be06a119bc4b6ef8fd795bb13b08157b8885623b77f8eebf70ca8d77d1fc1cbc", func := "loop.example/g00933/laws.FnExactArePoints", spec := "fnExactArePoints", apart := false }
def FnExactArePointsSaid : Prop := fnExactArePointsRow.holds Try.pinned (OpenSpec.ofChange fnExactArePointsSpec)

/-- ITS FALSE NEIGHBOUR: 'it returns false'. Refute it at one input. -/
def fnExactArePointsWrong : ChangeSpec := { name := "fnExactArePoints", fn := fun _ => fun
  | [d] => { results := [.lit (.bool false)], args := [d] }
  | _ => none }
def FnExactArePointsWrongFalsely : Prop := fnExactArePointsRow.holds Try.pinned (OpenSpec.ofChange fnExactArePointsWrong)

/-- 'laws.FnExactDeclinationOn': WHATEVER THE INPUT: true; the input reads as it did. -/
def fnExactDeclinationOnSpec : ChangeSpec := { name := "fnExactDeclinationOn", fn := fun _ => fun
  | [d1, d2] => { results := [.lit (.bool true)], args := [d1, d2] }
  | _ => none }
def fnExactDeclinationOnRow : OpenClaim := { program := "ytiimegmaokfpgaa", sum := "be06a119bc4b6ef8fd795bb13b08157b8885623b77f8eebf70ca8d77d1fc1cbc", func := "loop.example/g00933/laws.FnExactDeclinationOn", spec := "fnExactDeclinationOn", unfollowed := true, recurses := true, apart := false }
def FnExactDeclinationOnSaid : Prop := fnExactDeclinationOnRow.holds Try.pinned (OpenSpec.ofChange fnExactDeclinationOnSpec)

/-- ITS FALSE NEIGHBOUR: 'it returns false'. Refute it at one input. -/
def fnExactDeclinationOnWrong : ChangeSpec := { name := "fnExactDeclinationOn", fn := fun _ => fun
  | [d1, d2] => { results := [.lit (.bool false)], args := [d1, d2] }
  | _ => none }
def FnExactDeclinationOnWrongFalsely : Prop := fnExactDeclinationOnRow.holds Try.pinned (OpenSpec.ofChange fnExactDeclinationOnWrong)

/-- 'laws.FnExactTrueBearing': WHATEVER THE INPUT: true; the input reads as it did. -/
def fnExactTrueBearingSpec : ChangeSpec := { name := "fnExactTrueBearing", fn := fun _ => fun
  | [d1, d2, d3] => { results := [.lit (.bool true)], args := [d1, d2, d3] }
  | _ => none }
def fnExactTrueBearingRow : OpenClaim := { program := "ytiimegmaokfpgaa", sum := "be06a119bc4b6ef8fd795bb13b08157b8885623b77f8eebf70ca8d77d1fc1cbc", func := "loop.example/g00933/laws.FnExactTrueBearing", spec := "fnExactTrueBearing", unfollowed := true, recurses := true, apart := false }
def FnExactTrueBearingSaid : Prop := fnExactTrueBearingRow.holds Try.pinned (OpenSpec.ofChange fnExactTrueBearingSpec)

/-- ITS FALSE NEIGHBOUR: 'it returns false'. Refute it at one input. -/
def fnExactTrueBearingWrong : ChangeSpec := { name := "fnExactTrueBearing", fn := fun _ => fun
  | [d1, d2, d3] => { results := [.lit (.bool false)], args := [d1, d2, d3] }
  | _ => none }
def FnExactTrueBearingWrongFalsely : Prop := fnExactTrueBearingRow.holds Try.pinned (OpenSpec.ofChange fnExactTrueBearingWrong)

/-- 'laws.FnExactMagneticBearing': WHATEVER THE INPUT: true; the input reads as it did. -/
def fnExactMagneticBearingSpec : ChangeSpec := { name := "fnExactMagneticBearing", fn := fun _ => fun
  | [d1, d2, d3] => { results := [.lit (.bool true)], args := [d1, d2, d3] }
  | _ => none }
def fnExactMagneticBearingRow : OpenClaim := { program := "ytiimegmaokfpgaa", sum := "be06a119bc4b6ef8fd795bb13b08157b8885623b77f8eebf70ca8d77d1fc1cbc", func := "loop.example/g00933/laws.FnExactMagneticBearing", spec := "fnExactMagneticBearing", unfollowed := true, recurses := true, apart := false }
def FnExactMagneticBearingSaid : Prop := fnExactMagneticBearingRow.holds Try.pinned (OpenSpec.ofChange fnExactMagneticBearingSpec)

/-- ITS FALSE NEIGHBOUR: 'it returns false'. Refute it at one input. -/
def fnExactMagneticBearingWrong : ChangeSpec := { name := "fnExactMagneticBearing", fn := fun _ => fun
  | [d1, d2, d3] => { results := [.lit (.bool false)], args := [d1, d2, d3] }
  | _ => none }
def FnExactMagneticBearingWrongFalsely : Prop := fnExactMagneticBearingRow.holds Try.pinned (OpenSpec.ofChange fnExactMagneticBearingWrong)

/-- 'laws.FnExactCorrectAll': WHATEVER THE INPUT: true; the input reads as it did. -/
def fnExactCorrectAllSpec : ChangeSpec := { name := "fnExactCorrectAll", fn := fun _ => fun
  | [d1, d2, d3] => { results := [.lit (.bool true)], args := [d1, d2, d3] }
  | _ => none }
def fnExactCorrectAllRow : OpenClaim := { program := "ytiimegmaokfpgaa", sum := "be06a119bc4b6ef8fd795bb13b08157b8885623b77f8eebf70ca8d77d1fc1cbc", func := "loop.example/g00933/laws.FnExactCorrectAll", spec := "fnExactCorrectAll", unfollowed := true, recurses := true, apart := false }
def FnExactCorrectAllSaid : Prop := fnExactCorrectAllRow.holds Try.pinned (OpenSpec.ofChange fnExactCorrectAllSpec)

/-- ITS FALSE NEIGHBOUR: 'it returns false'. Refute it at one input. -/
def fnExactCorrectAllWrong : ChangeSpec := { name := "fnExactCorrectAll", fn := fun _ => fun
  | [d1, d2, d3] => { results := [.lit (.bool false)], args := [d1, d2, d3] }
  | _ => none }
def FnExactCorrectAllWrongFalsely : Prop := fnExactCorrectAllRow.holds Try.pinned (OpenSpec.ofChange fnExactCorrectAllWrong)

/-- 'laws.FnExactDaysWith': WHATEVER THE INPUT: true; the input reads as it did. -/
def fnExactDaysWithSpec : ChangeSpec := { name := "fnExactDaysWith", fn := fun _ => fun
  | [d1, d2] => { results := [.lit (.bool true)], args := [d1, d2] }
  | _ => none }
def fnExactDaysWithRow : OpenClaim := { program := "ytiimegmaokfpgaa", sum := "be06a119bc4b6ef8fd795bb13b08157b8885623b77f8eebf70ca8d77d1fc1cbc", func := "loop.example/g00933/laws.FnExactDaysWith", spec := "fnExactDaysWith", unfollowed := true, recurses := true, apart := false }
def FnExactDaysWithSaid : Prop := fnExactDaysWithRow.holds Try.pinned (OpenSpec.ofChange fnExactDaysWithSpec)

/-- ITS FALSE NEIGHBOUR: 'it returns false'. Refute it at one input. -/
def fnExactDaysWithWrong : ChangeSpec := { name := "fnExactDaysWith", fn := fun _ => fun
  | [d1, d2] => { results := [.lit (.bool false)], args := [d1, d2] }
  | _ => none }
def FnExactDaysWithWrongFalsely : Prop := fnExactDaysWithRow.holds Try.pinned (OpenSpec.ofChange fnExactDaysWithWrong)

/-- 'laws.FnExactChangeBetween': WHATEVER THE INPUT: true; the input reads as it did. -/
def fnExactChangeBetweenSpec : ChangeSpec := { name := "fnExactChangeBetween", fn := fun _ => fun
  | [d1, d2, d3] => { results := [.lit (.bool true)], args := [d1, d2, d3] }
  | _ => none }
def fnExactChangeBetweenRow : OpenClaim := { program := "ytiimegmaokfpgaa", sum := "be06a119bc4b6ef8fd795bb13b08157b8885623b77f8eebf70ca8d77d1fc1cbc", func := "loop.example/g00933/laws.FnExactChangeBetween", spec := "fnExactChangeBetween", unfollowed := true, recurses := true, apart := false }
def FnExactChangeBetweenSaid : Prop := fnExactChangeBetweenRow.holds Try.pinned (OpenSpec.ofChange fnExactChangeBetweenSpec)

/-- ITS FALSE NEIGHBOUR: 'it returns false'. Refute it at one input. -/
def fnExactChangeBetweenWrong : ChangeSpec := { name := "fnExactChangeBetween", fn := fun _ => fun
  | [d1, d2, d3] => { results := [.lit (.bool false)], args := [d1, d2, d3] }
  | _ => none }
def FnExactChangeBetweenWrongFalsely : Prop := fnExactChangeBetweenRow.holds Try.pinned (OpenSpec.ofChange fnExactChangeBetweenWrong)

/-- 'laws.FnExactAddPoint': WHATEVER THE INPUT: true; the input reads as it did. -/
def fnExactAddPointSpec : ChangeSpec := { name := "fnExactAddPoint", fn := fun _ => fun
  | [d1, d2] => { results := [.lit (.bool true)], args := [d1, d2] }
  | _ => none }
def fnExactAddPointRow : OpenClaim := { program := "ytiimegmaokfpgaa", sum := "be06a119bc4b6ef8fd795bb13b08157b8885623b77f8eebf70ca8d77d1fc1cbc", func := "loop.example/g00933/laws.FnExactAddPoint", spec := "fnExactAddPoint", unfollowed := true, recurses := true, apart := false }
def FnExactAddPointSaid : Prop := fnExactAddPointRow.holds Try.pinned (OpenSpec.ofChange fnExactAddPointSpec)

/-- ITS FALSE NEIGHBOUR: 'it returns false'. Refute it at one input. -/
def fnExactAddPointWrong : ChangeSpec := { name := "fnExactAddPoint", fn := fun _ => fun
  | [d1, d2] => { results := [.lit (.bool false)], args := [d1, d2] }
  | _ => none }
def FnExactAddPointWrongFalsely : Prop := fnExactAddPointRow.holds Try.pinned (OpenSpec.ofChange fnExactAddPointWrong)

/-- 'laws.FnExactNeedlessPoints': WHATEVER THE INPUT: true; the input reads as it did. -/
def fnExactNeedlessPointsSpec : ChangeSpec := { name := "fnExactNeedlessPoints", fn := fun _ => fun
  | [d] => { results := [.lit (.bool true)], args := [d] }
  | _ => none }
def fnExactNeedlessPointsRow : OpenClaim := { program := "ytiimegmaokfpgaa", sum := "be06a119bc4b6ef8fd795bb13b08157b8885623b77f8eebf70ca8d77d1fc1cbc", func := "loop.example/g00933/laws.FnExactNeedlessPoints", spec := "fnExactNeedlessPoints", unfollowed := true, recurses := true, apart := false }
def FnExactNeedlessPointsSaid : Prop := fnExactNeedlessPointsRow.holds Try.pinned (OpenSpec.ofChange fnExactNeedlessPointsSpec)

/-- ITS FALSE NEIGHBOUR: 'it returns false'. Refute it at one input. -/
def fnExactNeedlessPointsWrong : ChangeSpec := { name := "fnExactNeedlessPoints", fn := fun _ => fun
  | [d] => { results := [.lit (.bool false)], args := [d] }
  | _ => none }
def FnExactNeedlessPointsWrongFalsely : Prop := fnExactNeedlessPointsRow.holds Try.pinned (OpenSpec.ofChange fnExactNeedlessPointsWrong)

/- THE SECOND FORM. 'bulk': how many values and letters a reading holds, each counted each time it is reached (what is shared counts as often as it is met; a slice's spare places count too). A statement '..UptoSaid' is the law's where the arguments, and the package variables that the reading takes, are together of bulk at most 1048576: NARROWER than '..Said'. Prove '..Said' where nothing that the law and all that it calls make is longer than what came in: it says more and counts as full. Else prove '..UptoSaid'. A law counts once. -/
mutual
def uptoBulk {H : Type} : DataW H → Nat
  | .lit (.string bytes) => bytes.length + 1
  | .lit _ => 1
  | .nil => 1
  | .ptr d => uptoBulk d + 1
  | .slice elems spare => uptoBulkAll elems + uptoBulkAll spare + 1
  | .agg parts => uptoBulkAll parts + 1
  | .iface _ d => uptoBulk d + 1
  | .map entries => uptoBulkEntries entries + 1
  | .held _ => 1
def uptoBulkAll {H : Type} : List (DataW H) → Nat
  | [] => 0
  | d :: r => uptoBulk d + uptoBulkAll r
def uptoBulkEntries {H : Type} : List (Lit × DataW H) → Nat
  | [] => 0
  | x :: r => uptoBulkEntry x + uptoBulkEntries r
def uptoBulkEntry {H : Type} : Lit × DataW H → Nat
  | (.string bytes, d) => bytes.length + uptoBulk d + 1
  | (_, d) => uptoBulk d + 1
 end
def uptoSmall : (H : Type) → List (DataW H) → Bool := fun _ ds => decide (uptoBulkAll ds ≤ 1048576)
def OpenSpec.upto (s : _root_.Go.ChangeSpec) : _root_.Go.OpenSpec := { _root_.Go.OpenSpec.ofChange s with cond := some uptoSmall }

/-- 'laws.FnDeclinations', WHERE WHAT IT READS IS OF BULK AT MOST 1048576: true; the input reads as it did. -/
def fnDeclinationsUptoRow : OpenClaim := { program := "ytiimegmaokfpgaa", sum := "be06a119bc4b6ef8fd795bb13b08157b8885623b77f8eebf70ca8d77d1fc1cbc", func := "loop.example/g00933/laws.FnDeclinations", spec := "fnDeclinations", unfollowed := true, recurses := true, apart := false, narrowed := true }
def FnDeclinationsUptoSaid : Prop := fnDeclinationsUptoRow.holds Try.pinned (OpenSpec.upto fnDeclinationsSpec)

/-- 'laws.FnPoints', WHERE WHAT IT READS IS OF BULK AT MOST 1048576: true; the input reads as it did. -/
def fnPointsUptoRow : OpenClaim := { program := "ytiimegmaokfpgaa", sum := "be06a119bc4b6ef8fd795bb13b08157b8885623b77f8eebf70ca8d77d1fc1cbc", func := "loop.example/g00933/laws.FnPoints", spec := "fnPoints", unfollowed := true, recurses := true, apart := false, narrowed := true }
def FnPointsUptoSaid : Prop := fnPointsUptoRow.holds Try.pinned (OpenSpec.upto fnPointsSpec)

/-- 'laws.FnExactArePoints', WHERE WHAT IT READS IS OF BULK AT MOST 1048576: true; the input reads as it did. -/
def fnExactArePointsUptoRow : OpenClaim := { program := "ytiimegmaokfpgaa", sum := "be06a119bc4b6ef8fd795bb13b08157b8885623b77f8eebf70ca8d77d1fc1cbc", func := "loop.example/g00933/laws.FnExactArePoints", spec := "fnExactArePoints", apart := false, narrowed := true }
def FnExactArePointsUptoSaid : Prop := fnExactArePointsUptoRow.holds Try.pinned (OpenSpec.upto fnExactArePointsSpec)

/-- 'laws.FnExactDeclinationOn', WHERE WHAT IT READS IS OF BULK AT MOST 1048576: true; the input reads as it did. -/
def fnExactDeclinationOnUptoRow : OpenClaim := { program := "ytiimegmaokfpgaa", sum := "be06a119bc4b6ef8fd795bb13b08157b8885623b77f8eebf70ca8d77d1fc1cbc", func := "loop.example/g00933/laws.FnExactDeclinationOn", spec := "fnExactDeclinationOn", unfollowed := true, recurses := true, apart := false, narrowed := true }
def FnExactDeclinationOnUptoSaid : Prop := fnExactDeclinationOnUptoRow.holds Try.pinned (OpenSpec.upto fnExactDeclinationOnSpec)

/-- 'laws.FnExactTrueBearing', WHERE WHAT IT READS IS OF BULK AT MOST 1048576: true; the input reads as it did. -/
def fnExactTrueBearingUptoRow : OpenClaim := { program := "ytiimegmaokfpgaa", sum := "be06a119bc4b6ef8fd795bb13b08157b8885623b77f8eebf70ca8d77d1fc1cbc", func := "loop.example/g00933/laws.FnExactTrueBearing", spec := "fnExactTrueBearing", unfollowed := true, recurses := true, apart := false, narrowed := true }
def FnExactTrueBearingUptoSaid : Prop := fnExactTrueBearingUptoRow.holds Try.pinned (OpenSpec.upto fnExactTrueBearingSpec)

/-- 'laws.FnExactMagneticBearing', WHERE WHAT IT READS IS OF BULK AT MOST 1048576: true; the input reads as it did. -/
def fnExactMagneticBearingUptoRow : OpenClaim := { program := "ytiimegmaokfpgaa", sum := "be06a119bc4b6ef8fd795bb13b08157b8885623b77f8eebf70ca8d77d1fc1cbc", func := "loop.example/g00933/laws.FnExactMagneticBearing", spec := "fnExactMagneticBearing", unfollowed := true, recurses := true, apart := false, narrowed := true }
def FnExactMagneticBearingUptoSaid : Prop := fnExactMagneticBearingUptoRow.holds Try.pinned (OpenSpec.upto fnExactMagneticBearingSpec)

/-- 'laws.FnExactCorrectAll', WHERE WHAT IT READS IS OF BULK AT MOST 1048576: true; the input reads as it did. -/
def fnExactCorrectAllUptoRow : OpenClaim := { program := "ytiimegmaokfpgaa", sum := "be06a119bc4b6ef8fd795bb13b08157b8885623b77f8eebf70ca8d77d1fc1cbc", func := "loop.example/g00933/laws.FnExactCorrectAll", spec := "fnExactCorrectAll", unfollowed := true, recurses := true, apart := false, narrowed := true }
def FnExactCorrectAllUptoSaid : Prop := fnExactCorrectAllUptoRow.holds Try.pinned (OpenSpec.upto fnExactCorrectAllSpec)

/-- 'laws.FnExactDaysWith', WHERE WHAT IT READS IS OF BULK AT MOST 1048576: true; the input reads as it did. -/
def fnExactDaysWithUptoRow : OpenClaim := { program := "ytiimegmaokfpgaa", sum := "be06a119bc4b6ef8fd795bb13b08157b8885623b77f8eebf70ca8d77d1fc1cbc", func := "loop.example/g00933/laws.FnExactDaysWith", spec := "fnExactDaysWith", unfollowed := true, recurses := true, apart := false, narrowed := true }
def FnExactDaysWithUptoSaid : Prop := fnExactDaysWithUptoRow.holds Try.pinned (OpenSpec.upto fnExactDaysWithSpec)

/-- 'laws.FnExactChangeBetween', WHERE WHAT IT READS IS OF BULK AT MOST 1048576: true; the input reads as it did. -/
def fnExactChangeBetweenUptoRow : OpenClaim := { program := "ytiimegmaokfpgaa", sum := "be06a119bc4b6ef8fd795bb13b08157b8885623b77f8eebf70ca8d77d1fc1cbc", func := "loop.example/g00933/laws.FnExactChangeBetween", spec := "fnExactChangeBetween", unfollowed := true, recurses := true, apart := false, narrowed := true }
def FnExactChangeBetweenUptoSaid : Prop := fnExactChangeBetweenUptoRow.holds Try.pinned (OpenSpec.upto fnExactChangeBetweenSpec)

/-- 'laws.FnExactAddPoint', WHERE WHAT IT READS IS OF BULK AT MOST 1048576: true; the input reads as it did. -/
def fnExactAddPointUptoRow : OpenClaim := { program := "ytiimegmaokfpgaa", sum := "be06a119bc4b6ef8fd795bb13b08157b8885623b77f8eebf70ca8d77d1fc1cbc", func := "loop.example/g00933/laws.FnExactAddPoint", spec := "fnExactAddPoint", unfollowed := true, recurses := true, apart := false, narrowed := true }
def FnExactAddPointUptoSaid : Prop := fnExactAddPointUptoRow.holds Try.pinned (OpenSpec.upto fnExactAddPointSpec)

/-- 'laws.FnExactNeedlessPoints', WHERE WHAT IT READS IS OF BULK AT MOST 1048576: true; the input reads as it did. -/
def fnExactNeedlessPointsUptoRow : OpenClaim := { program := "ytiimegmaokfpgaa", sum := "be06a119bc4b6ef8fd795bb13b08157b8885623b77f8eebf70ca8d77d1fc1cbc", func := "loop.example/g00933/laws.FnExactNeedlessPoints", spec := "fnExactNeedlessPoints", unfollowed := true, recurses := true, apart := false, narrowed := true }
def FnExactNeedlessPointsUptoSaid : Prop := fnExactNeedlessPointsUptoRow.holds Try.pinned (OpenSpec.upto fnExactNeedlessPointsSpec)

end Rows
end Go.Proofs.Ytiimegmaokfpgaa
