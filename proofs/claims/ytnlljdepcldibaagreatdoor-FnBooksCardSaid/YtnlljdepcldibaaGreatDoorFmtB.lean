/-
  FormatInt of the program and of the model, within the limits and beyond.
  Conditions: the table of the powers of ten is laid.
-/
import Derived.Test.YtnlljdepcldibaaGreatDoorShelfItoa
import Derived.Test.YtnlljdepcldibaaGreatDoorNum
import Derived.WalkKit
import Derived.ProofKit
import Derived.Lib.LaidTab
import Derived.Lib.AppendIntMem
import Derived.LaidMore
namespace Go.Proofs.YtnlljdepcldibaaGreatDoor.fmtb
open Go.RowKit
set_option linter.unusedVariables false

theorem gTab : Tryz.prog.globalNamed "internal/strconv.uint64pow10" = some 1 := by kernel_rfl
theorem gTabType : (Tryz.prog.globals[1]?).map (·.type) = some 104 := by kernel_rfl
theorem cellsTab : Tryz.prog.cellsOf 104 = 20 := by kernel_rfl
theorem cellsOne : Tryz.prog.cellsOf 55 = 1 := by kernel_rfl

/-- FormatInt of the program, within the limits -/
theorem fmt_in (x : Int) (w : World) (h0 : -999999 ≤ x) (h1 : x ≤ 999999) (ht : Lib.TabIs Tryz.prog w "internal/strconv.uint64pow10" .u64 Lib.pow10Tab) :
    Calls Tryz.prog 70 #[.int .i64 x] w fun e w' => e = .returned (.tuple #[.string ⟨(Lib.itoa x).toArray⟩, .bool true]) ∧ Below w.heap.size w w' := by
  have HT := Lib.hid ht
  clear ht
  go_enter Tryz.func70, Tryz.ntmps70
  go_wp2_with (go_at_call 20; refine (Tryz.strconv_Itoa _ (by omega) (by omega) _ HT.out).mono ?_; rintro e w' ⟨rfl, k, os, rfl⟩)
  go_ret2
  exact ⟨rfl, Lib.below_grow _ _ (Nat.le_refl _) _ _⟩

/-- FormatInt of the program, outside of the limits -/
theorem fmt_out (x : Int) (w : World) (h : x < -999999 ∨ 999999 < x) :
    Calls Tryz.prog 70 #[.int .i64 x] w fun e w' => e = .returned (.tuple #[.string ⟨#[]⟩, .bool false]) ∧ w = w' := by
  by_cases hx : x < -999999
  · go_enter Tryz.func70, Tryz.ntmps70
    go_wp2_with fail
    go_ret2
    exact ⟨rfl, rfl⟩
  · have hy : 999999 < x := by omega
    clear h
    go_enter Tryz.func70, Tryz.ntmps70
    go_wp2_with fail
    go_ret2
    exact ⟨rfl, rfl⟩

theorem in_yes (x a b : Int) (w : World) (h0 : a ≤ x) (h1 : x ≤ b) :
    Calls Tryz.prog 65 #[.int .i64 x, .int .i64 a, .int .i64 b] w fun e w' => e = .returned (.bool true) ∧ w = w' := by
  go_enter Tryz.func65, Tryz.ntmps65
  go_wp2_with fail
  go_ret
  exact ⟨rfl, rfl⟩

theorem in_no (x a b : Int) (w : World) (h : x < a ∨ b < x) :
    Calls Tryz.prog 65 #[.int .i64 x, .int .i64 a, .int .i64 b] w fun e w' => e = .returned (.bool false) ∧ w = w' := by
  by_cases hx : x < a
  · go_enter Tryz.func65, Tryz.ntmps65
    go_wp2_with fail
    go_ret
    exact ⟨rfl, rfl⟩
  · have hy : b < x := by omega
    have hz : a ≤ x := by omega
    have hd : decide (x ≤ b) = false := by simpa using hy
    clear h hx
    go_enter Tryz.func65, Tryz.ntmps65
    go_wp2_with fail
    go_ret
    exact ⟨rfl, rfl⟩

end Go.Proofs.YtnlljdepcldibaaGreatDoor.fmtb
