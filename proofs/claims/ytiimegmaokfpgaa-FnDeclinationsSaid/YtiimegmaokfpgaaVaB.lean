/-
  The model of the declination: points, the declination of a day, bearings, the change between two days, the days with a declination.
  Conditions: the points lie in one block, at most 2000000 of them.
-/
import Derived.Test.YtiimegmaokfpgaaVaA
import Derived.Test.YtiimegmaokfpgaaIn
namespace Go.Proofs.Ytiimegmaokfpgaa.va
open Go.RowKit
open reads base ty rowi inn
set_option linter.unusedVariables false
set_option linter.unusedSimpArgs false

theorem day_is (x : Int) (t : Bool) (h : Hid (dayOk x = t)) (w : World) :
    Calls Try.prog 58 #[.int .i64 x] w fun e w' => e = .returned (.bool t) ∧ w = w' := by
  have H := Lib.hid (show btw 0 x 999 = t from h.out)
  clear h
  go_enter Try.func58, Try.ntmps58
  go_wp2_with fail
  refine (in_is x 0 999 t H _).mono ?_
  rintro e w' ⟨rfl, rfl⟩
  go_wp2_with fail
  go_ret
  exact ⟨rfl, rfl⟩
theorem tenths_is (x : Int) (t : Bool) (h : Hid (btw (-900) x 900 = t)) (w : World) :
    Calls Try.prog 66 #[.int .i64 x] w fun e w' => e = .returned (.bool t) ∧ w = w' := by
  go_enter Try.func66, Try.ntmps66
  go_wp2_with fail
  refine (in_is x (-900) 900 t h _).mono ?_
  rintro e w' ⟨rfl, rfl⟩
  go_wp2_with fail
  go_ret
  exact ⟨rfl, rfl⟩
theorem fine_is (x : Int) (t : Bool) (h : Hid (fineOk x = t)) (w : World) :
    Calls Try.prog 59 #[.int .i64 x] w fun e w' => e = .returned (.bool t) ∧ w = w' := by
  have H := Lib.hid (show btw 0 x 3599 = t from h.out)
  clear h
  go_enter Try.func59, Try.ntmps59
  go_wp2_with fail
  refine (in_is x 0 3599 t H _).mono ?_
  rintro e w' ⟨rfl, rfl⟩
  go_wp2_with fail
  go_ret
  exact ⟨rfl, rfl⟩
theorem round_pos (a b : Int) (w : World) (a0 : 0 ≤ a) (a1 : a ≤ 1000000000) (b0 : 1 ≤ b) (b1 : b ≤ 1000000) :
    Calls Try.prog 75 #[.int .i64 a, .int .i64 b] w fun e w' => e = .returned (.int .i64 (rdv a b)) ∧ w = w' := by
  have HA := Lib.hid (rdv_pos (a := a) (b := b) (by omega))
  have q0 : 0 ≤ (2 * a + b) / (2 * b) := Int.ediv_nonneg (by omega) (by omega)
  have q1 : (2 * a + b) / (2 * b) ≤ 3000000000 := Int.le_trans (Int.ediv_le_self _ (by omega)) (by omega)
  have hb2 : ¬ 2 * b = 0 := by omega
  go_enter Try.func75, Try.ntmps75
  go_wp2_with fail
  go_ret
  exact ⟨by rw [HA.out]; rfl, rfl⟩
theorem rdv_lim (a b : Int) (a0 : 0 ≤ a) (a1 : a ≤ 1000000000) (b0 : 1 ≤ b) : 0 ≤ rdv a b ∧ rdv a b ≤ 1000000000 :=
  ⟨rdv_low a0 (by omega), Int.le_trans (rdv_le (c := a) a0 (by omega) (by have := Int.mul_le_mul_of_nonneg_left b0 a0; omega)) a1⟩
theorem round_any (a b : Int) (w : World) (a0 : -1000000000 ≤ a) (a1 : a ≤ 1000000000) (b0 : 1 ≤ b) (b1 : b ≤ 1000000) :
    Calls Try.prog 75 #[.int .i64 a, .int .i64 b] w fun e w' => e = .returned (.int .i64 (rdv a b)) ∧ w = w' := by
  by_cases h : a < 0
  · have HA := Lib.hid (rdv_neg (b := b) h)
    have hq := rdv_lim (-a) b (by omega) (by omega) b0
    go_enter Try.func75, Try.ntmps75
    go_wp2_with fail
    refine (round_pos (-a) b _ (by omega) (by omega) b0 b1).mono ?_
    rintro e w' ⟨rfl, rfl⟩
    go_wp2_with fail
    go_ret
    exact ⟨by rw [HA.out]; rfl, rfl⟩
  · exact round_pos a b w (by omega) a1 b0 b1
theorem round_is (a b r : Int) (h : Hid (rdv a b = r)) (w : World) (a0 : -1000000000 ≤ a) (a1 : a ≤ 1000000000) (b0 : 1 ≤ b) (b1 : b ≤ 1000000) :
    Calls Try.prog 75 #[.int .i64 a, .int .i64 b] w fun e w' => e = .returned (.int .i64 r) ∧ w = w' := by rw [← h.out]; exact round_any a b w a0 a1 b0 b1
end Go.Proofs.Ytiimegmaokfpgaa.va
