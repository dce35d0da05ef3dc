/-
  The program's distance of two numbers and turn between two bearings.
  Conditions: none but those that a theorem names.
-/
import Derived.Test.YtnlljdepcldibaaWin
import Derived.Test.YtnlljdepcldibaaTurn0
import Derived.Test.YtnlljdepcldibaaMost
namespace Go.Proofs.Ytnlljdepcldibaa.win
open Go.RowKit
open reads base mst
set_option linter.unusedVariables false
set_option linter.unusedSimpArgs false

/-- how far apart two numbers are -/
theorem dist_is (a b v : Int) (h : Hid (mx (a - b) (b - a) = v)) (w : World) (a0 : -1000000 ≤ a) (a1 : a ≤ 1000000) (b0 : -1000000 ≤ b) (b1 : b ≤ 1000000) : Calls Try.prog 73 #[.int .i64 a, .int .i64 b] w fun e w' => e = .returned (.int .i64 v) ∧ w = w' := by
  have k := h.out
  unfold mx at k
  by_cases c1 : a < b
  · have HV := Lib.hid (show v = b - a by rw [← k]; split <;> omega)
    clear k
    have c2 : ¬ b < a := by omega
    go_enter Try.func73, Try.ntmps73
    go_wp2_with fail
    go_ret
    exact ⟨by rw [HV.out]; rfl, rfl⟩
  by_cases c2 : b < a
  · have HV := Lib.hid (show v = a - b by rw [← k]; split <;> omega)
    clear k
    go_enter Try.func73, Try.ntmps73
    go_wp2_with fail
    go_ret
    exact ⟨by rw [HV.out]; rfl, rfl⟩
  · obtain rfl : a = b := by omega
    have HV := Lib.hid (show v = 0 by rw [← k]; split <;> omega)
    clear k
    go_enter Try.func73, Try.ntmps73
    go_wp2_with fail
    all_goals
      go_ret
      exact ⟨by rw [HV.out]; rfl, rfl⟩
theorem turn_of {a b v : Int} (a0 : 0 ≤ a ∧ a ≤ 359) (b0 : 0 ≤ b ∧ b ≤ 359) (h : mx (a - b) (b - a) = v) : 0 ≤ v ∧ v ≤ 359 ∧ tn.turn a b = if v < 360 - v then v else 360 - v := by
  unfold mx at h
  unfold tn.turn
  refine ⟨?_, ?_, ?_⟩
  · split at h <;> omega
  · split at h <;> omega
  · split at h <;> split <;> split <;> omega
theorem turn_impl (a b : Int) (w : World) : Calls Try.prog 72 #[.int .i64 a, .int .i64 b] w (APost (tn.ansTurn a b) w) := by
  by_cases h : (0 ≤ a ∧ a ≤ 359) ∧ (0 ≤ b ∧ b ≤ 359)
  · obtain ⟨v, hv⟩ : ∃ v, mx (a - b) (b - a) = v := ⟨_, rfl⟩
    obtain ⟨v0, v1, v2⟩ := turn_of h.1 h.2 hv
    have HV := Lib.hid hv
    have HT := Lib.hid v2
    have HA := Lib.hid (show tn.ansTurn a b = .tuple #[.int .i64 (tn.turn a b), .bool true] from if_pos h)
    have H1 := Lib.hid (show allIn 0 359 [a, b] = true from two_in (btw_mk h.1.1 h.1.2) (btw_mk h.2.1 h.2.2))
    obtain ⟨⟨h0, h1⟩, k0, k1⟩ := h
    clear hv v2
    go_enter Try.func72, Try.ntmps72
    go_wp2_with fail
    refine (bearings_new _ [a, b] _ _ _ true _ _ rfl rfl (by simp) rfl H1.out).mono ?_
    rintro e w' ⟨rfl, rfl⟩
    go_wp2_with fail
    refine (dist_is a b v HV _ (by omega) (by omega) (by omega) (by omega)).mono ?_
    rintro e w' ⟨rfl, rfl⟩
    by_cases c3 : v < 360 - v
    · have HR := Lib.hid (show tn.turn a b = v by rw [HT.out, if_pos c3])
      go_wp2_with fail
      go_ret2
      exact ⟨by rw [HA.out, HR.out]; rfl, (Below.refl _ _).alloc (Nat.le_refl _) _⟩
    · have HR := Lib.hid (show tn.turn a b = 360 - v by rw [HT.out, if_neg c3])
      go_wp2_with fail
      all_goals
        go_ret2
        exact ⟨by rw [HA.out, HR.out]; first | rfl | (congr 2; simp; omega), (Below.refl _ _).alloc (Nat.le_refl _) _⟩
  · have HA := Lib.hid (show tn.ansTurn a b = .tuple #[.int .i64 0, .bool false] from if_neg h)
    have H1 := Lib.hid (show allIn 0 359 [a, b] = false by
      rw [two_in rfl rfl, Bool.and_eq_false_iff]
      by_cases c : 0 ≤ a ∧ a ≤ 359
      · exact Or.inr (btw_out (by omega))
      · exact Or.inl (btw_out (by omega)))
    clear h
    go_enter Try.func72, Try.ntmps72
    go_wp2_with fail
    refine (bearings_new _ [a, b] _ _ _ false _ _ rfl rfl (by simp) rfl H1.out).mono ?_
    rintro e w' ⟨rfl, rfl⟩
    go_wp2_with fail
    go_ret2
    exact ⟨by rw [HA.out]; rfl, (Below.refl _ _).alloc (Nat.le_refl _) _⟩
end Go.Proofs.Ytnlljdepcldibaa.win
