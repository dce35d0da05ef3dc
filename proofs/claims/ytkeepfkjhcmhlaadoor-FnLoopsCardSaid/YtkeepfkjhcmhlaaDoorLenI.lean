/-
  The program's length of three parts.
  Conditions: none but those that a theorem names.
-/
import Derived.Test.YtkeepfkjhcmhlaaDoorSinI
import Derived.Test.YtkeepfkjhcmhlaaDoorLenM
import Derived.LoopTactic
namespace Go.Proofs.YtkeepfkjhcmhlaaDoor.leni
open Go.RowKit
open reads base win len
set_option linter.unusedVariables false

theorem all3 {lo hi a b c : Int} {t : Bool} (h : decide ((lo ≤ a ∧ a ≤ hi) ∧ (lo ≤ b ∧ b ≤ hi) ∧ (lo ≤ c ∧ c ≤ hi)) = t) : allIn lo hi [a, b, c] = t := by
  rw [← h]; simp [allIn, btw, Bool.decide_and, Bool.and_assoc]
/-- the whole root -/
def RPost (S : Int) (w : World) (r : Ending) (w' : World) : Prop := ∃ q, IsRoot S q ∧ r = .returned (.int .i64 q) ∧ w = w'
set_option maxHeartbeats 4000000 in
set_option maxRecDepth 100000 in
theorem root_any (S : Int) (w : World) (s0 : 0 ≤ S) (s1 : S ≤ 30000000000) : Calls Tryd.prog 127 #[.int .i64 S] w (RPost S w) := by
  go_enter Tryd.func127, Tryd.ntmps127
  go_wp2_with fail
  go_loop [3, 4, 5] (fun a b _ => ∃ lo hi : Int, 0 ≤ lo ∧ lo < hi ∧ hi ≤ 200000 ∧ a = .int .i64 lo ∧ b = .int .i64 hi ∧ Hid (lo * lo ≤ S ∧ S < hi * hi)) (fun a b _ => (intOf b - intOf a).toNat)
  case atStart => exact ⟨0, 200000, by decide, by decide, by decide, rfl, rfl, Lib.hid ⟨by omega, by omega⟩⟩
  case round =>
    obtain ⟨lo, hi, l0, l1, l2, rfl, rfl, HI⟩ := hrel
    by_cases hlt : 1 < hi - lo
    · obtain ⟨M, hM⟩ : ∃ M, (lo + hi) / 2 = M := ⟨_, rfl⟩
      have m0 : lo + 1 ≤ M := by omega
      have m1 : M < hi := by omega
      have m2 : 0 ≤ M * M := Int.mul_nonneg (by omega) (by omega)
      have m3 : M * M ≤ 200000 * 200000 := sq_mono (by omega) (by omega)
      by_cases hc : M * M ≤ S
      · have hcd : decide (M * M ≤ S) = true := by simpa using hc
        go_wp2_with fail
        go_round
        case rel => exact ⟨M, hi, by omega, by omega, by omega, by first | rfl | rw [hM], rfl, Lib.hid ⟨hc, HI.out.2⟩⟩
        case measure => simp [intOf]; omega
      · have hcd : decide (M * M ≤ S) = false := by simpa using hc
        go_wp2_with fail
        go_round
        case rel => exact ⟨lo, M, by omega, by omega, by omega, rfl, by first | rfl | rw [hM], Lib.hid ⟨HI.out.1, by omega⟩⟩
        case measure => simp [intOf]; omega
    · obtain rfl : hi = lo + 1 := by omega
      have hd : decide (1 < lo + 1 - lo) = false := by simp; omega
      go_wp2_with fail
      go_ret
      exact ⟨lo, ⟨l0, HI.out.1, HI.out.2⟩, rfl, rfl⟩

theorem lengthOf_impl (e n u : Int) (w : World) : Calls Tryd.prog 110 #[.int .i64 e, .int .i64 n, .int .i64 u] w (LPost e n u w) := by
  by_cases h : (-100000 ≤ e ∧ e ≤ 100000) ∧ (-100000 ≤ n ∧ n ≤ 100000) ∧ (-100000 ≤ u ∧ u ≤ 100000)
  · have HA := Lib.hid (show okL e n u from h)
    have H1 := Lib.hid (decide_eq_true h)
    obtain ⟨p1, q1⟩ := sq_bd e h.1.1 h.1.2
    obtain ⟨p2, q2⟩ := sq_bd n h.2.1.1 h.2.1.2
    obtain ⟨p3, q3⟩ := sq_bd u h.2.2.1 h.2.2.2
    clear h
    go_enter Tryd.func110, Tryd.ntmps110
    go_wp2_with fail
    refine (lengths_new _ [e, n, u] _ _ _ true _ _ rfl rfl (by simp) rfl (all3 H1.out)).mono ?_
    rintro r w' ⟨rfl, rfl⟩
    go_wp2_with fail
    refine (root_any (e * e + n * n + u * u) _ (by omega) (by omega)).mono ?_
    rintro r w' ⟨q, hq, rfl, rfl⟩
    have HQ := Lib.hid hq
    clear hq
    go_wp2_with fail
    go_ret2
    exact ⟨.inl ⟨HA.out, q, HQ.out, rfl⟩, (Below.refl _ _).alloc (Nat.le_refl _) _⟩
  · have HA := Lib.hid (show ¬ okL e n u from h)
    have H1 := Lib.hid (decide_eq_false h)
    clear h
    go_enter Tryd.func110, Tryd.ntmps110
    go_wp2_with fail
    refine (lengths_new _ [e, n, u] _ _ _ false _ _ rfl rfl (by simp) rfl (all3 H1.out)).mono ?_
    rintro r w' ⟨rfl, rfl⟩
    go_wp2_with fail
    go_ret2
    exact ⟨.inr ⟨HA.out, rfl⟩, (Below.refl _ _).alloc (Nat.le_refl _) _⟩
end Go.Proofs.YtkeepfkjhcmhlaaDoor.leni
