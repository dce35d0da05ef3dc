/-
  The program's angles that read no sine, function by function: rounded division, turns, back bearings, the length.
  Conditions: none but those that a theorem names.
-/
import Derived.Test.YtekbiapgbhaibabDoorAngI
namespace Go.Proofs.YtekbiapgbhaibabDoor.angi
open Go.RowKit
open reads ang
set_option linter.unusedVariables false

theorem roundedDiv_impl (a b : Int) (w : World) : Calls Tryd.prog 17 #[.int .i64 a, .int .i64 b] w (APost (ansDiv a b) w) := by
  by_cases h : -1000000000 ≤ a ∧ a ≤ 1000000000
  · by_cases k : 1 ≤ b ∧ b ≤ 1000000
    · have HA := Lib.hid (show ansDiv a b = .tuple #[.int .i64 (rdiv a b), .bool true] from if_pos ⟨h, k⟩)
      have H1 := Lib.hid (band h.1 h.2)
      have H2 := Lib.hid (band k.1 k.2)
      have H3 := Lib.hid (fun W => quot_any a b W h.1 h.2 k.1 k.2)
      clear h k
      go_enter Tryd.func17, Tryd.ntmps17
      go_wp2_with fail
      refine (within_new _ _ _ [a] _ _ _ true _ _ rfl rfl (by simp) rfl (all1 H1.out)).mono ?_
      rintro e w' ⟨rfl, rfl⟩
      go_wp2_with fail
      refine (within_new _ _ _ [b] _ _ _ true _ _ (by simp) rfl (by simp) rfl (all1 H2.out)).mono ?_
      rintro e w' ⟨rfl, rfl⟩
      go_wp2_with fail
      refine (H3.out _).mono ?_
      rintro e w' ⟨rfl, rfl⟩
      go_wp2_with fail
      go_ret2
      exact ⟨by rw [HA.out]; rfl, ((Below.refl _ _).alloc (Nat.le_refl _) _).alloc (by simp) _⟩
    · have HA := Lib.hid (show ansDiv a b = .tuple #[.int .i64 0, .bool false] from if_neg (fun c => k c.2))
      have H1 := Lib.hid (band h.1 h.2)
      have H2 := Lib.hid (bout k)
      clear h k
      go_enter Tryd.func17, Tryd.ntmps17
      go_wp2_with fail
      refine (within_new _ _ _ [a] _ _ _ true _ _ rfl rfl (by simp) rfl (all1 H1.out)).mono ?_
      rintro e w' ⟨rfl, rfl⟩
      go_wp2_with fail
      refine (within_new _ _ _ [b] _ _ _ false _ _ (by simp) rfl (by simp) rfl (all1 H2.out)).mono ?_
      rintro e w' ⟨rfl, rfl⟩
      go_wp2_with fail
      go_ret2
      exact ⟨by rw [HA.out]; rfl, ((Below.refl _ _).alloc (Nat.le_refl _) _).alloc (by simp) _⟩
  · have HA := Lib.hid (show ansDiv a b = .tuple #[.int .i64 0, .bool false] from if_neg (fun c => h c.1))
    have H1 := Lib.hid (bout h)
    clear h
    go_enter Tryd.func17, Tryd.ntmps17
    go_wp2_with fail
    refine (within_new _ _ _ [a] _ _ _ false _ _ rfl rfl (by simp) rfl (all1 H1.out)).mono ?_
    rintro e w' ⟨rfl, rfl⟩
    go_wp2_with fail
    go_ret2
    exact ⟨by rw [HA.out]; rfl, (Below.refl _ _).alloc (Nat.le_refl _) _⟩

theorem all2 {lo hi a b : Int} {t : Bool} (h : decide ((lo ≤ a ∧ a ≤ hi) ∧ (lo ≤ b ∧ b ≤ hi)) = t) : allIn lo hi [a, b] = t := by
  rw [← h]; simp [allIn]
theorem all3 {lo hi a b c : Int} {t : Bool} (h : decide ((lo ≤ a ∧ a ≤ hi) ∧ (lo ≤ b ∧ b ≤ hi) ∧ (lo ≤ c ∧ c ≤ hi)) = t) : allIn lo hi [a, b, c] = t := by
  rw [← h]; simp [allIn]

theorem back_impl (a : Int) (w : World) : Calls Tryd.prog 27 #[.int .i64 a] w (APost (ansBack a) w) := by
  by_cases h : 0 ≤ a ∧ a ≤ 359
  · have HA := Lib.hid (show ansBack a = .tuple #[.int .i64 ((a + 180) % 360), .bool true] from if_pos h)
    have H1 := Lib.hid (band h.1 h.2)
    obtain ⟨h0, h1⟩ := h
    go_enter Tryd.func27, Tryd.ntmps27
    go_wp2_with fail
    refine (bearings_new _ [a] _ _ _ true _ _ rfl rfl (by simp) rfl (all1 H1.out)).mono ?_
    rintro e w' ⟨rfl, rfl⟩
    go_wp2_with fail
    go_ret2
    exact ⟨by rw [HA.out]; rfl, (Below.refl _ _).alloc (Nat.le_refl _) _⟩
  · have HA := Lib.hid (show ansBack a = .tuple #[.int .i64 0, .bool false] from if_neg h)
    have H1 := Lib.hid (bout h)
    clear h
    go_enter Tryd.func27, Tryd.ntmps27
    go_wp2_with fail
    refine (bearings_new _ [a] _ _ _ false _ _ rfl rfl (by simp) rfl (all1 H1.out)).mono ?_
    rintro e w' ⟨rfl, rfl⟩
    go_wp2_with fail
    go_ret2
    exact ⟨by rw [HA.out]; rfl, (Below.refl _ _).alloc (Nat.le_refl _) _⟩

theorem tup_int {a b : Int} {t : Bool} (h : a = b) : Ending.returned (.tuple #[.int .i64 a, .bool t]) = .returned (.tuple #[.int .i64 b, .bool t]) := by rw [h]

theorem turn_impl (a b : Int) (w : World) : Calls Tryd.prog 24 #[.int .i64 a, .int .i64 b] w (APost (ansTurn a b) w) := by
  by_cases h : (0 ≤ a ∧ a ≤ 359) ∧ (0 ≤ b ∧ b ≤ 359)
  · have HA := Lib.hid (show ansTurn a b = .tuple #[.int .i64 (turn a b), .bool true] from if_pos h)
    have H1 := Lib.hid (decide_eq_true h)
    obtain ⟨⟨h0, h1⟩, k0, k1⟩ := h
    go_enter Tryd.func24, Tryd.ntmps24
    go_wp2_with fail
    refine (bearings_new _ [a, b] _ _ _ true _ _ rfl rfl (by simp) rfl (all2 H1.out)).mono ?_
    rintro e w' ⟨rfl, rfl⟩
    by_cases c1 : a < b
    · have c2 : ¬ b < a := by omega
      by_cases c3 : b - a < 360 - (b - a)
      · go_wp2_with fail
        go_ret2
        exact ⟨by rw [HA.out]; refine tup_int ?_; unfold turn; split <;> omega, (Below.refl _ _).alloc (Nat.le_refl _) _⟩
      · go_wp2_with fail
        all_goals
          go_ret2
          exact ⟨by rw [HA.out]; refine tup_int ?_; unfold turn; split <;> omega, (Below.refl _ _).alloc (Nat.le_refl _) _⟩
    · by_cases c2 : b < a
      · by_cases c3 : a - b < 360 - (a - b)
        · go_wp2_with fail
          go_ret2
          exact ⟨by rw [HA.out]; refine tup_int ?_; unfold turn; split <;> omega, (Below.refl _ _).alloc (Nat.le_refl _) _⟩
        · go_wp2_with fail
          all_goals
            go_ret2
            exact ⟨by rw [HA.out]; refine tup_int ?_; unfold turn; split <;> omega, (Below.refl _ _).alloc (Nat.le_refl _) _⟩
      · obtain rfl : a = b := by omega
        go_wp2_with fail
        all_goals
          go_ret2
          exact ⟨by rw [HA.out]; refine tup_int ?_; unfold turn; split <;> omega, (Below.refl _ _).alloc (Nat.le_refl _) _⟩
  · have HA := Lib.hid (show ansTurn a b = .tuple #[.int .i64 0, .bool false] from if_neg h)
    have H1 := Lib.hid (decide_eq_false h)
    clear h
    go_enter Tryd.func24, Tryd.ntmps24
    go_wp2_with fail
    refine (bearings_new _ [a, b] _ _ _ false _ _ rfl rfl (by simp) rfl (all2 H1.out)).mono ?_
    rintro e w' ⟨rfl, rfl⟩
    go_wp2_with fail
    go_ret2
    exact ⟨by rw [HA.out]; rfl, (Below.refl _ _).alloc (Nat.le_refl _) _⟩

/-- the whole root -/
def RPost (S : Int) (w : World) (r : Ending) (w' : World) : Prop := ∃ q, IsRoot S q ∧ r = .returned (.int .i64 q) ∧ w = w'
set_option maxHeartbeats 4000000 in
set_option maxRecDepth 100000 in
theorem root_any (S : Int) (w : World) (s0 : 0 ≤ S) (s1 : S ≤ 30000000000) : Calls Tryd.prog 61 #[.int .i64 S] w (RPost S w) := by
  go_enter Tryd.func61, Tryd.ntmps61
  go_wp2_with fail
  go_loop [3, 4, 5] (fun a b _ => ∃ lo hi : Int, 0 ≤ lo ∧ lo < hi ∧ hi ≤ 200000 ∧ a = .int .i64 lo ∧ b = .int .i64 hi ∧ Hid (lo * lo ≤ S ∧ S < hi * hi)) (fun a b _ => (intOf b - intOf a).toNat)
  case atStart => exact ⟨0, 200000, by decide, by decide, by decide, rfl, rfl, Lib.hid ⟨by omega, by omega⟩⟩
  case round =>
    obtain ⟨lo, hi, l0, l1, l2, rfl, rfl, HI⟩ := hrel
    by_cases hlt : 1 < hi - lo
    · obtain ⟨M, hM⟩ : ∃ M, (lo + hi) / 2 = M := ⟨_, rfl⟩
      have m0 : lo + 1 ≤ M := by omega
      have m1 : M < hi := by omega
      have m2 : 0 ≤ M * M := Int.mul_nonneg (by omega) (by omega)
      have m3 : M * M ≤ 200000 * 200000 := sq_mono (by omega) (by omega)
      by_cases hc : M * M ≤ S
      · have hcd : decide (M * M ≤ S) = true := by simpa using hc
        go_wp2_with fail
        go_round
        case rel => exact ⟨M, hi, by omega, by omega, by omega, by first | rfl | rw [hM], rfl, Lib.hid ⟨hc, HI.out.2⟩⟩
        case measure => simp [intOf]; omega
      · have hcd : decide (M * M ≤ S) = false := by simpa using hc
        go_wp2_with fail
        go_round
        case rel => exact ⟨lo, M, by omega, by omega, by omega, rfl, by first | rfl | rw [hM], Lib.hid ⟨HI.out.1, by omega⟩⟩
        case measure => simp [intOf]; omega
    · obtain rfl : hi = lo + 1 := by omega
      have hd : decide (1 < lo + 1 - lo) = false := by simp; omega
      go_wp2_with fail
      go_ret
      exact ⟨lo, ⟨l0, HI.out.1, HI.out.2⟩, rfl, rfl⟩

theorem lengthOf_impl (e n u : Int) (w : World) : Calls Tryd.prog 36 #[.int .i64 e, .int .i64 n, .int .i64 u] w (LPost e n u w) := by
  by_cases h : (-100000 ≤ e ∧ e ≤ 100000) ∧ (-100000 ≤ n ∧ n ≤ 100000) ∧ (-100000 ≤ u ∧ u ≤ 100000)
  · have HA := Lib.hid (show okL e n u from h)
    have H1 := Lib.hid (decide_eq_true h)
    obtain ⟨p1, q1⟩ := sq_bd e h.1.1 h.1.2
    obtain ⟨p2, q2⟩ := sq_bd n h.2.1.1 h.2.1.2
    obtain ⟨p3, q3⟩ := sq_bd u h.2.2.1 h.2.2.2
    clear h
    go_enter Tryd.func36, Tryd.ntmps36
    go_wp2_with fail
    refine (lengths_new _ [e, n, u] _ _ _ true _ _ rfl rfl (by simp) rfl (all3 H1.out)).mono ?_
    rintro r w' ⟨rfl, rfl⟩
    go_wp2_with fail
    refine (root_any (e * e + n * n + u * u) _ (by omega) (by omega)).mono ?_
    rintro r w' ⟨q, hq, rfl, rfl⟩
    have HQ := Lib.hid hq
    clear hq
    go_wp2_with fail
    go_ret2
    exact ⟨.inl ⟨HA.out, q, HQ.out, rfl⟩, (Below.refl _ _).alloc (Nat.le_refl _) _⟩
  · have HA := Lib.hid (show ¬ okL e n u from h)
    have H1 := Lib.hid (decide_eq_false h)
    clear h
    go_enter Tryd.func36, Tryd.ntmps36
    go_wp2_with fail
    refine (lengths_new _ [e, n, u] _ _ _ false _ _ rfl rfl (by simp) rfl (all3 H1.out)).mono ?_
    rintro r w' ⟨rfl, rfl⟩
    go_wp2_with fail
    go_ret2
    exact ⟨.inr ⟨HA.out, rfl⟩, (Below.refl _ _).alloc (Nat.le_refl _) _⟩
end Go.Proofs.YtekbiapgbhaibabDoor.angi
