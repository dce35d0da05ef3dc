/-
  The model of the tools: readings, their correction, the error of a check.
  Conditions: none but those that a theorem names.
-/
import Derived.Test.YtekbiapgbhaibaaTlA
import Derived.Deep.RegionHeld3
namespace Go.Proofs.Ytekbiapgbhaibaa.tl
open Go.RowKit
open reads
set_option linter.unusedVariables false

theorem one_is (x : Tl) (t : Bool) (h : Hid (okT x = t)) (w : World) : Calls Try.prog 58 #[.agg #[.int .i64 x.id, .int .i64 x.kind, .int .i64 x.zero, .int .i64 x.scale]] w (BPost t w) := by
  rw [← h.out]; exact one_any x w
theorem isTool_model (x : Tl) (w : World) : Calls Try.prog 19 #[.agg #[.int .i64 x.id, .int .i64 x.kind, .int .i64 x.zero, .int .i64 x.scale]] w (BPost (okT x) w) := by
  go_enter Try.func19, Try.ntmps19
  go_wp2_with fail
  refine (one_is x _ (Lib.hid rfl) _).mono ?_
  rintro e w1 ⟨rfl, b1⟩
  have HB := Lib.hid (((Below.refl w.heap.size w).alloc (Nat.le_refl _) _).trans (b1.mono (by simp)))
  clear b1
  go_wp2_with fail
  go_ret
  exact ⟨rfl, HB.out⟩

/-- a reading of a kind -/
def rdg (k r : Int) : Bool := if k = 0 then btw 0 r 1000 else if k = 1 then btw 0 r 359 else btw (-90) r 90
theorem rdg_bd {k r : Int} (h : rdg k r = true) : -90 ≤ r ∧ r ≤ 1000 := by
  unfold rdg at h
  split at h
  · have := btw_yes h; omega
  · split at h
    · have := btw_yes h; omega
    · have := btw_yes h; omega
theorem reading_is (k r : Int) (t : Bool) (h : Hid (rdg k r = t)) (w : World) :
    Calls Try.prog 59 #[.int .i64 k, .int .i64 r] w fun e w' => e = .returned (.bool t) ∧ w = w' := by
  by_cases k0 : k = 0
  · subst k0
    have H := Lib.hid (show btw 0 r 1000 = t from h.out)
    go_enter Try.func59, Try.ntmps59
    go_wp2_with fail
    refine (in_is _ _ _ t H _).mono ?_
    rintro e w' ⟨rfl, rfl⟩
    go_wp2_with fail
    go_ret
    exact ⟨rfl, rfl⟩
  · by_cases k1 : k = 1
    · subst k1
      have H := Lib.hid (show btw 0 r 359 = t from h.out)
      go_enter Try.func59, Try.ntmps59
      go_wp2_with fail
      refine (in_is _ _ _ t H _).mono ?_
      rintro e w' ⟨rfl, rfl⟩
      go_wp2_with fail
      go_ret
      exact ⟨rfl, rfl⟩
    · have H := Lib.hid (show btw (-90) r 90 = t by have := h.out; unfold rdg at this; rwa [if_neg k0, if_neg k1] at this)
      have d0 : (k == 0) = false := by simpa using k0
      have d1 : (k == 1) = false := by simpa using k1
      go_enter Try.func59, Try.ntmps59
      go_wp2_with fail
      refine (in_is _ _ _ t H _).mono ?_
      rintro e w' ⟨rfl, rfl⟩
      go_wp2_with fail
      go_ret
      exact ⟨rfl, rfl⟩

/-- a rounded division -/
def rdiv (a b : Int) : Int := if a < 0 then -((-2 * a + b) / (2 * b)) else (2 * a + b) / (2 * b)
theorem round_pos (a b : Int) (w : World) (a0 : 0 ≤ a) (a1 : a ≤ 1000000000) (b0 : 1 ≤ b) (b1 : b ≤ 1000000) :
    Calls Try.prog 76 #[.int .i64 a, .int .i64 b] w fun e w' => e = .returned (.int .i64 (rdiv a b)) ∧ w = w' := by
  have HA := Lib.hid (show rdiv a b = (2 * a + b) / (2 * b) from if_neg (by omega))
  have q0 : 0 ≤ (2 * a + b) / (2 * b) := Int.ediv_nonneg (by omega) (by omega)
  have q1 : (2 * a + b) / (2 * b) ≤ 3000000000 := Int.le_trans (Int.ediv_le_self _ (by omega)) (by omega)
  have hb2 : ¬ 2 * b = 0 := by omega
  go_enter Try.func76, Try.ntmps76
  go_wp2_with fail
  go_ret
  exact ⟨by rw [HA.out]; rfl, rfl⟩
theorem rdiv_flip (a b : Int) (h : a < 0) : rdiv a b = - rdiv (-a) b := by
  unfold rdiv
  rw [if_pos h, if_neg (by omega)]
  congr 2; omega
theorem rdiv_bd (a b : Int) (a0 : 0 ≤ a) (a1 : a ≤ 1000000000) (b0 : 1 ≤ b) (b1 : b ≤ 1000000) : 0 ≤ rdiv a b ∧ rdiv a b ≤ 3000000000 := by
  rw [show rdiv a b = (2 * a + b) / (2 * b) from if_neg (by omega)]
  exact ⟨Int.ediv_nonneg (by omega) (by omega), Int.le_trans (Int.ediv_le_self _ (by omega)) (by omega)⟩
theorem round_any (a b : Int) (w : World) (a0 : -1000000000 ≤ a) (a1 : a ≤ 1000000000) (b0 : 1 ≤ b) (b1 : b ≤ 1000000) :
    Calls Try.prog 76 #[.int .i64 a, .int .i64 b] w fun e w' => e = .returned (.int .i64 (rdiv a b)) ∧ w = w' := by
  by_cases h : a < 0
  · have HA := Lib.hid (rdiv_flip a b h)
    have hq := rdiv_bd (-a) b (by omega) (by omega) b0 b1
    go_enter Try.func76, Try.ntmps76
    go_wp2_with fail
    refine (round_pos (-a) b _ (by omega) (by omega) b0 b1).mono ?_
    rintro e w' ⟨rfl, rfl⟩
    go_wp2_with fail
    go_ret
    exact ⟨by rw [HA.out]; rfl, rfl⟩
  · exact round_pos a b w (by omega) a1 b0 b1

/-- the corrected reading -/
def corr (x : Tl) (r : Int) : Int := if x.kind = 0 then rdiv ((r - x.zero) * x.scale) 1000 else if x.kind = 1 then (r - x.zero + 360) % 360 else r - x.zero
theorem scaled_bd (a s : Int) (a0 : -2000 ≤ a) (a1 : a ≤ 2000) (s0 : 900 ≤ s) (s1 : s ≤ 1100) : -2200000 ≤ a * s ∧ a * s ≤ 2200000 := by
  have h : (a * s).natAbs ≤ 2000 * 1100 := by rw [Int.natAbs_mul]; exact Nat.mul_le_mul (by omega) (by omega)
  omega
set_option maxHeartbeats 1000000 in
theorem correct_any (x : Tl) (r : Int) (w : World) (hx : Hid (okT x = true)) (r0 : -90 ≤ r) (r1 : r ≤ 1000) :
    Calls Try.prog 60 #[.agg #[.int .i64 x.id, .int .i64 x.kind, .int .i64 x.zero, .int .i64 x.scale], .int .i64 r] w (APost (.int .i64 (corr x r)) w) := by
  obtain ⟨-, ⟨k0, k1⟩, ⟨z0, z1⟩, ⟨s0, s1⟩, -⟩ := okT_lim hx.out
  obtain ⟨p0, p1⟩ := scaled_bd (r - x.zero) x.scale (by omega) (by omega) s0 s1
  clear hx
  by_cases c0 : x.kind = 0
  · have HC := Lib.hid (show corr x r = rdiv ((r - x.zero) * x.scale) 1000 from if_pos c0)
    have d0 : (x.kind == 0) = true := by simpa using c0
    clear c0
    go_enter Try.func60, Try.ntmps60
    go_wp2_with fail
    refine (round_any ((r - x.zero) * x.scale) 1000 _ (by omega) (by omega) (by decide) (by decide)).mono ?_
    rintro e w' ⟨rfl, rfl⟩
    go_wp2_with fail
    go_ret
    exact ⟨by rw [HC.out]; rfl, (Below.refl _ _).alloc (Nat.le_refl _) _⟩
  · have d0 : (x.kind == 0) = false := by simpa using c0
    by_cases c1 : x.kind = 1
    · have HC := Lib.hid (show corr x r = (r - x.zero + 360) % 360 by unfold corr; rw [if_neg c0, if_pos c1])
      have d1 : (x.kind == 1) = true := by simpa using c1
      clear c0 c1
      go_enter Try.func60, Try.ntmps60
      go_wp2_with fail
      go_ret
      exact ⟨by rw [HC.out]; rfl, (Below.refl _ _).alloc (Nat.le_refl _) _⟩
    · have HC := Lib.hid (show corr x r = r - x.zero by unfold corr; rw [if_neg c0, if_neg c1])
      have d1 : (x.kind == 1) = false := by simpa using c1
      clear c0 c1
      go_enter Try.func60, Try.ntmps60
      go_wp2_with fail
      go_ret
      exact ⟨by rw [HC.out]; rfl, (Below.refl _ _).alloc (Nat.le_refl _) _⟩
end Go.Proofs.Ytekbiapgbhaibaa.tl
