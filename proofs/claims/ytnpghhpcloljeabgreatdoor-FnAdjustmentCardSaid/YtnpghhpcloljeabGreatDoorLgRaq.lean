/-
  The model of the legs: the reverse.
  The model of the angles: the length of three parts.
  Conditions: those that each theorem names.
-/
import Derived.Test.YtnpghhpcloljeabGreatDoorTyLegq
import Derived.Test.YtnpghhpcloljeabGreatDoorNtCq
import Derived.Test.YtnpghhpcloljeabGreatDoorReadsq
namespace Go.Proofs.YtnpghhpcloljeabGreatDoor.lg
open Go.RowKit
open reads base ty inn
set_option linter.unusedVariables false
set_option linter.unusedSimpArgs false

/-- the reverse -/
def revLg (x : Lg) : Lg := ⟨x.to_, x.frm, x.tape, (x.comp + 180) % 360, -x.slope⟩
theorem revLg_ok {x : Lg} (h : okLg x = true) : okLg (revLg x) = true := by
  obtain ⟨a, b, c, d, e, f⟩ := okLg_lim h
  exact okLg_mk ⟨b, a, fun q => c q.symm, d, by simp only [revLg]; omega, by simp only [revLg]; omega⟩
set_option maxHeartbeats 4000000 in
set_option maxRecDepth 100000 in
theorem rev_any (x : Lg) (w : World) (c0 : 0 ≤ x.comp) (c1 : x.comp ≤ 100000) (s0 : -1000 ≤ x.slope) (s1 : x.slope ≤ 1000) : Calls Tryz.prog 147 #[.agg #[.int .i64 x.frm, .int .i64 x.to_, .int .i64 x.tape, .int .i64 x.comp, .int .i64 x.slope]] w (APost (.agg #[.int .i64 (revLg x).frm, .int .i64 (revLg x).to_, .int .i64 (revLg x).tape, .int .i64 (revLg x).comp, .int .i64 (revLg x).slope]) w) := by
  have HR := Lib.hid (show revLg x = ⟨x.to_, x.frm, x.tape, (x.comp + 180) % 360, -x.slope⟩ from rfl)
  go_enter Tryz.func147, Tryz.ntmps147
  go_wp2_with fail
  refine bodyPost_ret (v := .agg #[.int .i64 (revLg x).frm, .int .i64 (revLg x).to_, .int .i64 (revLg x).tape, .int .i64 (revLg x).comp, .int .i64 (revLg x).slope]) (by simp [results, Tryz.results147, go_sem, HR.out]) rfl ⟨rfl, ?_⟩
  exact ((Below.refl _ _).alloc (Nat.le_refl _) _).alloc (by simp) _
theorem rev_is (x y : Lg) (h : Hid (revLg x = y)) (w : World) (c0 : 0 ≤ x.comp) (c1 : x.comp ≤ 100000) (s0 : -1000 ≤ x.slope) (s1 : x.slope ≤ 1000) : Calls Tryz.prog 147 #[.agg #[.int .i64 x.frm, .int .i64 x.to_, .int .i64 x.tape, .int .i64 x.comp, .int .i64 x.slope]] w (APost (.agg #[.int .i64 y.frm, .int .i64 y.to_, .int .i64 y.tape, .int .i64 y.comp, .int .i64 y.slope]) w) := by rw [← h.out]; exact rev_any x w c0 c1 s0 s1
end Go.Proofs.YtnpghhpcloljeabGreatDoor.lg

namespace Go.Proofs.YtnpghhpcloljeabGreatDoor.len
open Go.RowKit
open reads
set_option linter.unusedVariables false

theorem long_any (x : Int) (w : World) :
    Calls Tryz.prog 171 #[.int .i64 x] w fun e w' => e = .returned (.bool (decide (-100000 ≤ x) && decide (x ≤ 100000))) ∧ w = w' := by
  go_enter Tryz.func171, Tryz.ntmps171
  go_wp2_with fail
  refine (inn.in_is _ _ _ _ (Lib.hid rfl) _).mono ?_
  rintro e w' ⟨rfl, rfl⟩
  go_wp2_with fail
  go_ret
  exact ⟨rfl, rfl⟩

theorem long_is (x : Int) (t : Bool) (h : (decide (-100000 ≤ x) && decide (x ≤ 100000)) = t) (w : World) :
    Calls Tryz.prog 171 #[.int .i64 x] w fun e w' => e = .returned (.bool t) ∧ w = w' := by rw [← h]; exact long_any x w
set_option maxHeartbeats 4000000 in
set_option maxRecDepth 100000 in
theorem lengthOf_model (e n u : Int) (w : World) : Calls Tryz.prog 148 #[.int .i64 e, .int .i64 n, .int .i64 u] w (LPost e n u w) := by
  by_cases h : -100000 ≤ e ∧ e ≤ 100000
  · by_cases k : -100000 ≤ n ∧ n ≤ 100000
    · by_cases j : -100000 ≤ u ∧ u ≤ 100000
      · have HA := Lib.hid (show okL e n u from ⟨h, k, j⟩)
        have H1 := Lib.hid (band h.1 h.2)
        have H2 := Lib.hid (band k.1 k.2)
        have H3 := Lib.hid (band j.1 j.2)
        obtain ⟨p1, q1⟩ := sq_bd e h.1 h.2
        obtain ⟨p2, q2⟩ := sq_bd n k.1 k.2
        obtain ⟨p3, q3⟩ := sq_bd u j.1 j.2
        obtain ⟨S, HS⟩ : ∃ S, Hid (e * e + n * n + u * u = S) := ⟨_, Lib.hid rfl⟩
        have hS := HS.out
        clear h k j
        go_enter Tryz.func148, Tryz.ntmps148
        go_wp2_with fail
        refine (long_is _ true H1.out _).mono ?_
        rintro r w' ⟨rfl, rfl⟩
        go_wp2_with fail
        refine (long_is _ true H2.out _).mono ?_
        rintro r w' ⟨rfl, rfl⟩
        go_wp2_with fail
        refine (long_is _ true H3.out _).mono ?_
        rintro r w' ⟨rfl, rfl⟩
        go_wp2_with fail
        go_loop [9, 10, 11] (fun a b _ => ∃ lo hi : Int, 0 ≤ lo ∧ lo ≤ hi ∧ hi ≤ 200000 ∧ a = .int .i64 lo ∧ b = .int .i64 hi ∧ Hid (lo * lo ≤ S ∧ S < (hi + 1) * (hi + 1))) (fun a b _ => (intOf b - intOf a).toNat)
        case atStart => exact ⟨0, 200000, by decide, by decide, by decide, rfl, rfl, Lib.hid ⟨by omega, by omega⟩⟩
        case round =>
          obtain ⟨lo, hi, l0, l1, l2, rfl, rfl, HI⟩ := hrel
          by_cases hlt : lo < hi
          · obtain ⟨M, hM⟩ : ∃ M, (lo + hi + 1) / 2 = M := ⟨_, rfl⟩
            have m0 : lo + 1 ≤ M := by omega
            have m1 : M ≤ hi := by omega
            have m2 : 0 ≤ M * M := Int.mul_nonneg (by omega) (by omega)
            have m3 : M * M ≤ 200000 * 200000 := sq_mono (by omega) (by omega)
            by_cases hc : M * M ≤ S
            · have hcd : decide (M * M ≤ S) = true := by simpa using hc
              go_wp2_with fail
              go_round
              case rel => exact ⟨M, hi, by omega, by omega, by omega, by first | rfl | rw [hM], rfl, Lib.hid ⟨hc, HI.out.2⟩⟩
              case measure => simp [intOf]; omega
            · have hcd : decide (M * M ≤ S) = false := by simpa using hc
              go_wp2_with fail
              go_round
              case rel => exact ⟨lo, M - 1, by omega, by omega, by omega, rfl, by first | rfl | rw [hM], Lib.hid ⟨HI.out.1, by rw [show M - 1 + 1 = M by omega]; omega⟩⟩
              case measure => simp [intOf]; omega
          · obtain rfl : lo = hi := by omega
            go_wp2_with fail
            go_ret2
            exact ⟨.inl ⟨HA.out, lo, ⟨l0, by rw [HS.out]; exact HI.out.1, by rw [HS.out]; exact HI.out.2⟩, rfl⟩, Below.refl _ _⟩
      · have HA := Lib.hid (show ¬ okL e n u from fun c => j c.2.2)
        have H1 := Lib.hid (band h.1 h.2)
        have H2 := Lib.hid (band k.1 k.2)
        have H3 := Lib.hid (bout j)
        clear h k j
        go_enter Tryz.func148, Tryz.ntmps148
        go_wp2_with fail
        refine (long_is _ true H1.out _).mono ?_
        rintro r w' ⟨rfl, rfl⟩
        go_wp2_with fail
        refine (long_is _ true H2.out _).mono ?_
        rintro r w' ⟨rfl, rfl⟩
        go_wp2_with fail
        refine (long_is _ false H3.out _).mono ?_
        rintro r w' ⟨rfl, rfl⟩
        go_wp2_with fail
        go_ret2
        exact ⟨.inr ⟨HA.out, rfl⟩, Below.refl _ _⟩
    · have HA := Lib.hid (show ¬ okL e n u from fun c => k c.2.1)
      have H1 := Lib.hid (band h.1 h.2)
      have H2 := Lib.hid (bout k)
      clear h k
      go_enter Tryz.func148, Tryz.ntmps148
      go_wp2_with fail
      refine (long_is _ true H1.out _).mono ?_
      rintro r w' ⟨rfl, rfl⟩
      go_wp2_with fail
      refine (long_is _ false H2.out _).mono ?_
      rintro r w' ⟨rfl, rfl⟩
      go_wp2_with fail
      go_ret2
      exact ⟨.inr ⟨HA.out, rfl⟩, Below.refl _ _⟩
  · have HA := Lib.hid (show ¬ okL e n u from fun c => h c.1)
    have H1 := Lib.hid (bout h)
    clear h
    go_enter Tryz.func148, Tryz.ntmps148
    go_wp2_with fail
    refine (long_is _ false H1.out _).mono ?_
    rintro r w' ⟨rfl, rfl⟩
    go_wp2_with fail
    go_ret2
    exact ⟨.inr ⟨HA.out, rfl⟩, Below.refl _ _⟩
end Go.Proofs.YtnpghhpcloljeabGreatDoor.len
