/-
  The model of passages: tests, the passage of a station, areas.
  Conditions: the passages lie in one block, at most 2000000 of them.
-/
import Derived.Test.YtnpghhpcloljeaaDoorPwA
import Derived.Test.YtnpghhpcloljeaaDoorIn
import Derived.Test.YtnpghhpcloljeaaDoorLgA
import Derived.BigQuiet
import Derived.Deep.QuietTactic
import Derived.Deep.Cut
import Derived.Deep.DeepCutAuto
import Derived.RegionTactic
import Derived.Deep.RegionWith
import Derived.OwnWalk
import Derived.Deep.RegionHeld3
namespace Go.Proofs.YtnpghhpcloljeaaDoor.pw
open Go.RowKit
open reads base ty rowi win inn lg
set_option linter.unusedVariables false
set_option linter.unusedSimpArgs false

theorem far_is (x : Int) (t : Bool) (h : Hid (far x = t)) (w : World) : Calls Tryd.prog 69 #[.int .i64 x] w fun e w' => e = .returned (.bool t) ∧ w = w' := by
  have H := Lib.hid (show btw 0 x 200 = t from h.out)
  clear h
  go_enter Tryd.func69, Tryd.ntmps69
  go_wp2_with fail
  refine (in_is x 0 200 t H _).mono ?_
  rintro e w' ⟨rfl, rfl⟩
  go_wp2_with fail
  go_ret
  exact ⟨rfl, rfl⟩
set_option maxHeartbeats 4000000 in
set_option maxRecDepth 100000 in
theorem one_any (x : Pg) (w : World) : Calls Tryd.prog 44 #[.agg #[.int .i64 x.st, .int .i64 x.lf, .int .i64 x.rt, .int .i64 x.ab, .int .i64 x.be]] w (BPost (okPg x) w) := by
  obtain ⟨t0, H0⟩ : ∃ t, Hid (btw 0 x.st 7 = t) := ⟨_, Lib.hid rfl⟩
  obtain ⟨t1, H1⟩ : ∃ t, Hid (far x.lf = t) := ⟨_, Lib.hid rfl⟩
  obtain ⟨t2, H2⟩ : ∃ t, Hid (far x.rt = t) := ⟨_, Lib.hid rfl⟩
  obtain ⟨t3, H3⟩ : ∃ t, Hid (far x.ab = t) := ⟨_, Lib.hid rfl⟩
  obtain ⟨t4, H4⟩ : ∃ t, Hid (far x.be = t) := ⟨_, Lib.hid rfl⟩
  have HA := Lib.hid (show okPg x = (t0 && t1 && t2 && t3 && t4) by unfold okPg; rw [H0.out, H1.out, H2.out, H3.out, H4.out])
  go_enter Tryd.func44, Tryd.ntmps44
  go_wp2_with fail
  refine (station_is _ t0 H0 _).mono ?_
  rintro e w' ⟨rfl, rfl⟩
  cases t0
  · go_wp2_with fail
    go_ret
    exact ⟨by rw [HA.out]; rfl, (Below.refl w.heap.size w).alloc (Nat.le_refl _) _⟩
  go_wp2_with fail
  refine (far_is _ t1 H1 _).mono ?_
  rintro e w' ⟨rfl, rfl⟩
  cases t1
  · go_wp2_with fail
    go_ret
    exact ⟨by rw [HA.out]; rfl, (Below.refl w.heap.size w).alloc (Nat.le_refl _) _⟩
  go_wp2_with fail
  refine (far_is _ t2 H2 _).mono ?_
  rintro e w' ⟨rfl, rfl⟩
  cases t2
  · go_wp2_with fail
    go_ret
    exact ⟨by rw [HA.out]; rfl, (Below.refl w.heap.size w).alloc (Nat.le_refl _) _⟩
  go_wp2_with fail
  refine (far_is _ t3 H3 _).mono ?_
  rintro e w' ⟨rfl, rfl⟩
  cases t3
  · go_wp2_with fail
    go_ret
    exact ⟨by rw [HA.out]; rfl, (Below.refl w.heap.size w).alloc (Nat.le_refl _) _⟩
  go_wp2_with fail
  refine (far_is _ t4 H4 _).mono ?_
  rintro e w' ⟨rfl, rfl⟩
  cases t4
  · go_wp2_with fail
    go_ret
    exact ⟨by rw [HA.out]; rfl, (Below.refl w.heap.size w).alloc (Nat.le_refl _) _⟩
  go_wp2_with fail
  go_ret
  exact ⟨by rw [HA.out]; rfl, (Below.refl w.heap.size w).alloc (Nat.le_refl _) _⟩
theorem one_is (x : Pg) (t : Bool) (h : Hid (okPg x = t)) (w : World) : Calls Tryd.prog 44 #[.agg #[.int .i64 x.st, .int .i64 x.lf, .int .i64 x.rt, .int .i64 x.ab, .int .i64 x.be]] w (BPost t w) := by rw [← h.out]; exact one_any x w
set_option maxHeartbeats 4000000 in
set_option maxRecDepth 100000 in
theorem area_any (x : Pg) (w : World) (hx : Hid (okPg x = true)) : Calls Tryd.prog 55 #[.agg #[.int .i64 x.st, .int .i64 x.lf, .int .i64 x.rt, .int .i64 x.ab, .int .i64 x.be]] w (APost (.int .i64 (area x)) w) := by
  obtain ⟨-, ⟨a0, a1⟩, ⟨b0, b1⟩, ⟨c0, c1⟩, d0, d1⟩ := okPg_lim hx.out
  obtain ⟨m0, m1⟩ := area_lim hx.out
  unfold area at m0 m1
  go_enter Tryd.func55, Tryd.ntmps55
  go_wp2_with fail
  go_ret
  exact ⟨rfl, (Below.refl w.heap.size w).alloc (Nat.le_refl _) _⟩
theorem area_is (x : Pg) (v : Int) (h : Hid (area x = v)) (w : World) (hx : Hid (okPg x = true)) : Calls Tryd.prog 55 #[.agg #[.int .i64 x.st, .int .i64 x.lf, .int .i64 x.rt, .int .i64 x.ab, .int .i64 x.be]] w (APost (.int .i64 v) w) := by rw [← h.out]; exact area_any x w hx
set_option maxHeartbeats 4000000 in
set_option maxRecDepth 100000 in
theorem find_any (A : Option Addr) (n cap : Nat) (ts : List Pg) (s r : Int) (w : World) (hn : n ≤ 2000000) (B : Nat) (hts : Hid (PgAt w B A n ts)) (hr : Hid (fdI ts s = r)) :
    Calls Tryd.prog 27 #[.slice A n cap, .int .i64 s] w fun e w' => e = .returned (.int .i64 r) ∧ w = w' := by
  have hL : Hid (ts.length = n) := Lib.hid hts.out.1
  go_enter Tryd.func27, Tryd.ntmps27
  go_wp2_with fail
  go_loop [5] (fun i => ∃ k : Nat, k ≤ n ∧ i = .int .i64 (k : Nat) ∧ Hid (∀ (j : Nat) q, j < k → ts[j]? = some q → ¬ q.st = s)) (fun i => n - (intOf i).toNat)
  case atStart => exact ⟨0, Nat.zero_le _, rfl, Lib.hid (fun j q h => absurd h (Nat.not_lt_zero _))⟩
  case round =>
    obtain ⟨k, hk, rfl, HI⟩ := hrel
    have hk0 : (0 : Int) ≤ (k : Int) := by omega
    by_cases hlt : k < n
    · have hki : (k : Int) < (n : Int) := by omega
      have hkd : decide (k < n) = true := by simpa using hlt
      obtain ⟨x, hx⟩ := at_lt hL.out hlt
      obtain ⟨g, rfl, hg, c0, c1, c2, c3, c4⟩ := hts.out.2 k x hx
      have HX := Lib.hid hx
      clear hx
      cases hq : (x.st == s)
      · have HN := Lib.hid (show ∀ (j : Nat) q, j < k + 1 → ts[j]? = some q → ¬ q.st = s from fun j q hj hjq => by
          by_cases e : j = k
          · subst e; rw [HX.out] at hjq; obtain rfl := Option.some.inj hjq; simpa using hq
          · exact HI.out j q (by omega) hjq)
        go_wp2_with fail
        go_round
        case rel => exact ⟨k + 1, by omega, by go_num, HN⟩
        case measure => simp [intOf]; omega
      · have HR := Lib.hid (show (k : Int) = r by rw [← hr.out]; exact (fdI_some (fdN_is ts s k x HI.out HX.out (by simpa using hq)) (by rw [hL.out]; exact hlt)).symm)
        go_wp2_with fail
        go_ret
        exact ⟨by rw [HR.out]; rfl, rfl⟩
    · have hkd : decide (k < n) = false := by simpa using hlt
      obtain rfl : k = n := by omega
      have HR := Lib.hid (show (-1 : Int) = r by rw [← hr.out]; exact (fdI_none (fdN_none ts s (fun j q h => HI.out j q (by rw [← hL.out]; exact lt_at h) h))).symm)
      go_wp2_with fail
      go_ret
      exact ⟨by rw [← HR.out]; rfl, rfl⟩
set_option maxHeartbeats 4000000 in
set_option maxRecDepth 100000 in
theorem at_any (A : Option Addr) (n cap : Nat) (ts : List Pg) (s v : Int) (w : World) (hn : n ≤ 2000000) (hts : Hid (PgAt w w.heap.size A n ts)) (hg : Hid (goodPg ts = true)) (hv : Hid (arAt ts s = v)) :
    Calls Tryd.prog 49 #[.slice A n cap, .int .i64 s] w (APost (.int .i64 v) w) := by
  have hL : Hid (ts.length = n) := Lib.hid hts.out.1
  obtain ⟨k, HK⟩ : ∃ k, Hid (fdN ts s = k) := ⟨_, Lib.hid rfl⟩
  by_cases hlt : k < n
  · have hki : (k : Int) < (n : Int) := by omega
    have hk0 : (0 : Int) ≤ (k : Int) := by omega
    obtain ⟨x, hx⟩ := at_lt hL.out hlt
    obtain ⟨g, rfl, hgl, c0, c1, c2, c3, c4⟩ := hts.out.2 k x hx
    have HO := Lib.hid (good_at hg.out hx)
    have HV := Lib.hid (show area x = v by rw [← hv.out]; unfold arAt pgAt; rw [HK.out, hx]; rfl)
    have HF := Lib.hid (fdI_some HK.out (by rw [hL.out]; exact hlt))
    clear hx
    go_enter Tryd.func49, Tryd.ntmps49
    go_wp2_with fail
    refine (find_any _ n cap ts s k _ hn w.heap.size hts HF).mono ?_
    rintro e w1 ⟨rfl, rfl⟩
    go_wp2_with fail
    refine (area_is x v HV _ HO).mono ?_
    rintro e w2 ⟨rfl, b2⟩
    have HB := Lib.hid b2
    clear b2
    go_wp2_with fail
    go_ret
    exact ⟨rfl, HB.out⟩
  · have HE := Lib.hid (show fdN ts s = ts.length by have := (fdN_lim ts s).1; rw [hL.out] at *; rw [HK.out] at *; omega)
    have HV := Lib.hid (show (0 : Int) = v by rw [← hv.out]; unfold arAt; rw [pgAt_none HE.out]; rfl)
    go_enter Tryd.func49, Tryd.ntmps49
    go_wp2_with fail
    refine (find_any _ n cap ts s (-1) _ hn w.heap.size hts (Lib.hid (fdI_none HE.out))).mono ?_
    rintro e w1 ⟨rfl, rfl⟩
    go_wp2_with fail
    go_ret
    exact ⟨by rw [← HV.out]; rfl, Below.refl _ _⟩
end Go.Proofs.YtnpghhpcloljeaaDoor.pw
