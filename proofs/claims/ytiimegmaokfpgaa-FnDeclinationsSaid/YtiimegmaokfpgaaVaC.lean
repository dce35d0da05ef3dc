/-
  The model of the declination: which lists are points; the declination of a day.
  Conditions: the points lie in one block, at most 2000000 of them.
-/
import Derived.Test.YtiimegmaokfpgaaVaB
import Derived.BigQuiet
import Derived.Deep.QuietTactic
import Derived.Deep.Cut
import Derived.Deep.DeepCutAuto
import Derived.RegionTactic
import Derived.Deep.RegionWith
import Derived.OwnWalk
namespace Go.Proofs.Ytiimegmaokfpgaa.va
open Go.RowKit
open reads base ty rowi inn
set_option linter.unusedVariables false
set_option linter.unusedSimpArgs false

set_option maxHeartbeats 8000000 in
set_option maxRecDepth 100000 in
theorem good_any (A : Option Addr) (n cap : Nat) (ts : List Dp) (w : World) (hn : n ≤ 2000000) (hts : Hid (DpAt w w.heap.size A n ts)) :
    Calls Try.prog 57 #[.slice A n cap] w (BPost (goodDp ts) w) := by
  have hL : Hid (ts.length = n) := Lib.hid hts.out.1
  go_enter Try.func57, Try.ntmps57
  go_wp2_with fail
  go_loopw [3] (fun i wr => ∃ k : Nat, k ≤ n ∧ i = .int .i64 (k : Nat) ∧ Hid (upTo ts k = true) ∧ Below w.heap.size w wr) (fun i _ => n - (intOf i).toNat)
  case atStart => exact ⟨0, Nat.zero_le _, rfl, Lib.hid rfl, Below.refl _ _⟩
  case round =>
    obtain ⟨k, hk, rfl, HI, hB⟩ := hrel
    have HB := Lib.hid hB
    clear hB
    have hk0 : (0 : Int) ≤ (k : Int) := by omega
    by_cases hlt : k < n
    · have hki : (k : Int) < (n : Int) := by omega
      have hkd : decide (k < n) = true := by simpa using hlt
      obtain ⟨x, hx⟩ := at_lt hL.out hlt
      obtain ⟨g, rfl, hg, c0, c1⟩ := (hts.out.below HB.out).2 k x hx
      have HX := Lib.hid hx
      clear hx
      obtain ⟨t1, h1⟩ : ∃ t, dayOk x.day = t := ⟨_, rfl⟩
      obtain ⟨t2, h2⟩ : ∃ t, btw (-900) x.tn 900 = t := ⟨_, rfl⟩
      have hok : okDp x = (t1 && t2) := by unfold okDp; rw [← h1, ← h2]; rfl
      have HD1 := Lib.hid h1
      have HD2 := Lib.hid h2
      clear h1 h2
      have done : ∀ b, upAt ts k = b → Hid (upAt ts k = b) := fun b h => Lib.hid h
      cases k with
      | zero =>
        have HU := Lib.hid (show upAt ts 0 = (t1 && t2) by rw [upAt_first HX.out, hok])
        clear hok done
        have z0 : ((0 : Nat) : Int) = 0 := rfl
        cases t1
        · have HF := Lib.hid (show goodDp ts = false by unfold goodDp; rw [upTo_no (by rw [hL.out]; exact hlt) HU.out, Bool.and_false])
          go_upto_region 4 with fail
          go_quiet (first | (go_at_call 58; exact Calls.quiet_of_same ((day_is x.day _ HD1 _).mono (by rintro e w9 ⟨h1, h2⟩; exact ⟨h1, h2.symm⟩))) | (go_at_call 66; exact Calls.quiet_of_same ((tenths_is x.tn _ HD2 _).mono (by rintro e w9 ⟨h1, h2⟩; exact ⟨h1, h2.symm⟩))))
          go_wp2_with fail
          go_ret
          exact ⟨ret_bool HF.out.symm, HB.out.trans ((drewN_below _ _).mono HB.out.size)⟩
        · skip
          cases t2
          · have HF := Lib.hid (show goodDp ts = false by unfold goodDp; rw [upTo_no (by rw [hL.out]; exact hlt) HU.out, Bool.and_false])
            go_upto_region 4 with fail
            go_quiet (first | (go_at_call 58; exact Calls.quiet_of_same ((day_is x.day _ HD1 _).mono (by rintro e w9 ⟨h1, h2⟩; exact ⟨h1, h2.symm⟩))) | (go_at_call 66; exact Calls.quiet_of_same ((tenths_is x.tn _ HD2 _).mono (by rintro e w9 ⟨h1, h2⟩; exact ⟨h1, h2.symm⟩))))
            go_wp2_with fail
            go_ret
            exact ⟨ret_bool HF.out.symm, HB.out.trans ((drewN_below _ _).mono HB.out.size)⟩
          · skip
            have HN := Lib.hid (show upTo ts (0 + 1) = true by rw [upTo_succ, HI.out, HU.out]; rfl)
            go_upto_region 4 with fail
            go_quiet (first | (go_at_call 58; exact Calls.quiet_of_same ((day_is x.day _ HD1 _).mono (by rintro e w9 ⟨h1, h2⟩; exact ⟨h1, h2.symm⟩))) | (go_at_call 66; exact Calls.quiet_of_same ((tenths_is x.tn _ HD2 _).mono (by rintro e w9 ⟨h1, h2⟩; exact ⟨h1, h2.symm⟩))))
            go_wp2_with fail
            go_roundw
            case rel => exact ⟨0 + 1, by omega, by go_num, HN, HB.out.trans ((drewN_below _ _).mono HB.out.size)⟩
            case measure => simp [intOf]; omega
      | succ k =>
        obtain ⟨y, hy⟩ := at_lt hL.out (show k < n by omega)
        obtain ⟨g', e', -, y0, -⟩ := (hts.out.below HB.out).2 k y hy
        obtain rfl : g = g' := by injection e' with e'; injection e'
        obtain ⟨t3, h3⟩ : ∃ t, decide (y.day < x.day) = t := ⟨_, rfl⟩
        have HU := Lib.hid (show upAt ts (k + 1) = ((t1 && t2) && t3) by rw [upAt_next HX.out hy, hok, h3])
        have h3' : decide (x.day ≤ y.day) = !t3 := by first | (rw [← h3]; done) | (rw [← h3]; by_cases c : y.day < x.day <;> simp [c] <;> (try omega))
        have hk1 : ((k + 1 : Nat) : Int) - 1 = (k : Int) := by omega
        have hp : decide (0 < ((k + 1 : Nat) : Int)) = true := by first | (simp; done) | (simp; omega)
        clear hok done hy e'
        cases t1
        · have HF := Lib.hid (show goodDp ts = false by unfold goodDp; rw [upTo_no (by rw [hL.out]; exact hlt) HU.out, Bool.and_false])
          go_upto_region 4 with fail
          go_quiet (first | (go_at_call 58; exact Calls.quiet_of_same ((day_is x.day _ HD1 _).mono (by rintro e w9 ⟨h1, h2⟩; exact ⟨h1, h2.symm⟩))) | (go_at_call 66; exact Calls.quiet_of_same ((tenths_is x.tn _ HD2 _).mono (by rintro e w9 ⟨h1, h2⟩; exact ⟨h1, h2.symm⟩))))
          go_wp2_with fail
          go_ret
          exact ⟨ret_bool HF.out.symm, HB.out.trans ((drewN_below _ _).mono HB.out.size)⟩
        · skip
          cases t2
          · have HF := Lib.hid (show goodDp ts = false by unfold goodDp; rw [upTo_no (by rw [hL.out]; exact hlt) HU.out, Bool.and_false])
            go_upto_region 4 with fail
            go_quiet (first | (go_at_call 58; exact Calls.quiet_of_same ((day_is x.day _ HD1 _).mono (by rintro e w9 ⟨h1, h2⟩; exact ⟨h1, h2.symm⟩))) | (go_at_call 66; exact Calls.quiet_of_same ((tenths_is x.tn _ HD2 _).mono (by rintro e w9 ⟨h1, h2⟩; exact ⟨h1, h2.symm⟩))))
            go_wp2_with fail
            go_ret
            exact ⟨ret_bool HF.out.symm, HB.out.trans ((drewN_below _ _).mono HB.out.size)⟩
          · skip
            cases t3
            · have HF := Lib.hid (show goodDp ts = false by unfold goodDp; rw [upTo_no (by rw [hL.out]; exact hlt) HU.out, Bool.and_false])
              go_upto_region 4 with fail
              go_quiet (first | (go_at_call 58; exact Calls.quiet_of_same ((day_is x.day _ HD1 _).mono (by rintro e w9 ⟨h1, h2⟩; exact ⟨h1, h2.symm⟩))) | (go_at_call 66; exact Calls.quiet_of_same ((tenths_is x.tn _ HD2 _).mono (by rintro e w9 ⟨h1, h2⟩; exact ⟨h1, h2.symm⟩))))
              go_wp2_with fail
              go_ret
              exact ⟨ret_bool HF.out.symm, HB.out.trans ((drewN_below _ _).mono HB.out.size)⟩
            · skip
              have HN := Lib.hid (show upTo ts ((k + 1) + 1) = true by rw [upTo_succ, HI.out, HU.out]; rfl)
              go_upto_region 4 with fail
              go_quiet (first | (go_at_call 58; exact Calls.quiet_of_same ((day_is x.day _ HD1 _).mono (by rintro e w9 ⟨h1, h2⟩; exact ⟨h1, h2.symm⟩))) | (go_at_call 66; exact Calls.quiet_of_same ((tenths_is x.tn _ HD2 _).mono (by rintro e w9 ⟨h1, h2⟩; exact ⟨h1, h2.symm⟩))))
              go_wp2_with fail
              go_roundw
              case rel => exact ⟨(k + 1) + 1, by omega, by go_num, HN, HB.out.trans ((drewN_below _ _).mono HB.out.size)⟩
              case measure => simp [intOf]; omega
    · have hkd : decide (k < n) = false := by simpa using hlt
      obtain rfl : k = n := by omega
      have HF := Lib.hid (show goodDp ts = btw 1 k 8 by unfold goodDp; rw [hL.out, HI.out, Bool.and_true])
      go_wp2_with fail
      refine (in_is _ _ _ _ (Lib.hid rfl) _).mono ?_
      rintro e w9 ⟨rfl, rfl⟩
      go_wp2_with fail
      go_ret
      exact ⟨ret_bool HF.out.symm, HB.out⟩
theorem good_is (A : Option Addr) (n cap : Nat) (ts : List Dp) (b : Bool) (h : Hid (goodDp ts = b)) (w : World) (hn : n ≤ 2000000) (hts : Hid (DpAt w w.heap.size A n ts)) :
    Calls Try.prog 57 #[.slice A n cap] w (BPost b w) := by rw [← h.out]; exact good_any A n cap ts w hn hts
set_option maxHeartbeats 4000000 in
set_option maxRecDepth 100000 in
theorem on_any (A : Option Addr) (n cap : Nat) (ts : List Dp) (d r : Int) (w : World) (hn : n ≤ 2000000) (hts : Hid (DpAt w w.heap.size A n ts)) (hg : Hid (goodDp ts = true)) (hd : Hid (dec ts d = r)) (hd0 : -100000 ≤ d) (hd1 : d ≤ 100000) :
    Calls Try.prog 60 #[.slice A n cap, .int .i64 d] w (APost (.int .i64 r) w) := by
  have HL := Lib.hid hts.out.1
  obtain ⟨l1, l8, hu⟩ := good_lim hg.out
  rw [HL.out] at l1 l8
  have HU := Lib.hid hu
  clear hu
  have hn1 : (1 : Int) ≤ (n : Int) := by omega
  have hn8 : (n : Int) ≤ 8 := by omega
  have hnm : (n : Int) - 1 = ((n - 1 : Nat) : Int) := by omega
  have hnp : (0 : Int) < (n : Int) := by omega
  have hnl : ((n - 1 : Nat) : Int) < (n : Int) := by omega
  have hnz : (0 : Int) ≤ ((n - 1 : Nat) : Int) := by omega
  obtain ⟨p, hp⟩ := at_lt HL.out (show 0 < n by omega)
  obtain ⟨z, hz⟩ := at_lt HL.out (show n - 1 < n by omega)
  obtain ⟨g, rfl, hg0, p0, p1⟩ := hts.out.2 0 p hp
  obtain ⟨g', e', -, z0, z1⟩ := hts.out.2 (n - 1) z hz
  obtain rfl : g = g' := by injection e' with e'; injection e'
  have HP := Lib.hid hp
  have HZ := Lib.hid hz
  clear hp hz e'
  simp only [Nat.zero_mul, Nat.zero_add] at p0 p1
  by_cases c : d ≤ p.day
  · have HR := Lib.hid (show p.tn = r by rw [← hd.out, dec_low HP.out c])
    have hcd : decide (d ≤ p.day) = true := by simpa using c
    go_enter Try.func60, Try.ntmps60
    go_wp2_with fail
    go_ret
    exact ⟨by rw [HR.out]; rfl, Below.refl _ _⟩
  have hcd : decide (d ≤ p.day) = false := by simpa using c
  by_cases c2 : z.day ≤ d
  · have HR := Lib.hid (show z.tn = r by rw [← hd.out, dec_last HU.out (by rw [HL.out]; omega) HZ.out c2])
    have hcd2 : decide (z.day ≤ d) = true := by simpa using c2
    go_enter Try.func60, Try.ntmps60
    go_wp2_with fail
    go_ret
    exact ⟨by rw [HR.out]; rfl, Below.refl _ _⟩
  have hcd2 : decide (z.day ≤ d) = false := by simpa using c2
  go_enter Try.func60, Try.ntmps60
  go_wp2_with fail
  go_loopw [6] (fun i wr => ∃ k : Nat, k + 1 < n ∧ i = .int .i64 ((k + 1 : Nat) : Int) ∧ Hid (∃ a, ts[k]? = some a ∧ a.day < d) ∧ wr = w) (fun i _ => n - (intOf i).toNat)
  case atStart => 
    refine ⟨0, ?_, rfl, Lib.hid ⟨p, HP.out, by omega⟩, rfl⟩
    rcases Nat.lt_or_ge 1 n with q | q
    · omega
    · exfalso
      obtain rfl : n = 1 := by omega
      have := HZ.out
      rw [show 1 - 1 = 0 from rfl, HP.out] at this
      obtain rfl := Option.some.inj this
      omega
  case round =>
    obtain ⟨k, hk, rfl, HA, rfl⟩ := hrel
    have hk0 : (0 : Int) ≤ (k : Int) := by omega
    have hk1 : ((k + 1 : Nat) : Int) < (n : Int) := by omega
    have hk2' : (0 : Int) ≤ ((k + 1 : Nat) : Int) := by omega
    obtain ⟨b, hb⟩ := at_lt HL.out hk
    obtain ⟨g', e', -, b0, b1⟩ := hts.out.2 (k + 1) b hb
    obtain rfl : g = g' := by injection e' with e'; injection e'
    have HBB := Lib.hid hb
    clear hb e'
    by_cases c3 : b.day < d
    · have hcd3 : decide (b.day < d) = true := by simpa using c3
      have hk2 : k + 1 + 1 < n := by
        rcases Nat.lt_or_ge (k + 1 + 1) n with q | q
        · exact q
        · exfalso
          have := HZ.out
          rw [show n - 1 = k + 1 by omega, HBB.out] at this
          obtain rfl := Option.some.inj this
          omega
      have hN := Lib.hid (show ∃ a, ts[k + 1]? = some a ∧ a.day < d from ⟨b, HBB.out, c3⟩)
      go_wp2_with fail
      go_roundw
      case rel => exact ⟨k + 1, hk2, by go_num, hN, trivial⟩
      case measure => simp [intOf]; omega
    · have hcd3 : decide (b.day < d) = false := by simpa using c3
      obtain ⟨a, ha, had⟩ := HA.out
      obtain ⟨g', e', -, a0, a1⟩ := hts.out.2 k a ha
      obtain rfl : g = g' := by injection e' with e'; injection e'
      obtain ⟨⟨m0, m1⟩, ⟨m2, m3⟩, ⟨m4, m5⟩, ⟨m6, m7⟩, ⟨m8, m9⟩, m10, m11⟩ := mix_num (d := d) (HU.out.1 _ a ha) (HU.out.1 _ b HBB.out) had (by omega)
      have la := okDp_lim (HU.out.1 _ a ha)
      have lb := okDp_lim (HU.out.1 _ b HBB.out)
      have HM := Lib.hid (show rdv (a.tn * (b.day - d) + b.tn * (d - a.day)) (b.day - a.day) = r by rw [← hd.out, dec_mid HU.out ha HBB.out had (by omega)]; rfl)
      clear ha e' HA HBB HP HZ
      have hkk : ((k + 1 : Nat) : Int) - 1 = (k : Int) := by omega
      have hkl : (k : Int) < (n : Int) := by omega
      go_upto_region 9 with fail
      go_region
      · obtain ⟨V, HV⟩ : ∃ V, Hid (((wr.alloc (.cells #[.int .i64 a.day, .int .i64 a.tn] 42)).alloc (.cells #[.int .i64 b.day, .int .i64 b.tn] 42)).drew = V) := ⟨_, Lib.hid rfl⟩
        have HB := Lib.hid (show Below wr.heap.size wr V by rw [← HV.out]; exact (((Below.refl _ _).alloc (Nat.le_refl _) _).alloc (by simp) _).drew)
        have H1 := Lib.hid (show Blk V wr.heap.size 42 #[.int .i64 a.day, .int .i64 a.tn] by rw [← HV.out]; exact ((Blk.new _ _ _).alloc _).drew)
        have H2 := Lib.hid (show Blk V (wr.heap.size + 1) 42 #[.int .i64 b.day, .int .i64 b.tn] by rw [← HV.out]; have h := Blk.new (wr.alloc (.cells #[.int .i64 a.day, .int .i64 a.tn] 42)) 42 #[.int .i64 b.day, .int .i64 b.tn]; simpa using h.drew)
        rw [HV.out]
        clear HV
        have x0 := H1.out.cell 0
        have x1 := H1.out.cell 1
        have y0 := H2.out.cell 0
        have y1 := H2.out.cell 1
        simp at x0 x1 y0 y1
        go_wp2_with fail
        refine (round_is _ _ r HM _ (by omega) (by omega) (by omega) (by omega)).mono ?_
        rintro e w9 ⟨rfl, rfl⟩
        go_wp2_with fail
        go_ret
        exact ⟨rfl, HB.out⟩
      · obtain ⟨V, HV⟩ : ∃ V, Hid (((wr.alloc (.cells #[.int .i64 b.day, .int .i64 b.tn] 42)).alloc (.cells #[.int .i64 a.day, .int .i64 a.tn] 42)).drew = V) := ⟨_, Lib.hid rfl⟩
        have HB := Lib.hid (show Below wr.heap.size wr V by rw [← HV.out]; exact (((Below.refl _ _).alloc (Nat.le_refl _) _).alloc (by simp) _).drew)
        have H1 := Lib.hid (show Blk V wr.heap.size 42 #[.int .i64 b.day, .int .i64 b.tn] by rw [← HV.out]; exact ((Blk.new _ _ _).alloc _).drew)
        have H2 := Lib.hid (show Blk V (wr.heap.size + 1) 42 #[.int .i64 a.day, .int .i64 a.tn] by rw [← HV.out]; have h := Blk.new (wr.alloc (.cells #[.int .i64 b.day, .int .i64 b.tn] 42)) 42 #[.int .i64 a.day, .int .i64 a.tn]; simpa using h.drew)
        rw [HV.out]
        clear HV
        have x0 := H1.out.cell 0
        have x1 := H1.out.cell 1
        have y0 := H2.out.cell 0
        have y1 := H2.out.cell 1
        simp at x0 x1 y0 y1
        go_wp2_with fail
        refine (round_is _ _ r HM _ (by omega) (by omega) (by omega) (by omega)).mono ?_
        rintro e w9 ⟨rfl, rfl⟩
        go_wp2_with fail
        go_ret
        exact ⟨rfl, HB.out⟩
end Go.Proofs.Ytiimegmaokfpgaa.va
