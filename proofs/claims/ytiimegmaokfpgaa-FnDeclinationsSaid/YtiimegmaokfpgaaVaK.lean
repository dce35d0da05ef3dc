/-
  The program of the declination: DeclinationOn, the bearings, the change between two days.
  Conditions: the points lie in one block, at most 2000000 of them.
-/
import Derived.Test.YtiimegmaokfpgaaVaJ
import Derived.Test.YtiimegmaokfpgaaVaR
namespace Go.Proofs.Ytiimegmaokfpgaa.va
open Go.RowKit
open reads base ty rowi inn win
set_option linter.unusedVariables false
set_option linter.unusedSimpArgs false

theorem dayOk_is {d : Int} {t : Bool} (h : dayOk d = t) : allIn 0 999 [d] = t := one_in h
set_option maxHeartbeats 4000000 in
set_option maxRecDepth 100000 in
theorem declinationOn_impl (A : Option Addr) (n cap : Nat) (ts : List Dp) (d : Int) (w : World) (hn : n ≤ 2000000) (hts : Hid (DpAt w w.heap.size A n ts)) :
    Calls Try.prog 19 #[.slice A n cap, .int .i64 d] w (APost (ansOn ts d) w) := by
  obtain ⟨G, HG⟩ : ∃ G, Hid (goodDp ts = G) := ⟨_, Lib.hid rfl⟩
  obtain ⟨t0, H0⟩ : ∃ t, Hid (dayOk d = t) := ⟨_, Lib.hid rfl⟩
  obtain ⟨r, HR⟩ : ∃ y, Hid (dec ts d = y) := ⟨_, Lib.hid rfl⟩
  have HA := Lib.hid (show ansOn ts d = if (G && t0) = true then .tuple #[.int .i64 r, .bool true] else .tuple #[.int .i64 0, .bool false] by unfold ansOn; rw [HG.out, H0.out, HR.out])
  go_enter Try.func19, Try.ntmps19
  go_wp2_with fail
  refine (arePoints_is A n cap ts G HG _ hn hts).mono ?_
  rintro e w1 ⟨rfl, b1⟩
  have HB2 := Lib.hid b1
  clear b1
  cases G
  · go_wp2_with fail
    go_ret2
    exact ⟨by rw [HA.out]; rfl, HB2.out⟩
  go_wp2_with fail
  refine (days_new _ [d] _ _ _ t0 _ _ (by simp) rfl (by simp) rfl (dayOk_is H0.out)).mono ?_
  rintro e w3 ⟨rfl, hw⟩
  have HC3 := Lib.hid (show Below w.heap.size w w3 by rw [← hw]; exact HB2.out.alloc HB2.out.size _)
  clear hw HB2
  cases t0
  · go_wp2_with fail
    go_ret2
    exact ⟨by rw [HA.out]; rfl, HC3.out⟩
  have hl0 := btw_yes H0.out
  go_wp2_with fail
  refine (decAt_any A n cap ts d r _ hn (Lib.hid (hts.out.step HC3.out)) HG HR (by omega) (by omega)).mono ?_
  rintro e w4 ⟨rfl, b4⟩
  have HB5 := Lib.hid (HC3.out.trans (b4.mono HC3.out.size))
  clear b4 HC3
  go_wp2_with fail
  go_ret2
  exact ⟨by rw [HA.out]; rfl, HB5.out⟩
theorem declinationOn_is (A : Option Addr) (n cap : Nat) (ts : List Dp) (d v : Int) (ok : Bool) (h : Hid (ansOn ts d = .tuple #[.int .i64 v, .bool ok])) (w : World) (hn : n ≤ 2000000) (hts : Hid (DpAt w w.heap.size A n ts)) :
    Calls Try.prog 19 #[.slice A n cap, .int .i64 d] w (APost (.tuple #[.int .i64 v, .bool ok]) w) := by rw [← h.out]; exact declinationOn_impl A n cap ts d w hn hts
theorem ansOn_form (ts : List Dp) (d : Int) (G t0 : Bool) (hG : goodDp ts = G) (h0 : dayOk d = t0) : ansOn ts d = .tuple #[.int .i64 (if (G && t0) = true then dec ts d else 0), .bool (G && t0)] := by
  unfold ansOn; rw [hG, h0]; cases (G && t0) <;> rfl
set_option maxHeartbeats 4000000 in
set_option maxRecDepth 100000 in
theorem trueBearing_impl (A : Option Addr) (n cap : Nat) (ts : List Dp) (d m : Int) (w : World) (hn : n ≤ 2000000) (hts : Hid (DpAt w w.heap.size A n ts)) :
    Calls Try.prog 16 #[.slice A n cap, .int .i64 d, .int .i64 m] w (APost (ansTb ts d m) w) := by
  obtain ⟨G, HG⟩ : ∃ G, Hid (goodDp ts = G) := ⟨_, Lib.hid rfl⟩
  obtain ⟨t0, H0⟩ : ∃ t, Hid (dayOk d = t) := ⟨_, Lib.hid rfl⟩
  obtain ⟨t1, H1⟩ : ∃ t, Hid (fineOk m = t) := ⟨_, Lib.hid rfl⟩
  obtain ⟨g, HGT⟩ : ∃ y, Hid ((G && t0) = y) := ⟨_, Lib.hid rfl⟩
  obtain ⟨r, HR⟩ : ∃ y, Hid ((if g = true then dec ts d else 0) = y) := ⟨_, Lib.hid rfl⟩
  obtain ⟨q, HQ⟩ : ∃ y, Hid (tru ts d m = y) := ⟨_, Lib.hid rfl⟩
  have HON := Lib.hid (show ansOn ts d = .tuple #[.int .i64 r, .bool g] by rw [ansOn_form ts d G t0 HG.out H0.out, HGT.out, HR.out])
  have HA := Lib.hid (show ansTb ts d m = if (g && t1) = true then .tuple #[.int .i64 q, .bool true] else .tuple #[.int .i64 0, .bool false] by unfold ansTb; rw [HG.out, H0.out, H1.out, HGT.out, HQ.out])
  have HLM := Lib.hid (show g = true → -900 ≤ r ∧ r ≤ 900 ∧ (m + r) % 3600 = q from fun hg => by
    have hGT : G = true := by have := HGT.out; rw [hg, Bool.and_eq_true] at this; exact this.1
    have hbd := dec_bd (good_lim (HG.out.trans hGT)).2.2 (good_lim (HG.out.trans hGT)).1 d
    have hr := HR.out
    rw [if_pos hg] at hr
    rw [hr] at hbd
    exact ⟨hbd.1, hbd.2, by rw [← HQ.out]; unfold tru; rw [hr]⟩)
  go_enter Try.func16, Try.ntmps16
  go_wp2_with fail
  refine (declinationOn_is A n cap ts d r g HON _ hn hts).mono ?_
  rintro e w1 ⟨rfl, b1⟩
  have HB2 := Lib.hid b1
  clear b1
  cases g
  · go_wp2_with fail
    go_ret2
    exact ⟨by rw [HA.out]; rfl, HB2.out⟩
  go_wp2_with fail
  refine (isFine_any m t1 H1 _).mono ?_
  rintro e w3 ⟨rfl, b3⟩
  have HB4 := Lib.hid (HB2.out.trans (b3.mono HB2.out.size))
  clear b3 HB2
  cases t1
  · go_wp2_with fail
    go_ret2
    exact ⟨by rw [HA.out]; rfl, HB4.out⟩
  have hl1 := btw_yes H1.out
  obtain ⟨r0, r1, hq⟩ := HLM.out (by first | exact rfl | exact trivial)
  have HQQ := Lib.hid hq
  clear hq
  go_wp2_with fail
  refine (rem3600_is _ q HQQ _ (by omega) (by omega)).mono ?_
  rintro e w5 ⟨rfl, rfl⟩
  go_wp2_with fail
  go_ret2
  exact ⟨by rw [HA.out]; rfl, HB4.out⟩
theorem trueBearing_is (A : Option Addr) (n cap : Nat) (ts : List Dp) (d m v : Int) (ok : Bool) (h : Hid (ansTb ts d m = .tuple #[.int .i64 v, .bool ok])) (w : World) (hn : n ≤ 2000000) (hts : Hid (DpAt w w.heap.size A n ts)) :
    Calls Try.prog 16 #[.slice A n cap, .int .i64 d, .int .i64 m] w (APost (.tuple #[.int .i64 v, .bool ok]) w) := by rw [← h.out]; exact trueBearing_impl A n cap ts d m w hn hts
set_option maxHeartbeats 4000000 in
set_option maxRecDepth 100000 in
theorem magneticBearing_impl (A : Option Addr) (n cap : Nat) (ts : List Dp) (d m : Int) (w : World) (hn : n ≤ 2000000) (hts : Hid (DpAt w w.heap.size A n ts)) :
    Calls Try.prog 18 #[.slice A n cap, .int .i64 d, .int .i64 m] w (APost (ansMb ts d m) w) := by
  obtain ⟨G, HG⟩ : ∃ G, Hid (goodDp ts = G) := ⟨_, Lib.hid rfl⟩
  obtain ⟨t0, H0⟩ : ∃ t, Hid (dayOk d = t) := ⟨_, Lib.hid rfl⟩
  obtain ⟨t1, H1⟩ : ∃ t, Hid (fineOk m = t) := ⟨_, Lib.hid rfl⟩
  obtain ⟨g, HGT⟩ : ∃ y, Hid ((G && t0) = y) := ⟨_, Lib.hid rfl⟩
  obtain ⟨r, HR⟩ : ∃ y, Hid ((if g = true then dec ts d else 0) = y) := ⟨_, Lib.hid rfl⟩
  obtain ⟨q, HQ⟩ : ∃ y, Hid (mag ts d m = y) := ⟨_, Lib.hid rfl⟩
  have HON := Lib.hid (show ansOn ts d = .tuple #[.int .i64 r, .bool g] by rw [ansOn_form ts d G t0 HG.out H0.out, HGT.out, HR.out])
  have HA := Lib.hid (show ansMb ts d m = if (g && t1) = true then .tuple #[.int .i64 q, .bool true] else .tuple #[.int .i64 0, .bool false] by unfold ansMb; rw [HG.out, H0.out, H1.out, HGT.out, HQ.out])
  have HLM := Lib.hid (show g = true → -900 ≤ r ∧ r ≤ 900 ∧ (m - r) % 3600 = q from fun hg => by
    have hGT : G = true := by have := HGT.out; rw [hg, Bool.and_eq_true] at this; exact this.1
    have hbd := dec_bd (good_lim (HG.out.trans hGT)).2.2 (good_lim (HG.out.trans hGT)).1 d
    have hr := HR.out
    rw [if_pos hg] at hr
    rw [hr] at hbd
    exact ⟨hbd.1, hbd.2, by rw [← HQ.out]; unfold mag; rw [hr]⟩)
  go_enter Try.func18, Try.ntmps18
  go_wp2_with fail
  refine (declinationOn_is A n cap ts d r g HON _ hn hts).mono ?_
  rintro e w1 ⟨rfl, b1⟩
  have HB2 := Lib.hid b1
  clear b1
  cases g
  · go_wp2_with fail
    go_ret2
    exact ⟨by rw [HA.out]; rfl, HB2.out⟩
  go_wp2_with fail
  refine (isFine_any m t1 H1 _).mono ?_
  rintro e w3 ⟨rfl, b3⟩
  have HB4 := Lib.hid (HB2.out.trans (b3.mono HB2.out.size))
  clear b3 HB2
  cases t1
  · go_wp2_with fail
    go_ret2
    exact ⟨by rw [HA.out]; rfl, HB4.out⟩
  have hl1 := btw_yes H1.out
  obtain ⟨r0, r1, hq⟩ := HLM.out (by first | exact rfl | exact trivial)
  have HQQ := Lib.hid hq
  clear hq
  go_wp2_with fail
  refine (rem3600_is _ q HQQ _ (by omega) (by omega)).mono ?_
  rintro e w5 ⟨rfl, rfl⟩
  go_wp2_with fail
  go_ret2
  exact ⟨by rw [HA.out]; rfl, HB4.out⟩
theorem magneticBearing_is (A : Option Addr) (n cap : Nat) (ts : List Dp) (d m v : Int) (ok : Bool) (h : Hid (ansMb ts d m = .tuple #[.int .i64 v, .bool ok])) (w : World) (hn : n ≤ 2000000) (hts : Hid (DpAt w w.heap.size A n ts)) :
    Calls Try.prog 18 #[.slice A n cap, .int .i64 d, .int .i64 m] w (APost (.tuple #[.int .i64 v, .bool ok]) w) := by rw [← h.out]; exact magneticBearing_impl A n cap ts d m w hn hts
set_option maxHeartbeats 4000000 in
set_option maxRecDepth 100000 in
theorem changeBetween_impl (A : Option Addr) (n cap : Nat) (ts : List Dp) (a b : Int) (w : World) (hn : n ≤ 2000000) (hts : Hid (DpAt w w.heap.size A n ts)) :
    Calls Try.prog 26 #[.slice A n cap, .int .i64 a, .int .i64 b] w (APost (ansCb ts a b) w) := by
  obtain ⟨G, HG⟩ : ∃ G, Hid (goodDp ts = G) := ⟨_, Lib.hid rfl⟩
  obtain ⟨t0, H0⟩ : ∃ t, Hid (dayOk a = t) := ⟨_, Lib.hid rfl⟩
  obtain ⟨t1, H1⟩ : ∃ t, Hid (dayOk b = t) := ⟨_, Lib.hid rfl⟩
  obtain ⟨r, HR⟩ : ∃ y, Hid (dec ts a = y) := ⟨_, Lib.hid rfl⟩
  obtain ⟨q, HQ⟩ : ∃ y, Hid (dec ts b = y) := ⟨_, Lib.hid rfl⟩
  obtain ⟨t2, H2⟩ : ∃ y, Hid ((t0 && t1) = y) := ⟨_, Lib.hid rfl⟩
  have HA := Lib.hid (show ansCb ts a b = if (G && t2) = true then .tuple #[.int .i64 (q - r), .bool true] else .tuple #[.int .i64 0, .bool false] by unfold ansCb; rw [HG.out, H0.out, H1.out, HR.out, HQ.out, ← H2.out, Bool.and_assoc])
  have K2 := Lib.hid (show allIn 0 999 [a, b] = t2 by rw [two_in H0.out H1.out, H2.out])
  go_enter Try.func26, Try.ntmps26
  go_wp2_with fail
  refine (arePoints_is A n cap ts G HG _ hn hts).mono ?_
  rintro e w1 ⟨rfl, b1⟩
  have HB2 := Lib.hid b1
  clear b1
  cases G
  · go_wp2_with fail
    go_ret2
    exact ⟨by rw [HA.out]; rfl, HB2.out⟩
  go_wp2_with fail
  refine (days_new _ [a, b] _ _ _ t2 _ _ (by simp) rfl (by simp) rfl K2.out).mono ?_
  rintro e w3 ⟨rfl, hw⟩
  have HC3 := Lib.hid (show Below w.heap.size w w3 by rw [← hw]; exact HB2.out.alloc HB2.out.size _)
  clear hw HB2
  cases t2
  · go_wp2_with fail
    go_ret2
    exact ⟨by rw [HA.out]; rfl, HC3.out⟩
  have h2 := H2.out
  rw [Bool.and_eq_true] at h2
  have hl0 := btw_yes (H0.out.trans h2.1)
  have hl1 := btw_yes (H1.out.trans h2.2)
  clear h2
  have hbd := dec_bd (good_lim HG.out).2.2 (good_lim HG.out).1
  have hra := hbd a
  have hrb := hbd b
  rw [HR.out] at hra
  rw [HQ.out] at hrb
  clear hbd
  go_wp2_with fail
  refine (decAt_any A n cap ts b q _ hn (Lib.hid (hts.out.step HC3.out)) HG HQ (by omega) (by omega)).mono ?_
  rintro e w4 ⟨rfl, b4⟩
  have HB5 := Lib.hid (HC3.out.trans (b4.mono HC3.out.size))
  clear b4 HC3
  go_wp2_with fail
  refine (decAt_any A n cap ts a r _ hn (Lib.hid (hts.out.step HB5.out)) HG HR (by omega) (by omega)).mono ?_
  rintro e w6 ⟨rfl, b6⟩
  have HB7 := Lib.hid (HB5.out.trans (b6.mono HB5.out.size))
  clear b6 HB5
  go_wp2_with fail
  go_ret2
  exact ⟨by rw [HA.out]; rfl, HB7.out⟩
end Go.Proofs.Ytiimegmaokfpgaa.va
