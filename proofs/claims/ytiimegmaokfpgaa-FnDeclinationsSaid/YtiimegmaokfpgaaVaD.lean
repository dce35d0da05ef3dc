/-
  The model of the declination: DeclinationOn, the bearings, the change between two days, two lists that tell the same.
  Conditions: the points lie in one block, at most 2000000 of them.
-/
import Derived.Test.YtiimegmaokfpgaaVaC
namespace Go.Proofs.Ytiimegmaokfpgaa.va
open Go.RowKit
open reads base ty rowi inn
set_option linter.unusedVariables false
set_option linter.unusedSimpArgs false

set_option maxHeartbeats 4000000 in
set_option maxRecDepth 100000 in
theorem declinationOn_model (A : Option Addr) (n cap : Nat) (ts : List Dp) (d : Int) (w : World) (hn : n ≤ 2000000) (hts : Hid (DpAt w w.heap.size A n ts)) :
    Calls Try.prog 40 #[.slice A n cap, .int .i64 d] w (APost (ansOn ts d) w) := by
  obtain ⟨G, HG⟩ : ∃ G, Hid (goodDp ts = G) := ⟨_, Lib.hid rfl⟩
  obtain ⟨t0, H0⟩ : ∃ t, Hid (dayOk d = t) := ⟨_, Lib.hid rfl⟩
  obtain ⟨r, HR⟩ : ∃ y, Hid (dec ts d = y) := ⟨_, Lib.hid rfl⟩
  have HA := Lib.hid (show ansOn ts d = if (G && t0) = true then .tuple #[.int .i64 r, .bool true] else .tuple #[.int .i64 0, .bool false] by unfold ansOn; rw [HG.out, H0.out]; first | rfl | (rw [HR.out]))
  go_enter Try.func40, Try.ntmps40
  go_wp2_with fail
  refine (good_is A n cap ts G HG _ hn hts).mono ?_
  rintro e w1 ⟨rfl, b1⟩
  have HB2 := Lib.hid b1
  clear b1
  cases G
  · go_wp2_with fail
    go_ret2
    exact ⟨by rw [HA.out]; rfl, HB2.out⟩
  go_wp2_with fail
  refine (day_is d t0 H0 _).mono ?_
  rintro e w3 ⟨rfl, rfl⟩
  cases t0
  · go_wp2_with fail
    go_ret2
    exact ⟨by rw [HA.out]; rfl, HB2.out⟩
  have hl0 := btw_yes H0.out
  have hbd := dec_bd (good_lim HG.out).2.2 (good_lim HG.out).1
  go_wp2_with fail
  refine (on_any A n cap ts d r _ hn (Lib.hid (hts.out.step HB2.out)) HG HR (by omega) (by omega)).mono ?_
  rintro e w4 ⟨rfl, b4⟩
  have HB5 := Lib.hid (HB2.out.trans (b4.mono HB2.out.size))
  clear b4 HB2
  go_wp2_with fail
  go_ret2
  exact ⟨by rw [HA.out]; rfl, HB5.out⟩
set_option maxHeartbeats 4000000 in
set_option maxRecDepth 100000 in
theorem trueBearing_model (A : Option Addr) (n cap : Nat) (ts : List Dp) (d m : Int) (w : World) (hn : n ≤ 2000000) (hts : Hid (DpAt w w.heap.size A n ts)) :
    Calls Try.prog 17 #[.slice A n cap, .int .i64 d, .int .i64 m] w (APost (ansTb ts d m) w) := by
  obtain ⟨G, HG⟩ : ∃ G, Hid (goodDp ts = G) := ⟨_, Lib.hid rfl⟩
  obtain ⟨t0, H0⟩ : ∃ t, Hid (dayOk d = t) := ⟨_, Lib.hid rfl⟩
  obtain ⟨t1, H1⟩ : ∃ t, Hid (fineOk m = t) := ⟨_, Lib.hid rfl⟩
  obtain ⟨r, HR⟩ : ∃ y, Hid (dec ts d = y) := ⟨_, Lib.hid rfl⟩
  obtain ⟨q, HQ⟩ : ∃ y, Hid (tru ts d m = y) := ⟨_, Lib.hid rfl⟩
  have HA := Lib.hid (show ansTb ts d m = if (G && t0 && t1) = true then .tuple #[.int .i64 q, .bool true] else .tuple #[.int .i64 0, .bool false] by unfold ansTb; rw [HG.out, H0.out, H1.out]; first | rfl | (rw [HQ.out]))
  go_enter Try.func17, Try.ntmps17
  go_wp2_with fail
  refine (good_is A n cap ts G HG _ hn hts).mono ?_
  rintro e w1 ⟨rfl, b1⟩
  have HB2 := Lib.hid b1
  clear b1
  cases G
  · go_wp2_with fail
    go_ret2
    exact ⟨by rw [HA.out]; rfl, HB2.out⟩
  go_wp2_with fail
  refine (day_is d t0 H0 _).mono ?_
  rintro e w3 ⟨rfl, rfl⟩
  cases t0
  · go_wp2_with fail
    go_ret2
    exact ⟨by rw [HA.out]; rfl, HB2.out⟩
  have hl0 := btw_yes H0.out
  go_wp2_with fail
  refine (fine_is m t1 H1 _).mono ?_
  rintro e w4 ⟨rfl, rfl⟩
  cases t1
  · go_wp2_with fail
    go_ret2
    exact ⟨by rw [HA.out]; rfl, HB2.out⟩
  have hl1 := btw_yes H1.out
  have hbd := dec_bd (good_lim HG.out).2.2 (good_lim HG.out).1
  have hr := hbd d
  rw [HR.out] at hr
  clear hbd
  go_wp2_with fail
  refine (on_any A n cap ts d r _ hn (Lib.hid (hts.out.step HB2.out)) HG HR (by omega) (by omega)).mono ?_
  rintro e w5 ⟨rfl, b5⟩
  have HB6 := Lib.hid (HB2.out.trans (b5.mono HB2.out.size))
  clear b5 HB2
  have HE := Lib.hid (show (m + r + 3600) % 3600 = q by rw [← HQ.out]; unfold tru; rw [HR.out]; omega)
  go_wp2_with fail
  go_ret2
  exact ⟨by rw [HA.out, ← HE.out]; rfl, HB6.out⟩
set_option maxHeartbeats 4000000 in
set_option maxRecDepth 100000 in
theorem magneticBearing_model (A : Option Addr) (n cap : Nat) (ts : List Dp) (d m : Int) (w : World) (hn : n ≤ 2000000) (hts : Hid (DpAt w w.heap.size A n ts)) :
    Calls Try.prog 44 #[.slice A n cap, .int .i64 d, .int .i64 m] w (APost (ansMb ts d m) w) := by
  obtain ⟨G, HG⟩ : ∃ G, Hid (goodDp ts = G) := ⟨_, Lib.hid rfl⟩
  obtain ⟨t0, H0⟩ : ∃ t, Hid (dayOk d = t) := ⟨_, Lib.hid rfl⟩
  obtain ⟨t1, H1⟩ : ∃ t, Hid (fineOk m = t) := ⟨_, Lib.hid rfl⟩
  obtain ⟨r, HR⟩ : ∃ y, Hid (dec ts d = y) := ⟨_, Lib.hid rfl⟩
  obtain ⟨q, HQ⟩ : ∃ y, Hid (mag ts d m = y) := ⟨_, Lib.hid rfl⟩
  have HA := Lib.hid (show ansMb ts d m = if (G && t0 && t1) = true then .tuple #[.int .i64 q, .bool true] else .tuple #[.int .i64 0, .bool false] by unfold ansMb; rw [HG.out, H0.out, H1.out]; first | rfl | (rw [HQ.out]))
  go_enter Try.func44, Try.ntmps44
  go_wp2_with fail
  refine (good_is A n cap ts G HG _ hn hts).mono ?_
  rintro e w1 ⟨rfl, b1⟩
  have HB2 := Lib.hid b1
  clear b1
  cases G
  · go_wp2_with fail
    go_ret2
    exact ⟨by rw [HA.out]; rfl, HB2.out⟩
  go_wp2_with fail
  refine (day_is d t0 H0 _).mono ?_
  rintro e w3 ⟨rfl, rfl⟩
  cases t0
  · go_wp2_with fail
    go_ret2
    exact ⟨by rw [HA.out]; rfl, HB2.out⟩
  have hl0 := btw_yes H0.out
  go_wp2_with fail
  refine (fine_is m t1 H1 _).mono ?_
  rintro e w4 ⟨rfl, rfl⟩
  cases t1
  · go_wp2_with fail
    go_ret2
    exact ⟨by rw [HA.out]; rfl, HB2.out⟩
  have hl1 := btw_yes H1.out
  have hbd := dec_bd (good_lim HG.out).2.2 (good_lim HG.out).1
  have hr := hbd d
  rw [HR.out] at hr
  clear hbd
  go_wp2_with fail
  refine (on_any A n cap ts d r _ hn (Lib.hid (hts.out.step HB2.out)) HG HR (by omega) (by omega)).mono ?_
  rintro e w5 ⟨rfl, b5⟩
  have HB6 := Lib.hid (HB2.out.trans (b5.mono HB2.out.size))
  clear b5 HB2
  have HE := Lib.hid (show (m - r + 3600) % 3600 = q by rw [← HQ.out]; unfold mag; rw [HR.out]; omega)
  go_wp2_with fail
  go_ret2
  exact ⟨by rw [HA.out, ← HE.out]; rfl, HB6.out⟩
set_option maxHeartbeats 4000000 in
set_option maxRecDepth 100000 in
theorem changeBetween_model (A : Option Addr) (n cap : Nat) (ts : List Dp) (a b : Int) (w : World) (hn : n ≤ 2000000) (hts : Hid (DpAt w w.heap.size A n ts)) :
    Calls Try.prog 27 #[.slice A n cap, .int .i64 a, .int .i64 b] w (APost (ansCb ts a b) w) := by
  obtain ⟨G, HG⟩ : ∃ G, Hid (goodDp ts = G) := ⟨_, Lib.hid rfl⟩
  obtain ⟨t0, H0⟩ : ∃ t, Hid (dayOk a = t) := ⟨_, Lib.hid rfl⟩
  obtain ⟨t1, H1⟩ : ∃ t, Hid (dayOk b = t) := ⟨_, Lib.hid rfl⟩
  obtain ⟨r, HR⟩ : ∃ y, Hid (dec ts a = y) := ⟨_, Lib.hid rfl⟩
  obtain ⟨q, HQ⟩ : ∃ y, Hid (dec ts b = y) := ⟨_, Lib.hid rfl⟩
  have HA := Lib.hid (show ansCb ts a b = if (G && t0 && t1) = true then .tuple #[.int .i64 (q - r), .bool true] else .tuple #[.int .i64 0, .bool false] by unfold ansCb; rw [HG.out, H0.out, H1.out]; first | rfl | (rw [HR.out, HQ.out]))
  go_enter Try.func27, Try.ntmps27
  go_wp2_with fail
  refine (good_is A n cap ts G HG _ hn hts).mono ?_
  rintro e w1 ⟨rfl, b1⟩
  have HB2 := Lib.hid b1
  clear b1
  cases G
  · go_wp2_with fail
    go_ret2
    exact ⟨by rw [HA.out]; rfl, HB2.out⟩
  go_wp2_with fail
  refine (day_is a t0 H0 _).mono ?_
  rintro e w3 ⟨rfl, rfl⟩
  cases t0
  · go_wp2_with fail
    go_ret2
    exact ⟨by rw [HA.out]; rfl, HB2.out⟩
  have hl0 := btw_yes H0.out
  go_wp2_with fail
  refine (day_is b t1 H1 _).mono ?_
  rintro e w4 ⟨rfl, rfl⟩
  cases t1
  · go_wp2_with fail
    go_ret2
    exact ⟨by rw [HA.out]; rfl, HB2.out⟩
  have hl1 := btw_yes H1.out
  have hbd := dec_bd (good_lim HG.out).2.2 (good_lim HG.out).1
  have hra := hbd a
  have hrb := hbd b
  rw [HR.out] at hra
  rw [HQ.out] at hrb
  clear hbd
  go_wp2_with fail
  refine (on_any A n cap ts b q _ hn (Lib.hid (hts.out.step HB2.out)) HG HQ (by omega) (by omega)).mono ?_
  rintro e w5 ⟨rfl, b5⟩
  have HB6 := Lib.hid (HB2.out.trans (b5.mono HB2.out.size))
  clear b5 HB2
  go_wp2_with fail
  refine (on_any A n cap ts a r _ hn (Lib.hid (hts.out.step HB6.out)) HG HR (by omega) (by omega)).mono ?_
  rintro e w7 ⟨rfl, b7⟩
  have HB8 := Lib.hid (HB6.out.trans (b7.mono HB6.out.size))
  clear b7 HB6
  go_wp2_with fail
  go_ret2
  exact ⟨by rw [HA.out]; rfl, HB8.out⟩
set_option maxHeartbeats 4000000 in
set_option maxRecDepth 100000 in
theorem arePoints_model (A : Option Addr) (n cap : Nat) (ts : List Dp) (w : World) (hn : n ≤ 2000000) (hts : Hid (DpAt w w.heap.size A n ts)) :
    Calls Try.prog 31 #[.slice A n cap] w (BPost (goodDp ts) w) := by
  obtain ⟨G, HG⟩ : ∃ G, Hid (goodDp ts = G) := ⟨_, Lib.hid rfl⟩
  rw [HG.out]
  go_enter Try.func31, Try.ntmps31
  go_wp2_with fail
  refine (good_is A n cap ts G HG _ hn hts).mono ?_
  rintro e w1 ⟨rfl, b1⟩
  have HB := Lib.hid b1
  clear b1
  go_wp2_with fail
  go_ret
  exact ⟨rfl, HB.out⟩
set_option maxHeartbeats 4000000 in
set_option maxRecDepth 100000 in
theorem same_any (A1 : Option Addr) (n1 c1 : Nat) (xs : List Dp) (A2 : Option Addr) (n2 c2 : Nat) (ys : List Dp) (b : Bool) (w : World) (hn1 : n1 ≤ 2000000) (hn2 : n2 ≤ 2000000) (h1 : Hid (DpAt w w.heap.size A1 n1 xs)) (h2 : Hid (DpAt w w.heap.size A2 n2 ys)) (g1 : Hid (goodDp xs = true)) (g2 : Hid (goodDp ys = true)) (hb : Hid (sameN xs ys 1000 = b)) :
    Calls Try.prog 72 #[.slice A1 n1 c1, .slice A2 n2 c2] w (BPost b w) := by
  go_enter Try.func72, Try.ntmps72
  go_wp2_with fail
  go_loopw [5] (fun i wr => ∃ k : Nat, k ≤ 1000 ∧ i = .int .i64 (k : Nat) ∧ Hid (sameN xs ys k = true) ∧ Below w.heap.size w wr) (fun i _ => 1000 - (intOf i).toNat)
  case atStart => exact ⟨0, Nat.zero_le _, rfl, Lib.hid rfl, Below.refl _ _⟩
  case round =>
    obtain ⟨k, hk, rfl, HI, hB⟩ := hrel
    have HB := Lib.hid hB
    clear hB
    have hk0 : (0 : Int) ≤ (k : Int) := by omega
    by_cases hlt : k < 1000
    · have hki : (k : Int) ≤ 999 := by omega
      have hkd : decide ((k : Int) ≤ 999) = true := by simp; omega
      obtain ⟨r, HR⟩ : ∃ r, Hid (dec xs (k : Int) = r) := ⟨_, Lib.hid rfl⟩
      obtain ⟨q, HQ⟩ : ∃ q, Hid (dec ys (k : Int) = q) := ⟨_, Lib.hid rfl⟩
      go_wp2_with fail
      refine (on_any A1 n1 c1 xs (k : Int) r _ hn1 (Lib.hid (h1.out.step HB.out)) g1 HR (by omega) (by omega)).mono ?_
      rintro e u1 ⟨rfl, b1⟩
      have HB1 := Lib.hid (HB.out.trans (b1.mono HB.out.size))
      clear b1 HB
      go_wp2_with fail
      refine (on_any A2 n2 c2 ys (k : Int) q _ hn2 (Lib.hid (h2.out.step HB1.out)) g2 HQ (by omega) (by omega)).mono ?_
      rintro e u2 ⟨rfl, b2⟩
      have HB2 := Lib.hid (HB1.out.trans (b2.mono HB1.out.size))
      clear b2 HB1
      cases hq : (r == q)
      · have hne : (r != q) = true := by simp [bne, hq]
        have HF := Lib.hid (show sameN xs ys 1000 = false from sameN_no hlt (by rw [HR.out, HQ.out]; simpa using hq))
        have HE := Lib.hid (show b = false by rw [← hb.out]; exact HF.out)
        clear hq
        go_wp2_with fail
        go_ret
        exact ⟨by rw [HE.out]; rfl, HB2.out⟩
      · have hne : (r != q) = false := by simp [bne, hq]
        have HN := Lib.hid (show sameN xs ys (k + 1) = true by rw [sameN_succ, HI.out, HR.out, HQ.out, hq]; rfl)
        clear hq
        go_wp2_with fail
        go_roundw
        case rel => exact ⟨k + 1, by omega, by go_num, HN, HB2.out⟩
        case measure => simp [intOf]; omega
    · obtain rfl : k = 1000 := by omega
      have hkd : decide (((1000 : Nat) : Int) ≤ 999) = false := by decide
      have HE := Lib.hid (show b = true by rw [← hb.out]; exact HI.out)
      go_wp2_with fail
      go_ret
      exact ⟨by rw [HE.out]; rfl, HB.out⟩
end Go.Proofs.Ytiimegmaokfpgaa.va
