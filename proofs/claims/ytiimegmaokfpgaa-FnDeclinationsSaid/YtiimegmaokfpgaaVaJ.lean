/-
  The program of the declination: the place of a day, the declination of a day.
  Conditions: the points lie in one block, at most 2000000 of them.
-/
import Derived.Test.YtiimegmaokfpgaaVaG
import Derived.Test.YtiimegmaokfpgaaVaC
import Derived.BigQuiet
import Derived.Deep.QuietTactic
import Derived.Deep.Cut
import Derived.Deep.DeepCutAuto
import Derived.RegionTactic
import Derived.Deep.RegionWith
import Derived.OwnWalk
namespace Go.Proofs.Ytiimegmaokfpgaa.va
open Go.RowKit
open reads base ty rowi inn win
set_option linter.unusedVariables false
set_option linter.unusedSimpArgs false

def cmI (a b : Int) : Int := if a < b then -1 else if b < a then 1 else 0
theorem nan_any (x : Int) (w : World) : Calls Try.prog 82 #[.int .i64 x] w fun e w' => e = .returned (.bool false) ∧ w = w' := by
  have h1 : (x == x) = true := by simp
  have h2 : (x != x) = false := by simp
  go_enter Try.func82, Try.ntmps82
  go_wp2_with fail
  go_ret
  exact ⟨rfl, rfl⟩
set_option maxHeartbeats 4000000 in
theorem cmp_any (x y r : Int) (w : World) (hr : Hid (cmI x y = r)) : Calls Try.prog 80 #[.int .i64 x, .int .i64 y] w fun e w' => e = .returned (.int .i64 r) ∧ w = w' := by
  go_enter Try.func80, Try.ntmps80
  go_wp2_with fail
  refine (nan_any x _).mono ?_
  rintro e w1 ⟨rfl, rfl⟩
  go_wp2_with fail
  refine (nan_any y _).mono ?_
  rintro e w1 ⟨rfl, rfl⟩
  by_cases h1 : x < y
  · have HV := Lib.hid (show (-1 : Int) = r by have h := hr.out; unfold cmI at h; rw [if_pos h1] at h; exact h)
    obtain rfl := HV.out
    go_wp2_with fail
    go_ret
    exact ⟨rfl, rfl⟩
  · by_cases h2 : y < x
    · have HV := Lib.hid (show (1 : Int) = r by have h := hr.out; unfold cmI at h; rw [if_neg h1, if_pos h2] at h; exact h)
      obtain rfl := HV.out
      go_wp2_with fail
      go_ret
      exact ⟨rfl, rfl⟩
    · have HV := Lib.hid (show (0 : Int) = r by have h := hr.out; unfold cmI at h; rw [if_neg h1, if_neg h2] at h; exact h)
      obtain rfl := HV.out
      go_wp2_with fail
      go_ret
      exact ⟨rfl, rfl⟩
set_option maxHeartbeats 4000000 in
set_option maxRecDepth 100000 in
theorem clo_any (x : Dp) (d r : Int) (w : World) (hr : Hid (cmI x.day d = r)) :
    Calls Try.prog 79 #[.agg #[.int .i64 x.day, .int .i64 x.tn], .int .i64 d] w (APost (.int .i64 r) w) := by
  go_enter Try.func79, Try.ntmps79
  go_wp2_with fail
  refine (cmp_any x.day d r _ hr).mono ?_
  rintro e w1 ⟨rfl, rfl⟩
  go_wp2_with fail
  go_ret
  exact ⟨rfl, (Below.refl _ _).alloc (Nat.le_refl _) _⟩
theorem pos_lt {ts : List Dp} (hu : Up ts) {m : Nat} {x : Dp} {d : Int} (hm : ts[m]? = some x) (h : x.day < d) : m < pos ts d := by
  obtain ⟨a, b, c⟩ := pos_lim ts d
  rcases Nat.lt_or_ge m (pos ts d) with q | q
  · exact q
  · exfalso
    obtain ⟨y, hy⟩ := at_lt rfl (show pos ts d < ts.length by have := lt_at hm; omega)
    have := c y hy
    by_cases e : pos ts d = m
    · rw [e, hm] at hy; obtain rfl := Option.some.inj hy; omega
    · have := hu.lt m (pos ts d) x y (by omega) hy hm; omega
theorem pos_ge {ts : List Dp} {m : Nat} {x : Dp} {d : Int} (hm : ts[m]? = some x) (h : d ≤ x.day) : pos ts d ≤ m := by
  rcases Nat.lt_or_ge m (pos ts d) with q | q
  · have := (pos_lim ts d).2.1 m x q hm; omega
  · exact q
/-- a point lies on a day -/
def onDay (ts : List Dp) (d : Int) : Bool := match ts[pos ts d]? with
  | some q => q.day == d
  | none => false
theorem up_nil : Up [] := ⟨fun k p h => by simp at h, fun k p q h => by simp at h⟩
set_option maxHeartbeats 4000000 in
set_option maxRecDepth 100000 in
theorem search_any (A : Option Addr) (n cap : Nat) (ts : List Dp) (d : Int) (p : Nat) (b : Bool) (w : World) (hn8 : n ≤ 8) (hts : Hid (DpAt w w.heap.size A n ts)) (hu : Hid (Up ts)) (hp : Hid (pos ts d = p)) (hb : Hid (onDay ts d = b)) :
    Calls Try.prog 78 #[.slice A n cap, .int .i64 d, .func (.func 79) #[] #[]] w (APost (.tuple #[.int .i64 (p : Nat), .bool b]) w) := by
  have HL := Lib.hid hts.out.1
  have hpn : p ≤ n := by rw [← hp.out, ← HL.out]; exact (pos_lim ts d).1
  go_enter Try.func78, Try.ntmps78
  go_wp2_with fail
  go_loopw [9, 10] (fun i j wr => ∃ a c : Nat, i = .int .i64 (a : Nat) ∧ j = .int .i64 (c : Nat) ∧ a ≤ p ∧ p ≤ c ∧ c ≤ n ∧ Below w.heap.size w wr) (fun i j _ => (intOf j).toNat - (intOf i).toNat)
  case atStart => exact ⟨0, n, rfl, rfl, Nat.zero_le _, hpn, Nat.le_refl _, Below.refl _ _⟩
  case round =>
    obtain ⟨a, c, rfl, rfl, hap, hpc, hcn, hB⟩ := hrel
    have HB := Lib.hid hB
    clear hB
    have ha0 : (0 : Int) ≤ (a : Int) := by omega
    have hc0 : (0 : Int) ≤ (c : Int) := by omega
    have hc8 : (c : Int) ≤ 8 := by omega
    have ha8 : (a : Int) ≤ 8 := by omega
    by_cases hlt : a < c
    · have hac : (a : Int) < (c : Int) := by omega
      have hacd : decide (a < c) = true := by simpa using hlt
      obtain ⟨m, hm⟩ : ∃ m, (a + c) / 2 = m := ⟨_, rfl⟩
      have hmi : ((a : Int) + (c : Int)) / 2 = (m : Int) := by omega
      have hmn : (m : Int) < (n : Int) := by omega
      have hm0 : (0 : Int) ≤ (m : Int) := by omega
      obtain ⟨x, hx⟩ := at_lt HL.out (show m < n by omega)
      obtain ⟨g, rfl, hg, x0, x1⟩ := (hts.out.below HB.out).2 m x hx
      obtain ⟨r, HR⟩ : ∃ r, Hid (cmI x.day d = r) := ⟨_, Lib.hid rfl⟩
      go_wp2_with fail
      refine (clo_any x d r _ HR).mono ?_
      rintro e w1 ⟨rfl, b1⟩
      have HB1 := Lib.hid (HB.out.trans (b1.mono HB.out.size))
      clear b1 HB x0 x1 hg
      by_cases h : x.day < d
      · have hlo := pos_lt hu.out hx h
        rw [hp.out] at hlo
        obtain rfl : r = -1 := by rw [← HR.out]; unfold cmI; rw [if_pos h]
        clear HR hx h
        go_wp2_with fail
        go_roundw
        case rel => exact ⟨m + 1, c, by go_num, rfl, by omega, hpc, hcn, HB1.out⟩
        case measure => simp [intOf]; omega
      · have hlo := pos_ge hx (show d ≤ x.day by omega)
        rw [hp.out] at hlo
        have hr0 : ¬ r < 0 := by rw [← HR.out]; unfold cmI; rw [if_neg h]; split <;> omega
        have hrd : decide (r < 0) = false := by simpa using hr0
        clear HR hx h
        go_wp2_with fail
        go_roundw
        case rel => exact ⟨a, m, rfl, rfl, hap, hlo, by omega, HB1.out⟩
        case measure => simp [intOf]; omega
    · have hacd : decide (a < c) = false := by simpa using hlt
      obtain rfl : a = c := by omega
      obtain rfl : a = p := by omega
      by_cases han : a < n
      · have hani : (a : Int) < (n : Int) := by omega
        have hand : decide (a < n) = true := by simpa using han
        obtain ⟨x, hx⟩ := at_lt HL.out han
        obtain ⟨g, rfl, hg, x0, x1⟩ := (hts.out.below HB.out).2 a x hx
        obtain ⟨r, HR⟩ : ∃ r, Hid (cmI x.day d = r) := ⟨_, Lib.hid rfl⟩
        have HBE := Lib.hid (show (r == 0) = b by
          rw [← HR.out, ← hb.out]; unfold onDay cmI; rw [hp.out, hx]
          by_cases h1 : x.day < d
          · rw [if_pos h1]; simp; omega
          · by_cases h2 : d < x.day
            · rw [if_neg h1, if_pos h2]; simp; omega
            · rw [if_neg h1, if_neg h2]; simp; omega)
        clear hx
        go_wp2_with fail
        refine (clo_any x d r _ HR).mono ?_
        rintro e w1 ⟨rfl, b1⟩
        have HB1 := Lib.hid (HB.out.trans (b1.mono HB.out.size))
        clear b1 HB x0 x1 hg
        go_wp2_with fail
        go_ret2
        exact ⟨by rw [← HBE.out]; rfl, HB1.out⟩
      · obtain rfl : a = n := by omega
        have hand : decide (a < a) = false := by simp
        have HBE := Lib.hid (show false = b by
          rw [← hb.out]; unfold onDay; rw [hp.out, List.getElem?_eq_none (by rw [HL.out]; exact Nat.le_refl _)])
        go_wp2_with fail
        go_ret2
        exact ⟨by rw [← HBE.out]; rfl, HB.out⟩
set_option maxHeartbeats 4000000 in
set_option maxRecDepth 100000 in
theorem place_any (A : Option Addr) (n cap : Nat) (ts : List Dp) (d : Int) (p : Nat) (b : Bool) (w : World) (hn8 : n ≤ 8) (hts : Hid (DpAt w w.heap.size A n ts)) (hu : Hid (Up ts)) (hp : Hid (pos ts d = p)) (hb : Hid (onDay ts d = b)) :
    Calls Try.prog 70 #[.slice A n cap, .int .i64 d] w (APost (.tuple #[.int .i64 (p : Nat), .bool b]) w) := by
  go_enter Try.func70, Try.ntmps70
  go_wp2_with fail
  refine (search_any A n cap ts d p b _ hn8 hts hu hp hb).mono ?_
  rintro e w1 ⟨rfl, b1⟩
  have HB := Lib.hid b1
  clear b1
  go_wp2_with fail
  go_ret2
  exact ⟨rfl, HB.out⟩
set_option maxHeartbeats 4000000 in
set_option maxRecDepth 100000 in
theorem quot_pos (a b : Int) (w : World) (a0 : 0 ≤ a) (a1 : a ≤ 1000000000) (b0 : 1 ≤ b) (b1 : b ≤ 1000000) :
    Calls Try.prog 76 #[.int .i64 a, .int .i64 b] w fun e w' => e = .returned (.int .i64 (rdv a b)) ∧ w = w' := by
  have HA := Lib.hid (rdv_pos (a := a) (b := b) (by omega))
  have q0 : 0 ≤ (2 * a + b) / (2 * b) := Int.ediv_nonneg (by omega) (by omega)
  have q1 : (2 * a + b) / (2 * b) ≤ 3000000000 := Int.le_trans (Int.ediv_le_self _ (by omega)) (by omega)
  have hb2 : ¬ 2 * b = 0 := by omega
  go_enter Try.func76, Try.ntmps76
  go_wp2_with fail
  go_ret
  exact ⟨by rw [HA.out]; rfl, rfl⟩
theorem quot_is (a b r : Int) (h : Hid (rdv a b = r)) (w : World) (a0 : -1000000000 ≤ a) (a1 : a ≤ 1000000000) (b0 : 1 ≤ b) (b1 : b ≤ 1000000) :
    Calls Try.prog 76 #[.int .i64 a, .int .i64 b] w fun e w' => e = .returned (.int .i64 r) ∧ w = w' := by
  rw [← h.out]
  clear h
  by_cases h : a < 0
  · have HA := Lib.hid (rdv_neg (b := b) h)
    have hq := rdv_lim (-a) b (by omega) (by omega) b0
    go_enter Try.func76, Try.ntmps76
    go_wp2_with fail
    refine (quot_pos (-a) b _ (by omega) (by omega) b0 b1).mono ?_
    rintro e w' ⟨rfl, rfl⟩
    go_wp2_with fail
    go_ret
    exact ⟨by rw [HA.out]; rfl, rfl⟩
  · exact quot_pos a b w (by omega) a1 b0 b1
set_option maxHeartbeats 4000000 in
set_option maxRecDepth 100000 in
theorem decAt_any (A : Option Addr) (n cap : Nat) (ts : List Dp) (d r : Int) (w : World) (hn : n ≤ 2000000) (hts : Hid (DpAt w w.heap.size A n ts)) (hg : Hid (goodDp ts = true)) (hd : Hid (dec ts d = r)) (hd0 : -100000 ≤ d) (hd1 : d ≤ 100000) :
    Calls Try.prog 62 #[.slice A n cap, .int .i64 d] w (APost (.int .i64 r) w) := by
  have HL := Lib.hid hts.out.1
  obtain ⟨l1, l8, hu⟩ := good_lim hg.out
  rw [HL.out] at l1 l8
  have HU := Lib.hid hu
  clear hu
  obtain ⟨p, HP⟩ : ∃ p, Hid (pos ts d = p) := ⟨_, Lib.hid rfl⟩
  obtain ⟨b, HBD⟩ : ∃ p, Hid (onDay ts d = p) := ⟨_, Lib.hid rfl⟩
  obtain ⟨pa, pb, pc⟩ := pos_lim ts d
  rw [HP.out, HL.out] at pa
  rw [HP.out] at pb pc
  have HPB := Lib.hid pb
  have HPC := Lib.hid pc
  clear pb pc
  have hn1 : (1 : Int) ≤ (n : Int) := by omega
  have hn8 : (n : Int) ≤ 8 := by omega
  have hp0 : (0 : Int) ≤ (p : Int) := by omega
  have hnm : (n : Int) - 1 = ((n - 1 : Nat) : Int) := by omega
  have hnp : (0 : Int) < (n : Int) := by omega
  have hnl : ((n - 1 : Nat) : Int) < (n : Int) := by omega
  have hnz : (0 : Int) ≤ ((n - 1 : Nat) : Int) := by omega
  go_enter Try.func62, Try.ntmps62
  go_wp2_with fail
  refine (place_any A n cap ts d p b _ (by omega) hts HU HP HBD).mono ?_
  rintro e w1 ⟨rfl, b1⟩
  have HB := Lib.hid b1
  clear b1
  by_cases c : p = n
  · obtain ⟨z, hz⟩ := at_lt HL.out (show n - 1 < n by omega)
    obtain ⟨g, rfl, hg0, z0, z1⟩ := (hts.out.below HB.out).2 (n - 1) z hz
    have HR := Lib.hid (show z.tn = r by
      rw [← hd.out]; unfold dec; rw [if_pos (by rw [HP.out, HL.out]; exact c), HL.out, dpAt_is hz])
    have e1 : ((p : Int) == (n : Int)) = true := by simp; omega
    have e2 : decide ((p : Int) = (n : Int)) = true := by simp; omega
    have e3 : decide (p = n) = true := by simp; omega
    clear hz
    subst c
    go_wp2_with fail
    go_ret
    exact ⟨by rw [HR.out]; rfl, HB.out⟩
  have e1 : ((p : Int) == (n : Int)) = false := by simp; omega
  have e2 : decide ((p : Int) = (n : Int)) = false := by simp; omega
  have e3 : decide (p = n) = false := by simp; omega
  by_cases c2 : p = 0
  · obtain ⟨z, hz⟩ := at_lt HL.out (show 0 < n by omega)
    obtain ⟨g, rfl, hg0, z0, z1⟩ := (hts.out.below HB.out).2 0 z hz
    simp only [Nat.zero_mul, Nat.zero_add] at z0 z1
    have HR := Lib.hid (show z.tn = r by
      rw [← hd.out]; unfold dec; rw [if_neg (by rw [HP.out, HL.out]; exact c), if_pos (by rw [HP.out]; exact c2), dpAt_is hz])
    have f1 : ((p : Int) == 0) = true := by simp; omega
    have f2 : decide ((p : Int) = 0) = true := by simp; omega
    have f3 : decide (p = 0) = true := by simp; omega
    clear hz
    go_wp2_with fail
    go_ret
    exact ⟨by rw [HR.out]; rfl, HB.out⟩
  have f1 : ((p : Int) == 0) = false := by simp; omega
  have f2 : decide ((p : Int) = 0) = false := by simp; omega
  have f3 : decide (p = 0) = false := by simp; omega
  obtain ⟨k, rfl⟩ : ∃ k, p = k + 1 := ⟨p - 1, by omega⟩
  obtain ⟨a, ha⟩ := at_lt HL.out (show k < n by omega)
  obtain ⟨z, hz⟩ := at_lt HL.out (show k + 1 < n by omega)
  obtain ⟨g, rfl, hg0, a0, a1⟩ := (hts.out.below HB.out).2 k a ha
  obtain ⟨g', e', -, z0, z1⟩ := (hts.out.below HB.out).2 (k + 1) z hz
  obtain rfl : g = g' := by injection e' with e'; injection e'
  have had := HPB.out k a (by omega) ha
  have hzd := HPC.out z hz
  have hk0 : (0 : Int) ≤ (k : Int) := by omega
  have hkn : (k : Int) < (n : Int) := by omega
  have hk1 : ((k + 1 : Nat) : Int) < (n : Int) := by omega
  have hkk : ((k + 1 : Nat) : Int) - 1 = (k : Int) := by omega
  obtain ⟨⟨m0, m1⟩, ⟨m2, m3⟩, ⟨m4, m5⟩, ⟨m6, m7⟩, ⟨m8, m9⟩, m10, m11⟩ := mix_num (d := d) (HU.out.1 _ a ha) (HU.out.1 _ z hz) had hzd
  have la := okDp_lim (HU.out.1 _ a ha)
  have lb := okDp_lim (HU.out.1 _ z hz)
  have HM := Lib.hid (show rdv (a.tn * (z.day - d) + z.tn * (d - a.day)) (z.day - a.day) = r by rw [← hd.out, dec_mid HU.out ha hz had hzd]; rfl)
  clear ha hz e' HP HPB HPC HBD
  have hg1 : g < w1.heap.size := by have := HB.out.size; omega
  have HB0 := HB
  go_upto_region 6 with fail
  go_region
  · obtain ⟨V, HV⟩ : ∃ V, Hid (((w1.alloc (.cells #[.int .i64 a.day, .int .i64 a.tn] 42)).alloc (.cells #[.int .i64 z.day, .int .i64 z.tn] 42)).drew = V) := ⟨_, Lib.hid rfl⟩
    have HB := Lib.hid (show Below w1.heap.size w1 V by rw [← HV.out]; exact (((Below.refl _ _).alloc (Nat.le_refl _) _).alloc (by simp) _).drew)
    have H1 := Lib.hid (show Blk V w1.heap.size 42 #[.int .i64 a.day, .int .i64 a.tn] by rw [← HV.out]; exact ((Blk.new _ _ _).alloc _).drew)
    have H2 := Lib.hid (show Blk V (w1.heap.size + 1) 42 #[.int .i64 z.day, .int .i64 z.tn] by rw [← HV.out]; have h := Blk.new (w1.alloc (.cells #[.int .i64 a.day, .int .i64 a.tn] 42)) 42 #[.int .i64 z.day, .int .i64 z.tn]; simpa using h.drew)
    rw [HV.out]
    clear HV
    have x0 := H1.out.cell 0
    have x1 := H1.out.cell 1
    have y0 := H2.out.cell 0
    have y1 := H2.out.cell 1
    simp at x0 x1 y0 y1
    go_wp2_with fail
    refine (quot_is _ _ r HM _ (by omega) (by omega) (by omega) (by omega)).mono ?_
    rintro e w9 ⟨rfl, rfl⟩
    go_wp2_with fail
    go_ret
    exact ⟨rfl, HB0.out.trans (HB.out.mono HB0.out.size)⟩
  · obtain ⟨V, HV⟩ : ∃ V, Hid (((w1.alloc (.cells #[.int .i64 z.day, .int .i64 z.tn] 42)).alloc (.cells #[.int .i64 a.day, .int .i64 a.tn] 42)).drew = V) := ⟨_, Lib.hid rfl⟩
    have HB := Lib.hid (show Below w1.heap.size w1 V by rw [← HV.out]; exact (((Below.refl _ _).alloc (Nat.le_refl _) _).alloc (by simp) _).drew)
    have H1 := Lib.hid (show Blk V w1.heap.size 42 #[.int .i64 z.day, .int .i64 z.tn] by rw [← HV.out]; exact ((Blk.new _ _ _).alloc _).drew)
    have H2 := Lib.hid (show Blk V (w1.heap.size + 1) 42 #[.int .i64 a.day, .int .i64 a.tn] by rw [← HV.out]; have h := Blk.new (w1.alloc (.cells #[.int .i64 z.day, .int .i64 z.tn] 42)) 42 #[.int .i64 a.day, .int .i64 a.tn]; simpa using h.drew)
    rw [HV.out]
    clear HV
    have x0 := H1.out.cell 0
    have x1 := H1.out.cell 1
    have y0 := H2.out.cell 0
    have y1 := H2.out.cell 1
    simp at x0 x1 y0 y1
    go_wp2_with fail
    refine (quot_is _ _ r HM _ (by omega) (by omega) (by omega) (by omega)).mono ?_
    rintro e w9 ⟨rfl, rfl⟩
    go_wp2_with fail
    go_ret
    exact ⟨rfl, HB0.out.trans (HB.out.mono HB0.out.size)⟩
theorem decAt_is (A : Option Addr) (n cap : Nat) (ts : List Dp) (d r : Int) (w : World) (hn : n ≤ 2000000) (hts : Hid (DpAt w w.heap.size A n ts)) (hg : Hid (goodDp ts = true)) (hd : Hid (dec ts d = r)) (hd0 : 0 ≤ d) (hd1 : d ≤ 999) :
    Calls Try.prog 62 #[.slice A n cap, .int .i64 d] w (APost (.int .i64 r) w) := decAt_any A n cap ts d r w hn hts hg hd (by omega) (by omega)
end Go.Proofs.Ytiimegmaokfpgaa.va
