/-
  The program: the passage of a station, areas, volumes, means.
  Conditions: the passages lie in one block, at most 2000000 of them.
-/
import Derived.Test.YtnpghhpcloljeaaDoorPwH
import Derived.Test.YtnpghhpcloljeaaDoorPwL
import Derived.BigQuiet
import Derived.Deep.QuietTactic
import Derived.Deep.Cut
import Derived.Deep.DeepCutAuto
import Derived.RegionTactic
import Derived.Deep.RegionWith
import Derived.OwnWalk
import Derived.Deep.RegionHeld3
namespace Go.Proofs.YtnpghhpcloljeaaDoor.pw
open Go.RowKit
open reads base ty rowi win lg lgi lgw
set_option linter.unusedVariables false
set_option linter.unusedSimpArgs false

def cmI (a b : Int) : Int := if a < b then -1 else if b < a then 1 else 0
theorem nan_any (x : Int) (w : World) : Calls Tryd.prog 70 #[.int .i64 x] w fun e w' => e = .returned (.bool false) ∧ w = w' := by
  have h1 : (x == x) = true := by simp
  have h2 : (x != x) = false := by simp
  go_enter Tryd.func70, Tryd.ntmps70
  go_wp2_with fail
  go_ret
  exact ⟨rfl, rfl⟩
set_option maxHeartbeats 4000000 in
theorem cmp_any (x y r : Int) (w : World) (hr : Hid (cmI x y = r)) : Calls Tryd.prog 53 #[.int .i64 x, .int .i64 y] w fun e w' => e = .returned (.int .i64 r) ∧ w = w' := by
  go_enter Tryd.func53, Tryd.ntmps53
  go_wp2_with fail
  refine (nan_any x _).mono ?_
  rintro e w1 ⟨rfl, rfl⟩
  go_wp2_with fail
  refine (nan_any y _).mono ?_
  rintro e w1 ⟨rfl, rfl⟩
  by_cases h1 : x < y
  · have HV := Lib.hid (show (-1 : Int) = r by have h := hr.out; unfold cmI at h; rw [if_pos h1] at h; exact h)
    obtain rfl := HV.out
    go_wp2_with fail
    go_ret
    exact ⟨rfl, rfl⟩
  · by_cases h2 : y < x
    · have HV := Lib.hid (show (1 : Int) = r by have h := hr.out; unfold cmI at h; rw [if_neg h1, if_pos h2] at h; exact h)
      obtain rfl := HV.out
      go_wp2_with fail
      go_ret
      exact ⟨rfl, rfl⟩
    · have HV := Lib.hid (show (0 : Int) = r by have h := hr.out; unfold cmI at h; rw [if_neg h1, if_neg h2] at h; exact h)
      obtain rfl := HV.out
      go_wp2_with fail
      go_ret
      exact ⟨rfl, rfl⟩
set_option maxHeartbeats 4000000 in
set_option maxRecDepth 100000 in
theorem clo_any (x : Pg) (d r : Int) (w : World) (hr : Hid (cmI x.st d = r)) :
    Calls Tryd.prog 75 #[.agg #[.int .i64 x.st, .int .i64 x.lf, .int .i64 x.rt, .int .i64 x.ab, .int .i64 x.be], .int .i64 d] w (APost (.int .i64 r) w) := by
  go_enter Tryd.func75, Tryd.ntmps75
  go_wp2_with fail
  refine (cmp_any x.st d r _ hr).mono ?_
  rintro e w1 ⟨rfl, rfl⟩
  go_wp2_with fail
  go_ret
  exact ⟨rfl, (Below.refl _ _).alloc (Nat.le_refl _) _⟩
set_option maxHeartbeats 4000000 in
set_option maxRecDepth 100000 in
theorem search_any (A : Option Addr) (n cap : Nat) (ts : List Pg) (d : Int) (p : Nat) (b : Bool) (w : World) (hn8 : n ≤ 8) (hts : Hid (PgAt w w.heap.size A n ts)) (hu : Hid (Up ts)) (hp : Hid (pos ts d = p)) (hb : Hid (onSt ts d = b)) :
    Calls Tryd.prog 74 #[.slice A n cap, .int .i64 d, .func (.func 75) #[] #[]] w (APost (.tuple #[.int .i64 (p : Nat), .bool b]) w) := by
  have HL := Lib.hid hts.out.1
  have hpn : p ≤ n := by rw [← hp.out, ← HL.out]; exact (pos_lim ts d).1
  go_enter Tryd.func74, Tryd.ntmps74
  go_wp2_with fail
  go_loopw [9, 10] (fun i j wr => ∃ a c : Nat, i = .int .i64 (a : Nat) ∧ j = .int .i64 (c : Nat) ∧ a ≤ p ∧ p ≤ c ∧ c ≤ n ∧ Below w.heap.size w wr) (fun i j _ => (intOf j).toNat - (intOf i).toNat)
  case atStart => exact ⟨0, n, rfl, rfl, Nat.zero_le _, hpn, Nat.le_refl _, Below.refl _ _⟩
  case round =>
    obtain ⟨a, c, rfl, rfl, hap, hpc, hcn, hB⟩ := hrel
    have HB := Lib.hid hB
    clear hB
    have ha0 : (0 : Int) ≤ (a : Int) := by omega
    have hc0 : (0 : Int) ≤ (c : Int) := by omega
    have hc8 : (c : Int) ≤ 8 := by omega
    have ha8 : (a : Int) ≤ 8 := by omega
    by_cases hlt : a < c
    · have hac : (a : Int) < (c : Int) := by omega
      have hacd : decide (a < c) = true := by simpa using hlt
      obtain ⟨m, hm⟩ : ∃ m, (a + c) / 2 = m := ⟨_, rfl⟩
      have hmi : ((a : Int) + (c : Int)) / 2 = (m : Int) := by omega
      have hmn : (m : Int) < (n : Int) := by omega
      have hm0 : (0 : Int) ≤ (m : Int) := by omega
      obtain ⟨x, hx⟩ := at_lt HL.out (show m < n by omega)
      obtain ⟨g, rfl, hg, x0, x1, x2, x3, x4⟩ := (hts.out.below HB.out).2 m x hx
      obtain ⟨r, HR⟩ : ∃ r, Hid (cmI x.st d = r) := ⟨_, Lib.hid rfl⟩
      go_wp2_with fail
      refine (clo_any x d r _ HR).mono ?_
      rintro e w1 ⟨rfl, b1⟩
      have HB1 := Lib.hid (HB.out.trans (b1.mono HB.out.size))
      clear b1 HB x0 x1 x2 x3 x4 hg
      by_cases h : x.st < d
      · have hlo := pos_lt hu.out hx h
        rw [hp.out] at hlo
        obtain rfl : r = -1 := by rw [← HR.out]; unfold cmI; rw [if_pos h]
        clear HR hx h
        go_wp2_with fail
        go_roundw
        case rel => exact ⟨m + 1, c, by go_num, rfl, by omega, hpc, hcn, HB1.out⟩
        case measure => simp [intOf]; omega
      · have hlo := pos_ge hx (show d ≤ x.st by omega)
        rw [hp.out] at hlo
        have hr0 : ¬ r < 0 := by rw [← HR.out]; unfold cmI; rw [if_neg h]; split <;> omega
        have hrd : decide (r < 0) = false := by simpa using hr0
        clear HR hx h
        go_wp2_with fail
        go_roundw
        case rel => exact ⟨a, m, rfl, rfl, hap, hlo, by omega, HB1.out⟩
        case measure => simp [intOf]; omega
    · have hacd : decide (a < c) = false := by simpa using hlt
      obtain rfl : a = c := by omega
      obtain rfl : a = p := by omega
      by_cases han : a < n
      · have hani : (a : Int) < (n : Int) := by omega
        have hand : decide (a < n) = true := by simpa using han
        obtain ⟨x, hx⟩ := at_lt HL.out han
        obtain ⟨g, rfl, hg, x0, x1, x2, x3, x4⟩ := (hts.out.below HB.out).2 a x hx
        obtain ⟨r, HR⟩ : ∃ r, Hid (cmI x.st d = r) := ⟨_, Lib.hid rfl⟩
        have HBE := Lib.hid (show (r == 0) = b by
          rw [← HR.out, ← hb.out]; unfold onSt cmI; rw [hp.out, hx]
          by_cases h1 : x.st < d
          · rw [if_pos h1]; simp; omega
          · by_cases h2 : d < x.st
            · rw [if_neg h1, if_pos h2]; simp; omega
            · rw [if_neg h1, if_neg h2]; simp; omega)
        clear hx
        go_wp2_with fail
        refine (clo_any x d r _ HR).mono ?_
        rintro e w1 ⟨rfl, b1⟩
        have HB1 := Lib.hid (HB.out.trans (b1.mono HB.out.size))
        clear b1 HB x0 x1 x2 x3 x4 hg
        go_wp2_with fail
        go_ret2
        exact ⟨by rw [← HBE.out]; rfl, HB1.out⟩
      · obtain rfl : a = n := by omega
        have hand : decide (a < a) = false := by simp
        have HBE := Lib.hid (show false = b by
          rw [← hb.out]; unfold onSt; rw [hp.out, List.getElem?_eq_none (by rw [HL.out]; exact Nat.le_refl _)])
        go_wp2_with fail
        go_ret2
        exact ⟨by rw [← HBE.out]; rfl, HB.out⟩
set_option maxHeartbeats 4000000 in
set_option maxRecDepth 100000 in
theorem place_any (A : Option Addr) (n cap : Nat) (ts : List Pg) (d : Int) (p : Nat) (b : Bool) (w : World) (hn8 : n ≤ 8) (hts : Hid (PgAt w w.heap.size A n ts)) (hu : Hid (Up ts)) (hp : Hid (pos ts d = p)) (hb : Hid (onSt ts d = b)) :
    Calls Tryd.prog 63 #[.slice A n cap, .int .i64 d] w (APost (.tuple #[.int .i64 (p : Nat), .bool b]) w) := by
  go_enter Tryd.func63, Tryd.ntmps63
  go_wp2_with fail
  refine (search_any A n cap ts d p b _ hn8 hts hu hp hb).mono ?_
  rintro e w1 ⟨rfl, b1⟩
  have HB := Lib.hid b1
  clear b1
  go_wp2_with fail
  go_ret2
  exact ⟨rfl, HB.out⟩
/-- the passage of a station, the zero one if there is none -/
def zPg : Pg := ⟨0, 0, 0, 0, 0⟩
def pgZ (ts : List Pg) (s : Int) : Pg := (pgAt ts s).getD zPg
theorem pgZ_ok {ts : List Pg} (h : goodPg ts = true) (s : Int) : okPg (pgZ ts s) = true := by
  unfold pgZ
  cases e : pgAt ts s with
  | none => rfl
  | some p => exact good_at h e
theorem pgZ_area (ts : List Pg) (s : Int) : area (pgZ ts s) = arAt ts s := by
  unfold pgZ arAt
  cases pgAt ts s <;> rfl
theorem pgZ_yes {ts : List Pg} {s : Int} {p : Pg} (h : pgAt ts s = some p) : pgZ ts s = p := by unfold pgZ; rw [h]; rfl
theorem pgZ_no {ts : List Pg} {s : Int} (h : pgAt ts s = none) : pgZ ts s = zPg := by unfold pgZ; rw [h]; rfl
theorem alloc_below {w w' : World} {o : Obj} (h : w.alloc o = w') : Below w.heap.size w w' := by rw [← h]; exact (Below.refl _ _).alloc (Nat.le_refl _) _
set_option maxHeartbeats 8000000 in
set_option maxRecDepth 100000 in
theorem passageAt_any (A : Option Addr) (n cap : Nat) (ts : List Pg) (s : Int) (y : Pg) (b : Bool) (w : World) (hn : n ≤ 2000000) (hts : Hid (PgAt w w.heap.size A n ts)) (hg : Hid (goodPg ts = true)) (hy : Hid (pgZ ts s = y)) (hb : Hid (onSt ts s = b)) :
    Calls Tryd.prog 34 #[.slice A n cap, .int .i64 s] w (APost (.tuple #[.agg #[.int .i64 y.st, .int .i64 y.lf, .int .i64 y.rt, .int .i64 y.ab, .int .i64 y.be], .bool b]) w) := by
  have HL := Lib.hid hts.out.1
  have HU := Lib.hid (up_of hg.out)
  obtain ⟨p, HP⟩ : ∃ p, Hid (pos ts s = p) := ⟨_, Lib.hid rfl⟩
  have hn8 : n ≤ 8 := by rw [← HL.out]; exact good_len hg.out
  have HB0 := Lib.hid ((Below.refl w.heap.size w).alloc (Nat.le_refl _) (.cells #[.int .i64 0, .int .i64 0, .int .i64 0, .int .i64 0, .int .i64 0] 43))
  go_enter Tryd.func34, Tryd.ntmps34
  go_wp2_with fail
  refine (place_any A n cap ts s p b _ hn8 (Lib.hid (hts.out.step HB0.out)) HU HP hb).mono ?_
  rintro e w1 ⟨rfl, b1⟩
  have hbk := (Blk.new w 43 #[.int .i64 0, .int .i64 0, .int .i64 0, .int .i64 0, .int .i64 0]).below b1 (by simp)
  have z0 := hbk.cell 0
  have z1 := hbk.cell 1
  have z2 := hbk.cell 2
  have z3 := hbk.cell 3
  have z4 := hbk.cell 4
  have f0 := hbk.frozen 0
  have f1 := hbk.frozen 1
  have f2 := hbk.frozen 2
  have f3 := hbk.frozen 3
  have f4 := hbk.frozen 4
  simp at z0 z1 z2 z3 z4
  clear hbk
  have hz : w.heap.size + 1 ≤ w1.heap.size := by have := b1.size; simp at this; omega
  have hz0 : w.heap.size < w1.heap.size := by omega
  have HB := Lib.hid (HB0.out.trans (b1.mono HB0.out.size))
  clear b1
  cases b
  · have HY := Lib.hid (show y = zPg by rw [← hy.out]; exact pgZ_no (on_no HU.out hb.out).1)
    have HW := Lib.hid ((((((HB.out.setCell (p := (⟨w.heap.size, 0, none⟩ : Addr)) (Nat.le_refl _) (.int .i64 0)).setCell (p := (⟨w.heap.size, 1, none⟩ : Addr)) (Nat.le_refl _) (.int .i64 0)).setCell (p := (⟨w.heap.size, 2, none⟩ : Addr)) (Nat.le_refl _) (.int .i64 0)).setCell (p := (⟨w.heap.size, 3, none⟩ : Addr)) (Nat.le_refl _) (.int .i64 0)).setCell (p := (⟨w.heap.size, 4, none⟩ : Addr)) (Nat.le_refl _) (.int .i64 0)))
    go_wp2_with fail
    refine bodyPost_ret (v := .tuple #[.agg #[.int .i64 0, .int .i64 0, .int .i64 0, .int .i64 0, .int .i64 0], .bool false]) (by simp [results, Tryd.results34, go_sem, *]) rfl ⟨by rw [HY.out]; rfl, ?_⟩
    exact HW.out
  · obtain ⟨q, hq, -, h2⟩ := on_yes hb.out
    have HY := Lib.hid (show q = y by rw [← hy.out]; exact (pgZ_yes h2).symm)
    rw [HP.out] at hq
    have hlt : p < n := by rw [← HL.out]; exact lt_at hq
    have hpi : (p : Int) < (n : Int) := by omega
    have hp0 : (0 : Int) ≤ (p : Int) := by omega
    obtain ⟨g, rfl, hg, c0, c1, c2, c3, c4⟩ := (hts.out.below HB.out).2 p q hq
    have HW := Lib.hid (fun a0 a1 a2 a3 a4 : Value => (((((HB.out.setCell (p := (⟨w.heap.size, 0, none⟩ : Addr)) (Nat.le_refl _) a0).setCell (p := (⟨w.heap.size, 1, none⟩ : Addr)) (Nat.le_refl _) a1).setCell (p := (⟨w.heap.size, 2, none⟩ : Addr)) (Nat.le_refl _) a2).setCell (p := (⟨w.heap.size, 3, none⟩ : Addr)) (Nat.le_refl _) a3).setCell (p := (⟨w.heap.size, 4, none⟩ : Addr)) (Nat.le_refl _) a4))
    clear hq h2
    go_wp2_with fail
    refine bodyPost_ret (v := .tuple #[.agg #[.int .i64 q.st, .int .i64 q.lf, .int .i64 q.rt, .int .i64 q.ab, .int .i64 q.be], .bool true]) (by simp [results, Tryd.results34, go_sem, *]) rfl ⟨by rw [← HY.out], ?_⟩
    exact HW.out _ _ _ _ _
set_option maxHeartbeats 4000000 in
set_option maxRecDepth 100000 in
theorem areaAt_in (A : Option Addr) (n cap : Nat) (ts : List Pg) (s v : Int) (w : World) (hn : n ≤ 2000000) (hts : Hid (PgAt w w.heap.size A n ts)) (hg : Hid (goodPg ts = true)) (hv : Hid (arAt ts s = v)) :
    Calls Tryd.prog 47 #[.slice A n cap, .int .i64 s] w (APost (.int .i64 v) w) := by
  obtain ⟨y, HY⟩ : ∃ y, Hid (pgZ ts s = y) := ⟨_, Lib.hid rfl⟩
  obtain ⟨b, HBB⟩ : ∃ b, Hid (onSt ts s = b) := ⟨_, Lib.hid rfl⟩
  have HO := Lib.hid (show okPg y = true by rw [← HY.out]; exact pgZ_ok hg.out s)
  have HV := Lib.hid (show area y = v by rw [← HY.out, pgZ_area]; exact hv.out)
  go_enter Tryd.func47, Tryd.ntmps47
  go_wp2_with fail
  refine (passageAt_any A n cap ts s y b _ hn hts hg HY HBB).mono ?_
  rintro e w1 ⟨rfl, b1⟩
  have HB := Lib.hid b1
  clear b1
  go_wp2_with fail
  refine (areaOf_is y v HV _ HO).mono ?_
  rintro e w2 ⟨rfl, b2⟩
  have HB2 := Lib.hid ((HB.out.alloc HB.out.size _).trans (b2.mono (by have := HB.out.size; simp; omega)))
  clear b2
  go_wp2_with fail
  go_ret
  exact ⟨rfl, HB2.out⟩
set_option maxHeartbeats 4000000 in
set_option maxRecDepth 100000 in
theorem areaAt_impl (A : Option Addr) (n cap : Nat) (ts : List Pg) (s : Int) (w : World) (hn : n ≤ 2000000) (hts : Hid (PgAt w w.heap.size A n ts)) :
    Calls Tryd.prog 20 #[.slice A n cap, .int .i64 s] w (APost (ansAa ts s) w) := by
  obtain ⟨G, HG⟩ : ∃ G, Hid (goodPg ts = G) := ⟨_, Lib.hid rfl⟩
  obtain ⟨t0, H0⟩ : ∃ t, Hid (stOk s = t) := ⟨_, Lib.hid rfl⟩
  obtain ⟨v, HV⟩ : ∃ v, Hid (arAt ts s = v) := ⟨_, Lib.hid rfl⟩
  have HA := Lib.hid (show ansAa ts s = if (G && t0) = true then .tuple #[.int .i64 v, .bool true] else .tuple #[.int .i64 0, .bool false] by unfold ansAa; rw [HG.out, H0.out, HV.out])
  go_enter Tryd.func20, Tryd.ntmps20
  go_wp2_with fail
  refine (arePassages_is A n cap ts G HG _ hn hts).mono ?_
  rintro e w1 ⟨rfl, b1⟩
  have HB2 := Lib.hid b1
  clear b1
  cases G
  · go_wp2_with fail
    go_ret2
    exact ⟨by rw [HA.out]; rfl, HB2.out⟩
  have K0 := Lib.hid (one_in (show btw 0 s 7 = t0 from H0.out))
  go_wp2_with fail
  refine (stations_new _ [s] _ _ _ t0 _ _ (by simp) rfl (by simp) rfl K0.out).mono ?_
  rintro e w3 ⟨rfl, hw⟩
  have b3 := alloc_below hw
  clear hw K0
  have HB4 := Lib.hid (HB2.out.trans (b3.mono HB2.out.size))
  clear b3 HB2
  cases t0
  · go_wp2_with fail
    go_ret2
    exact ⟨by rw [HA.out]; rfl, HB4.out⟩
  go_wp2_with fail
  refine (areaAt_in A n cap ts s v _ hn (Lib.hid (hts.out.step HB4.out)) HG HV).mono ?_
  rintro e w5 ⟨rfl, b5⟩
  have HB6 := Lib.hid (HB4.out.trans (b5.mono HB4.out.size))
  clear b5 HB4
  go_wp2_with fail
  go_ret2
  exact ⟨by rw [HA.out]; rfl, HB6.out⟩
end Go.Proofs.YtnpghhpcloljeaaDoor.pw
