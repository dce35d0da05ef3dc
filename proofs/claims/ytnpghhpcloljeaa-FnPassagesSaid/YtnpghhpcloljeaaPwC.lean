/-
  The model: areas, means, volumes, mirrored passages.
  Conditions: the passages lie in one block, at most 2000000 of them.
-/
import Derived.Test.YtnpghhpcloljeaaPwG
import Derived.Test.YtnpghhpcloljeaaPwE
import Derived.BigQuiet
import Derived.Deep.QuietTactic
import Derived.Deep.Cut
import Derived.Deep.DeepCutAuto
import Derived.RegionTactic
import Derived.Deep.RegionWith
import Derived.OwnWalk
import Derived.Deep.RegionHeld3
namespace Go.Proofs.Ytnpghhpcloljeaa.pw
open Go.RowKit
open reads base ty rowi win inn lg
set_option linter.unusedVariables false
set_option linter.unusedSimpArgs false

/-- a leg's stations and tape in memory -/
def L3 (w : World) (g o : Nat) (x : Lg) : Prop := (w.cell? ⟨g, o, none⟩ = some (.int .i64 x.frm) ∧ w.cell? ⟨g, o + 1, none⟩ = some (.int .i64 x.to_) ∧ w.cell? ⟨g, o + 2, none⟩ = some (.int .i64 x.tape)) ∧ g < w.heap.size
theorem l3_mk {w v : World} {g o : Nat} {x : Lg} (h : L3 w g o x) (hb : Below w.heap.size w v) : v.cell? ⟨g, o, none⟩ = some (.int .i64 x.frm) ∧ v.cell? ⟨g, o + 1, none⟩ = some (.int .i64 x.to_) ∧ v.cell? ⟨g, o + 2, none⟩ = some (.int .i64 x.tape) ∧ Below w.heap.size w v :=
  ⟨(hb.cell (p := ⟨g, o, none⟩) h.2).trans h.1.1, (hb.cell (p := ⟨g, o + 1, none⟩) h.2).trans h.1.2.1, (hb.cell (p := ⟨g, o + 2, none⟩) h.2).trans h.1.2.2, hb⟩
set_option maxHeartbeats 4000000 in
set_option maxRecDepth 100000 in
theorem arePassages_model (A : Option Addr) (n cap : Nat) (ts : List Pg) (w : World) (hn : n ≤ 2000000) (hts : Hid (PgAt w w.heap.size A n ts)) :
    Calls Try.prog 13 #[.slice A n cap] w (BPost (goodPg ts) w) := by
  obtain ⟨G, HG⟩ : ∃ G, Hid (goodPg ts = G) := ⟨_, Lib.hid rfl⟩
  rw [HG.out]
  go_enter Try.func13, Try.ntmps13
  go_wp2_with fail
  refine (good_is A n cap ts G HG _ hn hts).mono ?_
  rintro e w1 ⟨rfl, b1⟩
  have HB := Lib.hid b1
  clear b1
  go_wp2_with fail
  go_ret
  exact ⟨rfl, HB.out⟩
set_option maxHeartbeats 4000000 in
set_option maxRecDepth 100000 in
theorem areaAt_model (A : Option Addr) (n cap : Nat) (ts : List Pg) (s : Int) (w : World) (hn : n ≤ 2000000) (hts : Hid (PgAt w w.heap.size A n ts)) :
    Calls Try.prog 17 #[.slice A n cap, .int .i64 s] w (APost (ansAa ts s) w) := by
  obtain ⟨G, HG⟩ : ∃ G, Hid (goodPg ts = G) := ⟨_, Lib.hid rfl⟩
  obtain ⟨t0, H0⟩ : ∃ t, Hid (stOk s = t) := ⟨_, Lib.hid rfl⟩
  obtain ⟨v, HV⟩ : ∃ v, Hid (arAt ts s = v) := ⟨_, Lib.hid rfl⟩
  have HA := Lib.hid (show ansAa ts s = if (G && t0) = true then .tuple #[.int .i64 v, .bool true] else .tuple #[.int .i64 0, .bool false] by unfold ansAa; rw [HG.out, H0.out, HV.out])
  go_enter Try.func17, Try.ntmps17
  go_wp2_with fail
  refine (good_is A n cap ts G HG _ hn hts).mono ?_
  rintro e w1 ⟨rfl, b1⟩
  have HB2 := Lib.hid b1
  clear b1
  cases G
  · go_wp2_with fail
    go_ret2
    exact ⟨by rw [HA.out]; rfl, HB2.out⟩
  go_wp2_with fail
  refine (station_is s t0 H0 _).mono ?_
  rintro e w3 ⟨rfl, rfl⟩
  cases t0
  · go_wp2_with fail
    go_ret2
    exact ⟨by rw [HA.out]; rfl, HB2.out⟩
  go_wp2_with fail
  refine (at_any A n cap ts s v _ hn (Lib.hid (hts.out.step HB2.out)) HG HV).mono ?_
  rintro e w4 ⟨rfl, b4⟩
  have HB5 := Lib.hid (HB2.out.trans (b4.mono HB2.out.size))
  clear b4 HB2
  go_wp2_with fail
  go_ret2
  exact ⟨by rw [HA.out]; rfl, HB5.out⟩
set_option maxHeartbeats 4000000 in
set_option maxRecDepth 100000 in
theorem meanArea_model (A : Option Addr) (n cap : Nat) (ts : List Pg) (w : World) (hn : n ≤ 2000000) (hts : Hid (PgAt w w.heap.size A n ts)) :
    Calls Try.prog 39 #[.slice A n cap] w (APost (ansMa ts) w) := by
  obtain ⟨G, HG⟩ : ∃ G, Hid (goodPg ts = G) := ⟨_, Lib.hid rfl⟩
  have hL : Hid (ts.length = n) := Lib.hid hts.out.1
  obtain ⟨a, HN⟩ : ∃ v, Hid (redN (sumA ts) (n : Int) = v) := ⟨_, Lib.hid rfl⟩
  obtain ⟨b, HD⟩ : ∃ v, Hid (redD (sumA ts) (n : Int) = v) := ⟨_, Lib.hid rfl⟩
  have HA := Lib.hid (show ansMa ts = if (G && !decide (n = 0)) = true then .tuple #[.int .i64 a, .int .i64 b, .bool true] else .tuple #[.int .i64 0, .int .i64 0, .bool false] by unfold ansMa wsOk; rw [HG.out, hL.out, HN.out, HD.out])
  by_cases hz : n = 0
  · subst hz
    go_enter Try.func39, Try.ntmps39
    go_wp2_with fail
    refine (good_is A 0 cap ts G HG _ hn hts).mono ?_
    rintro e w1 ⟨rfl, b1⟩
    have HB1 := Lib.hid b1
    clear b1
    cases G
    · go_wp2_with fail
      go_ret3
      exact ⟨by rw [HA.out]; rfl, HB1.out⟩
    · go_wp2_with fail
      go_ret3
      exact ⟨by rw [HA.out]; rfl, HB1.out⟩
  have hzi : ((n : Int) == 0) = false := by simp; omega
  have hzn : (n == 0) = false := by simpa using hz
  have hzd : decide (n = 0) = false := by simpa using hz
  rw [hzd] at HA
  go_enter Try.func39, Try.ntmps39
  go_wp2_with fail
  refine (good_is A n cap ts G HG _ hn hts).mono ?_
  rintro e w1 ⟨rfl, b1⟩
  have HB2 := Lib.hid b1
  clear b1
  cases G
  · go_wp2_with fail
    go_ret3
    exact ⟨by rw [HA.out]; rfl, HB2.out⟩
  have hn8 : n ≤ 8 := by rw [← hL.out]; exact good_len HG.out
  go_wp2_with fail
  go_loopw [5, 6] (fun s i wr => ∃ (k : Nat) (z : Int), k ≤ n ∧ i = .int .i64 (k : Nat) ∧ s = .int .i64 z ∧ Hid (sumA (ts.take k) = z) ∧ Below w.heap.size w wr) (fun _ i _ => n - (intOf i).toNat)
  case atStart => exact ⟨0, 0, Nat.zero_le _, rfl, rfl, Lib.hid (by simp [sumA]), HB2.out⟩
  case round =>
    obtain ⟨k, z, hk, rfl, rfl, HZ, hB⟩ := hrel
    have HB := Lib.hid hB
    clear hB HB2
    have zb := sumA_lim (ts.take k) (fun p hp => good_mem HG.out p (List.mem_of_mem_take hp))
    have zl := List.length_take_le k ts
    rw [HZ.out] at zb
    obtain ⟨z0, z1⟩ := zb
    have z2 : z ≤ 1280000 := by omega
    clear z1 zl
    have hk0 : (0 : Int) ≤ (k : Int) := by omega
    by_cases hlt : k < n
    · have hki : (k : Int) < (n : Int) := by omega
      have hkd : decide (k < n) = true := by simpa using hlt
      obtain ⟨x, hx⟩ := at_lt hL.out hlt
      obtain ⟨g, rfl, hg, c0, c1, c2, c3, c4⟩ := (hts.out.below HB.out).2 k x hx
      have HO := Lib.hid (good_at HG.out hx)
      obtain ⟨v, HV⟩ : ∃ v, Hid (area x = v) := ⟨_, Lib.hid rfl⟩
      have vb := area_lim HO.out
      rw [HV.out] at vb
      obtain ⟨v0, v1⟩ := vb
      have HS := Lib.hid (show sumA (ts.take (k + 1)) = z + v by rw [sumA_take hx, HZ.out, HV.out])
      clear hx
      go_wp2_with fail
      refine (area_is x v HV _ HO).mono ?_
      rintro e w2 ⟨rfl, b2⟩
      have HB2 := Lib.hid (HB.out.trans (b2.mono HB.out.size))
      clear b2 HB
      go_wp2_with fail
      go_roundw
      case rel => exact ⟨k + 1, z + v, by omega, by go_num, rfl, HS, HB2.out⟩
      case measure => simp [intOf]; omega
    · have hkd : decide (k < n) = false := by simpa using hlt
      obtain rfl : k = n := by omega
      have HS := Lib.hid (show sumA ts = z by rw [← HZ.out, List.take_of_length_le (by rw [hL.out]; exact Nat.le_refl _)])
      rw [HS.out] at HN HD
      go_wp2_with fail
      refine (reduce_any z (k : Int) a b _ (by unfold lim62; omega) (by unfold lim62; omega) (by omega) HN HD).mono ?_
      rintro e w2 ⟨rfl, b2⟩
      have HB2 := Lib.hid (HB.out.trans (b2.mono HB.out.size))
      clear b2 HB
      go_wp2_with fail
      go_ret3
      exact ⟨by rw [HA.out]; rfl, HB2.out⟩
set_option maxHeartbeats 8000000 in
set_option maxRecDepth 100000 in
theorem volumeOf_model (A : Option Addr) (n cap : Nat) (ts : List Pg) (A2 : Option Addr) (n2 c2 : Nat) (ls : List Lg) (w : World) (hn : n ≤ 2000000) (hts : Hid (PgAt w w.heap.size A n ts)) (hn2 : n2 ≤ 2000000) (hls : Hid (LgAt w w.heap.size A2 n2 ls)) :
    Calls Try.prog 20 #[.slice A n cap, .slice A2 n2 c2] w (APost (ansVo ts ls) w) := by
  obtain ⟨G, HG⟩ : ∃ G, Hid (goodPg ts = G) := ⟨_, Lib.hid rfl⟩
  obtain ⟨G2, HG2⟩ : ∃ G, Hid (goodLg ls = G) := ⟨_, Lib.hid rfl⟩
  have hL : Hid (ls.length = n2) := Lib.hid hls.out.1
  obtain ⟨a, HN⟩ : ∃ v, Hid (redN (vol ts ls) 2 = v) := ⟨_, Lib.hid rfl⟩
  obtain ⟨b, HD⟩ : ∃ v, Hid (redD (vol ts ls) 2 = v) := ⟨_, Lib.hid rfl⟩
  have HA := Lib.hid (show ansVo ts ls = if (G && G2) = true then .tuple #[.int .i64 a, .int .i64 b, .bool true] else .tuple #[.int .i64 0, .int .i64 0, .bool false] by unfold ansVo; rw [HG.out, HG2.out, HN.out, HD.out])
  go_enter Try.func20, Try.ntmps20
  go_wp2_with fail
  refine (good_is A n cap ts G HG _ hn hts).mono ?_
  rintro e w1 ⟨rfl, b1⟩
  have HB2 := Lib.hid b1
  clear b1
  cases G
  · go_wp2_with fail
    go_ret3
    exact ⟨by rw [HA.out]; rfl, HB2.out⟩
  go_wp2_with fail
  refine (legs_is A2 n2 c2 ls G2 _ hn2 (Lib.hid (hls.out.step HB2.out)) HG2).mono ?_
  rintro e w3 ⟨rfl, b3⟩
  have HB4 := Lib.hid (HB2.out.trans (b3.mono HB2.out.size))
  clear b3 HB2
  cases G2
  · go_wp2_with fail
    go_ret3
    exact ⟨by rw [HA.out]; rfl, HB4.out⟩
  have hn12 : n2 ≤ 12 := by rw [← hL.out]; exact goodLg_len HG2.out
  go_wp2_with fail
  go_loopw [7, 8] (fun s i wr => ∃ (k : Nat) (z : Int), k ≤ n2 ∧ i = .int .i64 (k : Nat) ∧ s = .int .i64 z ∧ Hid (volK ts ls k = z) ∧ Below w.heap.size w wr) (fun _ i _ => n2 - (intOf i).toNat)
  case atStart => exact ⟨0, 0, Nat.zero_le _, rfl, rfl, Lib.hid rfl, HB4.out⟩
  case round =>
    obtain ⟨k, z, hk, rfl, rfl, HZ, hB⟩ := hrel
    have HB := Lib.hid hB
    clear hB HB4
    have zb := volK_lim HG.out HG2.out k (by rw [hL.out]; exact hk)
    rw [HZ.out] at zb
    obtain ⟨z0, z1⟩ := zb
    have z2 : z ≤ 1920000000 := by omega
    clear z1
    have hk0 : (0 : Int) ≤ (k : Int) := by omega
    by_cases hlt : k < n2
    · have hki : (k : Int) < (n2 : Int) := by omega
      have hkd : decide (k < n2) = true := by simpa using hlt
      obtain ⟨x, hx⟩ := at_lt hL.out hlt
      obtain ⟨g, rfl, hg, c0, c1, c2', c3, c4⟩ := hls.out.2 k x hx
      have HO := Lib.hid (goodLg_at HG2.out hx)
      obtain ⟨v, HV⟩ : ∃ v, Hid (arAt ts x.frm = v) := ⟨_, Lib.hid rfl⟩
      obtain ⟨u, HU⟩ : ∃ v, Hid (arAt ts x.to_ = v) := ⟨_, Lib.hid rfl⟩
      have vb := arAt_lim HG.out x.frm
      have ub := arAt_lim HG.out x.to_
      rw [HV.out] at vb
      rw [HU.out] at ub
      obtain ⟨v0, v1⟩ := vb
      obtain ⟨u0, u1⟩ := ub
      obtain ⟨t0, t1⟩ := (okLg_lim HO.out).2.2.2.1
      obtain ⟨p0, p1⟩ := mul_lim (a := v + u) (b := x.tape) (m := 320000) (k := 500) (by omega) (by omega) (by omega) (by omega)
      have HS := Lib.hid (show volK ts ls (k + 1) = z + (v + u) * x.tape by rw [volK_succ hx, HZ.out, HV.out, HU.out])
      clear hx
      have HL3 := Lib.hid (show L3 w g (k * 5) x from ⟨⟨c0, c1, c2'⟩, hg⟩)
      clear c0 c1 c2' c3 c4
      have hw1 : IntKind.i64.wrap (v + u) = v + u := IntWalk.i64_in _ (by omega)
      have hw2 : IntKind.i64.wrap ((v + u) * x.tape) = (v + u) * x.tape := IntWalk.i64_in _ (by omega)
      have hw3 : IntKind.i64.wrap (z + (v + u) * x.tape) = z + (v + u) * x.tape := IntWalk.i64_in _ (by omega)
      go_upto_region 7 with fail
      refine wp_region_held_drew (S := (fun v : World => v.cell? ⟨g, k * 5, none⟩ = some (.int .i64 x.frm) ∧ v.cell? ⟨g, k * 5 + 1, none⟩ = some (.int .i64 x.to_) ∧ v.cell? ⟨g, k * 5 + 2, none⟩ = some (.int .i64 x.tape) ∧ Below w.heap.size w v)) (by kernel_rfl) ?_ (fun hHeld => ?_)
      · exact l3_mk HL3.out (HB.out.drew)
      refine' wpAnyH_take (i := 0) (v := ?vr5_0) rfl (by kernel_rfl) (by kernel_rfl) (by kernel_rfl) (fun _ _ _ h => h) (Or.inl ⟨by rfl, ?hyr5_0⟩) (by assumption) ?restr5_0
      case hyr5_0 => (intro w hSw; (try dsimp only at hSw); go_simp; try (with_reducible rfl))
      simp only [Act.put, List.getElem_toArray, List.getElem_cons_succ, List.getElem_cons_zero, List.setIfInBounds_toArray, List.set_cons_zero, List.set_cons_succ]
      refine' wpAnyH_take (i := 1) (v := ?vr5_1) rfl (by kernel_rfl) (by kernel_rfl) (by kernel_rfl) (fun _ _ _ h => h) (Or.inl ⟨by rfl, ?hyr5_1⟩) (by assumption) ?restr5_1
      case hyr5_1 => (intro w hSw; (try dsimp only at hSw); go_simp; try (with_reducible rfl))
      simp only [Act.put, List.getElem_toArray, List.getElem_cons_succ, List.getElem_cons_zero, List.setIfInBounds_toArray, List.set_cons_zero, List.set_cons_succ]
      refine' wpAnyH_take (i := 2) (v := ?vr5_2) rfl (by kernel_rfl) (by kernel_rfl) (by kernel_rfl) (fun _ _ _ h => h) (Or.inl ⟨by rfl, ?hyr5_2⟩) (by assumption) ?restr5_2
      case hyr5_2 => (intro w hSw; (try dsimp only at hSw); go_simp; try (with_reducible rfl))
      simp only [Act.put, List.getElem_toArray, List.getElem_cons_succ, List.getElem_cons_zero, List.setIfInBounds_toArray, List.set_cons_zero, List.set_cons_succ]
      refine' wpAnyH_take (i := 3) (v := ?vr5_3) rfl (by kernel_rfl) (by kernel_rfl) (by kernel_rfl) (fun _ _ _ h => h) (Or.inl ⟨by rfl, ?hyr5_3⟩) (by assumption) ?restr5_3
      case hyr5_3 => (intro w hSw; (try dsimp only at hSw); go_simp; try (with_reducible rfl))
      simp only [Act.put, List.getElem_toArray, List.getElem_cons_succ, List.getElem_cons_zero, List.setIfInBounds_toArray, List.set_cons_zero, List.set_cons_succ]
      refine' wpAnyH_take (i := 4) (v := ?vr5_4) rfl (by kernel_rfl) (by kernel_rfl) (by kernel_rfl) (fun _ _ _ h => h) (Or.inl ⟨by rfl, ?hyr5_4⟩) (by assumption) ?restr5_4
      case hyr5_4 => (intro w hSw; (try dsimp only at hSw); go_simp; try (with_reducible rfl))
      simp only [Act.put, List.getElem_toArray, List.getElem_cons_succ, List.getElem_cons_zero, List.setIfInBounds_toArray, List.set_cons_zero, List.set_cons_succ]
      refine' wpAnyH_take (i := 5) (v := ?vr5_5) rfl (by kernel_rfl) (by kernel_rfl) (by kernel_rfl) (fun _ _ _ h => h) (Or.inl ⟨by rfl, ?hyr5_5⟩) (by assumption) ?restr5_5
      case hyr5_5 => (intro w hSw; (try dsimp only at hSw); go_simp; try (with_reducible rfl))
      simp only [Act.put, List.getElem_toArray, List.getElem_cons_succ, List.getElem_cons_zero, List.setIfInBounds_toArray, List.set_cons_zero, List.set_cons_succ]
      refine' wpAnyH_take (i := 6) (v := ?vr5_6) rfl (by kernel_rfl) (by kernel_rfl) (by kernel_rfl) (fun _ _ _ h => h) (Or.inl ⟨by rfl, ?hyr5_6⟩) (by assumption) ?restr5_6
      case hyr5_6 => (intro w hSw; (try dsimp only at hSw); go_simp; try (with_reducible rfl))
      simp only [Act.put, List.getElem_toArray, List.getElem_cons_succ, List.getElem_cons_zero, List.setIfInBounds_toArray, List.set_cons_zero, List.set_cons_succ]
      refine' wpAnyH_take (i := 8) (v := ?vr5_8) rfl (by kernel_rfl) (by kernel_rfl) (by kernel_rfl) (fun _ _ _ h => h) (Or.inl ⟨by rfl, ?hyr5_8⟩) (by assumption) ?restr5_8
      case hyr5_8 => (intro w hSw; (try dsimp only at hSw); go_simp; try (with_reducible rfl))
      simp only [Act.put, List.getElem_toArray, List.getElem_cons_succ, List.getElem_cons_zero, List.setIfInBounds_toArray, List.set_cons_zero, List.set_cons_succ]
      refine' wpAnyH_take (i := 9) (v := ?vr5_9) rfl (by kernel_rfl) (by kernel_rfl) (by kernel_rfl) (fun _ _ _ h => h) (Or.inl ⟨by rfl, ?hyr5_9⟩) (by assumption) ?restr5_9
      case hyr5_9 => (intro w hSw; (try dsimp only at hSw); go_simp; try (with_reducible rfl))
      simp only [Act.put, List.getElem_toArray, List.getElem_cons_succ, List.getElem_cons_zero, List.setIfInBounds_toArray, List.set_cons_zero, List.set_cons_succ]
      refine' wpAnyH_take (i := 10) (v := ?vr5_10) rfl (by kernel_rfl) (by kernel_rfl) (by kernel_rfl) (fun _ _ _ h => h) (Or.inl ⟨by rfl, ?hyr5_10⟩) (by assumption) ?restr5_10
      case hyr5_10 => (intro w hSw; (try dsimp only at hSw); go_simp; try (with_reducible rfl))
      simp only [Act.put, List.getElem_toArray, List.getElem_cons_succ, List.getElem_cons_zero, List.setIfInBounds_toArray, List.set_cons_zero, List.set_cons_succ]
      refine' wpAnyH_take (i := 11) (v := ?vr5_11) rfl (by kernel_rfl) (by kernel_rfl) (by kernel_rfl) (fun _ _ _ h => h) (Or.inl ⟨by rfl, ?hyr5_11⟩) (by assumption) ?restr5_11
      case hyr5_11 => (intro w hSw; (try dsimp only at hSw); go_simp; try (with_reducible rfl))
      simp only [Act.put, List.getElem_toArray, List.getElem_cons_succ, List.getElem_cons_zero, List.setIfInBounds_toArray, List.set_cons_zero, List.set_cons_succ]
      refine' wpAnyH_take (i := 12) (v := ?vr5_12) rfl (by kernel_rfl) (by kernel_rfl) (by kernel_rfl) (fun _ _ _ h => h) (Or.inl ⟨by rfl, ?hyr5_12⟩) (by assumption) ?restr5_12
      case hyr5_12 => (intro w hSw; (try dsimp only at hSw); go_simp; try (with_reducible rfl))
      simp only [Act.put, List.getElem_toArray, List.getElem_cons_succ, List.getElem_cons_zero, List.setIfInBounds_toArray, List.set_cons_zero, List.set_cons_succ]
      refine' wpAnyH_take (i := 13) (v := ?vr5_13) rfl (by kernel_rfl) (by kernel_rfl) (by kernel_rfl) (fun _ _ _ h => h) (Or.inl ⟨by rfl, ?hyr5_13⟩) (by assumption) ?restr5_13
      case hyr5_13 => (intro w hSw; (try dsimp only at hSw); go_simp; try (with_reducible rfl))
      simp only [Act.put, List.getElem_toArray, List.getElem_cons_succ, List.getElem_cons_zero, List.setIfInBounds_toArray, List.set_cons_zero, List.set_cons_succ]
      refine' wpAnyH_take (i := 16) (v := ?vr5_16) rfl (by kernel_rfl) (by kernel_rfl) (by kernel_rfl) (fun _ _ _ h => h) (Or.inl ⟨by rfl, ?hyr5_16⟩) (by assumption) ?restr5_16
      case hyr5_16 => (intro w hSw; (try dsimp only at hSw); go_simp; try (with_reducible rfl))
      simp only [Act.put, List.getElem_toArray, List.getElem_cons_succ, List.getElem_cons_zero, List.setIfInBounds_toArray, List.set_cons_zero, List.set_cons_succ]
      refine' wpAnyH_take (i := 17) (v := ?vr5_17) rfl (by kernel_rfl) (by kernel_rfl) (by kernel_rfl) (fun _ _ _ h => h) (Or.inl ⟨by rfl, ?hyr5_17⟩) (by assumption) ?restr5_17
      case hyr5_17 => (intro w hSw; (try dsimp only at hSw); go_simp; try (with_reducible rfl))
      simp only [Act.put, List.getElem_toArray, List.getElem_cons_succ, List.getElem_cons_zero, List.setIfInBounds_toArray, List.set_cons_zero, List.set_cons_succ]
      refine' wpAnyH_take (i := 18) (v := ?vr5_18) rfl (by kernel_rfl) (by kernel_rfl) (by kernel_rfl) (fun _ _ _ h => h) (Or.inl ⟨by rfl, ?hyr5_18⟩) (by assumption) ?restr5_18
      case hyr5_18 => (intro w hSw; (try dsimp only at hSw); go_simp; try (with_reducible rfl))
      simp only [Act.put, List.getElem_toArray, List.getElem_cons_succ, List.getElem_cons_zero, List.setIfInBounds_toArray, List.set_cons_zero, List.set_cons_succ]
      refine' wpAnyH_take (i := 19) (v := ?vr5_19) rfl (by kernel_rfl) (by kernel_rfl) (by kernel_rfl) (fun _ _ _ h => h) (Or.inl ⟨by rfl, ?hyr5_19⟩) (by assumption) ?restr5_19
      case hyr5_19 => (intro w hSw; (try dsimp only at hSw); go_simp; try (with_reducible rfl))
      simp only [Act.put, List.getElem_toArray, List.getElem_cons_succ, List.getElem_cons_zero, List.setIfInBounds_toArray, List.set_cons_zero, List.set_cons_succ]
      refine' wpAnyH_take (i := 20) (v := ?vr5_20) rfl (by kernel_rfl) (by kernel_rfl) (by kernel_rfl) (fun _ _ _ h => h) (Or.inl ⟨by rfl, ?hyr5_20⟩) (by assumption) ?restr5_20
      case hyr5_20 => (intro w hSw; (try dsimp only at hSw); go_simp; try (with_reducible rfl))
      simp only [Act.put, List.getElem_toArray, List.getElem_cons_succ, List.getElem_cons_zero, List.setIfInBounds_toArray, List.set_cons_zero, List.set_cons_succ]
      refine wpAnyH_ready (rs := [7]) (by kernel_rfl) (by simp) ?_
      refine AllReadyH.cons rfl (fun K hK => ?_) AllReadyH.nil
      go_simp
      refine (at_any A n cap ts x.frm v _ hn (Lib.hid (hts.out.step hHeld.2.2.2)) HG HV).mono ?_
      rintro e w1 ⟨rfl, b1⟩
      refine hK.out _ _ (l3_mk HL3.out (hHeld.2.2.2.trans (b1.mono hHeld.2.2.2.size))) (fun hHeld1 => ?_)
      clear hK K hHeld
      have hHeld := hHeld1
      clear hHeld1
      try simp only [Act.put, List.getElem_toArray, List.getElem_cons_succ, List.getElem_cons_zero, List.setIfInBounds_toArray, List.set_cons_zero, List.set_cons_succ]
      refine wpAnyH_ready (rs := [14]) (by kernel_rfl) (by simp) ?_
      refine AllReadyH.cons rfl (fun K hK => ?_) AllReadyH.nil
      go_simp
      refine (at_any A n cap ts x.to_ u _ hn (Lib.hid (hts.out.step hHeld.2.2.2)) HG HU).mono ?_
      rintro e w1 ⟨rfl, b1⟩
      refine hK.out _ _ (l3_mk HL3.out (hHeld.2.2.2.trans (b1.mono hHeld.2.2.2.size))) (fun hHeld1 => ?_)
      clear hK K hHeld
      have hHeld := hHeld1
      clear hHeld1
      try simp only [Act.put, List.getElem_toArray, List.getElem_cons_succ, List.getElem_cons_zero, List.setIfInBounds_toArray, List.set_cons_zero, List.set_cons_succ]
      refine' wpAnyH_take (i := 15) (v := ?vr5_15) rfl (by kernel_rfl) (by kernel_rfl) (by kernel_rfl) (fun _ _ _ h => h) (Or.inl ⟨by rfl, ?hyr5_15⟩) (by assumption) ?restr5_15
      case hyr5_15 => (intro w hSw; (try dsimp only at hSw); go_simp; try (with_reducible rfl))
      simp only [Act.put, List.getElem_toArray, List.getElem_cons_succ, List.getElem_cons_zero, List.setIfInBounds_toArray, List.set_cons_zero, List.set_cons_succ]
      refine' wpAnyH_take (i := 21) (v := ?vr5_21) rfl (by kernel_rfl) (by kernel_rfl) (by kernel_rfl) (fun _ _ _ h => h) (Or.inl ⟨by rfl, ?hyr5_21⟩) (by assumption) ?restr5_21
      case hyr5_21 => (intro w hSw; (try dsimp only at hSw); go_simp; try (with_reducible rfl))
      simp only [Act.put, List.getElem_toArray, List.getElem_cons_succ, List.getElem_cons_zero, List.setIfInBounds_toArray, List.set_cons_zero, List.set_cons_succ]
      refine' wpAnyH_take (i := 22) (v := ?vr5_22) rfl (by kernel_rfl) (by kernel_rfl) (by kernel_rfl) (fun _ _ _ h => h) (Or.inl ⟨by rfl, ?hyr5_22⟩) (by assumption) ?restr5_22
      case hyr5_22 => (intro w hSw; (try dsimp only at hSw); go_simp; try (with_reducible rfl))
      simp only [Act.put, List.getElem_toArray, List.getElem_cons_succ, List.getElem_cons_zero, List.setIfInBounds_toArray, List.set_cons_zero, List.set_cons_succ]
      refine' wpAnyH_take (i := 23) (v := ?vr5_23) rfl (by kernel_rfl) (by kernel_rfl) (by kernel_rfl) (fun _ _ _ h => h) (Or.inl ⟨by rfl, ?hyr5_23⟩) (by assumption) ?restr5_23
      case hyr5_23 => (intro w hSw; (try dsimp only at hSw); go_simp; try (with_reducible rfl))
      simp only [Act.put, List.getElem_toArray, List.getElem_cons_succ, List.getElem_cons_zero, List.setIfInBounds_toArray, List.set_cons_zero, List.set_cons_succ]
      refine wpAnyH_done (by kernel_rfl) ?_ _
      have HB2 := Lib.hid (hHeld.2.2.2)
      clear hHeld hw1 hw2 hw3 p0 p1
      go_wp2_with fail
      go_roundw
      case rel => exact ⟨k + 1, z + (v + u) * x.tape, by omega, by go_num, rfl, HS, HB2.out⟩
      case measure => simp [intOf]; omega
    · have hkd : decide (k < n2) = false := by simpa using hlt
      obtain rfl : k = n2 := by omega
      have HS := Lib.hid (show vol ts ls = z by unfold vol; rw [hL.out]; exact HZ.out)
      rw [HS.out] at HN HD
      go_wp2_with fail
      refine (reduce_any z 2 a b _ (by unfold lim62; omega) (by unfold lim62; omega) (by omega) HN HD).mono ?_
      rintro e w2 ⟨rfl, b2⟩
      have HB2 := Lib.hid (HB.out.trans (b2.mono HB.out.size))
      clear b2 HB
      go_wp2_with fail
      go_ret3
      exact ⟨by rw [HA.out]; rfl, HB2.out⟩
/-- MirrorPassage's answer -/
def ansMi (x : Pg) : Value := if okPg x = true then .tuple #[.agg #[.int .i64 (mirPg x).st, .int .i64 (mirPg x).lf, .int .i64 (mirPg x).rt, .int .i64 (mirPg x).ab, .int .i64 (mirPg x).be], .bool true] else .tuple #[.agg #[.int .i64 0, .int .i64 0, .int .i64 0, .int .i64 0, .int .i64 0], .bool false]
set_option maxHeartbeats 4000000 in
set_option maxRecDepth 100000 in
theorem mirror_model (x : Pg) (w : World) : Calls Try.prog 35 #[.agg #[.int .i64 x.st, .int .i64 x.lf, .int .i64 x.rt, .int .i64 x.ab, .int .i64 x.be]] w (APost (ansMi x) w) := by
  cases hx : okPg x
  · have HA := Lib.hid (show ansMi x = .tuple #[.agg #[.int .i64 0, .int .i64 0, .int .i64 0, .int .i64 0, .int .i64 0], .bool false] by unfold ansMi; rw [hx]; rfl)
    have HX := Lib.hid hx
    clear hx
    rw [HA.out]
    go_enter Try.func35, Try.ntmps35
    go_wp2_with fail
    refine (one_is x false HX _).mono ?_
    rintro e w1 ⟨rfl, b1⟩
    obtain ⟨hc1, hf1⟩ := bcell b1
    have hz : w.heap.size + 2 ≤ w1.heap.size := by have := b1.size; simp at this; omega
    have hz0 : w.heap.size < w1.heap.size := by omega
    have hz1 : w.heap.size + 1 < w1.heap.size := by omega
    have HB := Lib.hid ((((Below.refl w.heap.size w).alloc (Nat.le_refl _) _).alloc (by simp) _).trans (b1.mono (by simp; omega)))
    clear b1
    go_wp2_with fail
    refine bodyPost_ret (v := .tuple #[.agg #[.int .i64 0, .int .i64 0, .int .i64 0, .int .i64 0, .int .i64 0], .bool false]) (by simp [results, Try.results35, go_sem, hc1]) rfl ⟨rfl, ?_⟩
    exact ((((HB.out.setCell (by simp) _).setCell (by simp) _).setCell (by simp) _).setCell (by simp) _).setCell (by simp) _
  · obtain ⟨y, hy⟩ : ∃ y, mirPg x = y := ⟨_, rfl⟩
    have HA := Lib.hid (show ansMi x = .tuple #[.agg #[.int .i64 y.st, .int .i64 y.lf, .int .i64 y.rt, .int .i64 y.ab, .int .i64 y.be], .bool true] by unfold ansMi; rw [hx, hy]; rfl)
    have HX := Lib.hid hx
    have HY := Lib.hid (show y = ⟨x.st, x.rt, x.lf, x.ab, x.be⟩ by rw [← hy]; rfl)
    clear hx hy
    rw [HA.out]
    go_enter Try.func35, Try.ntmps35
    go_wp2_with fail
    refine (one_is x true HX _).mono ?_
    rintro e w1 ⟨rfl, b1⟩
    obtain ⟨hc1, hf1⟩ := bcell b1
    have hz : w.heap.size + 2 ≤ w1.heap.size := by have := b1.size; simp at this; omega
    have hz0 : w.heap.size < w1.heap.size := by omega
    have hz1 : w.heap.size + 1 < w1.heap.size := by omega
    have HB := Lib.hid ((((Below.refl w.heap.size w).alloc (Nat.le_refl _) _).alloc (by simp) _).trans (b1.mono (by simp; omega)))
    clear b1
    go_wp2_with fail
    refine bodyPost_ret (v := .tuple #[.agg #[.int .i64 y.st, .int .i64 y.lf, .int .i64 y.rt, .int .i64 y.ab, .int .i64 y.be], .bool true]) (by simp [results, Try.results35, go_sem, HY.out, *]) rfl ⟨rfl, ?_⟩
    exact ((((HB.out.setCell (by simp) _).setCell (by simp) _).setCell (by simp) _).setCell (by simp) _).setCell (by simp) _
end Go.Proofs.Ytnpghhpcloljeaa.pw
