/-
  The program: means, volumes.
  Conditions: the passages lie in one block, at most 2000000 of them.
-/
import Derived.Test.YtnpghhpcloljeaaPwI
import Derived.BigQuiet
import Derived.Deep.QuietTactic
import Derived.Deep.Cut
import Derived.Deep.DeepCutAuto
import Derived.RegionTactic
import Derived.Deep.RegionWith
import Derived.OwnWalk
import Derived.Deep.RegionHeld3
namespace Go.Proofs.Ytnpghhpcloljeaa.pw
open Go.RowKit
open reads base ty rowi win lg lgi lgw
set_option linter.unusedVariables false
set_option linter.unusedSimpArgs false

/-- a world behind another one, with a leg in a box -/
def LX2 (w : World) (X : Nat) (x : Lg) (u : World) : Prop := Below w.heap.size w u ∧ Blk u X 74 #[.int .i64 x.frm, .int .i64 x.to_, .int .i64 x.tape, .int .i64 x.comp, .int .i64 x.slope]
theorem LX2.start {w v : World} (h : Below w.heap.size w v) (x : Lg) : LX2 w v.heap.size x (v.alloc (.cells #[.int .i64 x.frm, .int .i64 x.to_, .int .i64 x.tape, .int .i64 x.comp, .int .i64 x.slope] 74)) := ⟨h.alloc h.size _, Blk.new _ _ _⟩
theorem LX2.step {w u u' : World} {X : Nat} {x : Lg} (h : LX2 w X x u) (hb : Below u.heap.size u u') : LX2 w X x u' := ⟨h.1.trans (hb.mono h.1.size), h.2.below hb h.2.lt⟩
theorem lx_mk {w u : World} {X : Nat} {x : Lg} (h : LX2 w X x u) : u.cell? ⟨X, 0, none⟩ = some (.int .i64 x.frm) ∧ u.cell? ⟨X, 1, none⟩ = some (.int .i64 x.to_) ∧ u.cell? ⟨X, 2, none⟩ = some (.int .i64 x.tape) ∧ X < u.heap.size ∧ LX2 w X x u := ⟨h.2.cell 0, h.2.cell 1, h.2.cell 2, h.2.lt, h⟩
set_option maxHeartbeats 4000000 in
set_option maxRecDepth 100000 in
theorem meanArea_impl (A : Option Addr) (n cap : Nat) (ts : List Pg) (w : World) (hn : n ≤ 2000000) (hts : Hid (PgAt w w.heap.size A n ts)) :
    Calls Try.prog 40 #[.slice A n cap] w (APost (ansMa ts) w) := by
  obtain ⟨G, HG⟩ : ∃ G, Hid (goodPg ts = G) := ⟨_, Lib.hid rfl⟩
  have hL : Hid (ts.length = n) := Lib.hid hts.out.1
  obtain ⟨a, HN⟩ : ∃ v, Hid (redN (sumA ts) (n : Int) = v) := ⟨_, Lib.hid rfl⟩
  obtain ⟨b, HD⟩ : ∃ v, Hid (redD (sumA ts) (n : Int) = v) := ⟨_, Lib.hid rfl⟩
  have HA := Lib.hid (show ansMa ts = if (G && !decide (n = 0)) = true then .tuple #[.int .i64 a, .int .i64 b, .bool true] else .tuple #[.int .i64 0, .int .i64 0, .bool false] by unfold ansMa wsOk; rw [HG.out, hL.out, HN.out, HD.out])
  by_cases hz : n = 0
  · subst hz
    go_enter Try.func40, Try.ntmps40
    go_wp2_with fail
    refine (arePassages_is A 0 cap ts G HG _ hn hts).mono ?_
    rintro e w1 ⟨rfl, b1⟩
    have HB1 := Lib.hid b1
    clear b1
    cases G
    · go_wp2_with fail
      go_ret3
      exact ⟨by rw [HA.out]; rfl, HB1.out⟩
    · go_wp2_with fail
      go_ret3
      exact ⟨by rw [HA.out]; rfl, HB1.out⟩
  have hzi : ((n : Int) == 0) = false := by simp; omega
  have hzn : (n == 0) = false := by simpa using hz
  have hzd : decide (n = 0) = false := by simpa using hz
  rw [hzd] at HA
  go_enter Try.func40, Try.ntmps40
  go_wp2_with fail
  refine (arePassages_is A n cap ts G HG _ hn hts).mono ?_
  rintro e w1 ⟨rfl, b1⟩
  have HB2 := Lib.hid b1
  clear b1
  cases G
  · go_wp2_with fail
    go_ret3
    exact ⟨by rw [HA.out]; rfl, HB2.out⟩
  have hn8 : n ≤ 8 := by rw [← hL.out]; exact good_len HG.out
  go_wp2_with fail
  go_loopw [5, 20] (fun s i wr => ∃ (k : Nat) (z : Int), k ≤ n ∧ i = .int .i64 (k : Nat) ∧ s = .int .i64 z ∧ Hid (sumA (ts.take k) = z) ∧ Below w.heap.size w wr) (fun _ i _ => n - (intOf i).toNat)
  case atStart => exact ⟨0, 0, Nat.zero_le _, rfl, rfl, Lib.hid (by simp [sumA]), HB2.out⟩
  case round =>
    obtain ⟨k, z, hk, rfl, rfl, HZ, hB⟩ := hrel
    have HB := Lib.hid hB
    clear hB HB2
    have zb := sumA_lim (ts.take k) (fun p hp => good_mem HG.out p (List.mem_of_mem_take hp))
    have zl := List.length_take_le k ts
    rw [HZ.out] at zb
    obtain ⟨z0, z1⟩ := zb
    have z2 : z ≤ 1280000 := by omega
    clear z1 zl
    have hk0 : (0 : Int) ≤ (k : Int) := by omega
    by_cases hlt : k < n
    · have hki : (k : Int) < (n : Int) := by omega
      have hkd : decide (k < n) = true := by simpa using hlt
      obtain ⟨x, hx⟩ := at_lt hL.out hlt
      obtain ⟨g, rfl, hg, c0, c1, c2, c3, c4⟩ := (hts.out.below HB.out).2 k x hx
      have HO := Lib.hid (good_at HG.out hx)
      obtain ⟨v, HV⟩ : ∃ v, Hid (area x = v) := ⟨_, Lib.hid rfl⟩
      have vb := area_lim HO.out
      rw [HV.out] at vb
      obtain ⟨v0, v1⟩ := vb
      have HS := Lib.hid (show sumA (ts.take (k + 1)) = z + v by rw [sumA_take hx, HZ.out, HV.out])
      clear hx
      go_wp2_with fail
      refine (areaOf_is x v HV _ HO).mono ?_
      rintro e w2 ⟨rfl, b2⟩
      have HB2 := Lib.hid ((HB.out.alloc HB.out.size _).trans (b2.mono (by have := HB.out.size; simp; omega)))
      clear b2 HB
      go_wp2_with fail
      go_roundw
      case rel => exact ⟨k + 1, z + v, by omega, by go_num, rfl, HS, HB2.out⟩
      case measure => simp [intOf]; omega
    · have hkd : decide (k < n) = false := by simpa using hlt
      obtain rfl : k = n := by omega
      have HS := Lib.hid (show sumA ts = z by rw [← HZ.out, List.take_of_length_le (by rw [hL.out]; exact Nat.le_refl _)])
      rw [HS.out] at HN HD
      go_wp2_with fail
      refine (reduced_any z (k : Int) a b _ (by unfold lim62; omega) (by unfold lim62; omega) (by omega) HN HD).mono ?_
      rintro e w2 ⟨rfl, b2⟩
      have HB2 := Lib.hid (HB.out.trans (b2.mono HB.out.size))
      clear b2 HB
      go_wp2_with fail
      go_ret3
      exact ⟨by rw [HA.out]; rfl, HB2.out⟩
set_option maxHeartbeats 8000000 in
set_option maxRecDepth 100000 in
theorem volumeOf_impl (A : Option Addr) (n cap : Nat) (ts : List Pg) (A2 : Option Addr) (n2 c2 : Nat) (ls : List Lg) (w : World) (hn : n ≤ 2000000) (hts : Hid (PgAt w w.heap.size A n ts)) (hn2 : n2 ≤ 2000000) (hls : Hid (LgO w w.heap.size A2 n2 ls)) :
    Calls Try.prog 22 #[.slice A n cap, .slice A2 n2 c2] w (APost (ansVo ts ls) w) := by
  obtain ⟨G, HG⟩ : ∃ G, Hid (goodPg ts = G) := ⟨_, Lib.hid rfl⟩
  obtain ⟨G2, HG2⟩ : ∃ G, Hid (goodLg ls = G) := ⟨_, Lib.hid rfl⟩
  have hL : Hid (ls.length = n2) := Lib.hid hls.out.1
  obtain ⟨a, HN⟩ : ∃ v, Hid (redN (vol ts ls) 2 = v) := ⟨_, Lib.hid rfl⟩
  obtain ⟨b, HD⟩ : ∃ v, Hid (redD (vol ts ls) 2 = v) := ⟨_, Lib.hid rfl⟩
  have HA := Lib.hid (show ansVo ts ls = if (G && G2) = true then .tuple #[.int .i64 a, .int .i64 b, .bool true] else .tuple #[.int .i64 0, .int .i64 0, .bool false] by unfold ansVo; rw [HG.out, HG2.out, HN.out, HD.out])
  go_enter Try.func22, Try.ntmps22
  go_wp2_with fail
  refine (arePassages_is A n cap ts G HG _ hn hts).mono ?_
  rintro e w1 ⟨rfl, b1⟩
  have HB2 := Lib.hid b1
  clear b1
  cases G
  · go_wp2_with fail
    go_ret3
    exact ⟨by rw [HA.out]; rfl, HB2.out⟩
  go_wp2_with fail
  refine (areLegsO_is A2 n2 c2 ls G2 _ hn2 (Lib.hid (hls.out.step HB2.out)) HG2).mono ?_
  rintro e w3 ⟨rfl, b3⟩
  have HB4 := Lib.hid (HB2.out.trans (b3.mono HB2.out.size))
  clear b3 HB2
  cases G2
  · go_wp2_with fail
    go_ret3
    exact ⟨by rw [HA.out]; rfl, HB4.out⟩
  have hn12 : n2 ≤ 12 := by rw [← hL.out]; exact goodLg_len HG2.out
  go_wp2_with fail
  go_loopw [7, 22] (fun s i wr => ∃ (k : Nat) (z : Int), k ≤ n2 ∧ i = .int .i64 (k : Nat) ∧ s = .int .i64 z ∧ Hid (volK ts ls k = z) ∧ Below w.heap.size w wr) (fun _ i _ => n2 - (intOf i).toNat)
  case atStart => exact ⟨0, 0, Nat.zero_le _, rfl, rfl, Lib.hid rfl, HB4.out⟩
  case round =>
    obtain ⟨k, z, hk, rfl, rfl, HZ, hB⟩ := hrel
    have HB := Lib.hid hB
    clear hB HB4
    have zb := volK_lim HG.out HG2.out k (by rw [hL.out]; exact hk)
    rw [HZ.out] at zb
    obtain ⟨z0, z1⟩ := zb
    have z2 : z ≤ 1920000000 := by omega
    clear z1
    have hk0 : (0 : Int) ≤ (k : Int) := by omega
    by_cases hlt : k < n2
    · have hki : (k : Int) < (n2 : Int) := by omega
      have hkd : decide (k < n2) = true := by simpa using hlt
      obtain ⟨x, hx⟩ := at_lt hL.out hlt
      obtain ⟨g, o, rfl, hg, c0, c1, c2', c3, c4⟩ := (hls.out.below HB.out).2 k x hx
      have HO := Lib.hid (goodLg_at HG2.out hx)
      obtain ⟨v, HV⟩ : ∃ v, Hid (arAt ts x.frm = v) := ⟨_, Lib.hid rfl⟩
      obtain ⟨u, HU⟩ : ∃ v, Hid (arAt ts x.to_ = v) := ⟨_, Lib.hid rfl⟩
      have vb := arAt_lim HG.out x.frm
      have ub := arAt_lim HG.out x.to_
      rw [HV.out] at vb
      rw [HU.out] at ub
      obtain ⟨v0, v1⟩ := vb
      obtain ⟨u0, u1⟩ := ub
      obtain ⟨t0, t1⟩ := (okLg_lim HO.out).2.2.2.1
      obtain ⟨p0, p1⟩ := mul_lim (a := v + u) (b := x.tape) (m := 320000) (k := 500) (by omega) (by omega) (by omega) (by omega)
      have HS := Lib.hid (show volK ts ls (k + 1) = z + (v + u) * x.tape by rw [volK_succ hx, HZ.out, HV.out, HU.out])
      clear hx
      have HQ0 := Lib.hid (LX2.start HB.out x)
      have hw1 : IntKind.i64.wrap (v + u) = v + u := IntWalk.i64_in _ (by omega)
      have hw2 : IntKind.i64.wrap ((v + u) * x.tape) = (v + u) * x.tape := IntWalk.i64_in _ (by omega)
      have hw3 : IntKind.i64.wrap (z + (v + u) * x.tape) = z + (v + u) * x.tape := IntWalk.i64_in _ (by omega)
      go_upto_region 7 with fail
      obtain ⟨V, HVV⟩ : ∃ V, Hid (wr.alloc (.cells #[.int .i64 x.frm, .int .i64 x.to_, .int .i64 x.tape, .int .i64 x.comp, .int .i64 x.slope] 74) = V) := ⟨_, Lib.hid rfl⟩
      obtain ⟨X, HXX⟩ : ∃ X, Hid (wr.heap.size = X) := ⟨_, Lib.hid rfl⟩
      rw [HVV.out, HXX.out] at HQ0
      rw [HVV.out]
      try simp only [HXX.out]
      clear HVV HXX c0 c1 c2' c3 c4
      refine wp_region_held_drew (S := (fun v : World => v.cell? ⟨X, 0, none⟩ = some (.int .i64 x.frm) ∧ v.cell? ⟨X, 1, none⟩ = some (.int .i64 x.to_) ∧ v.cell? ⟨X, 2, none⟩ = some (.int .i64 x.tape) ∧ X < v.heap.size ∧ LX2 w X x v)) (by kernel_rfl) ?_ (fun hHeld => ?_)
      · exact lx_mk (HQ0.out.step (Below.refl _ _).drew)
      refine' wpAnyH_take (i := 0) (v := ?vr6_0) rfl (by kernel_rfl) (by kernel_rfl) (by kernel_rfl) (fun _ _ _ h => h) (Or.inl ⟨by rfl, ?hyr6_0⟩) (by assumption) ?restr6_0
      case hyr6_0 => (intro w hSw; (try dsimp only at hSw); go_simp; try (with_reducible rfl))
      simp only [Act.put, List.getElem_toArray, List.getElem_cons_succ, List.getElem_cons_zero, List.setIfInBounds_toArray, List.set_cons_zero, List.set_cons_succ]
      refine' wpAnyH_take (i := 1) (v := ?vr6_1) rfl (by kernel_rfl) (by kernel_rfl) (by kernel_rfl) (fun _ _ _ h => h) (Or.inl ⟨by rfl, ?hyr6_1⟩) (by assumption) ?restr6_1
      case hyr6_1 => (intro w hSw; (try dsimp only at hSw); go_simp; try (with_reducible rfl))
      simp only [Act.put, List.getElem_toArray, List.getElem_cons_succ, List.getElem_cons_zero, List.setIfInBounds_toArray, List.set_cons_zero, List.set_cons_succ]
      refine' wpAnyH_take (i := 2) (v := ?vr6_2) rfl (by kernel_rfl) (by kernel_rfl) (by kernel_rfl) (fun _ _ _ h => h) (Or.inl ⟨by rfl, ?hyr6_2⟩) (by assumption) ?restr6_2
      case hyr6_2 => (intro w hSw; (try dsimp only at hSw); go_simp; try (with_reducible rfl))
      simp only [Act.put, List.getElem_toArray, List.getElem_cons_succ, List.getElem_cons_zero, List.setIfInBounds_toArray, List.set_cons_zero, List.set_cons_succ]
      refine' wpAnyH_take (i := 3) (v := ?vr6_3) rfl (by kernel_rfl) (by kernel_rfl) (by kernel_rfl) (fun _ _ _ h => h) (Or.inl ⟨by rfl, ?hyr6_3⟩) (by assumption) ?restr6_3
      case hyr6_3 => (intro w hSw; (try dsimp only at hSw); go_simp; try (with_reducible rfl))
      simp only [Act.put, List.getElem_toArray, List.getElem_cons_succ, List.getElem_cons_zero, List.setIfInBounds_toArray, List.set_cons_zero, List.set_cons_succ]
      refine' wpAnyH_take (i := 5) (v := ?vr6_5) rfl (by kernel_rfl) (by kernel_rfl) (by kernel_rfl) (fun _ _ _ h => h) (Or.inl ⟨by rfl, ?hyr6_5⟩) (by assumption) ?restr6_5
      case hyr6_5 => (intro w hSw; (try dsimp only at hSw); go_simp; try (with_reducible rfl))
      simp only [Act.put, List.getElem_toArray, List.getElem_cons_succ, List.getElem_cons_zero, List.setIfInBounds_toArray, List.set_cons_zero, List.set_cons_succ]
      refine' wpAnyH_take (i := 6) (v := ?vr6_6) rfl (by kernel_rfl) (by kernel_rfl) (by kernel_rfl) (fun _ _ _ h => h) (Or.inl ⟨by rfl, ?hyr6_6⟩) (by assumption) ?restr6_6
      case hyr6_6 => (intro w hSw; (try dsimp only at hSw); go_simp; try (with_reducible rfl))
      simp only [Act.put, List.getElem_toArray, List.getElem_cons_succ, List.getElem_cons_zero, List.setIfInBounds_toArray, List.set_cons_zero, List.set_cons_succ]
      refine' wpAnyH_take (i := 7) (v := ?vr6_7) rfl (by kernel_rfl) (by kernel_rfl) (by kernel_rfl) (fun _ _ _ h => h) (Or.inl ⟨by rfl, ?hyr6_7⟩) (by assumption) ?restr6_7
      case hyr6_7 => (intro w hSw; (try dsimp only at hSw); go_simp; try (with_reducible rfl))
      simp only [Act.put, List.getElem_toArray, List.getElem_cons_succ, List.getElem_cons_zero, List.setIfInBounds_toArray, List.set_cons_zero, List.set_cons_succ]
      refine' wpAnyH_take (i := 10) (v := ?vr6_10) rfl (by kernel_rfl) (by kernel_rfl) (by kernel_rfl) (fun _ _ _ h => h) (Or.inl ⟨by rfl, ?hyr6_10⟩) (by assumption) ?restr6_10
      case hyr6_10 => (intro w hSw; (try dsimp only at hSw); go_simp; try (with_reducible rfl))
      simp only [Act.put, List.getElem_toArray, List.getElem_cons_succ, List.getElem_cons_zero, List.setIfInBounds_toArray, List.set_cons_zero, List.set_cons_succ]
      refine' wpAnyH_take (i := 11) (v := ?vr6_11) rfl (by kernel_rfl) (by kernel_rfl) (by kernel_rfl) (fun _ _ _ h => h) (Or.inl ⟨by rfl, ?hyr6_11⟩) (by assumption) ?restr6_11
      case hyr6_11 => (intro w hSw; (try dsimp only at hSw); go_simp; try (with_reducible rfl))
      simp only [Act.put, List.getElem_toArray, List.getElem_cons_succ, List.getElem_cons_zero, List.setIfInBounds_toArray, List.set_cons_zero, List.set_cons_succ]
      refine wpAnyH_ready (rs := [4]) (by kernel_rfl) (by simp) ?_
      refine AllReadyH.cons rfl (fun K hK => ?_) AllReadyH.nil
      go_simp
      refine (areaAt_in A n cap ts x.frm v _ hn (Lib.hid (hts.out.step hHeld.2.2.2.2.1)) HG HV).mono ?_
      rintro e w1 ⟨rfl, b1⟩
      refine hK.out _ _ (lx_mk (hHeld.2.2.2.2.step b1)) (fun hHeld1 => ?_)
      clear hK K hHeld
      have hHeld := hHeld1
      clear hHeld1
      try simp only [Act.put, List.getElem_toArray, List.getElem_cons_succ, List.getElem_cons_zero, List.setIfInBounds_toArray, List.set_cons_zero, List.set_cons_succ]
      refine wpAnyH_ready (rs := [8]) (by kernel_rfl) (by simp) ?_
      refine AllReadyH.cons rfl (fun K hK => ?_) AllReadyH.nil
      go_simp
      refine (areaAt_in A n cap ts x.to_ u _ hn (Lib.hid (hts.out.step hHeld.2.2.2.2.1)) HG HU).mono ?_
      rintro e w1 ⟨rfl, b1⟩
      refine hK.out _ _ (lx_mk (hHeld.2.2.2.2.step b1)) (fun hHeld1 => ?_)
      clear hK K hHeld
      have hHeld := hHeld1
      clear hHeld1
      try simp only [Act.put, List.getElem_toArray, List.getElem_cons_succ, List.getElem_cons_zero, List.setIfInBounds_toArray, List.set_cons_zero, List.set_cons_succ]
      refine' wpAnyH_take (i := 9) (v := ?vr6_9) rfl (by kernel_rfl) (by kernel_rfl) (by kernel_rfl) (fun _ _ _ h => h) (Or.inl ⟨by rfl, ?hyr6_9⟩) (by assumption) ?restr6_9
      case hyr6_9 => (intro w hSw; (try dsimp only at hSw); go_simp; try (with_reducible rfl))
      simp only [Act.put, List.getElem_toArray, List.getElem_cons_succ, List.getElem_cons_zero, List.setIfInBounds_toArray, List.set_cons_zero, List.set_cons_succ]
      refine' wpAnyH_take (i := 12) (v := ?vr6_12) rfl (by kernel_rfl) (by kernel_rfl) (by kernel_rfl) (fun _ _ _ h => h) (Or.inl ⟨by rfl, ?hyr6_12⟩) (by assumption) ?restr6_12
      case hyr6_12 => (intro w hSw; (try dsimp only at hSw); go_simp; try (with_reducible rfl))
      simp only [Act.put, List.getElem_toArray, List.getElem_cons_succ, List.getElem_cons_zero, List.setIfInBounds_toArray, List.set_cons_zero, List.set_cons_succ]
      refine' wpAnyH_take (i := 13) (v := ?vr6_13) rfl (by kernel_rfl) (by kernel_rfl) (by kernel_rfl) (fun _ _ _ h => h) (Or.inl ⟨by rfl, ?hyr6_13⟩) (by assumption) ?restr6_13
      case hyr6_13 => (intro w hSw; (try dsimp only at hSw); go_simp; try (with_reducible rfl))
      simp only [Act.put, List.getElem_toArray, List.getElem_cons_succ, List.getElem_cons_zero, List.setIfInBounds_toArray, List.set_cons_zero, List.set_cons_succ]
      refine' wpAnyH_take (i := 14) (v := ?vr6_14) rfl (by kernel_rfl) (by kernel_rfl) (by kernel_rfl) (fun _ _ _ h => h) (Or.inl ⟨by rfl, ?hyr6_14⟩) (by assumption) ?restr6_14
      case hyr6_14 => (intro w hSw; (try dsimp only at hSw); go_simp; try (with_reducible rfl))
      simp only [Act.put, List.getElem_toArray, List.getElem_cons_succ, List.getElem_cons_zero, List.setIfInBounds_toArray, List.set_cons_zero, List.set_cons_succ]
      refine wpAnyH_done (by kernel_rfl) ?_ _
      have HB2 := Lib.hid (hHeld.2.2.2.2.1)
      clear hHeld hw1 hw2 hw3 p0 p1
      go_wp2_with fail
      go_roundw
      case rel => exact ⟨k + 1, z + (v + u) * x.tape, by omega, by go_num, rfl, HS, HB2.out⟩
      case measure => simp [intOf]; omega
    · have hkd : decide (k < n2) = false := by simpa using hlt
      obtain rfl : k = n2 := by omega
      have HS := Lib.hid (show vol ts ls = z by unfold vol; rw [hL.out]; exact HZ.out)
      rw [HS.out] at HN HD
      go_wp2_with fail
      refine (reduced_any z 2 a b _ (by unfold lim62; omega) (by unfold lim62; omega) (by omega) HN HD).mono ?_
      rintro e w2 ⟨rfl, b2⟩
      have HB2 := Lib.hid (HB.out.trans (b2.mono HB.out.size))
      clear b2 HB
      go_wp2_with fail
      go_ret3
      exact ⟨by rw [HA.out]; rfl, HB2.out⟩
end Go.Proofs.Ytnpghhpcloljeaa.pw
