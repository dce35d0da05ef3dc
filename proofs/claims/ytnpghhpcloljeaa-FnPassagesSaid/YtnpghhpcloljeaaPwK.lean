/-
  The model: the widest passage, fitting stations.
  Conditions: the passages lie in one block, at most 2000000 of them.
-/
import Derived.Test.YtnpghhpcloljeaaPwG
import Derived.Test.YtnpghhpcloljeaaPwE
import Derived.BigQuiet
import Derived.Deep.QuietTactic
import Derived.Deep.Cut
import Derived.Deep.DeepCutAuto
import Derived.RegionTactic
import Derived.Deep.RegionWith
import Derived.OwnWalk
import Derived.Deep.RegionHeld3
namespace Go.Proofs.Ytnpghhpcloljeaa.pw
open Go.RowKit
open reads base ty rowi win inn lg
set_option linter.unusedVariables false
set_option linter.unusedSimpArgs false

set_option maxHeartbeats 8000000 in
set_option maxRecDepth 100000 in
theorem widest_model (A : Option Addr) (n cap : Nat) (ts : List Pg) (w : World) (hn : n ≤ 2000000) (hts : Hid (PgAt w w.heap.size A n ts)) :
    Calls Try.prog 24 #[.slice A n cap] w (APost (ansWp ts) w) := by
  obtain ⟨G, HG⟩ : ∃ G, Hid (goodPg ts = G) := ⟨_, Lib.hid rfl⟩
  have hL : Hid (ts.length = n) := Lib.hid hts.out.1
  obtain ⟨s, HWS⟩ : ∃ v, Hid (wsK ts = v) := ⟨_, Lib.hid rfl⟩
  have HA := Lib.hid (show ansWp ts = if (G && !decide (n = 0)) = true then .tuple #[.int .i64 s, .bool true] else .tuple #[.int .i64 0, .bool false] by unfold ansWp wsOk; rw [HG.out, hL.out, HWS.out])
  by_cases hz : n = 0
  · subst hz
    go_enter Try.func24, Try.ntmps24
    go_wp2_with fail
    refine (good_is A 0 cap ts G HG _ hn hts).mono ?_
    rintro e w1 ⟨rfl, b1⟩
    have HB1 := Lib.hid b1
    clear b1
    cases G
    · go_wp2_with fail
      go_ret2
      exact ⟨by rw [HA.out]; rfl, HB1.out⟩
    · go_wp2_with fail
      go_ret2
      exact ⟨by rw [HA.out]; rfl, HB1.out⟩
  have hzi : ((n : Int) == 0) = false := by simp; omega
  have hzn : (n == 0) = false := by simpa using hz
  have hzd : decide (n = 0) = false := by simpa using hz
  have hnp : (0 : Int) < (n : Int) := by omega
  rw [hzd] at HA
  go_enter Try.func24, Try.ntmps24
  go_wp2_with fail
  refine (good_is A n cap ts G HG _ hn hts).mono ?_
  rintro e w1 ⟨rfl, b1⟩
  have HB1 := Lib.hid b1
  clear b1
  cases G
  · go_wp2_with fail
    go_ret2
    exact ⟨by rw [HA.out]; rfl, HB1.out⟩
  have hn8 : n ≤ 8 := by rw [← hL.out]; exact good_len HG.out
  obtain ⟨f, hf⟩ := at_lt hL.out (show 0 < n by omega)
  obtain ⟨g, rfl, hg, c0, c1, c2, c3, c4⟩ := (hts.out.below HB1.out).2 0 f hf
  simp only [Nat.zero_mul, Nat.zero_add] at c0 c1 c2 c3 c4
  obtain ⟨X, HX⟩ : ∃ X, Hid (w1.heap.size = X) := ⟨_, Lib.hid rfl⟩
  have HW1 := Lib.hid (show WB w X f (w1.alloc (.cells #[.int .i64 f.st, .int .i64 f.lf, .int .i64 f.rt, .int .i64 f.ab, .int .i64 f.be] 53)) from ⟨HB1.out.alloc HB1.out.size _, by rw [← HX.out]; exact Blk.new _ _ _, by rw [← HX.out]; exact HB1.out.size⟩)
  have HF := Lib.hid hf
  clear hf
  go_upto_region 4 with fail
  obtain ⟨V, HVV⟩ : ∃ V, Hid (w1.alloc (.cells #[.int .i64 f.st, .int .i64 f.lf, .int .i64 f.rt, .int .i64 f.ab, .int .i64 f.be] 53) = V) := ⟨_, Lib.hid rfl⟩
  rw [HVV.out] at HW1
  rw [HVV.out]
  try simp only [HX.out]
  clear HVV HX c0 c1 c2 c3 c4 HB1
  go_wp2_with fail
  go_loopw [5] (fun i wr => ∃ (k : Nat) (q : Pg), 1 ≤ k ∧ k ≤ n ∧ i = .int .i64 (k : Nat) ∧ Hid (ts[wdN ts k]? = some q) ∧ WB w X q wr) (fun i _ => n - (intOf i).toNat)
  case atStart => exact ⟨1, f, Nat.le_refl _, by omega, rfl, Lib.hid (by rw [show wdN ts 1 = 0 by have := wdN_lt (ts := ts) 1 (by omega); omega]; exact HF.out), HW1.out⟩
  case round =>
    obtain ⟨k, q, hk1, hk, rfl, HQ, hW⟩ := hrel
    have HW := Lib.hid hW
    clear hW HW1
    have hk0 : (0 : Int) ≤ (k : Int) := by omega
    have HOQ := Lib.hid (good_at HG.out HQ.out)
    by_cases hlt : k < n
    · have hki : (k : Int) < (n : Int) := by omega
      have hkd : decide (k < n) = true := by simpa using hlt
      obtain ⟨x, hx⟩ := at_lt hL.out hlt
      obtain ⟨g9, e9, hg9, c0, c1, c2, c3, c4⟩ := hts.out.2 k x hx
      obtain rfl : g = g9 := by injection e9 with e9; injection e9
      have HC := Lib.hid (show C5 w g (k * 5) x from ⟨⟨c0, c1, c2, c3, c4⟩, hg9⟩)
      have HO := Lib.hid (good_at HG.out hx)
      obtain ⟨v, HV⟩ : ∃ v, Hid (area x = v) := ⟨_, Lib.hid rfl⟩
      obtain ⟨u, HU⟩ : ∃ v, Hid (area q = v) := ⟨_, Lib.hid rfl⟩
      have HNX := Lib.hid (show wdN ts (k + 1) = if u < v then k else wdN ts k by rw [wdN_succ hx HQ.out, HV.out, HU.out])
      have HK := Lib.hid hx
      clear hx e9 c0 c1 c2 c3 c4
      obtain ⟨t, ht⟩ : ∃ t, decide (u < v) = t := ⟨_, rfl⟩
      go_upto_region 7 with fail
      refine wp_region_held_drew (S := (fun v : World => v.cell? ⟨g, k * 5, none⟩ = some (.int .i64 x.st) ∧ v.cell? ⟨g, k * 5 + 1, none⟩ = some (.int .i64 x.lf) ∧ v.cell? ⟨g, k * 5 + 2, none⟩ = some (.int .i64 x.rt) ∧ v.cell? ⟨g, k * 5 + 3, none⟩ = some (.int .i64 x.ab) ∧ v.cell? ⟨g, k * 5 + 4, none⟩ = some (.int .i64 x.be) ∧ v.cell? ⟨X, 0, none⟩ = some (.int .i64 q.st) ∧ v.cell? ⟨X, 1, none⟩ = some (.int .i64 q.lf) ∧ v.cell? ⟨X, 2, none⟩ = some (.int .i64 q.rt) ∧ v.cell? ⟨X, 3, none⟩ = some (.int .i64 q.ab) ∧ v.cell? ⟨X, 4, none⟩ = some (.int .i64 q.be) ∧ X < v.heap.size ∧ WB w X q v)) (by kernel_rfl) ?_ (fun hHeld => ?_)
      · exact wb_mk HC.out (HW.out.step (Below.refl _ _).drew)
      refine' wpAnyH_take (i := 0) (v := ?vr6_0) rfl (by kernel_rfl) (by kernel_rfl) (by kernel_rfl) (fun _ _ _ h => h) (Or.inl ⟨by rfl, ?hyr6_0⟩) (by assumption) ?restr6_0
      case hyr6_0 => (intro w hSw; (try dsimp only at hSw); go_simp; try (with_reducible rfl))
      simp only [Act.put, List.getElem_toArray, List.getElem_cons_succ, List.getElem_cons_zero, List.setIfInBounds_toArray, List.set_cons_zero, List.set_cons_succ]
      refine' wpAnyH_take (i := 1) (v := ?vr6_1) rfl (by kernel_rfl) (by kernel_rfl) (by kernel_rfl) (fun _ _ _ h => h) (Or.inl ⟨by rfl, ?hyr6_1⟩) (by assumption) ?restr6_1
      case hyr6_1 => (intro w hSw; (try dsimp only at hSw); go_simp; try (with_reducible rfl))
      simp only [Act.put, List.getElem_toArray, List.getElem_cons_succ, List.getElem_cons_zero, List.setIfInBounds_toArray, List.set_cons_zero, List.set_cons_succ]
      refine' wpAnyH_take (i := 2) (v := ?vr6_2) rfl (by kernel_rfl) (by kernel_rfl) (by kernel_rfl) (fun _ _ _ h => h) (Or.inl ⟨by rfl, ?hyr6_2⟩) (by assumption) ?restr6_2
      case hyr6_2 => (intro w hSw; (try dsimp only at hSw); go_simp; try (with_reducible rfl))
      simp only [Act.put, List.getElem_toArray, List.getElem_cons_succ, List.getElem_cons_zero, List.setIfInBounds_toArray, List.set_cons_zero, List.set_cons_succ]
      refine' wpAnyH_take (i := 3) (v := ?vr6_3) rfl (by kernel_rfl) (by kernel_rfl) (by kernel_rfl) (fun _ _ _ h => h) (Or.inl ⟨by rfl, ?hyr6_3⟩) (by assumption) ?restr6_3
      case hyr6_3 => (intro w hSw; (try dsimp only at hSw); go_simp; try (with_reducible rfl))
      simp only [Act.put, List.getElem_toArray, List.getElem_cons_succ, List.getElem_cons_zero, List.setIfInBounds_toArray, List.set_cons_zero, List.set_cons_succ]
      refine' wpAnyH_take (i := 5) (v := ?vr6_5) rfl (by kernel_rfl) (by kernel_rfl) (by kernel_rfl) (fun _ _ _ h => h) (Or.inl ⟨by rfl, ?hyr6_5⟩) (by assumption) ?restr6_5
      case hyr6_5 => (intro w hSw; (try dsimp only at hSw); go_simp; try (with_reducible rfl))
      simp only [Act.put, List.getElem_toArray, List.getElem_cons_succ, List.getElem_cons_zero, List.setIfInBounds_toArray, List.set_cons_zero, List.set_cons_succ]
      refine wpAnyH_ready (rs := [4]) (by kernel_rfl) (by simp) ?_
      refine AllReadyH.cons rfl (fun K hK => ?_) AllReadyH.nil
      go_simp
      refine (area_is x v HV _ HO).mono ?_
      rintro e w1 ⟨rfl, b1⟩
      refine hK.out _ _ (wb_mk HC.out (hHeld.2.2.2.2.2.2.2.2.2.2.2.step b1)) (fun hHeld1 => ?_)
      clear hK K hHeld
      have hHeld := hHeld1
      clear hHeld1
      try simp only [Act.put, List.getElem_toArray, List.getElem_cons_succ, List.getElem_cons_zero, List.setIfInBounds_toArray, List.set_cons_zero, List.set_cons_succ]
      refine wpAnyH_ready (rs := [6]) (by kernel_rfl) (by simp) ?_
      refine AllReadyH.cons rfl (fun K hK => ?_) AllReadyH.nil
      go_simp
      refine (area_is q u HU _ HOQ).mono ?_
      rintro e w1 ⟨rfl, b1⟩
      refine hK.out _ _ (wb_mk HC.out (hHeld.2.2.2.2.2.2.2.2.2.2.2.step b1)) (fun hHeld1 => ?_)
      clear hK K hHeld
      have hHeld := hHeld1
      clear hHeld1
      try simp only [Act.put, List.getElem_toArray, List.getElem_cons_succ, List.getElem_cons_zero, List.setIfInBounds_toArray, List.set_cons_zero, List.set_cons_succ]
      refine' wpAnyH_take (i := 7) (v := ?vr6_7) rfl (by kernel_rfl) (by kernel_rfl) (by kernel_rfl) (fun _ _ _ h => h) (Or.inl ⟨by rfl, ?hyr6_7⟩) (by assumption) ?restr6_7
      case hyr6_7 => (intro w hSw; (try dsimp only at hSw); go_simp; try (with_reducible rfl))
      simp only [Act.put, List.getElem_toArray, List.getElem_cons_succ, List.getElem_cons_zero, List.setIfInBounds_toArray, List.set_cons_zero, List.set_cons_succ]
      refine wpAnyH_done (by kernel_rfl) ?_ _
      have HW2 := Lib.hid (hHeld.2.2.2.2.2.2.2.2.2.2.2)
      clear hHeld HW
      cases t
      · have HN := Lib.hid (show ts[wdN ts (k + 1)]? = some q by rw [HNX.out, if_neg (by simpa using ht)]; exact HQ.out)
        clear ht
        go_wp2_with fail
        go_roundw
        case rel => exact ⟨k + 1, q, by omega, by omega, by go_num, HN, HW2.out⟩
        case measure => simp [intOf]; omega
      · have HN := Lib.hid (show ts[wdN ts (k + 1)]? = some x by rw [HNX.out, if_pos (by simpa using ht)]; exact HK.out)
        clear ht
        obtain ⟨c0, c1, c2, c3, c4⟩ := HC.out.below HW2.out.1
        obtain ⟨f0, f1, f2, f3, f4⟩ := HW2.out.fro
        obtain ⟨d0, d1, d2, d3, d4⟩ := HW2.out.cs
        have HW3 := Lib.hid (HW2.out.put x)
        go_wp2_with fail
        go_roundw
        case rel => exact ⟨k + 1, x, by omega, by omega, by go_num, HN, HW3.out⟩
        case measure => simp [intOf]; omega
    · have hkd : decide (k < n) = false := by simpa using hlt
      obtain rfl : k = n := by omega
      have HS := Lib.hid (show q.st = s by rw [← HWS.out]; unfold wsK; rw [hL.out, HQ.out])
      obtain ⟨d0, d1, d2, d3, d4⟩ := HW.out.cs
      go_wp2_with fail
      go_ret2
      exact ⟨by rw [HA.out, ← HS.out]; rfl, HW.out.1⟩
set_option maxHeartbeats 8000000 in
set_option maxRecDepth 100000 in
theorem fitting_model (A : Option Addr) (n cap : Nat) (ts : List Pg) (a h : Int) (w : World) (hn : n ≤ 2000000) (hts : Hid (PgAt w w.heap.size A n ts)) :
    Calls Try.prog 26 #[.slice A n cap, .int .i64 a, .int .i64 h] w (LPost (ftV a h ts) (ftOk a h ts) w) := by
  obtain ⟨i0, hi, hz0, hz1, hz2⟩ := info_parts infoI
  have hL : Hid (ts.length = n) := Lib.hid hts.out.1
  obtain ⟨G, HG⟩ : ∃ G, Hid (goodPg ts = G) := ⟨_, Lib.hid rfl⟩
  obtain ⟨t0, h0⟩ : ∃ t, decide (a < 1) = t := ⟨_, rfl⟩
  obtain ⟨t1, h1⟩ : ∃ t, decide (h < 1) = t := ⟨_, rfl⟩
  have HA := Lib.hid (show ftOk a h ts = (G && !t0 && !t1) by unfold ftOk; rw [HG.out, h0, h1])
  have HN0 := Lib.hid (IR.mk0 (Below.refl w.heap.size w))
  go_enter Try.func26, Try.ntmps26
  go_wp2_with fail
  refine (good_is A n cap ts G HG _ hn (Lib.hid (hts.out.step HN0.out.1))).mono ?_
  rintro e w1 ⟨rfl, b1⟩
  have HN1 := Lib.hid (HN0.out.step b1)
  clear b1 HN0
  cases G
  · have HX := Lib.hid (show ftV a h ts = [] by unfold ftV; rw [HA.out]; rfl)
    go_wp2_with fail
    go_ret2
    exact ⟨_, by rw [HA.out]; rfl, by rw [HX.out]; exact HN1.out.2.1, HN1.out.1⟩
  cases t0
  case true =>
    have HX := Lib.hid (show ftV a h ts = [] by unfold ftV; rw [HA.out]; rfl)
    go_wp2_with fail
    go_ret2
    exact ⟨_, by rw [HA.out]; rfl, by rw [HX.out]; exact HN1.out.2.1, HN1.out.1⟩
  cases t1
  case true =>
    have HX := Lib.hid (show ftV a h ts = [] by unfold ftV; rw [HA.out]; rfl)
    go_wp2_with fail
    go_ret2
    exact ⟨_, by rw [HA.out]; rfl, by rw [HX.out]; exact HN1.out.2.1, HN1.out.1⟩
  have hn8 : n ≤ 8 := by rw [← hL.out]; exact good_len HG.out
  have HX := Lib.hid (show ftV a h ts = fitK a h ts n by unfold ftV; rw [HA.out, hL.out]; rfl)
  go_wp2_with fail
  go_loopw [8, 9] (fun v i wr => ∃ (k m c2 : Nat) (A2 : Option Addr) (xs : List Int), k ≤ n ∧ i = .int .i64 (k : Nat) ∧ v = .slice A2 m c2 ∧ m ≤ k ∧ Hid (fitK a h ts k = xs) ∧ IR w A2 m c2 xs wr) (fun _ i _ => n - (intOf i).toNat)
  case atStart => exact ⟨0, 0, 0, _, [], Nat.zero_le _, rfl, rfl, Nat.le_refl _, Lib.hid rfl, HN1.out⟩
  case round =>
    clear HN1
    obtain ⟨k, m, c2, A2, xs, hk, rfl, rfl, hmk, HXS, hN⟩ := hrel
    have HN := Lib.hid hN
    clear hN
    have hk0 : (0 : Int) ≤ (k : Int) := by omega
    by_cases hlt : k < n
    · have hki : (k : Int) < (n : Int) := by omega
      have hkd : decide (k < n) = true := by simpa using hlt
      obtain ⟨x, hx⟩ := at_lt hL.out hlt
      obtain ⟨g, rfl, hg, d0, d1, d2, d3, d4⟩ := (hts.out.below HN.out.1).2 k x hx
      obtain ⟨-, ⟨p0, p1⟩, ⟨p2, p3⟩, ⟨p4, p5⟩, p6, p7⟩ := okPg_lim (good_at HG.out hx)
      obtain ⟨u0, hu0⟩ : ∃ t, decide (a ≤ x.lf + x.rt) = t := ⟨_, rfl⟩
      obtain ⟨u1, hu1⟩ : ∃ t, decide (h ≤ x.ab + x.be) = t := ⟨_, rfl⟩
      have HF := Lib.hid (show fits a h x = (u0 && u1) by unfold fits; rw [hu0, hu1])
      have HK := Lib.hid hx
      have hw1 : IntKind.i64.wrap (x.lf + x.rt) = x.lf + x.rt := IntWalk.i64_in _ (by omega)
      have hw2 : IntKind.i64.wrap (x.ab + x.be) = x.ab + x.be := IntWalk.i64_in _ (by omega)
      clear hx
      go_upto_region 7 with fail
      cases u0
      · have HE := Lib.hid (fitK_no HK.out (show fits a h x = false by rw [HF.out]; rfl))
        go_quiet (fail)
        go_wp2_with fail
        go_roundw
        case rel => exact ⟨k + 1, m, c2, A2, xs, by omega, by go_num, rfl, by omega, Lib.hid (by rw [HE.out]; exact HXS.out), HN.out.step (drewN_below _ _)⟩
        case measure => simp [intOf]; omega
      cases u1
      · have HE := Lib.hid (fitK_no HK.out (show fits a h x = false by rw [HF.out]; rfl))
        go_quiet (fail)
        go_wp2_with fail
        go_roundw
        case rel => exact ⟨k + 1, m, c2, A2, xs, by omega, by go_num, rfl, by omega, Lib.hid (by rw [HE.out]; exact HXS.out), HN.out.step (drewN_below _ _)⟩
        case measure => simp [intOf]; omega
      · have HE := Lib.hid (fitK_yes HK.out (show fits a h x = true by rw [HF.out]; rfl))
        have HN2 := Lib.hid (fun q => HN.out.step (drewN_below _ q))
        have hsz := HN.out.1.size
        go_quiet (fail)
        go_wp2_with (at_builtin; refine wpList_append_own _ rfl _ _ 41 rfl w.heap.size 3 i0 (.int .i64 0) 1 8 Try.underlying41 hi hz0 hz1 hz2 rfl (by decide) _ _ _ rfl ((HN2.out _).2.1.alloc _) ⟨_, 0, none⟩ 1 1 [.int .i64 x.st] rfl rfl (World.news_of_block (alloc_at rfl)) (by simp [Value.oneCell']) (by unfold maxLen; omega) (by omega) (by simp; omega) ?_; intro v' w9 hown' hgrow _; obtain ⟨A9, c9, rfl⟩ := row_slice hown')
        go_roundw
        case rel => exact ⟨k + 1, m + 1, c9, A9, xs ++ [x.st], by omega, by go_num, rfl, by omega, Lib.hid (by rw [HE.out, HXS.out]), ((HN2.out _).1.alloc hsz _).grown hgrow (by simp; omega) (fun q eq => ((HN2.out 0).2.1.lt q eq).1), by rw [intsV_app]; exact hown', by rw [List.length_append, HN.out.2.2]; rfl⟩
        case measure => simp [intOf]; omega
    · have hkd : decide (k < n) = false := by simpa using hlt
      obtain rfl : k = n := by omega
      have HE := Lib.hid (show ftV a h ts = xs by rw [HX.out, HXS.out])
      go_wp2_with fail
      go_ret2
      exact ⟨_, by rw [HA.out]; rfl, by rw [HE.out, HN.out.2.2]; exact HN.out.2.1, HN.out.1⟩
end Go.Proofs.Ytnpghhpcloljeaa.pw
