/-
  The model: the widest passage, fitting stations.
  Conditions: the passages lie in one block, at most 2000000 of them.
-/
import Derived.Test.YtnpghhpcloljeaaDoorPwG
import Derived.Test.YtnpghhpcloljeaaDoorPwE
import Derived.BigQuiet
import Derived.Deep.QuietTactic
import Derived.Deep.Cut
import Derived.Deep.DeepCutAuto
import Derived.RegionTactic
import Derived.Deep.RegionWith
import Derived.OwnWalk
import Derived.Deep.RegionHeld3
namespace Go.Proofs.YtnpghhpcloljeaaDoor.pw
open Go.RowKit
open reads base ty rowi win inn lg
set_option linter.unusedVariables false
set_option linter.unusedSimpArgs false

set_option maxHeartbeats 8000000 in
set_option maxRecDepth 100000 in
theorem widest_model (A : Option Addr) (n cap : Nat) (ts : List Pg) (w : World) (hn : n ≤ 2000000) (hts : Hid (PgAt w w.heap.size A n ts)) :
    Calls Tryd.prog 24 #[.slice A n cap] w (APost (ansWp ts) w) := by
  obtain ⟨G, HG⟩ : ∃ G, Hid (goodPg ts = G) := ⟨_, Lib.hid rfl⟩
  have hL : Hid (ts.length = n) := Lib.hid hts.out.1
  obtain ⟨s, HWS⟩ : ∃ v, Hid (wsK ts = v) := ⟨_, Lib.hid rfl⟩
  have HA := Lib.hid (show ansWp ts = if (G && !decide (n = 0)) = true then .tuple #[.int .i64 s, .bool true] else .tuple #[.int .i64 0, .bool false] by unfold ansWp wsOk; rw [HG.out, hL.out, HWS.out])
  by_cases hz : n = 0
  · subst hz
    go_enter Tryd.func24, Tryd.ntmps24
    go_wp2_with fail
    refine (good_is A 0 cap ts G HG _ hn hts).mono ?_
    rintro e w1 ⟨rfl, b1⟩
    have HB1 := Lib.hid b1
    clear b1
    cases G
    · go_wp2_with fail
      go_ret2
      exact ⟨by rw [HA.out]; rfl, HB1.out⟩
    · go_wp2_with fail
      go_ret2
      exact ⟨by rw [HA.out]; rfl, HB1.out⟩
  have hzi : ((n : Int) == 0) = false := by simp; omega
  have hzn : (n == 0) = false := by simpa using hz
  have hzd : decide (n = 0) = false := by simpa using hz
  have hnp : (0 : Int) < (n : Int) := by omega
  rw [hzd] at HA
  go_enter Tryd.func24, Tryd.ntmps24
  go_wp2_with fail
  refine (good_is A n cap ts G HG _ hn hts).mono ?_
  rintro e w1 ⟨rfl, b1⟩
  have HB1 := Lib.hid b1
  clear b1
  cases G
  · go_wp2_with fail
    go_ret2
    exact ⟨by rw [HA.out]; rfl, HB1.out⟩
  have hn8 : n ≤ 8 := by rw [← hL.out]; exact good_len HG.out
  obtain ⟨f, hf⟩ := at_lt hL.out (show 0 < n by omega)
  obtain ⟨g, rfl, hg, c0, c1, c2, c3, c4⟩ := (hts.out.below HB1.out).2 0 f hf
  simp only [Nat.zero_mul, Nat.zero_add] at c0 c1 c2 c3 c4
  obtain ⟨X, HX⟩ : ∃ X, Hid (w1.heap.size = X) := ⟨_, Lib.hid rfl⟩
  have HW1 := Lib.hid (show WB w X f (w1.alloc (.cells #[.int .i64 f.st, .int .i64 f.lf, .int .i64 f.rt, .int .i64 f.ab, .int .i64 f.be] 43)) from ⟨HB1.out.alloc HB1.out.size _, by rw [← HX.out]; exact Blk.new _ _ _, by rw [← HX.out]; exact HB1.out.size⟩)
  have HF := Lib.hid hf
  clear hf
  go_upto_region 4 with fail
  obtain ⟨V, HVV⟩ : ∃ V, Hid (w1.alloc (.cells #[.int .i64 f.st, .int .i64 f.lf, .int .i64 f.rt, .int .i64 f.ab, .int .i64 f.be] 43) = V) := ⟨_, Lib.hid rfl⟩
  rw [HVV.out] at HW1
  rw [HVV.out]
  try simp only [HX.out]
  clear HVV HX c0 c1 c2 c3 c4 HB1
  go_wp2_with fail
  go_loopw [5] (fun i wr => ∃ (k : Nat) (q : Pg), 1 ≤ k ∧ k ≤ n ∧ i = .int .i64 (k : Nat) ∧ Hid (ts[wdN ts k]? = some q) ∧ WB w X q wr) (fun i _ => n - (intOf i).toNat)
  case atStart => exact ⟨1, f, Nat.le_refl _, by omega, rfl, Lib.hid (by rw [show wdN ts 1 = 0 by have := wdN_lt (ts := ts) 1 (by omega); omega]; exact HF.out), HW1.out⟩
  case round =>
    obtain ⟨k, q, hk1, hk, rfl, HQ, hW⟩ := hrel
    have HW := Lib.hid hW
    clear hW HW1
    have hk0 : (0 : Int) ≤ (k : Int) := by omega
    have HOQ := Lib.hid (good_at HG.out HQ.out)
    by_cases hlt : k < n
    · have hki : (k : Int) < (n : Int) := by omega
      have hkd : decide (k < n) = true := by simpa using hlt
      obtain ⟨x, hx⟩ := at_lt hL.out hlt
      obtain ⟨g9, e9, hg9, c0, c1, c2, c3, c4⟩ := hts.out.2 k x hx
      obtain rfl : g = g9 := by injection e9 with e9; injection e9
      have HC := Lib.hid (show C5 w g (k * 5) x from ⟨⟨c0, c1, c2, c3, c4⟩, hg9⟩)
      have HO := Lib.hid (good_at HG.out hx)
      obtain ⟨v, HV⟩ : ∃ v, Hid (area x = v) := ⟨_, Lib.hid rfl⟩
      obtain ⟨u, HU⟩ : ∃ v, Hid (area q = v) := ⟨_, Lib.hid rfl⟩
      have HNX := Lib.hid (show wdN ts (k + 1) = if u < v then k else wdN ts k by rw [wdN_succ hx HQ.out, HV.out, HU.out])
      have HK := Lib.hid hx
      clear hx e9 c0 c1 c2 c3 c4
      obtain ⟨t, ht⟩ : ∃ t, decide (u < v) = t := ⟨_, rfl⟩
      go_upto_region 7 with fail
      refine wp_region_held_drew (S := (fun v : World => v.cell? ⟨g, k * 5, none⟩ = some (.int .i64 x.st) ∧ v.cell? ⟨g, k * 5 + 1, none⟩ = some (.int .i64 x.lf) ∧ v.cell? ⟨g, k * 5 + 2, none⟩ = some (.int .i64 x.rt) ∧ v.cell? ⟨g, k * 5 + 3, none⟩ = some (.int .i64 x.ab) ∧ v.cell? ⟨g, k * 5 + 4, none⟩ = some (.int .i64 x.be) ∧ v.cell? ⟨X, 0, none⟩ = some (.int .i64 q.st) ∧ v.cell? ⟨X, 1, none⟩ = some (.int .i64 q.lf) ∧ v.cell? ⟨X, 2, none⟩ = some (.int .i64 q.rt) ∧ v.cell? ⟨X, 3, none⟩ = some (.int .i64 q.ab) ∧ v.cell? ⟨X, 4, none⟩ = some (.int .i64 q.be) ∧ X < v.heap.size ∧ WB w X q v)) (by kernel_rfl) ?_ (fun hHeld => ?_)
      · exact wb_mk HC.out (HW.out.step (Below.refl _ _).drew)
      refine' wpAnyH_take (i := 0) (v := ?vr6_0) rfl (by kernel_rfl) (by kernel_rfl) (by kernel_rfl) (fun _ _ _ h => h) (Or.inl ⟨by rfl, ?hyr6_0⟩) (by assumption) ?restr6_0
      case hyr6_0 => (intro w hSw; (try dsimp only at hSw); go_simp; try (with_reducible rfl))
      simp only [Act.put, List.getElem_toArray, List.getElem_cons_succ, List.getElem_cons_zero, List.setIfInBounds_toArray, List.set_cons_zero, List.set_cons_succ]
      refine' wpAnyH_take (i := 1) (v := ?vr6_1) rfl (by kernel_rfl) (by kernel_rfl) (by kernel_rfl) (fun _ _ _ h => h) (Or.inl ⟨by rfl, ?hyr6_1⟩) (by assumption) ?restr6_1
      case hyr6_1 => (intro w hSw; (try dsimp only at hSw); go_simp; try (with_reducible rfl))
      simp only [Act.put, List.getElem_toArray, List.getElem_cons_succ, List.getElem_cons_zero, List.setIfInBounds_toArray, List.set_cons_zero, List.set_cons_succ]
      refine' wpAnyH_take (i := 2) (v := ?vr6_2) rfl (by kernel_rfl) (by kernel_rfl) (by kernel_rfl) (fun _ _ _ h => h) (Or.inl ⟨by rfl, ?hyr6_2⟩) (by assumption) ?restr6_2
      case hyr6_2 => (intro w hSw; (try dsimp only at hSw); go_simp; try (with_reducible rfl))
      simp only [Act.put, List.getElem_toArray, List.getElem_cons_succ, List.getElem_cons_zero, List.setIfInBounds_toArray, List.set_cons_zero, List.set_cons_succ]
      refine' wpAnyH_take (i := 3) (v := ?vr6_3) rfl (by kernel_rfl) (by kernel_rfl) (by kernel_rfl) (fun _ _ _ h => h) (Or.inl ⟨by rfl, ?hyr6_3⟩) (by assumption) ?restr6_3
      case hyr6_3 => (intro w hSw; (try dsimp only at hSw); go_simp; try (with_reducible rfl))
      simp only [Act.put, List.getElem_toArray, List.getElem_cons_succ, List.getElem_cons_zero, List.setIfInBounds_toArray, List.set_cons_zero, List.set_cons_succ]
      refine' wpAnyH_take (i := 5) (v := ?vr6_5) rfl (by kernel_rfl) (by kernel_rfl) (by kernel_rfl) (fun _ _ _ h => h) (Or.inl ⟨by rfl, ?hyr6_5⟩) (by assumption) ?restr6_5
      case hyr6_5 => (intro w hSw; (try dsimp only at hSw); go_simp; try (with_reducible rfl))
      simp only [Act.put, List.getElem_toArray, List.getElem_cons_succ, List.getElem_cons_zero, List.setIfInBounds_toArray, List.set_cons_zero, List.set_cons_succ]
      refine wpAnyH_ready (rs := [4]) (by kernel_rfl) (by simp) ?_
      refine AllReadyH.cons rfl (fun K hK => ?_) AllReadyH.nil
      go_simp
      refine (area_is x v HV _ HO).mono ?_
      rintro e w1 ⟨rfl, b1⟩
      refine hK.out _ _ (wb_mk HC.out (hHeld.2.2.2.2.2.2.2.2.2.2.2.step b1)) (fun hHeld1 => ?_)
      clear hK K hHeld
      have hHeld := hHeld1
      clear hHeld1
      try simp only [Act.put, List.getElem_toArray, List.getElem_cons_succ, List.getElem_cons_zero, List.setIfInBounds_toArray, List.set_cons_zero, List.set_cons_succ]
      refine wpAnyH_ready (rs := [6]) (by kernel_rfl) (by simp) ?_
      refine AllReadyH.cons rfl (fun K hK => ?_) AllReadyH.nil
      go_simp
      refine (area_is q u HU _ HOQ).mono ?_
      rintro e w1 ⟨rfl, b1⟩
      refine hK.out _ _ (wb_mk HC.out (hHeld.2.2.2.2.2.2.2.2.2.2.2.step b1)) (fun hHeld1 => ?_)
      clear hK K hHeld
      have hHeld := hHeld1
      clear hHeld1
      try simp only [Act.put, List.getElem_toArray, List.getElem_cons_succ, List.getElem_cons_zero, List.setIfInBounds_toArray, List.set_cons_zero, List.set_cons_succ]
      refine' wpAnyH_take (i := 7) (v := ?vr6_7) rfl (by kernel_rfl) (by kernel_rfl) (by kernel_rfl) (fun _ _ _ h => h) (Or.inl ⟨by rfl, ?hyr6_7⟩) (by assumption) ?restr6_7
      case hyr6_7 => (intro w hSw; (try dsimp only at hSw); go_simp; try (with_reducible rfl))
      simp only [Act.put, List.getElem_toArray, List.getElem_cons_succ, List.getElem_cons_zero, List.setIfInBounds_toArray, List.set_cons_zero, List.set_cons_succ]
      refine wpAnyH_done (by kernel_rfl) ?_ _
      have HW2 := Lib.hid (hHeld.2.2.2.2.2.2.2.2.2.2.2)
      clear hHeld HW
      cases t
      · have HN := Lib.hid (show ts[wdN ts (k + 1)]? = some q by rw [HNX.out, if_neg (by simpa using ht)]; exact HQ.out)
        clear ht
        go_wp2_with fail
        go_roundw
        case rel => exact ⟨k + 1, q, by omega, by omega, by go_num, HN, HW2.out⟩
        case measure => simp [intOf]; omega
      · have HN := Lib.hid (show ts[wdN ts (k + 1)]? = some x by rw [HNX.out, if_pos (by simpa using ht)]; exact HK.out)
        clear ht
        obtain ⟨c0, c1, c2, c3, c4⟩ := HC.out.below HW2.out.1
        obtain ⟨f0, f1, f2, f3, f4⟩ := HW2.out.fro
        obtain ⟨d0, d1, d2, d3, d4⟩ := HW2.out.cs
        have HW3 := Lib.hid (HW2.out.put x)
        go_wp2_with fail
        go_roundw
        case rel => exact ⟨k + 1, x, by omega, by omega, by go_num, HN, HW3.out⟩
        case measure => simp [intOf]; omega
    · have hkd : decide (k < n) = false := by simpa using hlt
      obtain rfl : k = n := by omega
      have HS := Lib.hid (show q.st = s by rw [← HWS.out]; unfold wsK; rw [hL.out, HQ.out])
      obtain ⟨d0, d1, d2, d3, d4⟩ := HW.out.cs
      go_wp2_with fail
      go_ret2
      exact ⟨by rw [HA.out, ← HS.out]; rfl, HW.out.1⟩
end Go.Proofs.YtnpghhpcloljeaaDoor.pw
