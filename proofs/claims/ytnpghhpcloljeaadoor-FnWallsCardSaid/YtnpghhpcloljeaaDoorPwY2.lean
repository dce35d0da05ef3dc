/-
  The walls of a leg, of the model.
  Conditions: the passages lie in one block, at most 2000000 of them.
-/
import Derived.Test.YtnpghhpcloljeaaDoorPwY1
import Derived.Test.YtnpghhpcloljeaaDoorPwG
import Derived.BigQuiet
import Derived.Deep.QuietTactic
import Derived.Deep.Cut
import Derived.Deep.DeepCutAuto
import Derived.RegionTactic
import Derived.Deep.RegionWith
import Derived.OwnWalk
import Derived.Deep.RegionHeld3
namespace Go.Proofs.YtnpghhpcloljeaaDoor.pw
open Go.RowKit
open reads base ty rowi win inn lg
set_option linter.unusedVariables false
set_option linter.unusedSimpArgs false

set_option maxHeartbeats 16000000 in
set_option maxRecDepth 100000 in
theorem walls_model (A : Option Addr) (n cap : Nat) (ts : List Pg) (x : Lg) (w : World) (hn : n ≤ 2000000) (hts : Hid (PgAt w w.heap.size A n ts)) :
    Calls Tryd.prog 6 #[.slice A n cap, .agg #[.int .i64 x.frm, .int .i64 x.to_, .int .i64 x.tape, .int .i64 x.comp, .int .i64 x.slope]] w (APost (ansWa ts x) w) := by
  have hL : Hid (ts.length = n) := Lib.hid hts.out.1
  obtain ⟨G, HG⟩ : ∃ G, Hid (goodPg ts = G) := ⟨_, Lib.hid rfl⟩
  obtain ⟨G2, HG2⟩ : ∃ G, Hid (okLg x = G) := ⟨_, Lib.hid rfl⟩
  obtain ⟨u1, HU1⟩ : ∃ G, Hid (hasP ts x.frm = G) := ⟨_, Lib.hid rfl⟩
  obtain ⟨u2, HU2⟩ : ∃ G, Hid (hasP ts x.to_ = G) := ⟨_, Lib.hid rfl⟩
  have HOK := Lib.hid (show waOk ts x = (G && G2 && u1 && u2) by unfold waOk; rw [HG.out, HG2.out, HU1.out, HU2.out])
  have HA0 := Lib.hid (show ∀ b, waOk ts x = b → b = false → ansWa ts x = ansWl wl0 false from fun b h1 h2 => by subst h2; unfold ansWa waV; rw [h1]; rfl)
  have HB0 := Lib.hid (show BW w w from Below.refl _ _)
  go_enter Tryd.func6, Tryd.ntmps6
  go_wp2_with fail
  obtain ⟨W1, HW⟩ : ∃ W1, Hid ((w.alloc (.cells #[.int .i64 x.frm, .int .i64 x.to_, .int .i64 x.tape, .int .i64 x.comp, .int .i64 x.slope] 33)).alloc (.cells #[.int .i64 0, .int .i64 0, .int .i64 0, .int .i64 0, .int .i64 0, .int .i64 0, .int .i64 0, .int .i64 0, .int .i64 0, .int .i64 0, .int .i64 0, .int .i64 0] 28) = W1) := ⟨_, Lib.hid rfl⟩
  have H1 := Lib.hid (show BW w W1 by rw [← HW.out]; exact ((HB0.out.alloc _).alloc _))
  have H2 := Lib.hid (show Blk W1 (w.heap.size) 33 #[.int .i64 x.frm, .int .i64 x.to_, .int .i64 x.tape, .int .i64 x.comp, .int .i64 x.slope] by rw [← HW.out]; exact ((Blk.new _ _ _).alloc _))
  have H3 := Lib.hid (show Blk W1 (w.heap.size + 1) 28 #[.int .i64 0, .int .i64 0, .int .i64 0, .int .i64 0, .int .i64 0, .int .i64 0, .int .i64 0, .int .i64 0, .int .i64 0, .int .i64 0, .int .i64 0, .int .i64 0] by rw [← HW.out]; exact (by have h := Blk.new (w.alloc (.cells #[.int .i64 x.frm, .int .i64 x.to_, .int .i64 x.tape, .int .i64 x.comp, .int .i64 x.slope] 33)) 28 #[.int .i64 0, .int .i64 0, .int .i64 0, .int .i64 0, .int .i64 0, .int .i64 0, .int .i64 0, .int .i64 0, .int .i64 0, .int .i64 0, .int .i64 0, .int .i64 0]; simpa using h))
  rw [HW.out]
  clear HW HB0
  refine (good_is A n cap ts G HG _ hn (Lib.hid (hts.out.step (show Below w.heap.size w _ from H1.out)))).mono ?_
  rintro e W2 ⟨rfl, b⟩
  have H4 := Lib.hid (show BW w W2 from H1.out.step b)
  have H5 := Lib.hid (show Blk W2 (w.heap.size) 33 #[.int .i64 x.frm, .int .i64 x.to_, .int .i64 x.tape, .int .i64 x.comp, .int .i64 x.slope] from H2.out.below b H2.out.lt)
  have H6 := Lib.hid (show Blk W2 (w.heap.size + 1) 28 #[.int .i64 0, .int .i64 0, .int .i64 0, .int .i64 0, .int .i64 0, .int .i64 0, .int .i64 0, .int .i64 0, .int .i64 0, .int .i64 0, .int .i64 0, .int .i64 0] from H3.out.below b H3.out.lt)
  clear b H1 H2 H3
  cases G
  · have HA := Lib.hid (HA0.out _ HOK.out rfl)
    have z0 := H6.out.cell 0
    have f0 := H6.out.frozen 0
    have z1 := H6.out.cell 1
    have f1 := H6.out.frozen 1
    have z2 := H6.out.cell 2
    have f2 := H6.out.frozen 2
    have z3 := H6.out.cell 3
    have f3 := H6.out.frozen 3
    have z4 := H6.out.cell 4
    have f4 := H6.out.frozen 4
    have z5 := H6.out.cell 5
    have f5 := H6.out.frozen 5
    have z6 := H6.out.cell 6
    have f6 := H6.out.frozen 6
    have z7 := H6.out.cell 7
    have f7 := H6.out.frozen 7
    have z8 := H6.out.cell 8
    have f8 := H6.out.frozen 8
    have z9 := H6.out.cell 9
    have f9 := H6.out.frozen 9
    have z10 := H6.out.cell 10
    have f10 := H6.out.frozen 10
    have z11 := H6.out.cell 11
    have f11 := H6.out.frozen 11
    have zl := H6.out.lt
    simp at z0 z1 z2 z3 z4 z5 z6 z7 z8 z9 z10 z11
    go_wp2_with fail
    refine bodyPost_ret (v := .tuple #[.agg #[.int .i64 0, .int .i64 0, .int .i64 0, .int .i64 0, .int .i64 0, .int .i64 0, .int .i64 0, .int .i64 0, .int .i64 0, .int .i64 0, .int .i64 0, .int .i64 0], .bool false]) (by simp [results, Tryd.results6, go_sem, *]) rfl ⟨by rw [HA.out]; rfl, ?_⟩
    exact (show Below w.heap.size w _ from ((((((((((((H4.out.far (R := w.heap.size + 1) (by omega) 0 _).far (R := w.heap.size + 1) (by omega) 1 _).far (R := w.heap.size + 1) (by omega) 2 _).far (R := w.heap.size + 1) (by omega) 3 _).far (R := w.heap.size + 1) (by omega) 4 _).far (R := w.heap.size + 1) (by omega) 5 _).far (R := w.heap.size + 1) (by omega) 6 _).far (R := w.heap.size + 1) (by omega) 7 _).far (R := w.heap.size + 1) (by omega) 8 _).far (R := w.heap.size + 1) (by omega) 9 _).far (R := w.heap.size + 1) (by omega) 10 _).far (R := w.heap.size + 1) (by omega) 11 _))
  have q_legl := H5.out.lt
  have q_leg0 : W2.cell? ⟨w.heap.size, 0, none⟩ = some (.int .i64 x.frm) := H5.out.cell 0
  have q_leg1 : W2.cell? ⟨w.heap.size, 1, none⟩ = some (.int .i64 x.to_) := H5.out.cell 1
  have q_leg2 : W2.cell? ⟨w.heap.size, 2, none⟩ = some (.int .i64 x.tape) := H5.out.cell 2
  have q_leg3 : W2.cell? ⟨w.heap.size, 3, none⟩ = some (.int .i64 x.comp) := H5.out.cell 3
  have q_leg4 : W2.cell? ⟨w.heap.size, 4, none⟩ = some (.int .i64 x.slope) := H5.out.cell 4
  go_wp2_with fail
  clear q_legl q_leg0 q_leg1 q_leg2 q_leg3 q_leg4
  refine (leg_is x G2 HG2 _).mono ?_
  rintro e W3 ⟨rfl, b⟩
  have H7 := Lib.hid (show BW w W3 from H4.out.step b)
  have H8 := Lib.hid (show Blk W3 (w.heap.size) 33 #[.int .i64 x.frm, .int .i64 x.to_, .int .i64 x.tape, .int .i64 x.comp, .int .i64 x.slope] from H5.out.below b H5.out.lt)
  have H9 := Lib.hid (show Blk W3 (w.heap.size + 1) 28 #[.int .i64 0, .int .i64 0, .int .i64 0, .int .i64 0, .int .i64 0, .int .i64 0, .int .i64 0, .int .i64 0, .int .i64 0, .int .i64 0, .int .i64 0, .int .i64 0] from H6.out.below b H6.out.lt)
  clear b H4 H5 H6
  cases G2
  · have HA := Lib.hid (HA0.out _ HOK.out rfl)
    have z0 := H9.out.cell 0
    have f0 := H9.out.frozen 0
    have z1 := H9.out.cell 1
    have f1 := H9.out.frozen 1
    have z2 := H9.out.cell 2
    have f2 := H9.out.frozen 2
    have z3 := H9.out.cell 3
    have f3 := H9.out.frozen 3
    have z4 := H9.out.cell 4
    have f4 := H9.out.frozen 4
    have z5 := H9.out.cell 5
    have f5 := H9.out.frozen 5
    have z6 := H9.out.cell 6
    have f6 := H9.out.frozen 6
    have z7 := H9.out.cell 7
    have f7 := H9.out.frozen 7
    have z8 := H9.out.cell 8
    have f8 := H9.out.frozen 8
    have z9 := H9.out.cell 9
    have f9 := H9.out.frozen 9
    have z10 := H9.out.cell 10
    have f10 := H9.out.frozen 10
    have z11 := H9.out.cell 11
    have f11 := H9.out.frozen 11
    have zl := H9.out.lt
    simp at z0 z1 z2 z3 z4 z5 z6 z7 z8 z9 z10 z11
    go_wp2_with fail
    refine bodyPost_ret (v := .tuple #[.agg #[.int .i64 0, .int .i64 0, .int .i64 0, .int .i64 0, .int .i64 0, .int .i64 0, .int .i64 0, .int .i64 0, .int .i64 0, .int .i64 0, .int .i64 0, .int .i64 0], .bool false]) (by simp [results, Tryd.results6, go_sem, *]) rfl ⟨by rw [HA.out]; rfl, ?_⟩
    exact (show Below w.heap.size w _ from ((((((((((((H7.out.far (R := w.heap.size + 1) (by omega) 0 _).far (R := w.heap.size + 1) (by omega) 1 _).far (R := w.heap.size + 1) (by omega) 2 _).far (R := w.heap.size + 1) (by omega) 3 _).far (R := w.heap.size + 1) (by omega) 4 _).far (R := w.heap.size + 1) (by omega) 5 _).far (R := w.heap.size + 1) (by omega) 6 _).far (R := w.heap.size + 1) (by omega) 7 _).far (R := w.heap.size + 1) (by omega) 8 _).far (R := w.heap.size + 1) (by omega) 9 _).far (R := w.heap.size + 1) (by omega) 10 _).far (R := w.heap.size + 1) (by omega) 11 _))
  obtain ⟨xa, xb, xn, ⟨xt, xt2⟩, ⟨xc0, xc1⟩, xs⟩ := okLg_lim HG2.out
  obtain ⟨p, HPP⟩ : ∃ p, Hid (pgZ ts x.frm = p) := ⟨_, Lib.hid rfl⟩
  obtain ⟨q, HQQ⟩ : ∃ p, Hid (pgZ ts x.to_ = p) := ⟨_, Lib.hid rfl⟩
  have HOP := Lib.hid (show okPg p = true by rw [← HPP.out]; exact pgZ_ok HG.out _)
  have HOQ := Lib.hid (show okPg q = true by rw [← HQQ.out]; exact pgZ_ok HG.out _)
  obtain ⟨r1, HR1⟩ : ∃ r, Hid (fdI ts x.frm = r) := ⟨_, Lib.hid rfl⟩
  obtain ⟨r2, HR2⟩ : ∃ r, Hid (fdI ts x.to_ = r) := ⟨_, Lib.hid rfl⟩
  go_upto_region 3 with fail
  refine wp_region_held_drew (S := (fun v : World => v.cell? ⟨w.heap.size, 0, none⟩ = some (.int .i64 x.frm) ∧ v.cell? ⟨w.heap.size, 1, none⟩ = some (.int .i64 x.to_) ∧ w.heap.size < v.heap.size ∧ Blk v w.heap.size 33 #[.int .i64 x.frm, .int .i64 x.to_, .int .i64 x.tape, .int .i64 x.comp, .int .i64 x.slope] ∧ BW w v)) (by kernel_rfl) ?_ (fun hHeld => ?_)
  · exact (by have h := H8.out.drew; exact ⟨h.cell 0, h.cell 1, h.lt, h, H7.out.step (drewN_below _ 1)⟩)
  refine' wpAnyH_take (i := 0) (v := ?vr1_0) rfl (by kernel_rfl) (by kernel_rfl) (by kernel_rfl) (fun _ _ _ h => h) (Or.inl ⟨by rfl, ?hyr1_0⟩) (by assumption) ?restr1_0
  case hyr1_0 => (intro w hSw; (try dsimp only at hSw); go_simp; try (with_reducible rfl))
  simp only [Act.put, List.getElem_toArray, List.getElem_cons_succ, List.getElem_cons_zero, List.setIfInBounds_toArray, List.set_cons_zero, List.set_cons_succ]
  refine' wpAnyH_take (i := 1) (v := ?vr1_1) rfl (by kernel_rfl) (by kernel_rfl) (by kernel_rfl) (fun _ _ _ h => h) (Or.inl ⟨by rfl, ?hyr1_1⟩) (by assumption) ?restr1_1
  case hyr1_1 => (intro w hSw; (try dsimp only at hSw); go_simp; try (with_reducible rfl))
  simp only [Act.put, List.getElem_toArray, List.getElem_cons_succ, List.getElem_cons_zero, List.setIfInBounds_toArray, List.set_cons_zero, List.set_cons_succ]
  refine' wpAnyH_take (i := 2) (v := ?vr1_2) rfl (by kernel_rfl) (by kernel_rfl) (by kernel_rfl) (fun _ _ _ h => h) (Or.inl ⟨by rfl, ?hyr1_2⟩) (by assumption) ?restr1_2
  case hyr1_2 => (intro w hSw; (try dsimp only at hSw); go_simp; try (with_reducible rfl))
  simp only [Act.put, List.getElem_toArray, List.getElem_cons_succ, List.getElem_cons_zero, List.setIfInBounds_toArray, List.set_cons_zero, List.set_cons_succ]
  refine' wpAnyH_take (i := 4) (v := ?vr1_4) rfl (by kernel_rfl) (by kernel_rfl) (by kernel_rfl) (fun _ _ _ h => h) (Or.inl ⟨by rfl, ?hyr1_4⟩) (by assumption) ?restr1_4
  case hyr1_4 => (intro w hSw; (try dsimp only at hSw); go_simp; try (with_reducible rfl))
  simp only [Act.put, List.getElem_toArray, List.getElem_cons_succ, List.getElem_cons_zero, List.setIfInBounds_toArray, List.set_cons_zero, List.set_cons_succ]
  refine' wpAnyH_take (i := 5) (v := ?vr1_5) rfl (by kernel_rfl) (by kernel_rfl) (by kernel_rfl) (fun _ _ _ h => h) (Or.inl ⟨by rfl, ?hyr1_5⟩) (by assumption) ?restr1_5
  case hyr1_5 => (intro w hSw; (try dsimp only at hSw); go_simp; try (with_reducible rfl))
  simp only [Act.put, List.getElem_toArray, List.getElem_cons_succ, List.getElem_cons_zero, List.setIfInBounds_toArray, List.set_cons_zero, List.set_cons_succ]
  refine' wpAnyH_take (i := 6) (v := ?vr1_6) rfl (by kernel_rfl) (by kernel_rfl) (by kernel_rfl) (fun _ _ _ h => h) (Or.inl ⟨by rfl, ?hyr1_6⟩) (by assumption) ?restr1_6
  case hyr1_6 => (intro w hSw; (try dsimp only at hSw); go_simp; try (with_reducible rfl))
  simp only [Act.put, List.getElem_toArray, List.getElem_cons_succ, List.getElem_cons_zero, List.setIfInBounds_toArray, List.set_cons_zero, List.set_cons_succ]
  refine wpAnyH_ready (rs := [3]) (by kernel_rfl) (by simp) ?_
  refine AllReadyH.cons rfl (fun K hK => ?_) AllReadyH.nil
  go_simp
  refine (find_any A n cap ts x.frm r1 _ hn w.heap.size (Lib.hid (hts.out.below hHeld.2.2.2.2)) HR1).mono ?_
  rintro e w8 ⟨rfl, rfl⟩
  refine hK.out _ _ (hHeld) (fun hHeld1 => ?_)
  clear hK K hHeld
  have hHeld := hHeld1
  clear hHeld1
  try simp only [Act.put, List.getElem_toArray, List.getElem_cons_succ, List.getElem_cons_zero, List.setIfInBounds_toArray, List.set_cons_zero, List.set_cons_succ]
  refine wpAnyH_ready (rs := [7]) (by kernel_rfl) (by simp) ?_
  refine AllReadyH.cons rfl (fun K hK => ?_) AllReadyH.nil
  go_simp
  refine (find_any A n cap ts x.to_ r2 _ hn w.heap.size (Lib.hid (hts.out.below hHeld.2.2.2.2)) HR2).mono ?_
  rintro e w8 ⟨rfl, rfl⟩
  refine hK.out _ _ (hHeld) (fun hHeld1 => ?_)
  clear hK K hHeld
  have hHeld := hHeld1
  clear hHeld1
  try simp only [Act.put, List.getElem_toArray, List.getElem_cons_succ, List.getElem_cons_zero, List.setIfInBounds_toArray, List.set_cons_zero, List.set_cons_succ]
  refine' wpAnyH_take (i := 8) (v := ?vr1_8) rfl (by kernel_rfl) (by kernel_rfl) (by kernel_rfl) (fun _ _ _ h => h) (Or.inl ⟨by rfl, ?hyr1_8⟩) (by assumption) ?restr1_8
  case hyr1_8 => (intro w hSw; (try dsimp only at hSw); go_simp; try (with_reducible rfl))
  simp only [Act.put, List.getElem_toArray, List.getElem_cons_succ, List.getElem_cons_zero, List.setIfInBounds_toArray, List.set_cons_zero, List.set_cons_succ]
  refine' wpAnyH_take (i := 9) (v := ?vr1_9) rfl (by kernel_rfl) (by kernel_rfl) (by kernel_rfl) (fun _ _ _ h => h) (Or.inl ⟨by rfl, ?hyr1_9⟩) (by assumption) ?restr1_9
  case hyr1_9 => (intro w hSw; (try dsimp only at hSw); go_simp; try (with_reducible rfl))
  simp only [Act.put, List.getElem_toArray, List.getElem_cons_succ, List.getElem_cons_zero, List.setIfInBounds_toArray, List.set_cons_zero, List.set_cons_succ]
  refine wpAnyH_done (by kernel_rfl) ?_ _
  obtain ⟨W9, HW9⟩ : ∃ W, Hid (W3.drew = W) := ⟨_, Lib.hid rfl⟩
  have H10 := Lib.hid (show BW w W9 by rw [← HW9.out]; exact H7.out.step (drewN_below _ 1))
  clear H7
  have H11 := Lib.hid (show Blk W9 (w.heap.size) 33 #[.int .i64 x.frm, .int .i64 x.to_, .int .i64 x.tape, .int .i64 x.comp, .int .i64 x.slope] by rw [← HW9.out]; exact H8.out.drew)
  clear H8
  have H12 := Lib.hid (show Blk W9 (w.heap.size + 1) 28 #[.int .i64 0, .int .i64 0, .int .i64 0, .int .i64 0, .int .i64 0, .int .i64 0, .int .i64 0, .int .i64 0, .int .i64 0, .int .i64 0, .int .i64 0, .int .i64 0] by rw [← HW9.out]; exact H9.out.drew)
  clear H9
  rw [HW9.out] at hHeld
  try rw [HW9.out]
  clear HW9 hHeld
  obtain ⟨k1, HK1⟩ : ∃ k, Hid (fdN ts x.frm = k) := ⟨_, Lib.hid rfl⟩
  obtain ⟨k2, HK2⟩ : ∃ k, Hid (fdN ts x.to_ = k) := ⟨_, Lib.hid rfl⟩
  cases u1
  · have hnn : fdN ts x.frm = ts.length := by
      have a := (fdN_lim ts x.frm).1
      have b := HU1.out
      unfold hasP pgAt at b
      rcases Nat.lt_or_ge (fdN ts x.frm) ts.length with q | q
      · rw [List.getElem?_eq_getElem q] at b; cases b
      · omega
    obtain rfl : r1 = -1 := by rw [← HR1.out]; exact fdI_none hnn
    clear hnn
    have HA := Lib.hid (HA0.out _ HOK.out (by simp))
    have z0 := H12.out.cell 0
    have f0 := H12.out.frozen 0
    have z1 := H12.out.cell 1
    have f1 := H12.out.frozen 1
    have z2 := H12.out.cell 2
    have f2 := H12.out.frozen 2
    have z3 := H12.out.cell 3
    have f3 := H12.out.frozen 3
    have z4 := H12.out.cell 4
    have f4 := H12.out.frozen 4
    have z5 := H12.out.cell 5
    have f5 := H12.out.frozen 5
    have z6 := H12.out.cell 6
    have f6 := H12.out.frozen 6
    have z7 := H12.out.cell 7
    have f7 := H12.out.frozen 7
    have z8 := H12.out.cell 8
    have f8 := H12.out.frozen 8
    have z9 := H12.out.cell 9
    have f9 := H12.out.frozen 9
    have z10 := H12.out.cell 10
    have f10 := H12.out.frozen 10
    have z11 := H12.out.cell 11
    have f11 := H12.out.frozen 11
    have zl := H12.out.lt
    simp at z0 z1 z2 z3 z4 z5 z6 z7 z8 z9 z10 z11
    go_wp2_with fail
    refine bodyPost_ret (v := .tuple #[.agg #[.int .i64 0, .int .i64 0, .int .i64 0, .int .i64 0, .int .i64 0, .int .i64 0, .int .i64 0, .int .i64 0, .int .i64 0, .int .i64 0, .int .i64 0, .int .i64 0], .bool false]) (by simp [results, Tryd.results6, go_sem, *]) rfl ⟨by rw [HA.out]; rfl, ?_⟩
    exact (show Below w.heap.size w _ from ((((((((((((H10.out.far (R := w.heap.size + 1) (by omega) 0 _).far (R := w.heap.size + 1) (by omega) 1 _).far (R := w.heap.size + 1) (by omega) 2 _).far (R := w.heap.size + 1) (by omega) 3 _).far (R := w.heap.size + 1) (by omega) 4 _).far (R := w.heap.size + 1) (by omega) 5 _).far (R := w.heap.size + 1) (by omega) 6 _).far (R := w.heap.size + 1) (by omega) 7 _).far (R := w.heap.size + 1) (by omega) 8 _).far (R := w.heap.size + 1) (by omega) 9 _).far (R := w.heap.size + 1) (by omega) 10 _).far (R := w.heap.size + 1) (by omega) 11 _))
  have ek1 := hasP_at HU1.out
  rw [HPP.out] at ek1
  unfold pgAt at ek1
  rw [HK1.out] at ek1
  have lk1 : k1 < n := by rw [← hL.out]; exact lt_at ek1
  obtain rfl : r1 = (k1 : Int) := by rw [← HR1.out]; exact fdI_some HK1.out (by rw [hL.out]; exact lk1)
  have hik1 : (k1 : Int) < (n : Int) := by omega
  have hjk1 : (0 : Int) ≤ (k1 : Int) := by omega
  have hdk1 : decide ((k1 : Int) < 0) = false := by simp
  cases u2
  · have hnn : fdN ts x.to_ = ts.length := by
      have a := (fdN_lim ts x.to_).1
      have b := HU2.out
      unfold hasP pgAt at b
      rcases Nat.lt_or_ge (fdN ts x.to_) ts.length with q | q
      · rw [List.getElem?_eq_getElem q] at b; cases b
      · omega
    obtain rfl : r2 = -1 := by rw [← HR2.out]; exact fdI_none hnn
    clear hnn
    have HA := Lib.hid (HA0.out _ HOK.out (by simp))
    have z0 := H12.out.cell 0
    have f0 := H12.out.frozen 0
    have z1 := H12.out.cell 1
    have f1 := H12.out.frozen 1
    have z2 := H12.out.cell 2
    have f2 := H12.out.frozen 2
    have z3 := H12.out.cell 3
    have f3 := H12.out.frozen 3
    have z4 := H12.out.cell 4
    have f4 := H12.out.frozen 4
    have z5 := H12.out.cell 5
    have f5 := H12.out.frozen 5
    have z6 := H12.out.cell 6
    have f6 := H12.out.frozen 6
    have z7 := H12.out.cell 7
    have f7 := H12.out.frozen 7
    have z8 := H12.out.cell 8
    have f8 := H12.out.frozen 8
    have z9 := H12.out.cell 9
    have f9 := H12.out.frozen 9
    have z10 := H12.out.cell 10
    have f10 := H12.out.frozen 10
    have z11 := H12.out.cell 11
    have f11 := H12.out.frozen 11
    have zl := H12.out.lt
    simp at z0 z1 z2 z3 z4 z5 z6 z7 z8 z9 z10 z11
    go_wp2_with fail
    refine bodyPost_ret (v := .tuple #[.agg #[.int .i64 0, .int .i64 0, .int .i64 0, .int .i64 0, .int .i64 0, .int .i64 0, .int .i64 0, .int .i64 0, .int .i64 0, .int .i64 0, .int .i64 0, .int .i64 0], .bool false]) (by simp [results, Tryd.results6, go_sem, *]) rfl ⟨by rw [HA.out]; rfl, ?_⟩
    exact (show Below w.heap.size w _ from ((((((((((((H10.out.far (R := w.heap.size + 1) (by omega) 0 _).far (R := w.heap.size + 1) (by omega) 1 _).far (R := w.heap.size + 1) (by omega) 2 _).far (R := w.heap.size + 1) (by omega) 3 _).far (R := w.heap.size + 1) (by omega) 4 _).far (R := w.heap.size + 1) (by omega) 5 _).far (R := w.heap.size + 1) (by omega) 6 _).far (R := w.heap.size + 1) (by omega) 7 _).far (R := w.heap.size + 1) (by omega) 8 _).far (R := w.heap.size + 1) (by omega) 9 _).far (R := w.heap.size + 1) (by omega) 10 _).far (R := w.heap.size + 1) (by omega) 11 _))
  have ek2 := hasP_at HU2.out
  rw [HQQ.out] at ek2
  unfold pgAt at ek2
  rw [HK2.out] at ek2
  have lk2 : k2 < n := by rw [← hL.out]; exact lt_at ek2
  obtain rfl : r2 = (k2 : Int) := by rw [← HR2.out]; exact fdI_some HK2.out (by rw [hL.out]; exact lk2)
  have hik2 : (k2 : Int) < (n : Int) := by omega
  have hjk2 : (0 : Int) ≤ (k2 : Int) := by omega
  have hdk2 : decide ((k2 : Int) < 0) = false := by simp
  obtain ⟨g, rfl, hg, a0, a1, a2, a3, a4⟩ := hts.out.2 k1 p ek1
  obtain ⟨g9, e9, hg9, d0, d1, d2, d3, d4⟩ := hts.out.2 k2 q ek2
  have hgg : g9 = g := (congrArg Addr.block (Option.some.inj e9)).symm
  subst hgg
  have HC1 := Lib.hid (show C5 w g9 (k1 * 5) p from ⟨⟨a0, a1, a2, a3, a4⟩, hg⟩)
  have HC2 := Lib.hid (show C5 w g9 (k2 * 5) q from ⟨⟨d0, d1, d2, d3, d4⟩, hg9⟩)
  clear a0 a1 a2 a3 a4 d0 d1 d2 d3 d4 ek1 ek2 e9
  obtain ⟨s, HS⟩ : ∃ s, Hid (shf x = s) := ⟨_, Lib.hid rfl⟩
  obtain ⟨s0, Hs0⟩ : ∃ s, Hid (walS p.lf (x.comp - 90) = s) := ⟨_, Lib.hid rfl⟩
  obtain ⟨s1, Hs1⟩ : ∃ s, Hid (walS p.rt (x.comp + 90) = s) := ⟨_, Lib.hid rfl⟩
  obtain ⟨t2, Ht2⟩ : ∃ s, Hid (walS q.lf (x.comp - 90) = s) := ⟨_, Lib.hid rfl⟩
  obtain ⟨t3, Ht3⟩ : ∃ s, Hid (walS q.rt (x.comp + 90) = s) := ⟨_, Lib.hid rfl⟩
  obtain ⟨s2, Hs2⟩ : ∃ c, Hid (add3 s t2 = c) := ⟨_, Lib.hid rfl⟩
  obtain ⟨s3, Hs3⟩ : ∃ c, Hid (add3 s t3 = c) := ⟨_, Lib.hid rfl⟩
  obtain ⟨-, ⟨p0, p1⟩, ⟨p2, p3⟩, -⟩ := okPg_lim HOP.out
  obtain ⟨-, ⟨q0, q1⟩, ⟨q2, q3⟩, -⟩ := okPg_lim HOQ.out
  have hsb := shf_bd HG2.out
  rw [HS.out] at hsb
  obtain ⟨sb0, sb1, sb2⟩ := hsb
  have hb2 := walS_lim q0 q1 (x.comp - 90)
  rw [Ht2.out] at hb2
  obtain ⟨c20, c21, c22⟩ := hb2
  have hb3 := walS_lim q2 q3 (x.comp + 90)
  rw [Ht3.out] at hb3
  obtain ⟨c30, c31, c32⟩ := hb3
  have HBS := Lib.hid sb0
  have HBS1 := Lib.hid sb1
  have HBS2 := Lib.hid sb2
  have HC20 := Lib.hid c20
  have HC21 := Lib.hid c21
  have HC22 := Lib.hid c22
  have HC30 := Lib.hid c30
  have HC31 := Lib.hid c31
  have HC32 := Lib.hid c32
  clear sb0 sb1 sb2 c20 c21 c22 c30 c31 c32
  have hwa : IntKind.i64.wrap (x.comp - 90) = x.comp - 90 := IntWalk.i64_in _ (by omega)
  have hwb : IntKind.i64.wrap (x.comp + 90) = x.comp + 90 := IntWalk.i64_in _ (by omega)
  have HA := Lib.hid (show ansWa ts x = .tuple #[.agg #[.int .i64 s0.east, .int .i64 s0.north, .int .i64 s0.up, .int .i64 s1.east, .int .i64 s1.north, .int .i64 s1.up, .int .i64 s2.east, .int .i64 s2.north, .int .i64 s2.up, .int .i64 s3.east, .int .i64 s3.north, .int .i64 s3.up], .bool true] by unfold ansWa waV; rw [HOK.out]; show ansWl (walls (pgZ ts x.frm) (pgZ ts x.to_) x) true = _; unfold ansWl walls; rw [HPP.out, HQQ.out, HS.out, Hs0.out, Hs1.out, Ht2.out, Ht3.out, Hs2.out, Hs3.out])
  have b0 := H11.out.cell 3
  have bl := H11.out.lt
  simp at b0
  go_upto_region 6 with fail
  go_quiet (fail)
  clear b0 bl
  obtain ⟨W10, HWN⟩ : ∃ W, Hid (W9.drewN nq = W) := ⟨_, Lib.hid rfl⟩
  have H13 := Lib.hid (show BW w W10 by rw [← HWN.out]; exact H10.out.step (drewN_below _ _))
  clear H10
  have H14 := Lib.hid (show Blk W10 (w.heap.size) 33 #[.int .i64 x.frm, .int .i64 x.to_, .int .i64 x.tape, .int .i64 x.comp, .int .i64 x.slope] by rw [← HWN.out]; exact H11.out.drewN _)
  clear H11
  have H15 := Lib.hid (show Blk W10 (w.heap.size + 1) 28 #[.int .i64 0, .int .i64 0, .int .i64 0, .int .i64 0, .int .i64 0, .int .i64 0, .int .i64 0, .int .i64 0, .int .i64 0, .int .i64 0, .int .i64 0, .int .i64 0] by rw [← HWN.out]; exact H12.out.drewN _)
  clear H12
  rw [HWN.out]
  clear HWN
  have q_legl := H14.out.lt
  have q_leg0 : W10.cell? ⟨w.heap.size, 0, none⟩ = some (.int .i64 x.frm) := H14.out.cell 0
  have q_leg1 : W10.cell? ⟨w.heap.size, 1, none⟩ = some (.int .i64 x.to_) := H14.out.cell 1
  have q_leg2 : W10.cell? ⟨w.heap.size, 2, none⟩ = some (.int .i64 x.tape) := H14.out.cell 2
  have q_leg3 : W10.cell? ⟨w.heap.size, 3, none⟩ = some (.int .i64 x.comp) := H14.out.cell 3
  have q_leg4 : W10.cell? ⟨w.heap.size, 4, none⟩ = some (.int .i64 x.slope) := H14.out.cell 4
  go_wp2_with fail
  clear q_legl q_leg0 q_leg1 q_leg2 q_leg3 q_leg4
  refine (shift_is x s HS _ HG2).mono ?_
  rintro e W4 ⟨rfl, b⟩
  have H16 := Lib.hid (show BW w W4 from H13.out.step b)
  have H17 := Lib.hid (show Blk W4 (w.heap.size) 33 #[.int .i64 x.frm, .int .i64 x.to_, .int .i64 x.tape, .int .i64 x.comp, .int .i64 x.slope] from H14.out.below b H14.out.lt)
  have H18 := Lib.hid (show Blk W4 (w.heap.size + 1) 28 #[.int .i64 0, .int .i64 0, .int .i64 0, .int .i64 0, .int .i64 0, .int .i64 0, .int .i64 0, .int .i64 0, .int .i64 0, .int .i64 0, .int .i64 0, .int .i64 0] from H15.out.below b H15.out.lt)
  clear b H13 H14 H15
  go_upto_region 8 with fail
  have hXR := H18.out.lt
  obtain ⟨W5, HW⟩ : ∃ W5, Hid (W4.alloc (.cells #[.int .i64 s.east, .int .i64 s.north, .int .i64 s.up] 27) = W5) := ⟨_, Lib.hid rfl⟩
  have H19 := Lib.hid (show BW w W5 by rw [← HW.out]; exact (H16.out.alloc _))
  have H20 := Lib.hid (show Blk W5 (w.heap.size) 33 #[.int .i64 x.frm, .int .i64 x.to_, .int .i64 x.tape, .int .i64 x.comp, .int .i64 x.slope] by rw [← HW.out]; exact (H17.out.alloc _))
  have H21 := Lib.hid (show Blk W5 (w.heap.size + 1) 28 #[.int .i64 0, .int .i64 0, .int .i64 0, .int .i64 0, .int .i64 0, .int .i64 0, .int .i64 0, .int .i64 0, .int .i64 0, .int .i64 0, .int .i64 0, .int .i64 0] by rw [← HW.out]; exact (H18.out.alloc _))
  have H22 := Lib.hid (show Blk W5 (W4.heap.size) 27 #[.int .i64 s.east, .int .i64 s.north, .int .i64 s.up] by rw [← HW.out]; exact Blk.new _ _ _)
  rw [HW.out]
  clear HW H16 H17 H18
  obtain ⟨X, HXN⟩ : ∃ X, Hid (W4.heap.size = X) := ⟨_, Lib.hid rfl⟩
  rw [HXN.out] at H22 hXR
  try simp only [HXN.out]
  clear HXN
  have HRq0 := Lib.hid (show Blk W5.drew (w.heap.size + 1) 28 #[.int .i64 0, .int .i64 0, .int .i64 0, .int .i64 0, .int .i64 0, .int .i64 0, .int .i64 0, .int .i64 0, .int .i64 0, .int .i64 0, .int .i64 0, .int .i64 0] from H21.out.drew)
  refine wp_region_held_drew (S := (fun v : World => v.cell? ⟨g9, k1 * 5 + 1, none⟩ = some (.int .i64 p.lf) ∧ v.cell? ⟨g9, k1 * 5 + 2, none⟩ = some (.int .i64 p.rt) ∧ v.cell? ⟨g9, k2 * 5 + 1, none⟩ = some (.int .i64 q.lf) ∧ v.cell? ⟨g9, k2 * 5 + 2, none⟩ = some (.int .i64 q.rt) ∧ v.cell? ⟨X, 0, none⟩ = some (.int .i64 s.east) ∧ v.cell? ⟨X, 1, none⟩ = some (.int .i64 s.north) ∧ v.cell? ⟨X, 2, none⟩ = some (.int .i64 s.up) ∧ X < v.heap.size ∧ NW w X s v)) (by kernel_rfl) ?_ (fun hHeld => ?_)
  · exact pw_mk HC1.out HC2.out ((⟨H19.out.step (drewN_below _ 1), H22.out.drew⟩ : NW w X s _))
  refine' wpAnyH_take (i := 0) (v := ?vr2_0) rfl (by kernel_rfl) (by kernel_rfl) (by kernel_rfl) (fun _ _ _ h => h) (Or.inl ⟨by rfl, ?hyr2_0⟩) (by assumption) ?restr2_0
  case hyr2_0 => (intro w hSw; (try dsimp only at hSw); go_simp; try (with_reducible rfl))
  simp only [Act.put, List.getElem_toArray, List.getElem_cons_succ, List.getElem_cons_zero, List.setIfInBounds_toArray, List.set_cons_zero, List.set_cons_succ]
  refine' wpAnyH_take (i := 1) (v := ?vr2_1) rfl (by kernel_rfl) (by kernel_rfl) (by kernel_rfl) (fun _ _ _ h => h) (Or.inl ⟨by rfl, ?hyr2_1⟩) (by assumption) ?restr2_1
  case hyr2_1 => (intro w hSw; (try dsimp only at hSw); go_simp; try (with_reducible rfl))
  simp only [Act.put, List.getElem_toArray, List.getElem_cons_succ, List.getElem_cons_zero, List.setIfInBounds_toArray, List.set_cons_zero, List.set_cons_succ]
  refine' wpAnyH_take (i := 2) (v := ?vr2_2) rfl (by kernel_rfl) (by kernel_rfl) (by kernel_rfl) (fun _ _ _ h => h) (Or.inl ⟨by rfl, ?hyr2_2⟩) (by assumption) ?restr2_2
  case hyr2_2 => (intro w hSw; (try dsimp only at hSw); go_simp; try (with_reducible rfl))
  simp only [Act.put, List.getElem_toArray, List.getElem_cons_succ, List.getElem_cons_zero, List.setIfInBounds_toArray, List.set_cons_zero, List.set_cons_succ]
  refine' wpAnyH_take (i := 3) (v := ?vr2_3) rfl (by kernel_rfl) (by kernel_rfl) (by kernel_rfl) (fun _ _ _ h => h) (Or.inl ⟨by rfl, ?hyr2_3⟩) (by assumption) ?restr2_3
  case hyr2_3 => (intro w hSw; (try dsimp only at hSw); go_simp; try (with_reducible rfl))
  simp only [Act.put, List.getElem_toArray, List.getElem_cons_succ, List.getElem_cons_zero, List.setIfInBounds_toArray, List.set_cons_zero, List.set_cons_succ]
  refine' wpAnyH_take (i := 4) (v := ?vr2_4) rfl (by kernel_rfl) (by kernel_rfl) (by kernel_rfl) (fun _ _ _ h => h) (Or.inl ⟨by rfl, ?hyr2_4⟩) (by assumption) ?restr2_4
  case hyr2_4 => (intro w hSw; (try dsimp only at hSw); go_simp; try (with_reducible rfl))
  simp only [Act.put, List.getElem_toArray, List.getElem_cons_succ, List.getElem_cons_zero, List.setIfInBounds_toArray, List.set_cons_zero, List.set_cons_succ]
  refine' wpAnyH_take (i := 5) (v := ?vr2_5) rfl (by kernel_rfl) (by kernel_rfl) (by kernel_rfl) (fun _ _ _ h => h) (Or.inl ⟨by rfl, ?hyr2_5⟩) (by assumption) ?restr2_5
  case hyr2_5 => (intro w hSw; (try dsimp only at hSw); go_simp; try (with_reducible rfl))
  simp only [Act.put, List.getElem_toArray, List.getElem_cons_succ, List.getElem_cons_zero, List.setIfInBounds_toArray, List.set_cons_zero, List.set_cons_succ]
  refine' wpAnyH_take (i := 7) (v := ?vr2_7) rfl (by kernel_rfl) (by kernel_rfl) (by kernel_rfl) (fun _ _ _ h => h) (Or.inl ⟨by rfl, ?hyr2_7⟩) (by assumption) ?restr2_7
  case hyr2_7 => (intro w hSw; (try dsimp only at hSw); go_simp; try (with_reducible rfl))
  simp only [Act.put, List.getElem_toArray, List.getElem_cons_succ, List.getElem_cons_zero, List.setIfInBounds_toArray, List.set_cons_zero, List.set_cons_succ]
  refine' wpAnyH_take (i := 8) (v := ?vr2_8) rfl (by kernel_rfl) (by kernel_rfl) (by kernel_rfl) (fun _ _ _ h => h) (Or.inl ⟨by rfl, ?hyr2_8⟩) (by assumption) ?restr2_8
  case hyr2_8 => (intro w hSw; (try dsimp only at hSw); go_simp; try (with_reducible rfl))
  simp only [Act.put, List.getElem_toArray, List.getElem_cons_succ, List.getElem_cons_zero, List.setIfInBounds_toArray, List.set_cons_zero, List.set_cons_succ]
  refine' wpAnyH_take (i := 9) (v := ?vr2_9) rfl (by kernel_rfl) (by kernel_rfl) (by kernel_rfl) (fun _ _ _ h => h) (Or.inl ⟨by rfl, ?hyr2_9⟩) (by assumption) ?restr2_9
  case hyr2_9 => (intro w hSw; (try dsimp only at hSw); go_simp; try (with_reducible rfl))
  simp only [Act.put, List.getElem_toArray, List.getElem_cons_succ, List.getElem_cons_zero, List.setIfInBounds_toArray, List.set_cons_zero, List.set_cons_succ]
  refine' wpAnyH_take (i := 10) (v := ?vr2_10) rfl (by kernel_rfl) (by kernel_rfl) (by kernel_rfl) (fun _ _ _ h => h) (Or.inl ⟨by rfl, ?hyr2_10⟩) (by assumption) ?restr2_10
  case hyr2_10 => (intro w hSw; (try dsimp only at hSw); go_simp; try (with_reducible rfl))
  simp only [Act.put, List.getElem_toArray, List.getElem_cons_succ, List.getElem_cons_zero, List.setIfInBounds_toArray, List.set_cons_zero, List.set_cons_succ]
  refine' wpAnyH_take (i := 11) (v := ?vr2_11) rfl (by kernel_rfl) (by kernel_rfl) (by kernel_rfl) (fun _ _ _ h => h) (Or.inl ⟨by rfl, ?hyr2_11⟩) (by assumption) ?restr2_11
  case hyr2_11 => (intro w hSw; (try dsimp only at hSw); go_simp; try (with_reducible rfl))
  simp only [Act.put, List.getElem_toArray, List.getElem_cons_succ, List.getElem_cons_zero, List.setIfInBounds_toArray, List.set_cons_zero, List.set_cons_succ]
  refine' wpAnyH_take (i := 12) (v := ?vr2_12) rfl (by kernel_rfl) (by kernel_rfl) (by kernel_rfl) (fun _ _ _ h => h) (Or.inl ⟨by rfl, ?hyr2_12⟩) (by assumption) ?restr2_12
  case hyr2_12 => (intro w hSw; (try dsimp only at hSw); go_simp; try (with_reducible rfl))
  simp only [Act.put, List.getElem_toArray, List.getElem_cons_succ, List.getElem_cons_zero, List.setIfInBounds_toArray, List.set_cons_zero, List.set_cons_succ]
  refine' wpAnyH_take (i := 14) (v := ?vr2_14) rfl (by kernel_rfl) (by kernel_rfl) (by kernel_rfl) (fun _ _ _ h => h) (Or.inl ⟨by rfl, ?hyr2_14⟩) (by assumption) ?restr2_14
  case hyr2_14 => (intro w hSw; (try dsimp only at hSw); go_simp; try (with_reducible rfl))
  simp only [Act.put, List.getElem_toArray, List.getElem_cons_succ, List.getElem_cons_zero, List.setIfInBounds_toArray, List.set_cons_zero, List.set_cons_succ]
  refine' wpAnyH_take (i := 15) (v := ?vr2_15) rfl (by kernel_rfl) (by kernel_rfl) (by kernel_rfl) (fun _ _ _ h => h) (Or.inl ⟨by rfl, ?hyr2_15⟩) (by assumption) ?restr2_15
  case hyr2_15 => (intro w hSw; (try dsimp only at hSw); go_simp; try (with_reducible rfl))
  simp only [Act.put, List.getElem_toArray, List.getElem_cons_succ, List.getElem_cons_zero, List.setIfInBounds_toArray, List.set_cons_zero, List.set_cons_succ]
  refine' wpAnyH_take (i := 16) (v := ?vr2_16) rfl (by kernel_rfl) (by kernel_rfl) (by kernel_rfl) (fun _ _ _ h => h) (Or.inl ⟨by rfl, ?hyr2_16⟩) (by assumption) ?restr2_16
  case hyr2_16 => (intro w hSw; (try dsimp only at hSw); go_simp; try (with_reducible rfl))
  simp only [Act.put, List.getElem_toArray, List.getElem_cons_succ, List.getElem_cons_zero, List.setIfInBounds_toArray, List.set_cons_zero, List.set_cons_succ]
  refine' wpAnyH_take (i := 17) (v := ?vr2_17) rfl (by kernel_rfl) (by kernel_rfl) (by kernel_rfl) (fun _ _ _ h => h) (Or.inl ⟨by rfl, ?hyr2_17⟩) (by assumption) ?restr2_17
  case hyr2_17 => (intro w hSw; (try dsimp only at hSw); go_simp; try (with_reducible rfl))
  simp only [Act.put, List.getElem_toArray, List.getElem_cons_succ, List.getElem_cons_zero, List.setIfInBounds_toArray, List.set_cons_zero, List.set_cons_succ]
  refine' wpAnyH_take (i := 18) (v := ?vr2_18) rfl (by kernel_rfl) (by kernel_rfl) (by kernel_rfl) (fun _ _ _ h => h) (Or.inl ⟨by rfl, ?hyr2_18⟩) (by assumption) ?restr2_18
  case hyr2_18 => (intro w hSw; (try dsimp only at hSw); go_simp; try (with_reducible rfl))
  simp only [Act.put, List.getElem_toArray, List.getElem_cons_succ, List.getElem_cons_zero, List.setIfInBounds_toArray, List.set_cons_zero, List.set_cons_succ]
  refine' wpAnyH_take (i := 19) (v := ?vr2_19) rfl (by kernel_rfl) (by kernel_rfl) (by kernel_rfl) (fun _ _ _ h => h) (Or.inl ⟨by rfl, ?hyr2_19⟩) (by assumption) ?restr2_19
  case hyr2_19 => (intro w hSw; (try dsimp only at hSw); go_simp; try (with_reducible rfl))
  simp only [Act.put, List.getElem_toArray, List.getElem_cons_succ, List.getElem_cons_zero, List.setIfInBounds_toArray, List.set_cons_zero, List.set_cons_succ]
  refine' wpAnyH_take (i := 20) (v := ?vr2_20) rfl (by kernel_rfl) (by kernel_rfl) (by kernel_rfl) (fun _ _ _ h => h) (Or.inl ⟨by rfl, ?hyr2_20⟩) (by assumption) ?restr2_20
  case hyr2_20 => (intro w hSw; (try dsimp only at hSw); go_simp; try (with_reducible rfl))
  simp only [Act.put, List.getElem_toArray, List.getElem_cons_succ, List.getElem_cons_zero, List.setIfInBounds_toArray, List.set_cons_zero, List.set_cons_succ]
  refine' wpAnyH_take (i := 23) (v := ?vr2_23) rfl (by kernel_rfl) (by kernel_rfl) (by kernel_rfl) (fun _ _ _ h => h) (Or.inl ⟨by rfl, ?hyr2_23⟩) (by assumption) ?restr2_23
  case hyr2_23 => (intro w hSw; (try dsimp only at hSw); go_simp; try (with_reducible rfl))
  simp only [Act.put, List.getElem_toArray, List.getElem_cons_succ, List.getElem_cons_zero, List.setIfInBounds_toArray, List.set_cons_zero, List.set_cons_succ]
  refine' wpAnyH_take (i := 24) (v := ?vr2_24) rfl (by kernel_rfl) (by kernel_rfl) (by kernel_rfl) (fun _ _ _ h => h) (Or.inl ⟨by rfl, ?hyr2_24⟩) (by assumption) ?restr2_24
  case hyr2_24 => (intro w hSw; (try dsimp only at hSw); go_simp; try (with_reducible rfl))
  simp only [Act.put, List.getElem_toArray, List.getElem_cons_succ, List.getElem_cons_zero, List.setIfInBounds_toArray, List.set_cons_zero, List.set_cons_succ]
  refine' wpAnyH_take (i := 25) (v := ?vr2_25) rfl (by kernel_rfl) (by kernel_rfl) (by kernel_rfl) (fun _ _ _ h => h) (Or.inl ⟨by rfl, ?hyr2_25⟩) (by assumption) ?restr2_25
  case hyr2_25 => (intro w hSw; (try dsimp only at hSw); go_simp; try (with_reducible rfl))
  simp only [Act.put, List.getElem_toArray, List.getElem_cons_succ, List.getElem_cons_zero, List.setIfInBounds_toArray, List.set_cons_zero, List.set_cons_succ]
  refine' wpAnyH_take (i := 26) (v := ?vr2_26) rfl (by kernel_rfl) (by kernel_rfl) (by kernel_rfl) (fun _ _ _ h => h) (Or.inl ⟨by rfl, ?hyr2_26⟩) (by assumption) ?restr2_26
  case hyr2_26 => (intro w hSw; (try dsimp only at hSw); go_simp; try (with_reducible rfl))
  simp only [Act.put, List.getElem_toArray, List.getElem_cons_succ, List.getElem_cons_zero, List.setIfInBounds_toArray, List.set_cons_zero, List.set_cons_succ]
  refine' wpAnyH_take (i := 27) (v := ?vr2_27) rfl (by kernel_rfl) (by kernel_rfl) (by kernel_rfl) (fun _ _ _ h => h) (Or.inl ⟨by rfl, ?hyr2_27⟩) (by assumption) ?restr2_27
  case hyr2_27 => (intro w hSw; (try dsimp only at hSw); go_simp; try (with_reducible rfl))
  simp only [Act.put, List.getElem_toArray, List.getElem_cons_succ, List.getElem_cons_zero, List.setIfInBounds_toArray, List.set_cons_zero, List.set_cons_succ]
  refine' wpAnyH_take (i := 28) (v := ?vr2_28) rfl (by kernel_rfl) (by kernel_rfl) (by kernel_rfl) (fun _ _ _ h => h) (Or.inl ⟨by rfl, ?hyr2_28⟩) (by assumption) ?restr2_28
  case hyr2_28 => (intro w hSw; (try dsimp only at hSw); go_simp; try (with_reducible rfl))
  simp only [Act.put, List.getElem_toArray, List.getElem_cons_succ, List.getElem_cons_zero, List.setIfInBounds_toArray, List.set_cons_zero, List.set_cons_succ]
  refine' wpAnyH_take (i := 29) (v := ?vr2_29) rfl (by kernel_rfl) (by kernel_rfl) (by kernel_rfl) (fun _ _ _ h => h) (Or.inl ⟨by rfl, ?hyr2_29⟩) (by assumption) ?restr2_29
  case hyr2_29 => (intro w hSw; (try dsimp only at hSw); go_simp; try (with_reducible rfl))
  simp only [Act.put, List.getElem_toArray, List.getElem_cons_succ, List.getElem_cons_zero, List.setIfInBounds_toArray, List.set_cons_zero, List.set_cons_succ]
  refine wpAnyH_ready (rs := [6]) (by kernel_rfl) (by simp) ?_
  refine AllReadyH.cons rfl (fun K hK => ?_) AllReadyH.nil
  go_simp
  refine (wall_any p.lf (x.comp - 90) s0 _ Hs0 p0 p1 (by omega) (by omega)).mono ?_
  rintro e v1 ⟨rfl, b1⟩
  have HRq1 := Lib.hid (HRq0.out.below b1 HRq0.out.lt)
  refine hK.out _ _ (pw_mk HC1.out HC2.out (hHeld.2.2.2.2.2.2.2.2.step b1)) (fun hHeld1 => ?_)
  clear hK K hHeld
  have hHeld := hHeld1
  clear hHeld1
  try simp only [Act.put, List.getElem_toArray, List.getElem_cons_succ, List.getElem_cons_zero, List.setIfInBounds_toArray, List.set_cons_zero, List.set_cons_succ]
  refine wpAnyH_ready (rs := [13]) (by kernel_rfl) (by simp) ?_
  refine AllReadyH.cons rfl (fun K hK => ?_) AllReadyH.nil
  go_simp
  refine (wall_any p.rt (x.comp + 90) s1 _ Hs1 p2 p3 (by omega) (by omega)).mono ?_
  rintro e v2 ⟨rfl, b1⟩
  have HRq2 := Lib.hid (HRq1.out.below b1 HRq1.out.lt)
  refine hK.out _ _ (pw_mk HC1.out HC2.out (hHeld.2.2.2.2.2.2.2.2.step b1)) (fun hHeld1 => ?_)
  clear hK K hHeld
  have hHeld := hHeld1
  clear hHeld1
  try simp only [Act.put, List.getElem_toArray, List.getElem_cons_succ, List.getElem_cons_zero, List.setIfInBounds_toArray, List.set_cons_zero, List.set_cons_succ]
  refine wpAnyH_ready (rs := [21]) (by kernel_rfl) (by simp) ?_
  refine AllReadyH.cons rfl (fun K hK => ?_) AllReadyH.nil
  go_simp
  refine (wall_any q.lf (x.comp - 90) t2 _ Ht2 q0 q1 (by omega) (by omega)).mono ?_
  rintro e v3 ⟨rfl, b1⟩
  have HRq3 := Lib.hid (HRq2.out.below b1 HRq2.out.lt)
  refine hK.out _ _ (pw_mk HC1.out HC2.out (hHeld.2.2.2.2.2.2.2.2.step b1)) (fun hHeld1 => ?_)
  clear hK K hHeld
  have hHeld := hHeld1
  clear hHeld1
  try simp only [Act.put, List.getElem_toArray, List.getElem_cons_succ, List.getElem_cons_zero, List.setIfInBounds_toArray, List.set_cons_zero, List.set_cons_succ]
  refine wpAnyH_ready (rs := [22]) (by kernel_rfl) (by simp) ?_
  refine AllReadyH.cons rfl (fun K hK => ?_) AllReadyH.nil
  go_simp
  refine (plus_is s t2 s2 Hs2 500 _ (by decide) (by decide) HBS.out HBS1.out HBS2.out HC20.out HC21.out HC22.out).mono ?_
  rintro e v4 ⟨rfl, b1⟩
  have HRq4 := Lib.hid (HRq3.out.below b1 HRq3.out.lt)
  refine hK.out _ _ (pw_mk HC1.out HC2.out (hHeld.2.2.2.2.2.2.2.2.step b1)) (fun hHeld1 => ?_)
  clear hK K hHeld
  have hHeld := hHeld1
  clear hHeld1
  try simp only [Act.put, List.getElem_toArray, List.getElem_cons_succ, List.getElem_cons_zero, List.setIfInBounds_toArray, List.set_cons_zero, List.set_cons_succ]
  refine wpAnyH_ready (rs := [30]) (by kernel_rfl) (by simp) ?_
  refine AllReadyH.cons rfl (fun K hK => ?_) AllReadyH.nil
  go_simp
  refine (wall_any q.rt (x.comp + 90) t3 _ Ht3 q2 q3 (by omega) (by omega)).mono ?_
  rintro e v5 ⟨rfl, b1⟩
  have HRq5 := Lib.hid (HRq4.out.below b1 HRq4.out.lt)
  refine hK.out _ _ (pw_mk HC1.out HC2.out (hHeld.2.2.2.2.2.2.2.2.step b1)) (fun hHeld1 => ?_)
  clear hK K hHeld
  have hHeld := hHeld1
  clear hHeld1
  try simp only [Act.put, List.getElem_toArray, List.getElem_cons_succ, List.getElem_cons_zero, List.setIfInBounds_toArray, List.set_cons_zero, List.set_cons_succ]
  refine wpAnyH_ready (rs := [31]) (by kernel_rfl) (by simp) ?_
  refine AllReadyH.cons rfl (fun K hK => ?_) AllReadyH.nil
  go_simp
  refine (plus_is s t3 s3 Hs3 500 _ (by decide) (by decide) HBS.out HBS1.out HBS2.out HC30.out HC31.out HC32.out).mono ?_
  rintro e v6 ⟨rfl, b1⟩
  have HRq6 := Lib.hid (HRq5.out.below b1 HRq5.out.lt)
  refine hK.out _ _ (pw_mk HC1.out HC2.out (hHeld.2.2.2.2.2.2.2.2.step b1)) (fun hHeld1 => ?_)
  clear hK K hHeld
  have hHeld := hHeld1
  clear hHeld1
  try simp only [Act.put, List.getElem_toArray, List.getElem_cons_succ, List.getElem_cons_zero, List.setIfInBounds_toArray, List.set_cons_zero, List.set_cons_succ]
  refine' wpAnyH_take (i := 32) (v := ?vr2_32) rfl (by kernel_rfl) (by kernel_rfl) (by kernel_rfl) (fun _ _ _ h => h) (Or.inl ⟨by rfl, ?hyr2_32⟩) (by assumption) ?restr2_32
  case hyr2_32 => (intro w hSw; (try dsimp only at hSw); go_simp; try (with_reducible rfl))
  simp only [Act.put, List.getElem_toArray, List.getElem_cons_succ, List.getElem_cons_zero, List.setIfInBounds_toArray, List.set_cons_zero, List.set_cons_succ]
  have z0 := HRq6.out.cell 0
  have z1 := HRq6.out.cell 1
  have z2 := HRq6.out.cell 2
  have z3 := HRq6.out.cell 3
  have z4 := HRq6.out.cell 4
  have z5 := HRq6.out.cell 5
  have z6 := HRq6.out.cell 6
  have z7 := HRq6.out.cell 7
  have z8 := HRq6.out.cell 8
  have z9 := HRq6.out.cell 9
  have z10 := HRq6.out.cell 10
  have z11 := HRq6.out.cell 11
  have f0 := HRq6.out.frozen 0
  have f1 := HRq6.out.frozen 1
  have f2 := HRq6.out.frozen 2
  have f3 := HRq6.out.frozen 3
  have f4 := HRq6.out.frozen 4
  have f5 := HRq6.out.frozen 5
  have f6 := HRq6.out.frozen 6
  have f7 := HRq6.out.frozen 7
  have f8 := HRq6.out.frozen 8
  have f9 := HRq6.out.frozen 9
  have f10 := HRq6.out.frozen 10
  have f11 := HRq6.out.frozen 11
  have zl := HRq6.out.lt
  simp at z0 z1 z2 z3 z4 z5 z6 z7 z8 z9 z10 z11
  have HRF := Lib.hid (blk_put HRq6.out (.int .i64 s0.east) (.int .i64 s0.north) (.int .i64 s0.up) (.int .i64 s1.east) (.int .i64 s1.north) (.int .i64 s1.up) (.int .i64 s2.east) (.int .i64 s2.north) (.int .i64 s2.up) (.int .i64 s3.east) (.int .i64 s3.north) (.int .i64 s3.up))
  refine wpAnyH_ready (rs := [33]) (by kernel_rfl) (by simp) ?_
  refine AllReadyH.cons rfl (fun K hK => ?_) AllReadyH.nil
  go_simp
  refine hK.out _ _ (pw_mk HC1.out HC2.out (nw_put hHeld.2.2.2.2.2.2.2.2 (by omega) (by omega) _ _ _ _ _ _ _ _ _ _ _ _)) (fun hHeld1 => ?_)
  clear hK K hHeld
  have hHeld := hHeld1
  clear hHeld1
  try simp only [Act.put, List.getElem_toArray, List.getElem_cons_succ, List.getElem_cons_zero, List.setIfInBounds_toArray, List.set_cons_zero, List.set_cons_succ]
  refine' wpAnyH_take (i := 34) (v := ?vr2_34) rfl (by kernel_rfl) (by kernel_rfl) (by kernel_rfl) (fun _ _ _ h => h) (Or.inl ⟨by rfl, ?hyr2_34⟩) (by assumption) ?restr2_34
  case hyr2_34 => (intro w hSw; (try dsimp only at hSw); go_simp; try (with_reducible rfl))
  simp only [Act.put, List.getElem_toArray, List.getElem_cons_succ, List.getElem_cons_zero, List.setIfInBounds_toArray, List.set_cons_zero, List.set_cons_succ]
  refine wpAnyH_done (by kernel_rfl) ?_ _
  clear z0 f0 z1 f1 z2 f2 z3 f3 z4 f4 z5 f5 z6 f6 z7 f7 z8 f8 z9 f9 z10 f10 z11 f11 zl
  obtain ⟨U, HUN⟩ : ∃ W, Hid (((((((((((((v6.setCell ⟨w.heap.size + 1, 0, none⟩ (.int .i64 s0.east)).setCell ⟨w.heap.size + 1, 1, none⟩ (.int .i64 s0.north)).setCell ⟨w.heap.size + 1, 2, none⟩ (.int .i64 s0.up)).setCell ⟨w.heap.size + 1, 3, none⟩ (.int .i64 s1.east)).setCell ⟨w.heap.size + 1, 4, none⟩ (.int .i64 s1.north)).setCell ⟨w.heap.size + 1, 5, none⟩ (.int .i64 s1.up)).setCell ⟨w.heap.size + 1, 6, none⟩ (.int .i64 s2.east)).setCell ⟨w.heap.size + 1, 7, none⟩ (.int .i64 s2.north)).setCell ⟨w.heap.size + 1, 8, none⟩ (.int .i64 s2.up)).setCell ⟨w.heap.size + 1, 9, none⟩ (.int .i64 s3.east)).setCell ⟨w.heap.size + 1, 10, none⟩ (.int .i64 s3.north)).setCell ⟨w.heap.size + 1, 11, none⟩ (.int .i64 s3.up)) = W) := ⟨_, Lib.hid rfl⟩
  rw [HUN.out] at HRF hHeld
  try rw [HUN.out]
  clear HUN
  have HBF := Lib.hid (show Below w.heap.size w U from hHeld.2.2.2.2.2.2.2.2.1)
  clear hHeld
  have z0 := HRF.out.cell 0
  have z1 := HRF.out.cell 1
  have z2 := HRF.out.cell 2
  have z3 := HRF.out.cell 3
  have z4 := HRF.out.cell 4
  have z5 := HRF.out.cell 5
  have z6 := HRF.out.cell 6
  have z7 := HRF.out.cell 7
  have z8 := HRF.out.cell 8
  have z9 := HRF.out.cell 9
  have z10 := HRF.out.cell 10
  have z11 := HRF.out.cell 11
  have zl := HRF.out.lt
  simp at z0 z1 z2 z3 z4 z5 z6 z7 z8 z9 z10 z11
  go_wp2_with fail
  refine bodyPost_ret (v := .tuple #[.agg #[.int .i64 s0.east, .int .i64 s0.north, .int .i64 s0.up, .int .i64 s1.east, .int .i64 s1.north, .int .i64 s1.up, .int .i64 s2.east, .int .i64 s2.north, .int .i64 s2.up, .int .i64 s3.east, .int .i64 s3.north, .int .i64 s3.up], .bool true]) (by simp [results, Tryd.results6, go_sem, *]) rfl ⟨by rw [HA.out], HBF.out⟩
end Go.Proofs.YtnpghhpcloljeaaDoor.pw
