/-
  FnExactAddPoint holds: at every argument AddPoint answers as its model answers, its answer owns its memory, and the arguments read behind the call as they read before it.
  Conditions: none of our own.
-/
import Derived.Test.YtiimegmaokfpgaaVaM
import Derived.Test.YtiimegmaokfpgaaVaN
import Derived.Test.YtiimegmaokfpgaaTyDpM
import Derived.Test.YtiimegmaokfpgaaEnd
import Derived.Test.YtiimegmaokfpgaaRows
import Derived.WalkKit
import Derived.ProofKit
import Derived.OpenShut
import Derived.Carry
namespace Go.Proofs.Ytiimegmaokfpgaa.fnExactAddPoint
open Go.ChangeShapes Go.WideShapes Go.ChangeAt Go.RowKit
open Go.ChangeMaps (open_string shut_string)
open reads base ty va rowi
set_option linter.unusedVariables false
set_option linter.unusedSimpArgs false

theorem own : ownKnob Try.prog.godebug = none := by kernel_rfl
def LawPost (w : World) (e : Ending) (w' : World) : Prop := e = .returned (.bool true) ∧ Below w.heap.size w w'
theorem row_below {w w' : World} {base size n : Nat} {e : TypeId} {v : Value} {xs : List Value} (h : w.ownsRow base e size v n xs) (hb : Below w.heap.size w w') : w'.ownsRow base e size v n xs := h.kept (row := none) ⟨hb.os, hb.tape, hb.output, hb.size, fun j hj _ => hb.block j hj⟩ (by cases v.ownBlock <;> simp)
set_option maxHeartbeats 40000000 in
set_option maxRecDepth 100000 in
theorem walk (A0 : Option Addr) (n0 c0 : Nat) (t0 : List Dp) (x1 : Dp) (w : World) (hm0 : n0 ≤ maxLen) (HA0 : Hid (ty.ArgDp w w.heap.size A0 n0 t0)) : Calls Try.prog 12 #[.slice A0 n0 c0, .agg #[.int .i64 x1.day, .int .i64 x1.tn]] w (LawPost w) := by
  by_cases big0 : 1048576 < n0
  · unfold maxLen at hm0
    go_enter Try.func12, Try.ntmps12
    go_wp2_with fail
    obtain ⟨W1, HW1⟩ : ∃ W1, Hid (w.alloc (.cells #[.int .i64 x1.day, .int .i64 x1.tn] 60) = W1) := ⟨_, Lib.hid rfl⟩
    have H1 := Lib.hid (show Blk W1 (w.heap.size) 60 #[.int .i64 x1.day, .int .i64 x1.tn] by rw [← HW1.out]; exact (Blk.new _ _ _))
    have H2 := Lib.hid (show Below w.heap.size w W1 by rw [← HW1.out]; exact (Below.refl w.heap.size w).alloc (Nat.le_refl _) _)
    rw [HW1.out]
    clear HW1
    refine (ty.sz_decPoint A0 n0 c0 (1048576) _ (by unfold maxLen; omega) (by omega) (by omega)).mono ?_
    rintro e w' ⟨rfl, rfl⟩
    rw [if_pos (by omega)]
    go_wp2_with fail
    go_ret
    exact ⟨rfl, H2.out⟩
  unfold maxLen at hm0
  have hn0 : n0 ≤ 1048576 := by omega
  go_enter Try.func12, Try.ntmps12
  go_wp2_with fail
  obtain ⟨W1, HW1⟩ : ∃ W1, Hid (w.alloc (.cells #[.int .i64 x1.day, .int .i64 x1.tn] 60) = W1) := ⟨_, Lib.hid rfl⟩
  have H1 := Lib.hid (show Blk W1 (w.heap.size) 60 #[.int .i64 x1.day, .int .i64 x1.tn] by rw [← HW1.out]; exact (Blk.new _ _ _))
  have H2 := Lib.hid (show Below w.heap.size w W1 by rw [← HW1.out]; exact (Below.refl w.heap.size w).alloc (Nat.le_refl _) _)
  rw [HW1.out]
  clear HW1
  refine (ty.sz_decPoint A0 n0 c0 (1048576) _ (by unfold maxLen; omega) (by omega) (by omega)).mono ?_
  rintro e w' ⟨rfl, rfl⟩
  rw [if_neg (by omega)]
  clear big0
  have hrl0 : (apV t0 x1).length ≤ 2000000 := by have := apV_len t0 x1; omega
  obtain ⟨N0, HN0⟩ : ∃ N, Hid ((apV t0 x1).length = N) := ⟨_, Lib.hid rfl⟩
  rw [HN0.out] at hrl0
  have hz0 : w.heap.size ≤ W1.heap.size := H2.out.size
  go_wp2_with fail
  obtain ⟨W2, HV⟩ : ∃ V, Hid (W1.drew = V) := ⟨_, Lib.hid rfl⟩
  have b : Below W1.heap.size W1 W2 := by rw [← HV.out]; exact base.drewN_below _ 1
  have hz_W2 : W1.heap.size ≤ W2.heap.size := b.size
  have H3 := Lib.hid (H2.out.trans (b.mono H2.out.size))
  have H4 := Lib.hid (show Blk W2 (w.heap.size) 60 #[.int .i64 x1.day, .int .i64 x1.tn] from H1.out.below b H1.out.lt)
  clear b H2 H1
  refine wp_region_held_drew (S := (fun v : World => v.cell? ⟨w.heap.size, 0, none⟩ = some (.int .i64 x1.day) ∧ v.cell? ⟨w.heap.size, 1, none⟩ = some (.int .i64 x1.tn) ∧ Blk v (w.heap.size) 60 #[.int .i64 x1.day, .int .i64 x1.tn] ∧ Below w.heap.size w v)) (by kernel_rfl) (by rw [HV.out]; exact ⟨H4.out.cell 0, H4.out.cell 1, H4.out, H3.out⟩) (fun hHeld => ?_)
  rw [HV.out] at hHeld ⊢
  clear HV
  refine' wpAnyH_take (i := 0) (v := ?vr1_0) rfl (by kernel_rfl) (by kernel_rfl) (by kernel_rfl) (fun _ _ _ h => h) (Or.inl ⟨by rfl, ?hyr1_0⟩) (by assumption) ?restr1_0
  case hyr1_0 => (intro w hSw; (try dsimp only at hSw); go_simp; try (with_reducible rfl))
  simp only [Act.put, List.getElem_toArray, List.getElem_cons_succ, List.getElem_cons_zero, List.setIfInBounds_toArray, List.set_cons_zero, List.set_cons_succ]
  refine' wpAnyH_take (i := 2) (v := ?vr1_2) rfl (by kernel_rfl) (by kernel_rfl) (by kernel_rfl) (fun _ _ _ h => h) (Or.inl ⟨by rfl, ?hyr1_2⟩) (by assumption) ?restr1_2
  case hyr1_2 => (intro w hSw; (try dsimp only at hSw); go_simp; try (with_reducible rfl))
  simp only [Act.put, List.getElem_toArray, List.getElem_cons_succ, List.getElem_cons_zero, List.setIfInBounds_toArray, List.set_cons_zero, List.set_cons_succ]
  refine wpAnyH_ready (rs := [1]) (by kernel_rfl) (by simp) ?_
  refine AllReadyH.cons rfl (fun K hK => ?_) AllReadyH.nil
  go_simp
  have HArg := Lib.hid (ty.more_decPoint (HA0.out.below H3.out) H3.out.size)
  refine (ty.to_decPointS A0 n0 c0 t0 W2 hn0 HArg).mono ?_
  rintro e W3 ⟨rfl, ⟨cs_p0, hk, hf⟩, b⟩
  have HF_p0 := Lib.hid hf
  clear hf HArg
  have hz_W3 : W2.heap.size ≤ W3.heap.size := b.size
  have H5 := Lib.hid (H3.out.trans (b.mono H3.out.size))
  have H6 := Lib.hid (show Blk W3 (w.heap.size) 60 #[.int .i64 x1.day, .int .i64 x1.tn] from H4.out.below b H4.out.lt)
  clear b H3 H4
  have H7 := Lib.hid hk
  clear hk
  have hlt_p0 := H7.out.lt
  refine hK.out _ _ ⟨H6.out.cell 0, H6.out.cell 1, H6.out, H5.out⟩ (fun hHeld1 => ?_)
  clear hK K hHeld
  have hHeld := hHeld1
  clear hHeld1
  try simp only [Act.put, List.getElem_toArray, List.getElem_cons_succ, List.getElem_cons_zero, List.setIfInBounds_toArray, List.set_cons_zero, List.set_cons_succ]
  refine wpAnyH_ready (rs := [3]) (by kernel_rfl) (by simp) ?_
  refine AllReadyH.cons rfl (fun K hK => ?_) AllReadyH.nil
  go_simp
  refine (ty.to_decPoint x1 _).mono ?_
  rintro e W4 ⟨rfl, b⟩
  have hz_W4 : W3.heap.size ≤ W4.heap.size := b.size
  have H8 := Lib.hid (H5.out.trans (b.mono H5.out.size))
  have H9 := Lib.hid (show Blk W4 (w.heap.size) 60 #[.int .i64 x1.day, .int .i64 x1.tn] from H6.out.below b H6.out.lt)
  have H10 := Lib.hid (show Blk W4 W2.heap.size 42 cs_p0 from H7.out.below b H7.out.lt)
  clear b H5 H6 H7
  refine hK.out _ _ ⟨H9.out.cell 0, H9.out.cell 1, H9.out, H8.out⟩ (fun hHeld1 => ?_)
  clear hK K hHeld
  have hHeld := hHeld1
  clear hHeld1
  try simp only [Act.put, List.getElem_toArray, List.getElem_cons_succ, List.getElem_cons_zero, List.setIfInBounds_toArray, List.set_cons_zero, List.set_cons_succ]
  refine wpAnyH_ready (rs := [4]) (by kernel_rfl) (by simp) ?_
  refine AllReadyH.cons rfl (fun K hK => ?_) AllReadyH.nil
  go_simp
  have HL0 := Lib.hid ((ty.FillDp.at_ HF_p0.out HA0.out.1 H10.out).more (by exact H10.out.lt))
  refine (addPoint_model _ n0 _ t0 x1 _ (.inl ⟨_, rfl, Nat.le_refl _⟩) (by omega) HL0).mono ?_
  rintro e W5 ⟨vw0, rfl, ho0, b⟩
  rw [HN0.out] at ho0
  obtain ⟨Aw0, cw0, rfl⟩ := base.row_slice ho0
  have HO_w0 := Lib.hid (show W5.ownsRow W4.heap.size 42 2 (.slice Aw0 N0 cw0) N0 (ty.flatDp (apV t0 x1)) from ho0)
  have HU_w0 := Lib.hid (show ∀ g, (Value.slice Aw0 N0 cw0).ownBlock = some g → W4.heap.size ≤ g ∧ g < W5.heap.size from fun g e => ho0.lt g e)
  clear ho0
  clear HL0
  have hz_W5 : W4.heap.size ≤ W5.heap.size := b.size
  have H11 := Lib.hid (H8.out.trans (b.mono H8.out.size))
  have H12 := Lib.hid (show Blk W5 (w.heap.size) 60 #[.int .i64 x1.day, .int .i64 x1.tn] from H9.out.below b H9.out.lt)
  have H13 := Lib.hid (show Blk W5 W2.heap.size 42 cs_p0 from H10.out.below b H10.out.lt)
  clear b H8 H9 H10
  refine hK.out _ _ ⟨H12.out.cell 0, H12.out.cell 1, H12.out, H11.out⟩ (fun hHeld1 => ?_)
  clear hK K hHeld
  have hHeld := hHeld1
  clear hHeld1
  try simp only [Act.put, List.getElem_toArray, List.getElem_cons_succ, List.getElem_cons_zero, List.setIfInBounds_toArray, List.set_cons_zero, List.set_cons_succ]
  refine' wpAnyH_take (i := 5) (v := ?vr2_5) rfl (by kernel_rfl) (by kernel_rfl) (by kernel_rfl) (fun _ _ _ h => h) (Or.inl ⟨by rfl, ?hyr2_5⟩) (by assumption) ?restr2_5
  case hyr2_5 => (intro w hSw; (try dsimp only at hSw); go_simp; try (with_reducible rfl))
  simp only [Act.put, List.getElem_toArray, List.getElem_cons_succ, List.getElem_cons_zero, List.setIfInBounds_toArray, List.set_cons_zero, List.set_cons_succ]
  refine' wpAnyH_take (i := 6) (v := ?vr2_6) rfl (by kernel_rfl) (by kernel_rfl) (by kernel_rfl) (fun _ _ _ h => h) (Or.inl ⟨by rfl, ?hyr2_6⟩) (by assumption) ?restr2_6
  case hyr2_6 => (intro w hSw; (try dsimp only at hSw); go_simp; try (with_reducible rfl))
  simp only [Act.put, List.getElem_toArray, List.getElem_cons_succ, List.getElem_cons_zero, List.setIfInBounds_toArray, List.set_cons_zero, List.set_cons_succ]
  refine' wpAnyH_take (i := 7) (v := ?vr2_7) rfl (by kernel_rfl) (by kernel_rfl) (by kernel_rfl) (fun _ _ _ h => h) (Or.inl ⟨by rfl, ?hyr2_7⟩) (by assumption) ?restr2_7
  case hyr2_7 => (intro w hSw; (try dsimp only at hSw); go_simp; try (with_reducible rfl))
  simp only [Act.put, List.getElem_toArray, List.getElem_cons_succ, List.getElem_cons_zero, List.setIfInBounds_toArray, List.set_cons_zero, List.set_cons_succ]
  refine' wpAnyH_take (i := 8) (v := ?vr2_8) rfl (by kernel_rfl) (by kernel_rfl) (by kernel_rfl) (fun _ _ _ h => h) (Or.inl ⟨by rfl, ?hyr2_8⟩) (by assumption) ?restr2_8
  case hyr2_8 => (intro w hSw; (try dsimp only at hSw); go_simp; try (with_reducible rfl))
  simp only [Act.put, List.getElem_toArray, List.getElem_cons_succ, List.getElem_cons_zero, List.setIfInBounds_toArray, List.set_cons_zero, List.set_cons_succ]
  refine' wpAnyH_take (i := 9) (v := ?vr2_9) rfl (by kernel_rfl) (by kernel_rfl) (by kernel_rfl) (fun _ _ _ h => h) (Or.inl ⟨by rfl, ?hyr2_9⟩) (by assumption) ?restr2_9
  case hyr2_9 => (intro w hSw; (try dsimp only at hSw); go_simp; try (with_reducible rfl))
  simp only [Act.put, List.getElem_toArray, List.getElem_cons_succ, List.getElem_cons_zero, List.setIfInBounds_toArray, List.set_cons_zero, List.set_cons_succ]
  refine wpAnyH_done (by kernel_rfl) ?_ _
  clear hHeld
  go_wp2_with fail
  have HArg := Lib.hid (ty.more_decPoint (HA0.out.below H11.out) H11.out.size)
  refine (ty.to_decPointS A0 n0 c0 t0 W5 hn0 HArg).mono ?_
  rintro e W6 ⟨rfl, ⟨cs_x0, hk, hf⟩, b⟩
  have HF_x0 := Lib.hid hf
  clear hf HArg
  have hz_W6 : W5.heap.size ≤ W6.heap.size := b.size
  have H14 := Lib.hid (row_below HO_w0.out b)
  clear HO_w0
  have H15 := Lib.hid (H11.out.trans (b.mono H11.out.size))
  have H16 := Lib.hid (show Blk W6 (w.heap.size) 60 #[.int .i64 x1.day, .int .i64 x1.tn] from H12.out.below b H12.out.lt)
  clear b H11 H12
  have H17 := Lib.hid hk
  clear hk
  have hlt_x0 := H17.out.lt
  have q_x1l := H16.out.lt
  have q_x10 : W6.cell? ⟨w.heap.size, 0, none⟩ = some (.int .i64 x1.day) := H16.out.cell 0
  have q_x11 : W6.cell? ⟨w.heap.size, 1, none⟩ = some (.int .i64 x1.tn) := H16.out.cell 1
  go_wp2_with fail
  clear q_x1l q_x10 q_x11
  refine (ty.to_decPoint x1 _).mono ?_
  rintro e W7 ⟨rfl, b⟩
  have hz_W7 : W6.heap.size ≤ W7.heap.size := b.size
  have H18 := Lib.hid (row_below H14.out b)
  clear H14
  have H19 := Lib.hid (H15.out.trans (b.mono H15.out.size))
  have H20 := Lib.hid (show Blk W7 (w.heap.size) 60 #[.int .i64 x1.day, .int .i64 x1.tn] from H16.out.below b H16.out.lt)
  have H21 := Lib.hid (show Blk W7 W5.heap.size 42 cs_x0 from H17.out.below b H17.out.lt)
  clear b H15 H16 H17
  go_wp2_with fail
  have HL0 := Lib.hid ((ty.FillDp.at_ HF_x0.out HA0.out.1 H21.out).more (by exact H21.out.lt))
  refine (addPoint_impl _ n0 _ t0 x1 _ (.inl ⟨_, rfl, Nat.le_refl _⟩) (by omega) HL0).mono ?_
  rintro e W8 ⟨vg0, rfl, ho0, b⟩
  rw [HN0.out] at ho0
  obtain ⟨Ag0, cg0, rfl⟩ := base.row_slice ho0
  have HO_g0 := Lib.hid (show W8.ownsRow W7.heap.size 42 2 (.slice Ag0 N0 cg0) N0 (ty.flatDp (apV t0 x1)) from ho0)
  have HU_g0 := Lib.hid (show ∀ g, (Value.slice Ag0 N0 cg0).ownBlock = some g → W7.heap.size ≤ g ∧ g < W8.heap.size from fun g e => ho0.lt g e)
  clear ho0
  clear HL0
  have hz_W8 : W7.heap.size ≤ W8.heap.size := b.size
  have H22 := Lib.hid (row_below H18.out b)
  clear H18
  have H23 := Lib.hid (H19.out.trans (b.mono H19.out.size))
  have H24 := Lib.hid (show Blk W8 (w.heap.size) 60 #[.int .i64 x1.day, .int .i64 x1.tn] from H20.out.below b H20.out.lt)
  have H25 := Lib.hid (show Blk W8 W5.heap.size 42 cs_x0 from H21.out.below b H21.out.lt)
  clear b H19 H20 H21
  go_wp2_with fail
  refine (ty.eq_decPointS Ag0 Aw0 N0 cg0 cw0 (apV t0 x1) _ hrl0 (Lib.hid (ty.own_Dp HN0.out HO_g0.out)) (Lib.hid (ty.own_Dp HN0.out H22.out))).mono ?_
  rintro e W9 ⟨rfl, b⟩
  have hz_W9 : W8.heap.size ≤ W9.heap.size := b.size
  have H26 := Lib.hid (row_below H22.out b)
  clear H22
  have H27 := Lib.hid (row_below HO_g0.out b)
  clear HO_g0
  have H28 := Lib.hid (H23.out.trans (b.mono H23.out.size))
  have H29 := Lib.hid (show Blk W9 (w.heap.size) 60 #[.int .i64 x1.day, .int .i64 x1.tn] from H24.out.below b H24.out.lt)
  have H30 := Lib.hid (show Blk W9 W5.heap.size 42 cs_x0 from H25.out.below b H25.out.lt)
  clear b H23 H24 H25
  go_wp2_with fail
  have HArg := Lib.hid (ty.more_decPoint (HA0.out.below H28.out) H28.out.size)
  refine (ty.to_decPointS A0 n0 c0 t0 W9 hn0 HArg).mono ?_
  rintro e W10 ⟨rfl, ⟨cs_z0, hk, hf⟩, b⟩
  have HF_z0 := Lib.hid hf
  clear hf HArg
  have hz_W10 : W9.heap.size ≤ W10.heap.size := b.size
  have H31 := Lib.hid (row_below H26.out b)
  clear H26
  have H32 := Lib.hid (row_below H27.out b)
  clear H27
  have H33 := Lib.hid (H28.out.trans (b.mono H28.out.size))
  have H34 := Lib.hid (show Blk W10 (w.heap.size) 60 #[.int .i64 x1.day, .int .i64 x1.tn] from H29.out.below b H29.out.lt)
  have H35 := Lib.hid (show Blk W10 W5.heap.size 42 cs_x0 from H30.out.below b H30.out.lt)
  clear b H28 H29 H30
  have H36 := Lib.hid hk
  clear hk
  have hlt_z0 := H36.out.lt
  go_wp2_with fail
  have HLx := Lib.hid ((ty.FillDp.at_ HF_x0.out HA0.out.1 H35.out).more (by exact H35.out.lt))
  have HLz := Lib.hid ((ty.FillDp.at_ HF_z0.out HA0.out.1 H36.out).more (by exact H36.out.lt))
  refine (ty.eq_decPointS _ _ n0 _ _ t0 _ (by omega) HLx HLz).mono ?_
  rintro e W11 ⟨rfl, b⟩
  clear HLx HLz
  have hz_W11 : W10.heap.size ≤ W11.heap.size := b.size
  have H37 := Lib.hid (row_below H31.out b)
  clear H31
  have H38 := Lib.hid (row_below H32.out b)
  clear H32
  have H39 := Lib.hid (H33.out.trans (b.mono H33.out.size))
  have H40 := Lib.hid (show Blk W11 (w.heap.size) 60 #[.int .i64 x1.day, .int .i64 x1.tn] from H34.out.below b H34.out.lt)
  have H41 := Lib.hid (show Blk W11 W5.heap.size 42 cs_x0 from H35.out.below b H35.out.lt)
  have H42 := Lib.hid (show Blk W11 W9.heap.size 42 cs_z0 from H36.out.below b H36.out.lt)
  clear b H33 H34 H35 H36
  go_wp2_with fail
  have HRM := Lib.hid (base.row_blk (base := 0) H41.out (Nat.zero_le _) (by unfold maxLen; omega) HF_x0.out.1)
  refine (ty.mark_decPointS 0 n0 _ _ (1) _ (by omega) (by omega) (by omega) HRM).mono ?_
  rintro e W12 ⟨rfl, -, hgr0⟩
  have hgr : W11.grownBy W12 (some W5.heap.size) := hgr0
  clear hgr0 HRM
  have hz_W12 : W11.heap.size ≤ W12.heap.size := hgr.size
  have H43 := Lib.hid (H39.out.grown hgr H39.out.size (fun g' e => by injection e with e; omega))
  have H44 := Lib.hid (show Blk W12 (w.heap.size) 60 #[.int .i64 x1.day, .int .i64 x1.tn] from H40.out.grown hgr (by intro e; injection e with e; have := H40.out.lt; omega))
  have H45 := Lib.hid (H37.out.kept hgr (.inr (fun e => by have := HU_w0.out _ e; omega)))
  have H46 := Lib.hid (H38.out.kept hgr (.inr (fun e => by have := HU_g0.out _ e; omega)))
  clear hgr H39 H40 H37 H38
  go_wp2_with fail
  refine (ty.eq_decPointS Ag0 Aw0 N0 cg0 cw0 (apV t0 x1) _ hrl0 (Lib.hid (ty.own_Dp HN0.out H46.out)) (Lib.hid (ty.own_Dp HN0.out H45.out))).mono ?_
  rintro e W13 ⟨rfl, b⟩
  have hz_W13 : W12.heap.size ≤ W13.heap.size := b.size
  have H47 := Lib.hid (row_below H45.out b)
  clear H45
  have H48 := Lib.hid (row_below H46.out b)
  clear H46
  have H49 := Lib.hid (H43.out.trans (b.mono H43.out.size))
  have H50 := Lib.hid (show Blk W13 (w.heap.size) 60 #[.int .i64 x1.day, .int .i64 x1.tn] from H44.out.below b H44.out.lt)
  clear b H43 H44
  go_wp2_with fail
  refine (ty.mark_decPointS _ N0 _ _ (1) _ hrl0 (by omega) (by omega) H48).mono ?_
  rintro e W14 ⟨rfl, ho, hgr⟩
  have HM0 := Lib.hid ho
  clear ho
  have hz_W14 : W13.heap.size ≤ W14.heap.size := hgr.size
  have H51 := Lib.hid (H49.out.grown hgr H49.out.size (fun g e => by have := (HU_g0.out g e).1; omega))
  have H52 := Lib.hid (show Blk W14 (w.heap.size) 60 #[.int .i64 x1.day, .int .i64 x1.tn] from H50.out.grown hgr (fun e => by have := (HU_g0.out _ e.symm).1; omega))
  have H53 := Lib.hid (H47.out.kept hgr (by
      cases q : (Value.slice Aw0 N0 cw0).ownBlock with
      | none => exact .inl rfl
      | some g => exact .inr (fun e => by have h1 := HU_w0.out g q; have h2 := HU_g0.out g e.symm; omega)))
  clear hgr H49 H50 H47
  go_wp2_with fail
  refine (ty.held_decPointS _ Ag0 N0 cg0 (1) _ hrl0 (by omega) (by omega) HM0).mono ?_
  rintro e w' ⟨rfl, rfl⟩
  go_wp2_with fail
  obtain ⟨W15, HV⟩ : ∃ V, Hid (W14.drew = V) := ⟨_, Lib.hid rfl⟩
  have b : Below W14.heap.size W14 W15 := by rw [← HV.out]; exact base.drewN_below _ 1
  have hz_W15 : W14.heap.size ≤ W15.heap.size := b.size
  have H54 := Lib.hid (row_below H53.out b)
  clear H53
  have H55 := Lib.hid (row_below HM0.out b)
  clear HM0
  have H56 := Lib.hid (H51.out.trans (b.mono H51.out.size))
  have H57 := Lib.hid (show Blk W15 (w.heap.size) 60 #[.int .i64 x1.day, .int .i64 x1.tn] from H52.out.below b H52.out.lt)
  clear b H51 H52
  refine wp_region_held_drew (S := (fun v : World => v.cell? ⟨w.heap.size, 0, none⟩ = some (.int .i64 x1.day) ∧ v.cell? ⟨w.heap.size, 1, none⟩ = some (.int .i64 x1.tn) ∧ Blk v (w.heap.size) 60 #[.int .i64 x1.day, .int .i64 x1.tn] ∧ Below w.heap.size w v)) (by kernel_rfl) (by rw [HV.out]; exact ⟨H57.out.cell 0, H57.out.cell 1, H57.out, H56.out⟩) (fun hHeld => ?_)
  rw [HV.out] at hHeld ⊢
  clear HV
  refine' wpAnyH_take (i := 0) (v := ?vr3_0) rfl (by kernel_rfl) (by kernel_rfl) (by kernel_rfl) (fun _ _ _ h => h) (Or.inl ⟨by rfl, ?hyr3_0⟩) (by assumption) ?restr3_0
  case hyr3_0 => (intro w hSw; (try dsimp only at hSw); go_simp; try (with_reducible rfl))
  simp only [Act.put, List.getElem_toArray, List.getElem_cons_succ, List.getElem_cons_zero, List.setIfInBounds_toArray, List.set_cons_zero, List.set_cons_succ]
  refine' wpAnyH_take (i := 2) (v := ?vr3_2) rfl (by kernel_rfl) (by kernel_rfl) (by kernel_rfl) (fun _ _ _ h => h) (Or.inl ⟨by rfl, ?hyr3_2⟩) (by assumption) ?restr3_2
  case hyr3_2 => (intro w hSw; (try dsimp only at hSw); go_simp; try (with_reducible rfl))
  simp only [Act.put, List.getElem_toArray, List.getElem_cons_succ, List.getElem_cons_zero, List.setIfInBounds_toArray, List.set_cons_zero, List.set_cons_succ]
  refine wpAnyH_ready (rs := [1]) (by kernel_rfl) (by simp) ?_
  refine AllReadyH.cons rfl (fun K hK => ?_) AllReadyH.nil
  go_simp
  have HArg := Lib.hid (ty.more_decPoint (HA0.out.below H56.out) H56.out.size)
  refine (ty.to_decPointS A0 n0 c0 t0 W15 hn0 HArg).mono ?_
  rintro e W16 ⟨rfl, ⟨cs_y0, hk, hf⟩, b⟩
  have HF_y0 := Lib.hid hf
  clear hf HArg
  have hz_W16 : W15.heap.size ≤ W16.heap.size := b.size
  have H58 := Lib.hid (row_below H54.out b)
  clear H54
  have H59 := Lib.hid (row_below H55.out b)
  clear H55
  have H60 := Lib.hid (H56.out.trans (b.mono H56.out.size))
  have H61 := Lib.hid (show Blk W16 (w.heap.size) 60 #[.int .i64 x1.day, .int .i64 x1.tn] from H57.out.below b H57.out.lt)
  clear b H56 H57
  have H62 := Lib.hid hk
  clear hk
  have hlt_y0 := H62.out.lt
  refine hK.out _ _ ⟨H61.out.cell 0, H61.out.cell 1, H61.out, H60.out⟩ (fun hHeld1 => ?_)
  clear hK K hHeld
  have hHeld := hHeld1
  clear hHeld1
  try simp only [Act.put, List.getElem_toArray, List.getElem_cons_succ, List.getElem_cons_zero, List.setIfInBounds_toArray, List.set_cons_zero, List.set_cons_succ]
  refine wpAnyH_ready (rs := [3]) (by kernel_rfl) (by simp) ?_
  refine AllReadyH.cons rfl (fun K hK => ?_) AllReadyH.nil
  go_simp
  refine (ty.to_decPoint x1 _).mono ?_
  rintro e W17 ⟨rfl, b⟩
  have hz_W17 : W16.heap.size ≤ W17.heap.size := b.size
  have H63 := Lib.hid (row_below H58.out b)
  clear H58
  have H64 := Lib.hid (row_below H59.out b)
  clear H59
  have H65 := Lib.hid (H60.out.trans (b.mono H60.out.size))
  have H66 := Lib.hid (show Blk W17 (w.heap.size) 60 #[.int .i64 x1.day, .int .i64 x1.tn] from H61.out.below b H61.out.lt)
  have H67 := Lib.hid (show Blk W17 W15.heap.size 42 cs_y0 from H62.out.below b H62.out.lt)
  clear b H60 H61 H62
  refine hK.out _ _ ⟨H66.out.cell 0, H66.out.cell 1, H66.out, H65.out⟩ (fun hHeld1 => ?_)
  clear hK K hHeld
  have hHeld := hHeld1
  clear hHeld1
  try simp only [Act.put, List.getElem_toArray, List.getElem_cons_succ, List.getElem_cons_zero, List.setIfInBounds_toArray, List.set_cons_zero, List.set_cons_succ]
  refine wpAnyH_ready (rs := [4]) (by kernel_rfl) (by simp) ?_
  refine AllReadyH.cons rfl (fun K hK => ?_) AllReadyH.nil
  go_simp
  have HL0 := Lib.hid ((ty.FillDp.at_ HF_y0.out HA0.out.1 H67.out).more (by exact H67.out.lt))
  refine (addPoint_impl _ n0 _ t0 x1 _ (.inl ⟨_, rfl, Nat.le_refl _⟩) (by omega) HL0).mono ?_
  rintro e W18 ⟨vh0, rfl, ho0, b⟩
  rw [HN0.out] at ho0
  obtain ⟨Ah0, ch0, rfl⟩ := base.row_slice ho0
  have HO_h0 := Lib.hid (show W18.ownsRow W17.heap.size 42 2 (.slice Ah0 N0 ch0) N0 (ty.flatDp (apV t0 x1)) from ho0)
  have HU_h0 := Lib.hid (show ∀ g, (Value.slice Ah0 N0 ch0).ownBlock = some g → W17.heap.size ≤ g ∧ g < W18.heap.size from fun g e => ho0.lt g e)
  clear ho0
  clear HL0
  have hz_W18 : W17.heap.size ≤ W18.heap.size := b.size
  have H68 := Lib.hid (row_below H63.out b)
  clear H63
  have H69 := Lib.hid (row_below H64.out b)
  clear H64
  have H70 := Lib.hid (H65.out.trans (b.mono H65.out.size))
  have H71 := Lib.hid (show Blk W18 (w.heap.size) 60 #[.int .i64 x1.day, .int .i64 x1.tn] from H66.out.below b H66.out.lt)
  have H72 := Lib.hid (show Blk W18 W15.heap.size 42 cs_y0 from H67.out.below b H67.out.lt)
  clear b H65 H66 H67
  refine hK.out _ _ ⟨H71.out.cell 0, H71.out.cell 1, H71.out, H70.out⟩ (fun hHeld1 => ?_)
  clear hK K hHeld
  have hHeld := hHeld1
  clear hHeld1
  try simp only [Act.put, List.getElem_toArray, List.getElem_cons_succ, List.getElem_cons_zero, List.setIfInBounds_toArray, List.set_cons_zero, List.set_cons_succ]
  refine' wpAnyH_take (i := 5) (v := ?vr4_5) rfl (by kernel_rfl) (by kernel_rfl) (by kernel_rfl) (fun _ _ _ h => h) (Or.inl ⟨by rfl, ?hyr4_5⟩) (by assumption) ?restr4_5
  case hyr4_5 => (intro w hSw; (try dsimp only at hSw); go_simp; try (with_reducible rfl))
  simp only [Act.put, List.getElem_toArray, List.getElem_cons_succ, List.getElem_cons_zero, List.setIfInBounds_toArray, List.set_cons_zero, List.set_cons_succ]
  refine' wpAnyH_take (i := 6) (v := ?vr4_6) rfl (by kernel_rfl) (by kernel_rfl) (by kernel_rfl) (fun _ _ _ h => h) (Or.inl ⟨by rfl, ?hyr4_6⟩) (by assumption) ?restr4_6
  case hyr4_6 => (intro w hSw; (try dsimp only at hSw); go_simp; try (with_reducible rfl))
  simp only [Act.put, List.getElem_toArray, List.getElem_cons_succ, List.getElem_cons_zero, List.setIfInBounds_toArray, List.set_cons_zero, List.set_cons_succ]
  refine' wpAnyH_take (i := 7) (v := ?vr4_7) rfl (by kernel_rfl) (by kernel_rfl) (by kernel_rfl) (fun _ _ _ h => h) (Or.inl ⟨by rfl, ?hyr4_7⟩) (by assumption) ?restr4_7
  case hyr4_7 => (intro w hSw; (try dsimp only at hSw); go_simp; try (with_reducible rfl))
  simp only [Act.put, List.getElem_toArray, List.getElem_cons_succ, List.getElem_cons_zero, List.setIfInBounds_toArray, List.set_cons_zero, List.set_cons_succ]
  refine' wpAnyH_take (i := 8) (v := ?vr4_8) rfl (by kernel_rfl) (by kernel_rfl) (by kernel_rfl) (fun _ _ _ h => h) (Or.inl ⟨by rfl, ?hyr4_8⟩) (by assumption) ?restr4_8
  case hyr4_8 => (intro w hSw; (try dsimp only at hSw); go_simp; try (with_reducible rfl))
  simp only [Act.put, List.getElem_toArray, List.getElem_cons_succ, List.getElem_cons_zero, List.setIfInBounds_toArray, List.set_cons_zero, List.set_cons_succ]
  refine' wpAnyH_take (i := 9) (v := ?vr4_9) rfl (by kernel_rfl) (by kernel_rfl) (by kernel_rfl) (fun _ _ _ h => h) (Or.inl ⟨by rfl, ?hyr4_9⟩) (by assumption) ?restr4_9
  case hyr4_9 => (intro w hSw; (try dsimp only at hSw); go_simp; try (with_reducible rfl))
  simp only [Act.put, List.getElem_toArray, List.getElem_cons_succ, List.getElem_cons_zero, List.setIfInBounds_toArray, List.set_cons_zero, List.set_cons_succ]
  refine wpAnyH_done (by kernel_rfl) ?_ _
  clear hHeld
  go_wp2_with fail
  refine (ty.eq_decPointS Ah0 Aw0 N0 ch0 cw0 (apV t0 x1) _ hrl0 (Lib.hid (ty.own_Dp HN0.out HO_h0.out)) (Lib.hid (ty.own_Dp HN0.out H68.out))).mono ?_
  rintro e W19 ⟨rfl, b⟩
  have hz_W19 : W18.heap.size ≤ W19.heap.size := b.size
  have H73 := Lib.hid (row_below H68.out b)
  clear H68
  have H74 := Lib.hid (row_below H69.out b)
  clear H69
  have H75 := Lib.hid (row_below HO_h0.out b)
  clear HO_h0
  have H76 := Lib.hid (H70.out.trans (b.mono H70.out.size))
  have H77 := Lib.hid (show Blk W19 (w.heap.size) 60 #[.int .i64 x1.day, .int .i64 x1.tn] from H71.out.below b H71.out.lt)
  have H78 := Lib.hid (show Blk W19 W15.heap.size 42 cs_y0 from H72.out.below b H72.out.lt)
  clear b H70 H71 H72
  go_wp2_with fail
  refine (ty.held_decPointS _ Ag0 N0 cg0 (1) _ hrl0 (by omega) (by omega) H74).mono ?_
  rintro e w' ⟨rfl, rfl⟩
  go_wp2_with fail
  go_ret
  exact ⟨rfl, H76.out⟩

theorem laidOut : laidOutB Try.prog = true := by kernel_rfl
set_option maxRecDepth 100000 in
theorem lifted (os : Os) (started : os.Started) (H : Type) (enc : TypeId × Value → H) :
    ReturnsInHanded {} Try.checked os 12 .any (Rows.fnExactAddPointSpec.pre6 enc Try.prog Try.f12 Rows.fnExactAddPointRow.domain false) (Rows.fnExactAddPointSpec.post enc Try.prog Try.f12 false true false false) := by
  refine returnsInHanded_of_change (C := Try.checked) own started (by kernel_rfl) Try.func12
    (ChangeSpec.witness6 (enc := enc) (C := Try.checked) false ⟨#[], #[.slice none 0 0, .agg #[.int .i64 0, .int .i64 0]], []⟩ 8 (by kernel_rfl) (by kernel_rfl) (by kernel_rfl) (by kernel_rfl)) ?_
  intro W base args ds gs before hval0 hW hcnd _
  have hval : ∀ (j : Nat) t v, Try.f12.params[j]? = some t → args[j]? = some v → Value.okWide Try.prog W .any base t v := hval0
  have hW' := hW
  obtain ⟨p, q, hA0, hV, rfl, hfz, hnd⟩ := hW
  have hA : DataW.TrodAll enc Try.prog W 0 (fun _ => true) true Try.f12.params.toList args.toList ds p := hA0
  rw [Try.params12] at hA hval
  obtain ⟨v0, vs0, d0, ds0, p0, q0, hargs, rfl, rfl, h0, r0⟩ := trodAll_cons hA
  obtain ⟨v1, vs1, d1, ds1, p1, q1, rfl, rfl, rfl, h1, r1⟩ := trodAll_cons r0
  obtain ⟨rfl, rfl, rfl⟩ := trodAll_nil r1
  obtain rfl : args = #[v0, v1] := by cases args; simp_all
  obtain ⟨rfl, rfl⟩ := trodVars_none hV
  have k0 := h0
  have lt0 : ∀ x ∈ p0, x.block < W.heap.size := by obtain ⟨m, hm⟩ := k0; exact DataW.trod_lt m _ _ _ hm
  obtain ⟨A0, n0, c0, t0, rfl, HA0, hm0⟩ := ty.open_decPointS (hval 0 50 v0 rfl rfl) h0
  have k1 := h1
  have lt1 : ∀ x ∈ p1, x.block < W.heap.size := by obtain ⟨m, hm⟩ := k1; exact DataW.trod_lt m _ _ _ hm
  obtain ⟨x1, rfl⟩ := ty.open_decPoint (hval 1 60 v1 rfl rfl) h1
  clear hA0 hval0
  refine (walk A0 n0 c0 t0 x1 W hm0 (Lib.hid HA0)).mono fun e W' ⟨he, bel⟩ => ?_
  subst he
  exact ⟨_, rfl, _, _, _, [], _, [], hW', trodAll_mk1 (shut_bool Try.underlying4 _), (trodAll_cons_mk (Below.trod laidOut (by kernel_rfl) (of_decide_eq_true (by kernel_rfl)) k0 bel lt0) (trodAll_cons_mk (Below.trod laidOut (by kernel_rfl) (of_decide_eq_true (by kernel_rfl)) k1 bel lt1) trodAll_mk0)), rfl, bel.frame _, fun h => by cases h⟩

theorem over : Rows.fnExactAddPointRow.holds Try.pinned (OpenSpec.ofChange Rows.fnExactAddPointSpec) :=
  OpenClaim.holds_of_wide 12 Try.f12 rfl rfl rfl rfl rfl rfl rfl ⟨rfl, rfl, rfl, rfl, rfl⟩ rfl rfl rfl rfl rfl (by kernel_rfl) Try.func12 (by kernel_rfl)
    (of_decide_eq_true (by kernel_rfl)) (by unfold Func.isWrapper; first | (rw [if_pos (by decide +kernel)]; kernel_rfl) | (rw [if_neg (by decide +kernel)]; exact ⟨rfl, rfl⟩))
    (fun os started H enc _ => lifted os started H enc)

theorem proved : Rows.FnExactAddPointSaid := over
#print axioms proved
end Go.Proofs.Ytiimegmaokfpgaa.fnExactAddPoint
