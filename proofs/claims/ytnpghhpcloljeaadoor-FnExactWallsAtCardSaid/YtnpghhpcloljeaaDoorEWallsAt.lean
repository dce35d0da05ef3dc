/-
  FnExactWallsAt holds: at every argument WallsAt answers as its model answers, and the arguments read behind the call as they read before it.
  Conditions: none of our own.
-/
import Derived.Test.YtnpghhpcloljeaaDoorPwY2
import Derived.Test.YtnpghhpcloljeaaDoorPwY3
import Derived.Test.YtnpghhpcloljeaaDoorPwY4
import Derived.Test.YtnpghhpcloljeaaDoorSinC
import Derived.WalkKit
import Derived.ProofKit
import Derived.OpenShut
import Derived.Carry
namespace Go.Proofs.YtnpghhpcloljeaaDoor.fnExactWallsAt
open Go.ChangeShapes Go.WideShapes Go.ChangeAt Go.RowKit
open Go.ChangeMaps (open_string shut_string)
open reads base ty lg pw sn win sinc
set_option linter.unusedVariables false
set_option linter.unusedSimpArgs false

theorem form (c : List Pg) (x : Lg) : ∃ (v0 : Wl) (ok : Bool), ansWa c x = .tuple #[.agg #[.int .i64 v0.a.east, .int .i64 v0.a.north, .int .i64 v0.a.up, .int .i64 v0.b.east, .int .i64 v0.b.north, .int .i64 v0.b.up, .int .i64 v0.c.east, .int .i64 v0.c.north, .int .i64 v0.c.up, .int .i64 v0.d.east, .int .i64 v0.d.north, .int .i64 v0.d.up], .bool ok] := wa_form c x
set_option maxHeartbeats 4000000 in
set_option maxRecDepth 100000 in
theorem walk (A0 : Option Addr) (n0 c0 : Nat) (t0 : List Pg) (x1 : Lg) (w : World) (hm0 : n0 ≤ maxLen) (HA0 : Hid (ty.ArgPg w w.heap.size A0 n0 t0)) (hT : Hid (Tab w)) : Calls Tryd.prog 3 #[.slice A0 n0 c0, .agg #[.int .i64 x1.frm, .int .i64 x1.to_, .int .i64 x1.tape, .int .i64 x1.comp, .int .i64 x1.slope]] w (LawPost w) := by
  obtain ⟨v0, v1, hfm⟩ := form t0 x1
  have HFm := Lib.hid hfm
  clear hfm
  by_cases big0 : 1048576 < n0
  · unfold maxLen at hm0
    go_enter Tryd.func3, Tryd.ntmps3
    go_wp2_with fail
    obtain ⟨W1, HW1⟩ : ∃ W1, Hid (w.alloc (.cells #[.int .i64 x1.frm, .int .i64 x1.to_, .int .i64 x1.tape, .int .i64 x1.comp, .int .i64 x1.slope] 24) = W1) := ⟨_, Lib.hid rfl⟩
    have H1 := Lib.hid (show Blk W1 (w.heap.size) 24 #[.int .i64 x1.frm, .int .i64 x1.to_, .int .i64 x1.tape, .int .i64 x1.comp, .int .i64 x1.slope] by rw [← HW1.out]; exact (Blk.new _ _ _))
    have H2 := Lib.hid (show Below w.heap.size w W1 by rw [← HW1.out]; exact (Below.refl w.heap.size w).alloc (Nat.le_refl _) _)
    rw [HW1.out]
    clear HW1
    refine (ty.sz_passage A0 n0 c0 (1048576) _ (by unfold maxLen; omega) (by omega) (by omega)).mono ?_
    rintro e w' ⟨rfl, rfl⟩
    rw [if_pos (by omega)]
    go_wp2_with fail
    go_ret
    exact ⟨rfl, H2.out⟩
  unfold maxLen at hm0
  have hn0 : n0 ≤ 1048576 := by omega
  go_enter Tryd.func3, Tryd.ntmps3
  go_wp2_with fail
  obtain ⟨W1, HW1⟩ : ∃ W1, Hid (w.alloc (.cells #[.int .i64 x1.frm, .int .i64 x1.to_, .int .i64 x1.tape, .int .i64 x1.comp, .int .i64 x1.slope] 24) = W1) := ⟨_, Lib.hid rfl⟩
  have H1 := Lib.hid (show Blk W1 (w.heap.size) 24 #[.int .i64 x1.frm, .int .i64 x1.to_, .int .i64 x1.tape, .int .i64 x1.comp, .int .i64 x1.slope] by rw [← HW1.out]; exact (Blk.new _ _ _))
  have H2 := Lib.hid (show Below w.heap.size w W1 by rw [← HW1.out]; exact (Below.refl w.heap.size w).alloc (Nat.le_refl _) _)
  rw [HW1.out]
  clear HW1
  refine (ty.sz_passage A0 n0 c0 (1048576) _ (by unfold maxLen; omega) (by omega) (by omega)).mono ?_
  rintro e w' ⟨rfl, rfl⟩
  rw [if_neg (by omega)]
  clear big0
  go_upto_region 5 with fail
  go_cut [6, 7] (fun p q wx => ∃ R : Nat, p = .pointer (some ⟨R, 0, none⟩) ∧ q = .bool v1 ∧ Blk wx (w.heap.size) 24 #[.int .i64 x1.frm, .int .i64 x1.to_, .int .i64 x1.tape, .int .i64 x1.comp, .int .i64 x1.slope] ∧ Blk wx R 28 #[.int .i64 v0.a.east, .int .i64 v0.a.north, .int .i64 v0.a.up, .int .i64 v0.b.east, .int .i64 v0.b.north, .int .i64 v0.b.up, .int .i64 v0.c.east, .int .i64 v0.c.north, .int .i64 v0.c.up, .int .i64 v0.d.east, .int .i64 v0.d.north, .int .i64 v0.d.up] ∧ Below w.heap.size w wx)
  case first =>
    rename_i J0 K0 hJ0 hK0
    obtain ⟨W2, HV⟩ : ∃ V, Hid (W1.drew = V) := ⟨_, Lib.hid rfl⟩
    have b : Below W1.heap.size W1 W2 := by rw [← HV.out]; exact base.drewN_below _ 1
    have H3 := Lib.hid (H2.out.trans (b.mono H2.out.size))
    have H4 := Lib.hid (show Blk W2 (w.heap.size) 24 #[.int .i64 x1.frm, .int .i64 x1.to_, .int .i64 x1.tape, .int .i64 x1.comp, .int .i64 x1.slope] from H1.out.below b H1.out.lt)
    clear b H2 H1
    refine wp_region_held_drew (S := (fun v : World => v.cell? ⟨w.heap.size, 0, none⟩ = some (.int .i64 x1.frm) ∧ v.cell? ⟨w.heap.size, 1, none⟩ = some (.int .i64 x1.to_) ∧ v.cell? ⟨w.heap.size, 2, none⟩ = some (.int .i64 x1.tape) ∧ v.cell? ⟨w.heap.size, 3, none⟩ = some (.int .i64 x1.comp) ∧ v.cell? ⟨w.heap.size, 4, none⟩ = some (.int .i64 x1.slope) ∧ Blk v (w.heap.size) 24 #[.int .i64 x1.frm, .int .i64 x1.to_, .int .i64 x1.tape, .int .i64 x1.comp, .int .i64 x1.slope] ∧ Below w.heap.size w v)) (by kernel_rfl) (by rw [HV.out]; exact (fw_mk H4.out H3.out)) (fun hHeld => ?_)
    rw [HV.out] at hHeld ⊢
    clear HV
    refine' wpAnyH_take (i := 0) (v := ?vr1_0) rfl (by kernel_rfl) (by kernel_rfl) (by kernel_rfl) (fun _ _ _ h => h) (Or.inl ⟨by rfl, ?hyr1_0⟩) (by assumption) ?restr1_0
    case hyr1_0 => (intro w hSw; (try dsimp only at hSw); go_simp; try (with_reducible rfl))
    simp only [Act.put, List.getElem_toArray, List.getElem_cons_succ, List.getElem_cons_zero, List.setIfInBounds_toArray, List.set_cons_zero, List.set_cons_succ]
    refine' wpAnyH_take (i := 2) (v := ?vr1_2) rfl (by kernel_rfl) (by kernel_rfl) (by kernel_rfl) (fun _ _ _ h => h) (Or.inl ⟨by rfl, ?hyr1_2⟩) (by assumption) ?restr1_2
    case hyr1_2 => (intro w hSw; (try dsimp only at hSw); go_simp; try (with_reducible rfl))
    simp only [Act.put, List.getElem_toArray, List.getElem_cons_succ, List.getElem_cons_zero, List.setIfInBounds_toArray, List.set_cons_zero, List.set_cons_succ]
    refine wpAnyH_ready (rs := [1, 8]) (by kernel_rfl) (by simp) ?_
    refine AllReadyH.cons rfl (fun K hK => ?_) (AllReadyH.cons rfl (fun K hK => ?_) AllReadyH.nil)
    · go_simp
      have HArg := Lib.hid (ty.more_passage (HA0.out.below H3.out) H3.out.size)
      refine (ty.to_passageS A0 n0 c0 t0 W2 hn0 HArg).mono ?_
      rintro e W3 ⟨rfl, ⟨cs_p0, hk, hf⟩, b⟩
      have HF_p0 := Lib.hid hf
      clear hf HArg
      have H5 := Lib.hid (H3.out.trans (b.mono H3.out.size))
      have H6 := Lib.hid (show Blk W3 (w.heap.size) 24 #[.int .i64 x1.frm, .int .i64 x1.to_, .int .i64 x1.tape, .int .i64 x1.comp, .int .i64 x1.slope] from H4.out.below b H4.out.lt)
      clear b H3 H4
      have H7 := Lib.hid hk
      clear hk
      refine hK.out _ _ (fw_mk H6.out H5.out) (fun hHeld1 => ?_)
      clear hK K hHeld
      have hHeld := hHeld1
      clear hHeld1
      try simp only [Act.put, List.getElem_toArray, List.getElem_cons_succ, List.getElem_cons_zero, List.setIfInBounds_toArray, List.set_cons_zero, List.set_cons_succ]
      refine wpAnyH_ready (rs := [3, 8]) (by kernel_rfl) (by simp) ?_
      refine AllReadyH.cons rfl (fun K hK => ?_) (AllReadyH.cons rfl (fun K hK => ?_) AllReadyH.nil)
      · go_simp
        refine (ty.to_leg x1 _).mono ?_
        rintro e W4 ⟨rfl, b⟩
        have H8 := Lib.hid (H5.out.trans (b.mono H5.out.size))
        have H9 := Lib.hid (show Blk W4 (w.heap.size) 24 #[.int .i64 x1.frm, .int .i64 x1.to_, .int .i64 x1.tape, .int .i64 x1.comp, .int .i64 x1.slope] from H6.out.below b H6.out.lt)
        have H10 := Lib.hid (show Blk W4 W2.heap.size 43 cs_p0 from H7.out.below b H7.out.lt)
        clear b H5 H6 H7
        refine hK.out _ _ (fw_mk H9.out H8.out) (fun hHeld1 => ?_)
        clear hK K hHeld
        have hHeld := hHeld1
        clear hHeld1
        try simp only [Act.put, List.getElem_toArray, List.getElem_cons_succ, List.getElem_cons_zero, List.setIfInBounds_toArray, List.set_cons_zero, List.set_cons_succ]
        refine wpAnyH_ready (rs := [4, 8]) (by kernel_rfl) (by simp) ?_
        refine AllReadyH.cons rfl (fun K hK => ?_) (AllReadyH.cons rfl (fun K hK => ?_) AllReadyH.nil)
        · go_simp
          have HL0 := Lib.hid ((ty.FillPg.at_ HF_p0.out HA0.out.1 H10.out).more (by exact H10.out.lt))
          have HTab := Lib.hid (hT.out.below H8.out)
          refine (walls_model _ n0 _ t0 x1 _ (by omega) HL0).mono ?_
          rintro e W5 ⟨rfl, b⟩
          rw [HFm.out]
          have H11 := Lib.hid (H8.out.trans (b.mono H8.out.size))
          have H12 := Lib.hid (show Blk W5 (w.heap.size) 24 #[.int .i64 x1.frm, .int .i64 x1.to_, .int .i64 x1.tape, .int .i64 x1.comp, .int .i64 x1.slope] from H9.out.below b H9.out.lt)
          have H13 := Lib.hid (show Blk W5 W2.heap.size 43 cs_p0 from H10.out.below b H10.out.lt)
          clear b H8 H9 H10
          clear HL0 HTab
          refine hK.out _ _ (fw_mk H12.out H11.out) (fun hHeld1 => ?_)
          clear hK K hHeld
          have hHeld := hHeld1
          clear hHeld1
          try simp only [Act.put, List.getElem_toArray, List.getElem_cons_succ, List.getElem_cons_zero, List.setIfInBounds_toArray, List.set_cons_zero, List.set_cons_succ]
          refine' wpAnyH_take (i := 5) (v := ?vr2_5) rfl (by kernel_rfl) (by kernel_rfl) (by kernel_rfl) (fun _ _ _ h => h) (Or.inl ⟨by rfl, ?hyr2_5⟩) (by assumption) ?restr2_5
          case hyr2_5 => (intro w hSw; (try dsimp only at hSw); go_simp; try (with_reducible rfl))
          simp only [Act.put, List.getElem_toArray, List.getElem_cons_succ, List.getElem_cons_zero, List.setIfInBounds_toArray, List.set_cons_zero, List.set_cons_succ]
          refine' wpAnyH_take (i := 6) (v := ?vr2_6) rfl (by kernel_rfl) (by kernel_rfl) (by kernel_rfl) (fun _ _ _ h => h) (Or.inl ⟨by rfl, ?hyr2_6⟩) (by assumption) ?restr2_6
          case hyr2_6 => (intro w hSw; (try dsimp only at hSw); go_simp; try (with_reducible rfl))
          simp only [Act.put, List.getElem_toArray, List.getElem_cons_succ, List.getElem_cons_zero, List.setIfInBounds_toArray, List.set_cons_zero, List.set_cons_succ]
          refine' wpAnyH_take (i := 7) (v := ?vr2_7) rfl (by kernel_rfl) (by kernel_rfl) (by kernel_rfl) (fun _ _ _ h => h) (Or.inl ⟨by rfl, ?hyr2_7⟩) (by assumption) ?restr2_7
          case hyr2_7 => (intro w hSw; (try dsimp only at hSw); go_simp; try (with_reducible rfl))
          simp only [Act.put, List.getElem_toArray, List.getElem_cons_succ, List.getElem_cons_zero, List.setIfInBounds_toArray, List.set_cons_zero, List.set_cons_succ]
          refine wpAnyH_ready (rs := [8]) (by kernel_rfl) (by simp) ?_
          refine AllReadyH.cons rfl (fun K hK => ?_) AllReadyH.nil
          go_simp
          have hRw := H12.out.lt
          obtain ⟨W6, HW6⟩ : ∃ W6, Hid (W5.alloc (.cells #[.int .i64 0, .int .i64 0, .int .i64 0, .int .i64 0, .int .i64 0, .int .i64 0, .int .i64 0, .int .i64 0, .int .i64 0, .int .i64 0, .int .i64 0, .int .i64 0] 28) = W6) := ⟨_, Lib.hid rfl⟩
          have H14 := Lib.hid (show Blk W6 (w.heap.size) 24 #[.int .i64 x1.frm, .int .i64 x1.to_, .int .i64 x1.tape, .int .i64 x1.comp, .int .i64 x1.slope] by rw [← HW6.out]; exact H12.out.alloc _)
          have H15 := Lib.hid (show Blk W6 (W5.heap.size) 28 #[.int .i64 0, .int .i64 0, .int .i64 0, .int .i64 0, .int .i64 0, .int .i64 0, .int .i64 0, .int .i64 0, .int .i64 0, .int .i64 0, .int .i64 0, .int .i64 0] by rw [← HW6.out]; exact (Blk.new _ _ _))
          have H16 := Lib.hid (show Below w.heap.size w W6 by rw [← HW6.out]; exact (H11.out).alloc (H11.out.size) _)
          rw [HW6.out]
          clear HW6 H12 H11
          refine hK.out _ _ (fw_mk H14.out H16.out) (fun hHeld1 => ?_)
          clear hK K hHeld
          have hHeld := hHeld1
          clear hHeld1
          try simp only [Act.put, List.getElem_toArray, List.getElem_cons_succ, List.getElem_cons_zero, List.setIfInBounds_toArray, List.set_cons_zero, List.set_cons_succ]
          have z0 := H15.out.cell 0
          have f0 := H15.out.frozen 0
          have z1 := H15.out.cell 1
          have f1 := H15.out.frozen 1
          have z2 := H15.out.cell 2
          have f2 := H15.out.frozen 2
          have z3 := H15.out.cell 3
          have f3 := H15.out.frozen 3
          have z4 := H15.out.cell 4
          have f4 := H15.out.frozen 4
          have z5 := H15.out.cell 5
          have f5 := H15.out.frozen 5
          have z6 := H15.out.cell 6
          have f6 := H15.out.frozen 6
          have z7 := H15.out.cell 7
          have f7 := H15.out.frozen 7
          have z8 := H15.out.cell 8
          have f8 := H15.out.frozen 8
          have z9 := H15.out.cell 9
          have f9 := H15.out.frozen 9
          have z10 := H15.out.cell 10
          have f10 := H15.out.frozen 10
          have z11 := H15.out.cell 11
          have f11 := H15.out.frozen 11
          have zl := H15.out.lt
          simp at z0 z1 z2 z3 z4 z5 z6 z7 z8 z9 z10 z11
          have HRF := Lib.hid (blk_put H15.out (.int .i64 v0.a.east) (.int .i64 v0.a.north) (.int .i64 v0.a.up) (.int .i64 v0.b.east) (.int .i64 v0.b.north) (.int .i64 v0.b.up) (.int .i64 v0.c.east) (.int .i64 v0.c.north) (.int .i64 v0.c.up) (.int .i64 v0.d.east) (.int .i64 v0.d.north) (.int .i64 v0.d.up))
          refine wpAnyH_ready (rs := [9]) (by kernel_rfl) (by simp) ?_
          refine AllReadyH.cons rfl (fun K hK => ?_) AllReadyH.nil
          go_simp
          refine hK.out _ _ (fw_put H14.out H16.out hRw _ _ _ _ _ _ _ _ _ _ _ _) (fun hHeld1 => ?_)
          clear hK K hHeld
          have hHeld := hHeld1
          clear hHeld1
          try simp only [Act.put, List.getElem_toArray, List.getElem_cons_succ, List.getElem_cons_zero, List.setIfInBounds_toArray, List.set_cons_zero, List.set_cons_succ]
          refine' wpAnyH_take (i := 10) (v := ?vr3_10) rfl (by kernel_rfl) (by kernel_rfl) (by kernel_rfl) (fun _ _ _ h => h) (Or.inl ⟨by rfl, ?hyr3_10⟩) (by assumption) ?restr3_10
          case hyr3_10 => (intro w hSw; (try dsimp only at hSw); go_simp; try (with_reducible rfl))
          simp only [Act.put, List.getElem_toArray, List.getElem_cons_succ, List.getElem_cons_zero, List.setIfInBounds_toArray, List.set_cons_zero, List.set_cons_succ]
          refine wpAnyH_done (by kernel_rfl) ?_ _
          first | refine hJ0 _ _ ?_ | refine hK0 _ _ (Met.intro (hJ0 _ _ ?_)) | refine Met.intro (hK0 _ _ (Met.intro (hJ0 _ _ ?_)))
          (repeat apply Exists.intro)
          exact ⟨⟨_, rfl, rfl, hHeld.2.2.2.2.2.1, HRF.out, hHeld.2.2.2.2.2.2⟩, rfl⟩
        · go_simp
          have hRw := H9.out.lt
          obtain ⟨W5, HW5⟩ : ∃ W5, Hid (W4.alloc (.cells #[.int .i64 0, .int .i64 0, .int .i64 0, .int .i64 0, .int .i64 0, .int .i64 0, .int .i64 0, .int .i64 0, .int .i64 0, .int .i64 0, .int .i64 0, .int .i64 0] 28) = W5) := ⟨_, Lib.hid rfl⟩
          have H11 := Lib.hid (show Blk W5 (w.heap.size) 24 #[.int .i64 x1.frm, .int .i64 x1.to_, .int .i64 x1.tape, .int .i64 x1.comp, .int .i64 x1.slope] by rw [← HW5.out]; exact H9.out.alloc _)
          have H12 := Lib.hid (show Blk W5 (W4.heap.size) 28 #[.int .i64 0, .int .i64 0, .int .i64 0, .int .i64 0, .int .i64 0, .int .i64 0, .int .i64 0, .int .i64 0, .int .i64 0, .int .i64 0, .int .i64 0, .int .i64 0] by rw [← HW5.out]; exact (Blk.new _ _ _))
          have H13 := Lib.hid (show Below w.heap.size w W5 by rw [← HW5.out]; exact (H8.out).alloc (H8.out.size) _)
          have H14 := Lib.hid (show Blk W5 W2.heap.size 43 cs_p0 by rw [← HW5.out]; exact (H10.out).alloc _)
          rw [HW5.out]
          clear HW5 H9 H8
          refine hK.out _ _ (fw_mk H11.out H13.out) (fun hHeld1 => ?_)
          clear hK K hHeld
          have hHeld := hHeld1
          clear hHeld1
          try simp only [Act.put, List.getElem_toArray, List.getElem_cons_succ, List.getElem_cons_zero, List.setIfInBounds_toArray, List.set_cons_zero, List.set_cons_succ]
          refine wpAnyH_ready (rs := [4]) (by kernel_rfl) (by simp) ?_
          refine AllReadyH.cons rfl (fun K hK => ?_) AllReadyH.nil
          go_simp
          have HL0 := Lib.hid ((ty.FillPg.at_ HF_p0.out HA0.out.1 H14.out).more (by exact H14.out.lt))
          have HTab := Lib.hid (hT.out.below H13.out)
          refine (walls_model _ n0 _ t0 x1 _ (by omega) HL0).mono ?_
          rintro e W6 ⟨rfl, b⟩
          rw [HFm.out]
          have H15 := Lib.hid (H13.out.trans (b.mono H13.out.size))
          have H16 := Lib.hid (show Blk W6 (w.heap.size) 24 #[.int .i64 x1.frm, .int .i64 x1.to_, .int .i64 x1.tape, .int .i64 x1.comp, .int .i64 x1.slope] from H11.out.below b H11.out.lt)
          have H17 := Lib.hid (show Blk W6 (W4.heap.size) 28 #[.int .i64 0, .int .i64 0, .int .i64 0, .int .i64 0, .int .i64 0, .int .i64 0, .int .i64 0, .int .i64 0, .int .i64 0, .int .i64 0, .int .i64 0, .int .i64 0] from H12.out.below b H12.out.lt)
          have H18 := Lib.hid (show Blk W6 W2.heap.size 43 cs_p0 from H14.out.below b H14.out.lt)
          clear b H13 H11 H12 H14
          clear HL0 HTab
          refine hK.out _ _ (fw_mk H16.out H15.out) (fun hHeld1 => ?_)
          clear hK K hHeld
          have hHeld := hHeld1
          clear hHeld1
          try simp only [Act.put, List.getElem_toArray, List.getElem_cons_succ, List.getElem_cons_zero, List.setIfInBounds_toArray, List.set_cons_zero, List.set_cons_succ]
          refine' wpAnyH_take (i := 5) (v := ?vr4_5) rfl (by kernel_rfl) (by kernel_rfl) (by kernel_rfl) (fun _ _ _ h => h) (Or.inl ⟨by rfl, ?hyr4_5⟩) (by assumption) ?restr4_5
          case hyr4_5 => (intro w hSw; (try dsimp only at hSw); go_simp; try (with_reducible rfl))
          simp only [Act.put, List.getElem_toArray, List.getElem_cons_succ, List.getElem_cons_zero, List.setIfInBounds_toArray, List.set_cons_zero, List.set_cons_succ]
          refine' wpAnyH_take (i := 6) (v := ?vr4_6) rfl (by kernel_rfl) (by kernel_rfl) (by kernel_rfl) (fun _ _ _ h => h) (Or.inl ⟨by rfl, ?hyr4_6⟩) (by assumption) ?restr4_6
          case hyr4_6 => (intro w hSw; (try dsimp only at hSw); go_simp; try (with_reducible rfl))
          simp only [Act.put, List.getElem_toArray, List.getElem_cons_succ, List.getElem_cons_zero, List.setIfInBounds_toArray, List.set_cons_zero, List.set_cons_succ]
          refine' wpAnyH_take (i := 7) (v := ?vr4_7) rfl (by kernel_rfl) (by kernel_rfl) (by kernel_rfl) (fun _ _ _ h => h) (Or.inl ⟨by rfl, ?hyr4_7⟩) (by assumption) ?restr4_7
          case hyr4_7 => (intro w hSw; (try dsimp only at hSw); go_simp; try (with_reducible rfl))
          simp only [Act.put, List.getElem_toArray, List.getElem_cons_succ, List.getElem_cons_zero, List.setIfInBounds_toArray, List.set_cons_zero, List.set_cons_succ]
          have z0 := H17.out.cell 0
          have f0 := H17.out.frozen 0
          have z1 := H17.out.cell 1
          have f1 := H17.out.frozen 1
          have z2 := H17.out.cell 2
          have f2 := H17.out.frozen 2
          have z3 := H17.out.cell 3
          have f3 := H17.out.frozen 3
          have z4 := H17.out.cell 4
          have f4 := H17.out.frozen 4
          have z5 := H17.out.cell 5
          have f5 := H17.out.frozen 5
          have z6 := H17.out.cell 6
          have f6 := H17.out.frozen 6
          have z7 := H17.out.cell 7
          have f7 := H17.out.frozen 7
          have z8 := H17.out.cell 8
          have f8 := H17.out.frozen 8
          have z9 := H17.out.cell 9
          have f9 := H17.out.frozen 9
          have z10 := H17.out.cell 10
          have f10 := H17.out.frozen 10
          have z11 := H17.out.cell 11
          have f11 := H17.out.frozen 11
          have zl := H17.out.lt
          simp at z0 z1 z2 z3 z4 z5 z6 z7 z8 z9 z10 z11
          have HRF := Lib.hid (blk_put H17.out (.int .i64 v0.a.east) (.int .i64 v0.a.north) (.int .i64 v0.a.up) (.int .i64 v0.b.east) (.int .i64 v0.b.north) (.int .i64 v0.b.up) (.int .i64 v0.c.east) (.int .i64 v0.c.north) (.int .i64 v0.c.up) (.int .i64 v0.d.east) (.int .i64 v0.d.north) (.int .i64 v0.d.up))
          refine wpAnyH_ready (rs := [9]) (by kernel_rfl) (by simp) ?_
          refine AllReadyH.cons rfl (fun K hK => ?_) AllReadyH.nil
          go_simp
          refine hK.out _ _ (fw_put H16.out H15.out hRw _ _ _ _ _ _ _ _ _ _ _ _) (fun hHeld1 => ?_)
          clear hK K hHeld
          have hHeld := hHeld1
          clear hHeld1
          try simp only [Act.put, List.getElem_toArray, List.getElem_cons_succ, List.getElem_cons_zero, List.setIfInBounds_toArray, List.set_cons_zero, List.set_cons_succ]
          refine' wpAnyH_take (i := 10) (v := ?vr5_10) rfl (by kernel_rfl) (by kernel_rfl) (by kernel_rfl) (fun _ _ _ h => h) (Or.inl ⟨by rfl, ?hyr5_10⟩) (by assumption) ?restr5_10
          case hyr5_10 => (intro w hSw; (try dsimp only at hSw); go_simp; try (with_reducible rfl))
          simp only [Act.put, List.getElem_toArray, List.getElem_cons_succ, List.getElem_cons_zero, List.setIfInBounds_toArray, List.set_cons_zero, List.set_cons_succ]
          refine wpAnyH_done (by kernel_rfl) ?_ _
          first | refine hJ0 _ _ ?_ | refine hK0 _ _ (Met.intro (hJ0 _ _ ?_)) | refine Met.intro (hK0 _ _ (Met.intro (hJ0 _ _ ?_)))
          (repeat apply Exists.intro)
          exact ⟨⟨_, rfl, rfl, hHeld.2.2.2.2.2.1, HRF.out, hHeld.2.2.2.2.2.2⟩, rfl⟩
      · go_simp
        have hRw := H6.out.lt
        obtain ⟨W4, HW4⟩ : ∃ W4, Hid (W3.alloc (.cells #[.int .i64 0, .int .i64 0, .int .i64 0, .int .i64 0, .int .i64 0, .int .i64 0, .int .i64 0, .int .i64 0, .int .i64 0, .int .i64 0, .int .i64 0, .int .i64 0] 28) = W4) := ⟨_, Lib.hid rfl⟩
        have H8 := Lib.hid (show Blk W4 (w.heap.size) 24 #[.int .i64 x1.frm, .int .i64 x1.to_, .int .i64 x1.tape, .int .i64 x1.comp, .int .i64 x1.slope] by rw [← HW4.out]; exact H6.out.alloc _)
        have H9 := Lib.hid (show Blk W4 (W3.heap.size) 28 #[.int .i64 0, .int .i64 0, .int .i64 0, .int .i64 0, .int .i64 0, .int .i64 0, .int .i64 0, .int .i64 0, .int .i64 0, .int .i64 0, .int .i64 0, .int .i64 0] by rw [← HW4.out]; exact (Blk.new _ _ _))
        have H10 := Lib.hid (show Below w.heap.size w W4 by rw [← HW4.out]; exact (H5.out).alloc (H5.out.size) _)
        have H11 := Lib.hid (show Blk W4 W2.heap.size 43 cs_p0 by rw [← HW4.out]; exact (H7.out).alloc _)
        rw [HW4.out]
        clear HW4 H6 H5
        refine hK.out _ _ (fw_mk H8.out H10.out) (fun hHeld1 => ?_)
        clear hK K hHeld
        have hHeld := hHeld1
        clear hHeld1
        try simp only [Act.put, List.getElem_toArray, List.getElem_cons_succ, List.getElem_cons_zero, List.setIfInBounds_toArray, List.set_cons_zero, List.set_cons_succ]
        refine wpAnyH_ready (rs := [3]) (by kernel_rfl) (by simp) ?_
        refine AllReadyH.cons rfl (fun K hK => ?_) AllReadyH.nil
        go_simp
        refine (ty.to_leg x1 _).mono ?_
        rintro e W5 ⟨rfl, b⟩
        have H12 := Lib.hid (H10.out.trans (b.mono H10.out.size))
        have H13 := Lib.hid (show Blk W5 (w.heap.size) 24 #[.int .i64 x1.frm, .int .i64 x1.to_, .int .i64 x1.tape, .int .i64 x1.comp, .int .i64 x1.slope] from H8.out.below b H8.out.lt)
        have H14 := Lib.hid (show Blk W5 (W3.heap.size) 28 #[.int .i64 0, .int .i64 0, .int .i64 0, .int .i64 0, .int .i64 0, .int .i64 0, .int .i64 0, .int .i64 0, .int .i64 0, .int .i64 0, .int .i64 0, .int .i64 0] from H9.out.below b H9.out.lt)
        have H15 := Lib.hid (show Blk W5 W2.heap.size 43 cs_p0 from H11.out.below b H11.out.lt)
        clear b H10 H8 H9 H11
        refine hK.out _ _ (fw_mk H13.out H12.out) (fun hHeld1 => ?_)
        clear hK K hHeld
        have hHeld := hHeld1
        clear hHeld1
        try simp only [Act.put, List.getElem_toArray, List.getElem_cons_succ, List.getElem_cons_zero, List.setIfInBounds_toArray, List.set_cons_zero, List.set_cons_succ]
        refine wpAnyH_ready (rs := [4]) (by kernel_rfl) (by simp) ?_
        refine AllReadyH.cons rfl (fun K hK => ?_) AllReadyH.nil
        go_simp
        have HL0 := Lib.hid ((ty.FillPg.at_ HF_p0.out HA0.out.1 H15.out).more (by exact H15.out.lt))
        have HTab := Lib.hid (hT.out.below H12.out)
        refine (walls_model _ n0 _ t0 x1 _ (by omega) HL0).mono ?_
        rintro e W6 ⟨rfl, b⟩
        rw [HFm.out]
        have H16 := Lib.hid (H12.out.trans (b.mono H12.out.size))
        have H17 := Lib.hid (show Blk W6 (w.heap.size) 24 #[.int .i64 x1.frm, .int .i64 x1.to_, .int .i64 x1.tape, .int .i64 x1.comp, .int .i64 x1.slope] from H13.out.below b H13.out.lt)
        have H18 := Lib.hid (show Blk W6 (W3.heap.size) 28 #[.int .i64 0, .int .i64 0, .int .i64 0, .int .i64 0, .int .i64 0, .int .i64 0, .int .i64 0, .int .i64 0, .int .i64 0, .int .i64 0, .int .i64 0, .int .i64 0] from H14.out.below b H14.out.lt)
        have H19 := Lib.hid (show Blk W6 W2.heap.size 43 cs_p0 from H15.out.below b H15.out.lt)
        clear b H12 H13 H14 H15
        clear HL0 HTab
        refine hK.out _ _ (fw_mk H17.out H16.out) (fun hHeld1 => ?_)
        clear hK K hHeld
        have hHeld := hHeld1
        clear hHeld1
        try simp only [Act.put, List.getElem_toArray, List.getElem_cons_succ, List.getElem_cons_zero, List.setIfInBounds_toArray, List.set_cons_zero, List.set_cons_succ]
        refine' wpAnyH_take (i := 5) (v := ?vr6_5) rfl (by kernel_rfl) (by kernel_rfl) (by kernel_rfl) (fun _ _ _ h => h) (Or.inl ⟨by rfl, ?hyr6_5⟩) (by assumption) ?restr6_5
        case hyr6_5 => (intro w hSw; (try dsimp only at hSw); go_simp; try (with_reducible rfl))
        simp only [Act.put, List.getElem_toArray, List.getElem_cons_succ, List.getElem_cons_zero, List.setIfInBounds_toArray, List.set_cons_zero, List.set_cons_succ]
        refine' wpAnyH_take (i := 6) (v := ?vr6_6) rfl (by kernel_rfl) (by kernel_rfl) (by kernel_rfl) (fun _ _ _ h => h) (Or.inl ⟨by rfl, ?hyr6_6⟩) (by assumption) ?restr6_6
        case hyr6_6 => (intro w hSw; (try dsimp only at hSw); go_simp; try (with_reducible rfl))
        simp only [Act.put, List.getElem_toArray, List.getElem_cons_succ, List.getElem_cons_zero, List.setIfInBounds_toArray, List.set_cons_zero, List.set_cons_succ]
        refine' wpAnyH_take (i := 7) (v := ?vr6_7) rfl (by kernel_rfl) (by kernel_rfl) (by kernel_rfl) (fun _ _ _ h => h) (Or.inl ⟨by rfl, ?hyr6_7⟩) (by assumption) ?restr6_7
        case hyr6_7 => (intro w hSw; (try dsimp only at hSw); go_simp; try (with_reducible rfl))
        simp only [Act.put, List.getElem_toArray, List.getElem_cons_succ, List.getElem_cons_zero, List.setIfInBounds_toArray, List.set_cons_zero, List.set_cons_succ]
        have z0 := H18.out.cell 0
        have f0 := H18.out.frozen 0
        have z1 := H18.out.cell 1
        have f1 := H18.out.frozen 1
        have z2 := H18.out.cell 2
        have f2 := H18.out.frozen 2
        have z3 := H18.out.cell 3
        have f3 := H18.out.frozen 3
        have z4 := H18.out.cell 4
        have f4 := H18.out.frozen 4
        have z5 := H18.out.cell 5
        have f5 := H18.out.frozen 5
        have z6 := H18.out.cell 6
        have f6 := H18.out.frozen 6
        have z7 := H18.out.cell 7
        have f7 := H18.out.frozen 7
        have z8 := H18.out.cell 8
        have f8 := H18.out.frozen 8
        have z9 := H18.out.cell 9
        have f9 := H18.out.frozen 9
        have z10 := H18.out.cell 10
        have f10 := H18.out.frozen 10
        have z11 := H18.out.cell 11
        have f11 := H18.out.frozen 11
        have zl := H18.out.lt
        simp at z0 z1 z2 z3 z4 z5 z6 z7 z8 z9 z10 z11
        have HRF := Lib.hid (blk_put H18.out (.int .i64 v0.a.east) (.int .i64 v0.a.north) (.int .i64 v0.a.up) (.int .i64 v0.b.east) (.int .i64 v0.b.north) (.int .i64 v0.b.up) (.int .i64 v0.c.east) (.int .i64 v0.c.north) (.int .i64 v0.c.up) (.int .i64 v0.d.east) (.int .i64 v0.d.north) (.int .i64 v0.d.up))
        refine wpAnyH_ready (rs := [9]) (by kernel_rfl) (by simp) ?_
        refine AllReadyH.cons rfl (fun K hK => ?_) AllReadyH.nil
        go_simp
        refine hK.out _ _ (fw_put H17.out H16.out hRw _ _ _ _ _ _ _ _ _ _ _ _) (fun hHeld1 => ?_)
        clear hK K hHeld
        have hHeld := hHeld1
        clear hHeld1
        try simp only [Act.put, List.getElem_toArray, List.getElem_cons_succ, List.getElem_cons_zero, List.setIfInBounds_toArray, List.set_cons_zero, List.set_cons_succ]
        refine' wpAnyH_take (i := 10) (v := ?vr7_10) rfl (by kernel_rfl) (by kernel_rfl) (by kernel_rfl) (fun _ _ _ h => h) (Or.inl ⟨by rfl, ?hyr7_10⟩) (by assumption) ?restr7_10
        case hyr7_10 => (intro w hSw; (try dsimp only at hSw); go_simp; try (with_reducible rfl))
        simp only [Act.put, List.getElem_toArray, List.getElem_cons_succ, List.getElem_cons_zero, List.setIfInBounds_toArray, List.set_cons_zero, List.set_cons_succ]
        refine wpAnyH_done (by kernel_rfl) ?_ _
        first | refine hJ0 _ _ ?_ | refine hK0 _ _ (Met.intro (hJ0 _ _ ?_)) | refine Met.intro (hK0 _ _ (Met.intro (hJ0 _ _ ?_)))
        (repeat apply Exists.intro)
        exact ⟨⟨_, rfl, rfl, hHeld.2.2.2.2.2.1, HRF.out, hHeld.2.2.2.2.2.2⟩, rfl⟩
    · go_simp
      have hRw := H4.out.lt
      obtain ⟨W3, HW3⟩ : ∃ W3, Hid (W2.alloc (.cells #[.int .i64 0, .int .i64 0, .int .i64 0, .int .i64 0, .int .i64 0, .int .i64 0, .int .i64 0, .int .i64 0, .int .i64 0, .int .i64 0, .int .i64 0, .int .i64 0] 28) = W3) := ⟨_, Lib.hid rfl⟩
      have H5 := Lib.hid (show Blk W3 (w.heap.size) 24 #[.int .i64 x1.frm, .int .i64 x1.to_, .int .i64 x1.tape, .int .i64 x1.comp, .int .i64 x1.slope] by rw [← HW3.out]; exact H4.out.alloc _)
      have H6 := Lib.hid (show Blk W3 (W2.heap.size) 28 #[.int .i64 0, .int .i64 0, .int .i64 0, .int .i64 0, .int .i64 0, .int .i64 0, .int .i64 0, .int .i64 0, .int .i64 0, .int .i64 0, .int .i64 0, .int .i64 0] by rw [← HW3.out]; exact (Blk.new _ _ _))
      have H7 := Lib.hid (show Below w.heap.size w W3 by rw [← HW3.out]; exact (H3.out).alloc (H3.out.size) _)
      rw [HW3.out]
      clear HW3 H4 H3
      refine hK.out _ _ (fw_mk H5.out H7.out) (fun hHeld1 => ?_)
      clear hK K hHeld
      have hHeld := hHeld1
      clear hHeld1
      try simp only [Act.put, List.getElem_toArray, List.getElem_cons_succ, List.getElem_cons_zero, List.setIfInBounds_toArray, List.set_cons_zero, List.set_cons_succ]
      refine wpAnyH_ready (rs := [1]) (by kernel_rfl) (by simp) ?_
      refine AllReadyH.cons rfl (fun K hK => ?_) AllReadyH.nil
      go_simp
      have HArg := Lib.hid (ty.more_passage (HA0.out.below H7.out) H7.out.size)
      refine (ty.to_passageS A0 n0 c0 t0 W3 hn0 HArg).mono ?_
      rintro e W4 ⟨rfl, ⟨cs_p0, hk, hf⟩, b⟩
      have HF_p0 := Lib.hid hf
      clear hf HArg
      have H8 := Lib.hid (H7.out.trans (b.mono H7.out.size))
      have H9 := Lib.hid (show Blk W4 (w.heap.size) 24 #[.int .i64 x1.frm, .int .i64 x1.to_, .int .i64 x1.tape, .int .i64 x1.comp, .int .i64 x1.slope] from H5.out.below b H5.out.lt)
      have H10 := Lib.hid (show Blk W4 (W2.heap.size) 28 #[.int .i64 0, .int .i64 0, .int .i64 0, .int .i64 0, .int .i64 0, .int .i64 0, .int .i64 0, .int .i64 0, .int .i64 0, .int .i64 0, .int .i64 0, .int .i64 0] from H6.out.below b H6.out.lt)
      clear b H7 H5 H6
      have H11 := Lib.hid hk
      clear hk
      refine hK.out _ _ (fw_mk H9.out H8.out) (fun hHeld1 => ?_)
      clear hK K hHeld
      have hHeld := hHeld1
      clear hHeld1
      try simp only [Act.put, List.getElem_toArray, List.getElem_cons_succ, List.getElem_cons_zero, List.setIfInBounds_toArray, List.set_cons_zero, List.set_cons_succ]
      refine wpAnyH_ready (rs := [3]) (by kernel_rfl) (by simp) ?_
      refine AllReadyH.cons rfl (fun K hK => ?_) AllReadyH.nil
      go_simp
      refine (ty.to_leg x1 _).mono ?_
      rintro e W5 ⟨rfl, b⟩
      have H12 := Lib.hid (H8.out.trans (b.mono H8.out.size))
      have H13 := Lib.hid (show Blk W5 (w.heap.size) 24 #[.int .i64 x1.frm, .int .i64 x1.to_, .int .i64 x1.tape, .int .i64 x1.comp, .int .i64 x1.slope] from H9.out.below b H9.out.lt)
      have H14 := Lib.hid (show Blk W5 (W2.heap.size) 28 #[.int .i64 0, .int .i64 0, .int .i64 0, .int .i64 0, .int .i64 0, .int .i64 0, .int .i64 0, .int .i64 0, .int .i64 0, .int .i64 0, .int .i64 0, .int .i64 0] from H10.out.below b H10.out.lt)
      have H15 := Lib.hid (show Blk W5 W3.heap.size 43 cs_p0 from H11.out.below b H11.out.lt)
      clear b H8 H9 H10 H11
      refine hK.out _ _ (fw_mk H13.out H12.out) (fun hHeld1 => ?_)
      clear hK K hHeld
      have hHeld := hHeld1
      clear hHeld1
      try simp only [Act.put, List.getElem_toArray, List.getElem_cons_succ, List.getElem_cons_zero, List.setIfInBounds_toArray, List.set_cons_zero, List.set_cons_succ]
      refine wpAnyH_ready (rs := [4]) (by kernel_rfl) (by simp) ?_
      refine AllReadyH.cons rfl (fun K hK => ?_) AllReadyH.nil
      go_simp
      have HL0 := Lib.hid ((ty.FillPg.at_ HF_p0.out HA0.out.1 H15.out).more (by exact H15.out.lt))
      have HTab := Lib.hid (hT.out.below H12.out)
      refine (walls_model _ n0 _ t0 x1 _ (by omega) HL0).mono ?_
      rintro e W6 ⟨rfl, b⟩
      rw [HFm.out]
      have H16 := Lib.hid (H12.out.trans (b.mono H12.out.size))
      have H17 := Lib.hid (show Blk W6 (w.heap.size) 24 #[.int .i64 x1.frm, .int .i64 x1.to_, .int .i64 x1.tape, .int .i64 x1.comp, .int .i64 x1.slope] from H13.out.below b H13.out.lt)
      have H18 := Lib.hid (show Blk W6 (W2.heap.size) 28 #[.int .i64 0, .int .i64 0, .int .i64 0, .int .i64 0, .int .i64 0, .int .i64 0, .int .i64 0, .int .i64 0, .int .i64 0, .int .i64 0, .int .i64 0, .int .i64 0] from H14.out.below b H14.out.lt)
      have H19 := Lib.hid (show Blk W6 W3.heap.size 43 cs_p0 from H15.out.below b H15.out.lt)
      clear b H12 H13 H14 H15
      clear HL0 HTab
      refine hK.out _ _ (fw_mk H17.out H16.out) (fun hHeld1 => ?_)
      clear hK K hHeld
      have hHeld := hHeld1
      clear hHeld1
      try simp only [Act.put, List.getElem_toArray, List.getElem_cons_succ, List.getElem_cons_zero, List.setIfInBounds_toArray, List.set_cons_zero, List.set_cons_succ]
      refine' wpAnyH_take (i := 5) (v := ?vr8_5) rfl (by kernel_rfl) (by kernel_rfl) (by kernel_rfl) (fun _ _ _ h => h) (Or.inl ⟨by rfl, ?hyr8_5⟩) (by assumption) ?restr8_5
      case hyr8_5 => (intro w hSw; (try dsimp only at hSw); go_simp; try (with_reducible rfl))
      simp only [Act.put, List.getElem_toArray, List.getElem_cons_succ, List.getElem_cons_zero, List.setIfInBounds_toArray, List.set_cons_zero, List.set_cons_succ]
      refine' wpAnyH_take (i := 6) (v := ?vr8_6) rfl (by kernel_rfl) (by kernel_rfl) (by kernel_rfl) (fun _ _ _ h => h) (Or.inl ⟨by rfl, ?hyr8_6⟩) (by assumption) ?restr8_6
      case hyr8_6 => (intro w hSw; (try dsimp only at hSw); go_simp; try (with_reducible rfl))
      simp only [Act.put, List.getElem_toArray, List.getElem_cons_succ, List.getElem_cons_zero, List.setIfInBounds_toArray, List.set_cons_zero, List.set_cons_succ]
      refine' wpAnyH_take (i := 7) (v := ?vr8_7) rfl (by kernel_rfl) (by kernel_rfl) (by kernel_rfl) (fun _ _ _ h => h) (Or.inl ⟨by rfl, ?hyr8_7⟩) (by assumption) ?restr8_7
      case hyr8_7 => (intro w hSw; (try dsimp only at hSw); go_simp; try (with_reducible rfl))
      simp only [Act.put, List.getElem_toArray, List.getElem_cons_succ, List.getElem_cons_zero, List.setIfInBounds_toArray, List.set_cons_zero, List.set_cons_succ]
      have z0 := H18.out.cell 0
      have f0 := H18.out.frozen 0
      have z1 := H18.out.cell 1
      have f1 := H18.out.frozen 1
      have z2 := H18.out.cell 2
      have f2 := H18.out.frozen 2
      have z3 := H18.out.cell 3
      have f3 := H18.out.frozen 3
      have z4 := H18.out.cell 4
      have f4 := H18.out.frozen 4
      have z5 := H18.out.cell 5
      have f5 := H18.out.frozen 5
      have z6 := H18.out.cell 6
      have f6 := H18.out.frozen 6
      have z7 := H18.out.cell 7
      have f7 := H18.out.frozen 7
      have z8 := H18.out.cell 8
      have f8 := H18.out.frozen 8
      have z9 := H18.out.cell 9
      have f9 := H18.out.frozen 9
      have z10 := H18.out.cell 10
      have f10 := H18.out.frozen 10
      have z11 := H18.out.cell 11
      have f11 := H18.out.frozen 11
      have zl := H18.out.lt
      simp at z0 z1 z2 z3 z4 z5 z6 z7 z8 z9 z10 z11
      have HRF := Lib.hid (blk_put H18.out (.int .i64 v0.a.east) (.int .i64 v0.a.north) (.int .i64 v0.a.up) (.int .i64 v0.b.east) (.int .i64 v0.b.north) (.int .i64 v0.b.up) (.int .i64 v0.c.east) (.int .i64 v0.c.north) (.int .i64 v0.c.up) (.int .i64 v0.d.east) (.int .i64 v0.d.north) (.int .i64 v0.d.up))
      refine wpAnyH_ready (rs := [9]) (by kernel_rfl) (by simp) ?_
      refine AllReadyH.cons rfl (fun K hK => ?_) AllReadyH.nil
      go_simp
      refine hK.out _ _ (fw_put H17.out H16.out hRw _ _ _ _ _ _ _ _ _ _ _ _) (fun hHeld1 => ?_)
      clear hK K hHeld
      have hHeld := hHeld1
      clear hHeld1
      try simp only [Act.put, List.getElem_toArray, List.getElem_cons_succ, List.getElem_cons_zero, List.setIfInBounds_toArray, List.set_cons_zero, List.set_cons_succ]
      refine' wpAnyH_take (i := 10) (v := ?vr9_10) rfl (by kernel_rfl) (by kernel_rfl) (by kernel_rfl) (fun _ _ _ h => h) (Or.inl ⟨by rfl, ?hyr9_10⟩) (by assumption) ?restr9_10
      case hyr9_10 => (intro w hSw; (try dsimp only at hSw); go_simp; try (with_reducible rfl))
      simp only [Act.put, List.getElem_toArray, List.getElem_cons_succ, List.getElem_cons_zero, List.setIfInBounds_toArray, List.set_cons_zero, List.set_cons_succ]
      refine wpAnyH_done (by kernel_rfl) ?_ _
      first | refine hJ0 _ _ ?_ | refine hK0 _ _ (Met.intro (hJ0 _ _ ?_)) | refine Met.intro (hK0 _ _ (Met.intro (hJ0 _ _ ?_)))
      (repeat apply Exists.intro)
      exact ⟨⟨_, rfl, rfl, hHeld.2.2.2.2.2.1, HRF.out, hHeld.2.2.2.2.2.2⟩, rfl⟩
  case rest =>
    obtain ⟨R, rfl, rfl, hb1, hb2, hb3⟩ := hcut
    clear H1 H2
    have H601 := Lib.hid hb1
    have H602 := Lib.hid hb2
    have H603 := Lib.hid hb3
    clear hb1 hb2 hb3
    go_wp2_with fail
    have HArg := Lib.hid (ty.more_passage (HA0.out.below H603.out) H603.out.size)
    refine (ty.to_passageS A0 n0 c0 t0 wc hn0 HArg).mono ?_
    rintro e W61 ⟨rfl, ⟨cs_x0, hk, hf⟩, b⟩
    have HF_x0 := Lib.hid hf
    clear hf HArg
    have H604 := Lib.hid (H603.out.trans (b.mono H603.out.size))
    have H605 := Lib.hid (show Blk W61 (w.heap.size) 24 #[.int .i64 x1.frm, .int .i64 x1.to_, .int .i64 x1.tape, .int .i64 x1.comp, .int .i64 x1.slope] from H601.out.below b H601.out.lt)
    have H606 := Lib.hid (show Blk W61 (R) 28 #[.int .i64 v0.a.east, .int .i64 v0.a.north, .int .i64 v0.a.up, .int .i64 v0.b.east, .int .i64 v0.b.north, .int .i64 v0.b.up, .int .i64 v0.c.east, .int .i64 v0.c.north, .int .i64 v0.c.up, .int .i64 v0.d.east, .int .i64 v0.d.north, .int .i64 v0.d.up] from H602.out.below b H602.out.lt)
    clear b H603 H601 H602
    have H607 := Lib.hid hk
    clear hk
    have q_x1l := H605.out.lt
    have q_x10 : W61.cell? ⟨w.heap.size, 0, none⟩ = some (.int .i64 x1.frm) := H605.out.cell 0
    have q_x11 : W61.cell? ⟨w.heap.size, 1, none⟩ = some (.int .i64 x1.to_) := H605.out.cell 1
    have q_x12 : W61.cell? ⟨w.heap.size, 2, none⟩ = some (.int .i64 x1.tape) := H605.out.cell 2
    have q_x13 : W61.cell? ⟨w.heap.size, 3, none⟩ = some (.int .i64 x1.comp) := H605.out.cell 3
    have q_x14 : W61.cell? ⟨w.heap.size, 4, none⟩ = some (.int .i64 x1.slope) := H605.out.cell 4
    go_wp2_with fail
    clear q_x1l q_x10 q_x11 q_x12 q_x13 q_x14
    refine (ty.to_leg x1 _).mono ?_
    rintro e W62 ⟨rfl, b⟩
    have H608 := Lib.hid (H604.out.trans (b.mono H604.out.size))
    have H609 := Lib.hid (show Blk W62 (w.heap.size) 24 #[.int .i64 x1.frm, .int .i64 x1.to_, .int .i64 x1.tape, .int .i64 x1.comp, .int .i64 x1.slope] from H605.out.below b H605.out.lt)
    have H610 := Lib.hid (show Blk W62 (R) 28 #[.int .i64 v0.a.east, .int .i64 v0.a.north, .int .i64 v0.a.up, .int .i64 v0.b.east, .int .i64 v0.b.north, .int .i64 v0.b.up, .int .i64 v0.c.east, .int .i64 v0.c.north, .int .i64 v0.c.up, .int .i64 v0.d.east, .int .i64 v0.d.north, .int .i64 v0.d.up] from H606.out.below b H606.out.lt)
    have H611 := Lib.hid (show Blk W62 wc.heap.size 43 cs_x0 from H607.out.below b H607.out.lt)
    clear b H604 H605 H606 H607
    go_wp2_with fail
    have HL0 := Lib.hid ((ty.FillPg.at_ HF_x0.out HA0.out.1 H611.out).more (by exact H611.out.lt))
    have HTab := Lib.hid (hT.out.below H608.out)
    refine (walls_impl _ n0 _ t0 x1 _ (by omega) HL0 HTab).mono ?_
    rintro e W63 ⟨rfl, b⟩
    rw [HFm.out]
    have H612 := Lib.hid (H608.out.trans (b.mono H608.out.size))
    have H613 := Lib.hid (show Blk W63 (w.heap.size) 24 #[.int .i64 x1.frm, .int .i64 x1.to_, .int .i64 x1.tape, .int .i64 x1.comp, .int .i64 x1.slope] from H609.out.below b H609.out.lt)
    have H614 := Lib.hid (show Blk W63 (R) 28 #[.int .i64 v0.a.east, .int .i64 v0.a.north, .int .i64 v0.a.up, .int .i64 v0.b.east, .int .i64 v0.b.north, .int .i64 v0.b.up, .int .i64 v0.c.east, .int .i64 v0.c.north, .int .i64 v0.c.up, .int .i64 v0.d.east, .int .i64 v0.d.north, .int .i64 v0.d.up] from H610.out.below b H610.out.lt)
    have H615 := Lib.hid (show Blk W63 wc.heap.size 43 cs_x0 from H611.out.below b H611.out.lt)
    clear b H608 H609 H610 H611
    clear HL0
    clear HTab
    have q_w0l := H614.out.lt
    have q_w00 : W63.cell? ⟨R, 0, none⟩ = some (.int .i64 v0.a.east) := H614.out.cell 0
    have q_w01 : W63.cell? ⟨R, 1, none⟩ = some (.int .i64 v0.a.north) := H614.out.cell 1
    have q_w02 : W63.cell? ⟨R, 2, none⟩ = some (.int .i64 v0.a.up) := H614.out.cell 2
    have q_w03 : W63.cell? ⟨R, 3, none⟩ = some (.int .i64 v0.b.east) := H614.out.cell 3
    have q_w04 : W63.cell? ⟨R, 4, none⟩ = some (.int .i64 v0.b.north) := H614.out.cell 4
    have q_w05 : W63.cell? ⟨R, 5, none⟩ = some (.int .i64 v0.b.up) := H614.out.cell 5
    have q_w06 : W63.cell? ⟨R, 6, none⟩ = some (.int .i64 v0.c.east) := H614.out.cell 6
    have q_w07 : W63.cell? ⟨R, 7, none⟩ = some (.int .i64 v0.c.north) := H614.out.cell 7
    have q_w08 : W63.cell? ⟨R, 8, none⟩ = some (.int .i64 v0.c.up) := H614.out.cell 8
    have q_w09 : W63.cell? ⟨R, 9, none⟩ = some (.int .i64 v0.d.east) := H614.out.cell 9
    have q_w010 : W63.cell? ⟨R, 10, none⟩ = some (.int .i64 v0.d.north) := H614.out.cell 10
    have q_w011 : W63.cell? ⟨R, 11, none⟩ = some (.int .i64 v0.d.up) := H614.out.cell 11
    go_wp2_with fail
    clear q_w0l q_w00 q_w01 q_w02 q_w03 q_w04 q_w05 q_w06 q_w07 q_w08 q_w09 q_w010 q_w011
    obtain ⟨W64, HW64⟩ : ∃ W64, Hid (W63.alloc (.cells #[.int .i64 v0.a.east, .int .i64 v0.a.north, .int .i64 v0.a.up, .int .i64 v0.b.east, .int .i64 v0.b.north, .int .i64 v0.b.up, .int .i64 v0.c.east, .int .i64 v0.c.north, .int .i64 v0.c.up, .int .i64 v0.d.east, .int .i64 v0.d.north, .int .i64 v0.d.up] 28) = W64) := ⟨_, Lib.hid rfl⟩
    have H616 := Lib.hid (show Blk W64 (w.heap.size) 24 #[.int .i64 x1.frm, .int .i64 x1.to_, .int .i64 x1.tape, .int .i64 x1.comp, .int .i64 x1.slope] by rw [← HW64.out]; exact H613.out.alloc _)
    have H617 := Lib.hid (show Blk W64 (R) 28 #[.int .i64 v0.a.east, .int .i64 v0.a.north, .int .i64 v0.a.up, .int .i64 v0.b.east, .int .i64 v0.b.north, .int .i64 v0.b.up, .int .i64 v0.c.east, .int .i64 v0.c.north, .int .i64 v0.c.up, .int .i64 v0.d.east, .int .i64 v0.d.north, .int .i64 v0.d.up] by rw [← HW64.out]; exact H614.out.alloc _)
    have H618 := Lib.hid (show Blk W64 (W63.heap.size) 28 #[.int .i64 v0.a.east, .int .i64 v0.a.north, .int .i64 v0.a.up, .int .i64 v0.b.east, .int .i64 v0.b.north, .int .i64 v0.b.up, .int .i64 v0.c.east, .int .i64 v0.c.north, .int .i64 v0.c.up, .int .i64 v0.d.east, .int .i64 v0.d.north, .int .i64 v0.d.up] by rw [← HW64.out]; exact (Blk.new _ _ _))
    have H619 := Lib.hid (show Below w.heap.size w W64 by rw [← HW64.out]; exact (H612.out).alloc (H612.out.size) _)
    have H620 := Lib.hid (show Blk W64 wc.heap.size 43 cs_x0 by rw [← HW64.out]; exact (H615.out).alloc _)
    rw [HW64.out]
    clear HW64 H613 H614 H612
    refine (pw.eq_shiftA4 _ _).mono ?_
    rintro e W65 ⟨rfl, b⟩
    have H621 := Lib.hid (H619.out.trans (b.mono H619.out.size))
    have H622 := Lib.hid (show Blk W65 (w.heap.size) 24 #[.int .i64 x1.frm, .int .i64 x1.to_, .int .i64 x1.tape, .int .i64 x1.comp, .int .i64 x1.slope] from H616.out.below b H616.out.lt)
    have H623 := Lib.hid (show Blk W65 (R) 28 #[.int .i64 v0.a.east, .int .i64 v0.a.north, .int .i64 v0.a.up, .int .i64 v0.b.east, .int .i64 v0.b.north, .int .i64 v0.b.up, .int .i64 v0.c.east, .int .i64 v0.c.north, .int .i64 v0.c.up, .int .i64 v0.d.east, .int .i64 v0.d.north, .int .i64 v0.d.up] from H617.out.below b H617.out.lt)
    have H624 := Lib.hid (show Blk W65 (W63.heap.size) 28 #[.int .i64 v0.a.east, .int .i64 v0.a.north, .int .i64 v0.a.up, .int .i64 v0.b.east, .int .i64 v0.b.north, .int .i64 v0.b.up, .int .i64 v0.c.east, .int .i64 v0.c.north, .int .i64 v0.c.up, .int .i64 v0.d.east, .int .i64 v0.d.north, .int .i64 v0.d.up] from H618.out.below b H618.out.lt)
    have H625 := Lib.hid (show Blk W65 wc.heap.size 43 cs_x0 from H620.out.below b H620.out.lt)
    clear b H619 H616 H617 H618 H620
    go_wp2_with fail
    have HArg := Lib.hid (ty.more_passage (HA0.out.below H621.out) H621.out.size)
    refine (ty.to_passageS A0 n0 c0 t0 W65 hn0 HArg).mono ?_
    rintro e W66 ⟨rfl, ⟨cs_z0, hk, hf⟩, b⟩
    have HF_z0 := Lib.hid hf
    clear hf HArg
    have H626 := Lib.hid (H621.out.trans (b.mono H621.out.size))
    have H627 := Lib.hid (show Blk W66 (w.heap.size) 24 #[.int .i64 x1.frm, .int .i64 x1.to_, .int .i64 x1.tape, .int .i64 x1.comp, .int .i64 x1.slope] from H622.out.below b H622.out.lt)
    have H628 := Lib.hid (show Blk W66 (R) 28 #[.int .i64 v0.a.east, .int .i64 v0.a.north, .int .i64 v0.a.up, .int .i64 v0.b.east, .int .i64 v0.b.north, .int .i64 v0.b.up, .int .i64 v0.c.east, .int .i64 v0.c.north, .int .i64 v0.c.up, .int .i64 v0.d.east, .int .i64 v0.d.north, .int .i64 v0.d.up] from H623.out.below b H623.out.lt)
    have H629 := Lib.hid (show Blk W66 (W63.heap.size) 28 #[.int .i64 v0.a.east, .int .i64 v0.a.north, .int .i64 v0.a.up, .int .i64 v0.b.east, .int .i64 v0.b.north, .int .i64 v0.b.up, .int .i64 v0.c.east, .int .i64 v0.c.north, .int .i64 v0.c.up, .int .i64 v0.d.east, .int .i64 v0.d.north, .int .i64 v0.d.up] from H624.out.below b H624.out.lt)
    have H630 := Lib.hid (show Blk W66 wc.heap.size 43 cs_x0 from H625.out.below b H625.out.lt)
    clear b H621 H622 H623 H624 H625
    have H631 := Lib.hid hk
    clear hk
    go_wp2_with fail
    have HLx := Lib.hid ((ty.FillPg.at_ HF_x0.out HA0.out.1 H630.out).more (by exact H630.out.lt))
    have HLz := Lib.hid ((ty.FillPg.at_ HF_z0.out HA0.out.1 H631.out).more (by exact H631.out.lt))
    refine (ty.eq_passageS _ _ n0 _ _ t0 _ (by omega) HLx HLz).mono ?_
    rintro e W67 ⟨rfl, b⟩
    have H632 := Lib.hid (H626.out.trans (b.mono H626.out.size))
    have H633 := Lib.hid (show Blk W67 (w.heap.size) 24 #[.int .i64 x1.frm, .int .i64 x1.to_, .int .i64 x1.tape, .int .i64 x1.comp, .int .i64 x1.slope] from H627.out.below b H627.out.lt)
    have H634 := Lib.hid (show Blk W67 (R) 28 #[.int .i64 v0.a.east, .int .i64 v0.a.north, .int .i64 v0.a.up, .int .i64 v0.b.east, .int .i64 v0.b.north, .int .i64 v0.b.up, .int .i64 v0.c.east, .int .i64 v0.c.north, .int .i64 v0.c.up, .int .i64 v0.d.east, .int .i64 v0.d.north, .int .i64 v0.d.up] from H628.out.below b H628.out.lt)
    have H635 := Lib.hid (show Blk W67 (W63.heap.size) 28 #[.int .i64 v0.a.east, .int .i64 v0.a.north, .int .i64 v0.a.up, .int .i64 v0.b.east, .int .i64 v0.b.north, .int .i64 v0.b.up, .int .i64 v0.c.east, .int .i64 v0.c.north, .int .i64 v0.c.up, .int .i64 v0.d.east, .int .i64 v0.d.north, .int .i64 v0.d.up] from H629.out.below b H629.out.lt)
    have H636 := Lib.hid (show Blk W67 wc.heap.size 43 cs_x0 from H630.out.below b H630.out.lt)
    have H637 := Lib.hid (show Blk W67 W65.heap.size 43 cs_z0 from H631.out.below b H631.out.lt)
    clear b H626 H627 H628 H629 H630 H631
    clear HLx HLz
    go_wp2_with fail
    go_ret
    exact ⟨rfl, H632.out⟩

theorem laidOut : laidOutB Tryd.prog = true := by kernel_rfl
set_option maxRecDepth 100000 in
theorem contract (H : Type) (enc : TypeId × Value → H) (W : World) (base : Nat) (args : Array Value) (ds gs : List (DataW H)) (before : List MemPlace)
    (hval : ∀ (j : Nat) t v, Tryd.f3.params[j]? = some t → args[j]? = some v → Value.okWide Tryd.prog W .any base t v)
    (hW : DataW.Whole enc Tryd.prog Tryd.f3.params.toList Rows.fnExactWallsAtSpec.vars false W args.toList ds gs before) (hL : laidMetH Tryd.prog Rows.fnExactWallsAtRow.laid W) :
    Calls Tryd.prog 3 args W fun e W' => ∃ v, e = .returned v ∧ Rows.fnExactWallsAtSpec.post enc Tryd.prog Tryd.f3 false true false false W args v W' := by
  have hT : Tab W := given (row := Rows.fnExactWallsAtRow) (by kernel_rfl) hL
  have hW' := hW
  obtain ⟨p, q, hA0, hV0, rfl, hfz, hnd⟩ := hW
  have hA : DataW.TrodAll enc Tryd.prog W 0 (fun _ => true) true Tryd.f3.params.toList args.toList ds p := hA0
  have hV : DataW.TrodVars enc Tryd.prog W (fun _ => true) ["loop.example/g00933/impl.sines"] gs q := hV0
  rw [Tryd.params3] at hA hval
  obtain ⟨v0, vs0, d0, ds0, p0, q0, hargs, rfl, rfl, h0, r0⟩ := trodAll_cons hA
  obtain ⟨v1, vs1, d1, ds1, p1, q1, rfl, rfl, rfl, h1, r1⟩ := trodAll_cons r0
  obtain ⟨rfl, rfl, rfl⟩ := trodAll_nil r1
  obtain rfl : args = #[v0, v1] := by cases args; simp_all
  obtain ⟨rfl, rfl⟩ := var_open hT hV
  have k0 := h0
  have lt0 : ∀ x ∈ p0, x.block < W.heap.size := by obtain ⟨m, hm⟩ := k0; exact DataW.trod_lt m _ _ _ hm
  obtain ⟨A0, n0, c0, t0, rfl, HA0, hm0⟩ := ty.open_passageS (hval 0 22 v0 rfl rfl) h0
  have k1 := h1
  have lt1 : ∀ x ∈ p1, x.block < W.heap.size := by obtain ⟨m, hm⟩ := k1; exact DataW.trod_lt m _ _ _ hm
  obtain ⟨x1, rfl⟩ := ty.open_leg (hval 1 24 v1 rfl rfl) h1
  clear hA0 hV0
  refine (walk A0 n0 c0 t0 x1 W hm0 (Lib.hid HA0) (Lib.hid hT)).mono fun e W' ⟨he, bel⟩ => ?_
  subst he
  exact ⟨_, rfl, _, _, _, [], _, tabP, hW', trodAll_mk1 (shut_bool Tryd.underlying4 _), (trodAll_cons_mk (Below.trod laidOut (by kernel_rfl) (of_decide_eq_true (by kernel_rfl)) k0 bel lt0) (trodAll_cons_mk (Below.trod laidOut (by kernel_rfl) (of_decide_eq_true (by kernel_rfl)) k1 bel lt1) trodAll_mk0)), var_shut (hT.below bel) _, bel.frame _, fun h => by cases h⟩

theorem laid_met (os : Os) : laidMet Tryd.prog Rows.fnExactWallsAtRow.laid ((World.doorLaid Tryd.prog 2000 os).forCall (fun _ _ => 0) ⟨#[], #[.slice none 0 0, .agg #[.int .i64 0, .int .i64 0, .int .i64 0, .int .i64 0, .int .i64 0]], []⟩).memory :=
  laidMet_of_run' 8 (by kernel_rfl) (by kernel_rfl)
theorem readsIt (os : Os) {H : Type} (enc : TypeId × Value → H) : ∃ ds places, DataW.whole enc Tryd.prog ((World.doorLaid Tryd.prog 2000 os).forCall (fun _ _ => 0) ⟨#[], #[.slice none 0 0, .agg #[.int .i64 0, .int .i64 0, .int .i64 0, .int .i64 0, .int .i64 0]], []⟩).memory Tryd.f3.params.toList Rows.fnExactWallsAtSpec.vars false (#[.slice none 0 0, .agg #[.int .i64 0, .int .i64 0, .int .i64 0, .int .i64 0, .int .i64 0]] : Array Value).toList 8 = some (ds, [tabH], places) :=
  ⟨[.nil, .agg [.lit (.int .i64 0), .lit (.int .i64 0), .lit (.int .i64 0), .lit (.int .i64 0), .lit (.int .i64 0)]], tabP, by kernel_rfl⟩

set_option maxRecDepth 100000 in
theorem lifted (os : Os) (started : os.Started) (H : Type) (enc : TypeId × Value → H) (F : Stop.Interp) :
    ReturnsInHanded {} Tryd.checked os 3 .any ((OpenSpec.ofChange Rows.fnExactWallsAtSpec).preRow enc Tryd.prog Tryd.f3 Rows.fnExactWallsAtRow.domain false Rows.fnExactWallsAtRow.laid) (((OpenSpec.ofChange Rows.fnExactWallsAtSpec).at F).post enc Tryd.prog Tryd.f3 false true false false) := by
  obtain ⟨d, places, hx⟩ := readsIt os enc
  refine returnsInHanded_of_row (C := Tryd.checked) (s := OpenSpec.ofChange Rows.fnExactWallsAtSpec) own started (by kernel_rfl) Tryd.func3
    (witness_row_at (enc := enc) (C := Tryd.checked) false (World.doorLaid Tryd.prog 2000 os) #[.slice none 0 0, .agg #[.int .i64 0, .int .i64 0, .int .i64 0, .int .i64 0, .int .i64 0]] rfl (by kernel_rfl) (by kernel_rfl) (by kernel_rfl)
      (OpenSpec.preRow_of_cond 8 hx (by kernel_rfl) (fun k hk => by cases hk) (by kernel_rfl) (laid_met os))) ?_
  intro W base args ds gs before hval hW _ _ _ hL _ _
  exact contract H enc W base args ds gs before hval hW hL

theorem said : Rows.FnExactWallsAtSaid :=
  OpenClaim.holds_of_cond 3 Tryd.f3 rfl rfl rfl rfl rfl rfl rfl ⟨rfl, rfl, rfl, rfl, rfl⟩ rfl rfl rfl rfl rfl (by kernel_rfl) Tryd.func3 (by kernel_rfl)
    (of_decide_eq_true (by kernel_rfl)) (by unfold Func.isWrapper; first | (rw [if_pos (by decide +kernel)]; kernel_rfl) | (rw [if_neg (by decide +kernel)]; exact ⟨rfl, rfl⟩))
    (fun os started H enc _ F => by rw [OpenClaim.pre_eq_preRow]; exact lifted os started H enc F)

theorem plain (f : FuncId) (fn : Func) (hf : Tryd.pinned.checked.prog.funcNamed "loop.example/g00933/laws.FnExactWallsAt" = some f) (hfn : Tryd.pinned.checked.prog.funcs[f]? = some fn) :
    false = Tryd.pinned.checked.prog.looks [] ∧ ∀ (j : Nat) t, fn.params[j]? = some t → Tryd.pinned.checked.prog.wantsStandIn t = false := by
  obtain rfl : f = 3 := Option.some.inj ((show Tryd.prog.funcNamed "loop.example/g00933/laws.FnExactWallsAt" = some 3 by kernel_rfl).symm.trans hf) |>.symm
  obtain rfl : fn = Tryd.f3 := (Option.some.inj (Tryd.func3.symm.trans hfn)).symm
  refine ⟨by kernel_rfl, fun j t ht => ?_⟩
  rw [Tryd.params3] at ht
  have hm := Array.mem_of_getElem? ht
  have hall : ∀ q ∈ #[22, 24].toList, Tryd.prog.wantsStandIn q = false := by
    intro q hq
    simp at hq
    (repeat' (first | (rcases hq with rfl | hq) | subst hq))
    all_goals (first | exact (show Tryd.prog.wantsStandIn _ = false by kernel_rfl))
  exact hall t (by simpa using hm)

theorem proved : Rows.FnExactWallsAtCardSaid :=
  Claim7.holds_tied_plain_at .later [] _ _ _ _ said (fun _ h => by cases h) (by kernel_rfl) (fun _ h => by cases h) fnExactWallsAt_row_tie rfl ⟨rfl, rfl⟩ (by kernel_rfl) rfl plain (by kernel_rfl)
#print axioms proved
end Go.Proofs.YtnpghhpcloljeaaDoor.fnExactWallsAt
