/-
  ResidualOf, by the model and by the program.
  Conditions: those that each theorem names.
-/
import Derived.Test.YtnpghhpcloljeabGreatDoorPhAq
namespace Go.Proofs.YtnpghhpcloljeabGreatDoor.ph
open Go.RowKit
open reads base ty lg lgi win hs nt nq rowi sn mt ml dt pg
set_option linter.unusedVariables false
set_option linter.unusedSimpArgs false

set_option maxHeartbeats 16000000 in
set_option maxRecDepth 100000 in
theorem residualOf_model (A : Option Addr) (n cap : Nat) (ts : List Lg) (ax i : Int) (w : World) (hn : n ≤ 2000000) (hts : Hid (LgAt w w.heap.size A n ts)) :
    Calls Tryz.prog 20 #[.slice A n cap, .int .i64 ax, .int .i64 i] w (APost (ansRs ts ax i) w) := by
  have HL := Lib.hid hts.out.1
  obtain ⟨t, HT⟩ : ∃ t, Hid (axOk ts ax = t) := ⟨_, Lib.hid rfl⟩
  cases t
  · have HF := Lib.hid (show ansRs ts ax i = .tuple #[.int .i64 0, .int .i64 0, .bool false] by unfold ansRs; rw [HT.out]; rfl)
    go_enter Tryz.func20, Tryz.ntmps20
    go_wp2_with fail
    refine (axis_is A n cap ts ax false _ hn hts HT).mono ?_
    rintro e w1 ⟨rfl, b1⟩
    have HB := Lib.hid b1
    clear b1
    go_wp2_with fail
    go_ret3
    exact ⟨by rw [HF.out]; rfl, HB.out⟩
  have HGA := Lib.hid (show goodLg ts = true ∧ btw 0 ax 2 = true by have := HT.out; unfold axOk at this; rwa [Bool.and_eq_true] at this)
  have HG := Lib.hid HGA.out.1
  have hax := btw_yes HGA.out.2
  obtain ⟨U, HU⟩ : ∃ q, Hid (plIds ts = q) := ⟨_, Lib.hid rfl⟩
  obtain ⟨nu, HNU⟩ : ∃ q, Hid (U.length = q) := ⟨_, Lib.hid rfl⟩
  have hn12 := len12 HL.out HG.out
  have hnu : nu ≤ 12 := by rw [← HNU.out, ← HU.out]; have := plIds_len' ts; rw [HL.out] at this; omega
  obtain ⟨p, HP⟩ : ∃ t, Hid (mem U i = t) := ⟨_, Lib.hid rfl⟩
  cases p
  · have HF := Lib.hid (show ansRs ts ax i = .tuple #[.int .i64 0, .int .i64 0, .bool false] by unfold ansRs; rw [HT.out, HU.out, HP.out]; rfl)
    go_enter Tryz.func20, Tryz.ntmps20
    go_wp2_with fail
    refine (axis_is A n cap ts ax true _ hn hts HT).mono ?_
    rintro e w1 ⟨rfl, b1⟩
    have HB := Lib.hid b1
    clear b1
    go_wp2_with fail
    refine (legs9_any A n cap ts _ HG (Lib.hid (hts.out.step HB.out))).mono ?_
    rintro e w2 ⟨vU, rfl, hOU, b2⟩
    rw [HU.out, HNU.out] at hOU
    obtain ⟨AU, cU, rfl⟩ := row_slice hOU
    have HI := Lib.hid (ints.IL.of_own hOU)
    have HB2 := Lib.hid (HB.out.trans (b2.mono HB.out.size))
    clear hOU b2
    go_wp2_with fail
    refine (has_is AU nu cU U i false HP _ (by omega) HI).mono ?_
    rintro e w3 ⟨rfl, rfl⟩
    go_wp2_with fail
    go_ret3
    exact ⟨by rw [HF.out]; rfl, HB2.out⟩
  · obtain ⟨j, rfl, ⟨xf, xt, xp, xc, xs⟩, hx, -⟩ := plIds_at (by rw [HU.out]; exact mem_iff.1 HP.out)
    have hjn : j < n := by have := lt_at hx; rw [HL.out] at this; exact this
    have hji : (j : Int) < (n : Int) := by omega
    have hj0 : (0 : Int) ≤ (j : Int) := by omega
    have HX := Lib.hid hx
    have HOX := Lib.hid (goodLg_at HG.out hx)
    have bR := resV_bd HG.out ax hx
    have btr := tc_bd HG.out
    have ltr1 := TC_pos HG.out
    obtain ⟨tr, HTR⟩ : ∃ q, Hid (TC ts = q) := ⟨_, Lib.hid rfl⟩
    obtain ⟨R, HRR⟩ : ∃ q, Hid (resV ts ax (j : Int) = q) := ⟨_, Lib.hid rfl⟩
    have HRV := Lib.hid (show rsV ⟨xf, xt, xp, xc, xs⟩ ax (xcN ts ax) tr = R by rw [← HRR.out, ← HTR.out]; unfold resV; rw [lgAt_is hx])
    rw [HRR.out] at bR
    rw [HTR.out] at btr ltr1
    have lR : lim62 R := by unfold lim62; omega
    have ltr : lim62 tr := by unfold lim62; omega
    obtain ⟨rn, HRN⟩ : ∃ q, Hid (redN R tr = q) := ⟨_, Lib.hid rfl⟩
    obtain ⟨rd, HRD⟩ : ∃ q, Hid (redD R tr = q) := ⟨_, Lib.hid rfl⟩
    have HF := Lib.hid (show ansRs ts ax (j : Int) = .tuple #[.int .i64 rn, .int .i64 rd, .bool true] by unfold ansRs; rw [HT.out, HU.out, HP.out, HRR.out, HTR.out, HRN.out, HRD.out]; rfl)
    clear hx bR
    go_enter Tryz.func20, Tryz.ntmps20
    go_wp2_with fail
    refine (axis_is A n cap ts ax true _ hn hts HT).mono ?_
    rintro e w1 ⟨rfl, b1⟩
    have HB := Lib.hid b1
    clear b1
    go_wp2_with fail
    refine (legs9_any A n cap ts _ HG (Lib.hid (hts.out.step HB.out))).mono ?_
    rintro e w2 ⟨vU, rfl, hOU, b2⟩
    rw [HU.out, HNU.out] at hOU
    obtain ⟨AU, cU, rfl⟩ := row_slice hOU
    have HI := Lib.hid (ints.IL.of_own hOU)
    have HB2 := Lib.hid (HB.out.trans (b2.mono HB.out.size))
    clear hOU b2
    go_wp2_with fail
    refine (has_is AU nu cU U (j : Int) true HP _ (by omega) HI).mono ?_
    rintro e w3 ⟨rfl, rfl⟩
    go_wp2_with fail
    refine (trees_any A n cap ts _ HG (Lib.hid (hts.out.step HB2.out))).mono ?_
    rintro e w4 ⟨rfl, b4⟩
    rw [HTR.out]
    have HB4 := Lib.hid (HB2.out.trans (b4.mono HB2.out.size))
    clear b4 HI
    obtain ⟨gL, rfl, hgL, e0, e1, e2, e3, e4⟩ := (hts.out.step HB4.out).2 j _ HX.out
    simp only [] at e0 e1 e2 e3 e4
    have HLW := Lib.hid (hts.out.step HB4.out)
    go_upto_region 4 with fail
    obtain ⟨W0, HW0⟩ : ∃ W, Hid (w4 = W) := ⟨_, Lib.hid rfl⟩
    rw [HW0.out] at HB4 HLW hgL e0 e1 e2 e3 e4 ⊢
    clear HW0
    obtain ⟨B, HBB⟩ : ∃ B, Hid (W0.heap.size = B) := ⟨_, Lib.hid rfl⟩
    have HWB := Lib.hid (show B ≤ W0.heap.size by rw [HBB.out]; exact Nat.le_refl _)
    rw [HBB.out] at hgL HLW
    refine wp_region_held_drew (S := (fun v => (∀ b o, b < B → v.cell? ⟨b, o, none⟩ = W0.cell? ⟨b, o, none⟩) ∧ Below B W0 v)) (by kernel_rfl) ?_ (fun hHeld => ?_)
    · exact sb_start (Below.refl _ _)
    refine' wpAnyH_take (i := 0) (v := ?vr1_0) rfl (by kernel_rfl) (by kernel_rfl) (by kernel_rfl) (fun _ _ _ h => h) (Or.inl ⟨by rfl, ?hyr1_0⟩) (by assumption) ?restr1_0
    case hyr1_0 => (intro w hSw; (try dsimp only at hSw); go_simp; try (with_reducible rfl))
    simp only [Act.put, List.getElem_toArray, List.getElem_cons_succ, List.getElem_cons_zero, List.setIfInBounds_toArray, List.set_cons_zero, List.set_cons_succ]
    refine' wpAnyH_take (i := 1) (v := ?vr1_1) rfl (by kernel_rfl) (by kernel_rfl) (by kernel_rfl) (fun _ _ _ h => h) (Or.inl ⟨by rfl, ?hyr1_1⟩) (by assumption) ?restr1_1
    case hyr1_1 => (intro w hSw; (try dsimp only at hSw); go_simp; try (with_reducible rfl))
    simp only [Act.put, List.getElem_toArray, List.getElem_cons_succ, List.getElem_cons_zero, List.setIfInBounds_toArray, List.set_cons_zero, List.set_cons_succ]
    refine' wpAnyH_take (i := 2) (v := ?vr1_2) rfl (by kernel_rfl) (by kernel_rfl) (by kernel_rfl) (fun _ _ _ h => h) (Or.inl ⟨by rfl, ?hyr1_2⟩) (by assumption) ?restr1_2
    case hyr1_2 => (intro w hSw; (try dsimp only at hSw); go_simp; try (with_reducible rfl))
    simp only [Act.put, List.getElem_toArray, List.getElem_cons_succ, List.getElem_cons_zero, List.setIfInBounds_toArray, List.set_cons_zero, List.set_cons_succ]
    refine' wpAnyH_take (i := 3) (v := ?vr1_3) rfl (by kernel_rfl) (by kernel_rfl) (by kernel_rfl) (fun _ _ _ h => h) (Or.inl ⟨by rfl, ?hyr1_3⟩) (by assumption) ?restr1_3
    case hyr1_3 => (intro w hSw; (try dsimp only at hSw); go_simp; try (with_reducible rfl))
    simp only [Act.put, List.getElem_toArray, List.getElem_cons_succ, List.getElem_cons_zero, List.setIfInBounds_toArray, List.set_cons_zero, List.set_cons_succ]
    refine' wpAnyH_take (i := 4) (v := ?vr1_4) rfl (by kernel_rfl) (by kernel_rfl) (by kernel_rfl) (fun _ _ _ h => h) (Or.inl ⟨by rfl, ?hyr1_4⟩) (by assumption) ?restr1_4
    case hyr1_4 => (intro w hSw; (try dsimp only at hSw); go_simp; try (with_reducible rfl))
    simp only [Act.put, List.getElem_toArray, List.getElem_cons_succ, List.getElem_cons_zero, List.setIfInBounds_toArray, List.set_cons_zero, List.set_cons_succ]
    refine' wpAnyH_take (i := 5) (v := ?vr1_5) rfl (by kernel_rfl) (by kernel_rfl) (by kernel_rfl) (fun _ _ _ h => h) (Or.inl ⟨by rfl, ?hyr1_5⟩) (by assumption) ?restr1_5
    case hyr1_5 => (intro w hSw; (try dsimp only at hSw); go_simp; try (with_reducible rfl))
    simp only [Act.put, List.getElem_toArray, List.getElem_cons_succ, List.getElem_cons_zero, List.setIfInBounds_toArray, List.set_cons_zero, List.set_cons_succ]
    refine' wpAnyH_take (i := 6) (v := ?vr1_6) rfl (by kernel_rfl) (by kernel_rfl) (by kernel_rfl) (fun _ _ _ h => h) (Or.inl ⟨by rfl, ?hyr1_6⟩) (by assumption) ?restr1_6
    case hyr1_6 => (intro w hSw; (try dsimp only at hSw); go_simp; try (with_reducible rfl))
    simp only [Act.put, List.getElem_toArray, List.getElem_cons_succ, List.getElem_cons_zero, List.setIfInBounds_toArray, List.set_cons_zero, List.set_cons_succ]
    refine' wpAnyH_take (i := 8) (v := ?vr1_8) rfl (by kernel_rfl) (by kernel_rfl) (by kernel_rfl) (fun _ _ _ h => h) (Or.inl ⟨by rfl, ?hyr1_8⟩) (by assumption) ?restr1_8
    case hyr1_8 => (intro w hSw; (try dsimp only at hSw); go_simp; try (with_reducible rfl))
    simp only [Act.put, List.getElem_toArray, List.getElem_cons_succ, List.getElem_cons_zero, List.setIfInBounds_toArray, List.set_cons_zero, List.set_cons_succ]
    refine' wpAnyH_take (i := 10) (v := ?vr1_10) rfl (by kernel_rfl) (by kernel_rfl) (by kernel_rfl) (fun _ _ _ h => h) (Or.inl ⟨by rfl, ?hyr1_10⟩) (by assumption) ?restr1_10
    case hyr1_10 => (intro w hSw; (try dsimp only at hSw); go_simp; try (with_reducible rfl))
    simp only [Act.put, List.getElem_toArray, List.getElem_cons_succ, List.getElem_cons_zero, List.setIfInBounds_toArray, List.set_cons_zero, List.set_cons_succ]
    refine wpAnyH_ready (rs := [7]) (by kernel_rfl) (by simp) ?_
    refine AllReadyH.cons rfl (fun K hK => ?_) AllReadyH.nil
    go_simp
    refine (adjust_any (some ⟨gL, 0, none⟩) n cap ts ax _ hax.1 hax.2 HG (Lib.hid ((HLW.out.below hHeld.2).more (Nat.le_trans HWB.out hHeld.2.size)))).mono ?_
    rintro e w7 ⟨v7, rfl, hO7, b7⟩
    rw [xcN_len] at hO7
    obtain ⟨A8, c8, rfl⟩ := row_slice hO7
    have HO7 := Lib.hid (IO.of_own hO7)
    have HB7 := Lib.hid b7
    clear hO7 b7
    refine hK.out _ _ (sb_step hHeld HWB.out HB7.out) (fun hHeld1 => ?_)
    clear hK K hHeld
    have hHeld := hHeld1
    clear hHeld1
    try simp only [Act.put, List.getElem_toArray, List.getElem_cons_succ, List.getElem_cons_zero, List.setIfInBounds_toArray, List.set_cons_zero, List.set_cons_succ]
    refine wpAnyH_ready (rs := [9]) (by kernel_rfl) (by simp) ?_
    refine AllReadyH.cons rfl (fun K hK => ?_) AllReadyH.nil
    go_simp
    refine (rest_any ⟨xf, xt, xp, xc, xs⟩ ax tr R A8 c8 (xcN ts ax) _ HOX hax.1 hax.2 btr (Lib.hid (xcN_bd HG.out ax)) HO7 HRV).mono ?_
    rintro e w8 ⟨rfl, b8⟩
    refine hK.out _ _ (sb_step hHeld HWB.out b8) (fun hHeld1 => ?_)
    clear hK K hHeld
    have hHeld := hHeld1
    clear hHeld1
    try simp only [Act.put, List.getElem_toArray, List.getElem_cons_succ, List.getElem_cons_zero, List.setIfInBounds_toArray, List.set_cons_zero, List.set_cons_succ]
    refine wpAnyH_ready (rs := [11]) (by kernel_rfl) (by simp) ?_
    refine AllReadyH.cons rfl (fun K hK => ?_) AllReadyH.nil
    go_simp
    refine (reduce_any R tr rn rd _ lR ltr ltr1 HRN HRD).mono ?_
    rintro e w9 ⟨rfl, b9⟩
    refine hK.out _ _ (sb_step hHeld HWB.out b9) (fun hHeld1 => ?_)
    clear hK K hHeld
    have hHeld := hHeld1
    clear hHeld1
    try simp only [Act.put, List.getElem_toArray, List.getElem_cons_succ, List.getElem_cons_zero, List.setIfInBounds_toArray, List.set_cons_zero, List.set_cons_succ]
    refine' wpAnyH_take (i := 12) (v := ?vr1_12) rfl (by kernel_rfl) (by kernel_rfl) (by kernel_rfl) (fun _ _ _ h => h) (Or.inl ⟨by rfl, ?hyr1_12⟩) (by assumption) ?restr1_12
    case hyr1_12 => (intro w hSw; (try dsimp only at hSw); go_simp; try (with_reducible rfl))
    simp only [Act.put, List.getElem_toArray, List.getElem_cons_succ, List.getElem_cons_zero, List.setIfInBounds_toArray, List.set_cons_zero, List.set_cons_succ]
    refine' wpAnyH_take (i := 13) (v := ?vr1_13) rfl (by kernel_rfl) (by kernel_rfl) (by kernel_rfl) (fun _ _ _ h => h) (Or.inl ⟨by rfl, ?hyr1_13⟩) (by assumption) ?restr1_13
    case hyr1_13 => (intro w hSw; (try dsimp only at hSw); go_simp; try (with_reducible rfl))
    simp only [Act.put, List.getElem_toArray, List.getElem_cons_succ, List.getElem_cons_zero, List.setIfInBounds_toArray, List.set_cons_zero, List.set_cons_succ]
    refine' wpAnyH_take (i := 14) (v := ?vr1_14) rfl (by kernel_rfl) (by kernel_rfl) (by kernel_rfl) (fun _ _ _ h => h) (Or.inl ⟨by rfl, ?hyr1_14⟩) (by assumption) ?restr1_14
    case hyr1_14 => (intro w hSw; (try dsimp only at hSw); go_simp; try (with_reducible rfl))
    simp only [Act.put, List.getElem_toArray, List.getElem_cons_succ, List.getElem_cons_zero, List.setIfInBounds_toArray, List.set_cons_zero, List.set_cons_succ]
    refine' wpAnyH_take (i := 15) (v := ?vr1_15) rfl (by kernel_rfl) (by kernel_rfl) (by kernel_rfl) (fun _ _ _ h => h) (Or.inl ⟨by rfl, ?hyr1_15⟩) (by assumption) ?restr1_15
    case hyr1_15 => (intro w hSw; (try dsimp only at hSw); go_simp; try (with_reducible rfl))
    simp only [Act.put, List.getElem_toArray, List.getElem_cons_succ, List.getElem_cons_zero, List.setIfInBounds_toArray, List.set_cons_zero, List.set_cons_succ]
    refine' wpAnyH_take (i := 16) (v := ?vr1_16) rfl (by kernel_rfl) (by kernel_rfl) (by kernel_rfl) (fun _ _ _ h => h) (Or.inl ⟨by rfl, ?hyr1_16⟩) (by assumption) ?restr1_16
    case hyr1_16 => (intro w hSw; (try dsimp only at hSw); go_simp; try (with_reducible rfl))
    simp only [Act.put, List.getElem_toArray, List.getElem_cons_succ, List.getElem_cons_zero, List.setIfInBounds_toArray, List.set_cons_zero, List.set_cons_succ]
    refine wpAnyH_done (by kernel_rfl) ?_ _
    go_wp2_with fail
    go_ret3
    exact ⟨by rw [HF.out]; rfl, HB4.out.trans (hHeld.2.mono (by rw [← HBB.out]; exact HB4.out.size))⟩
set_option maxHeartbeats 16000000 in
set_option maxRecDepth 100000 in
theorem residualOf_impl (A : Option Addr) (n cap : Nat) (ts : List Lg) (ax i : Int) (w : World) (hn : n ≤ 2000000) (hts : Hid (LgAt w w.heap.size A n ts)) (hT : Hid (Tab w)) :
    Calls Tryz.prog 18 #[.slice A n cap, .int .i64 ax, .int .i64 i] w (APost (ansRs ts ax i) w) := by
  have HL := Lib.hid hts.out.1
  obtain ⟨t, HTT⟩ : ∃ t, Hid (axOk ts ax = t) := ⟨_, Lib.hid rfl⟩
  cases t
  · have HF := Lib.hid (show ansRs ts ax i = .tuple #[.int .i64 0, .int .i64 0, .bool false] by unfold ansRs; rw [HTT.out]; rfl)
    go_enter Tryz.func18, Tryz.ntmps18
    go_wp2_with fail
    refine (adjOf_no A n cap ts ax _ hn hts hT HTT).mono ?_
    rintro e w1 ⟨rfl, b1⟩
    have HB := Lib.hid b1
    clear b1
    go_wp2_with fail
    go_ret3
    exact ⟨by rw [HF.out]; rfl, HB.out.alloc HB.out.size _⟩
  have HGA := Lib.hid (show goodLg ts = true ∧ btw 0 ax 2 = true by have := HTT.out; unfold axOk at this; rwa [Bool.and_eq_true] at this)
  have HG := Lib.hid HGA.out.1
  obtain ⟨U, HU⟩ : ∃ q, Hid (plIds ts = q) := ⟨_, Lib.hid rfl⟩
  obtain ⟨nu, HNU⟩ : ∃ q, Hid (U.length = q) := ⟨_, Lib.hid rfl⟩
  have hn12 := len12 HL.out HG.out
  have hnu : nu ≤ 12 := by rw [← HNU.out, ← HU.out]; have := plIds_len' ts; rw [HL.out] at this; omega
  obtain ⟨p, HP⟩ : ∃ t, Hid (mem U i = t) := ⟨_, Lib.hid rfl⟩
  obtain ⟨tr, HTR⟩ : ∃ q, Hid (TC ts = q) := ⟨_, Lib.hid rfl⟩
  cases p
  · have HF := Lib.hid (show ansRs ts ax i = .tuple #[.int .i64 0, .int .i64 0, .bool false] by unfold ansRs; rw [HTT.out, HU.out, HP.out]; rfl)
    go_enter Tryz.func18, Tryz.ntmps18
    go_wp2_with fail
    refine (adjOf_yes A n cap ts ax _ hn hts hT HTT).mono ?_
    rintro e w1 ⟨AU, cU, Ax, cx, Ar, cr, rfl, hOU, -, -, b1⟩
    rw [HU.out, HNU.out] at hOU
    rw [HU.out, HNU.out, HTR.out]
    have HB := Lib.hid b1
    have HI := Lib.hid (ints.IL.of_own (hOU.alloc (.cells #[.slice AU nu cU, .int .i64 tr, .slice Ax 8 cx, .slice Ar ts.length cr] 64)))
    clear b1 hOU
    go_wp2_with fail
    refine (contains_int AU nu cU U i false HP _ (by omega) HI).mono ?_
    rintro e w3 ⟨rfl, rfl⟩
    go_wp2_with fail
    go_ret3
    exact ⟨by rw [HF.out]; rfl, HB.out.alloc HB.out.size _⟩
  · obtain ⟨j, rfl, x, hx, -⟩ := plIds_at (by rw [HU.out]; exact mem_iff.1 HP.out)
    have hjn : j < n := by have := lt_at hx; rw [HL.out] at this; exact this
    have hji : (j : Int) < (n : Int) := by omega
    have hj0 : (0 : Int) ≤ (j : Int) := by omega
    have bR := resV_bd HG.out ax hx
    have btr := tc_bd HG.out
    have ltr1 := TC_pos HG.out
    obtain ⟨R, HRR⟩ : ∃ q, Hid (resV ts ax (j : Int) = q) := ⟨_, Lib.hid rfl⟩
    have HRL := Lib.hid (show (rsL ts ax (xcN ts ax) (TC ts))[j]? = some R by
      unfold rsL
      rw [List.getElem?_map, List.getElem?_range (by rw [HL.out]; exact hjn)]
      show some (rsF ts ax (xcN ts ax) (TC ts) (plIds ts) j) = some R
      unfold rsF
      rw [if_pos (by rw [HU.out]; exact mem_iff.1 HP.out)]
      exact congrArg some HRR.out)
    rw [HRR.out] at bR
    rw [HTR.out] at btr ltr1
    have lR : lim62 R := by unfold lim62; omega
    have ltr : lim62 tr := by unfold lim62; omega
    obtain ⟨rn, HRN⟩ : ∃ q, Hid (redN R tr = q) := ⟨_, Lib.hid rfl⟩
    obtain ⟨rd, HRD⟩ : ∃ q, Hid (redD R tr = q) := ⟨_, Lib.hid rfl⟩
    have HF := Lib.hid (show ansRs ts ax (j : Int) = .tuple #[.int .i64 rn, .int .i64 rd, .bool true] by unfold ansRs; rw [HTT.out, HU.out, HP.out, HRR.out, HTR.out, HRN.out, HRD.out]; rfl)
    clear hx bR
    go_enter Tryz.func18, Tryz.ntmps18
    go_wp2_with fail
    refine (adjOf_yes A n cap ts ax _ hn hts hT HTT).mono ?_
    rintro e w1 ⟨AU, cU, Ax, cx, Ar, cr, rfl, hOU, -, hOR, b1⟩
    rw [HU.out, HNU.out] at hOU
    rw [HU.out, HNU.out, HTR.out]
    rw [HTR.out] at HRL hOR
    have HB := Lib.hid b1
    have HI := Lib.hid (ints.IL.of_own (hOU.alloc (.cells #[.slice AU nu cU, .int .i64 tr, .slice Ax 8 cx, .slice Ar ts.length cr] 64)))
    have HXB := Lib.hid (Blk.new w1 64 #[.slice AU nu cU, .int .i64 tr, .slice Ax 8 cx, .slice Ar ts.length cr])
    obtain ⟨gR, eAr, er⟩ := (ints.IL.of_own (hOR.alloc (.cells #[.slice AU nu cU, .int .i64 tr, .slice Ax 8 cx, .slice Ar ts.length cr] 64))).2 j R HRL.out
    subst eAr
    have hgR := (hOR.lt gR rfl).2
    have HBA := Lib.hid (HB.out.alloc HB.out.size (.cells #[.slice AU nu cU, .int .i64 tr, .slice Ax 8 cx, .slice (some ⟨gR, 0, none⟩) ts.length cr] 64))
    clear b1 hOU hOR HRL
    go_wp2_with fail
    refine (contains_int AU nu cU U (j : Int) true HP _ (by omega) HI).mono ?_
    rintro e w3 ⟨rfl, rfl⟩
    go_upto_region 4 with fail
    obtain ⟨W0, HW0⟩ : ∃ W, Hid (w1.alloc (.cells #[.slice AU nu cU, .int .i64 tr, .slice Ax 8 cx, .slice (some ⟨gR, 0, none⟩) ts.length cr] 64) = W) := ⟨_, Lib.hid rfl⟩
    obtain ⟨X, HXX⟩ : ∃ X, Hid (w1.heap.size = X) := ⟨_, Lib.hid rfl⟩
    rw [HXX.out] at HXB hgR
    rw [HW0.out] at HXB HBA er ⊢
    try simp only [HXX.out]
    clear HW0 HI HB
    have q1 := HXB.out.cell 1
    have q3 := HXB.out.cell 3
    have qX := HXB.out.lt
    simp at q1 q3
    obtain ⟨B, HBB⟩ : ∃ B, Hid (W0.heap.size = B) := ⟨_, Lib.hid rfl⟩
    have HWB := Lib.hid (show B ≤ W0.heap.size by rw [HBB.out]; exact Nat.le_refl _)
    rw [HBB.out] at qX
    have hgB : gR < B := by omega
    have hjl : j < ts.length := by rw [HL.out]; exact hjn
    have hjli : (j : Int) < (ts.length : Int) := by omega
    refine wp_region_held_drew (S := (fun v => (∀ b o, b < B → v.cell? ⟨b, o, none⟩ = W0.cell? ⟨b, o, none⟩) ∧ Below B W0 v)) (by kernel_rfl) ?_ (fun hHeld => ?_)
    · exact sb_start (Below.refl _ _)
    refine' wpAnyH_take (i := 0) (v := ?vr2_0) rfl (by kernel_rfl) (by kernel_rfl) (by kernel_rfl) (fun _ _ _ h => h) (Or.inl ⟨by rfl, ?hyr2_0⟩) (by assumption) ?restr2_0
    case hyr2_0 => (intro w hSw; (try dsimp only at hSw); go_simp; try (with_reducible rfl))
    simp only [Act.put, List.getElem_toArray, List.getElem_cons_succ, List.getElem_cons_zero, List.setIfInBounds_toArray, List.set_cons_zero, List.set_cons_succ]
    refine' wpAnyH_take (i := 1) (v := ?vr2_1) rfl (by kernel_rfl) (by kernel_rfl) (by kernel_rfl) (fun _ _ _ h => h) (Or.inl ⟨by rfl, ?hyr2_1⟩) (by assumption) ?restr2_1
    case hyr2_1 => (intro w hSw; (try dsimp only at hSw); go_simp; try (with_reducible rfl))
    simp only [Act.put, List.getElem_toArray, List.getElem_cons_succ, List.getElem_cons_zero, List.setIfInBounds_toArray, List.set_cons_zero, List.set_cons_succ]
    refine' wpAnyH_take (i := 2) (v := ?vr2_2) rfl (by kernel_rfl) (by kernel_rfl) (by kernel_rfl) (fun _ _ _ h => h) (Or.inl ⟨by rfl, ?hyr2_2⟩) (by assumption) ?restr2_2
    case hyr2_2 => (intro w hSw; (try dsimp only at hSw); go_simp; try (with_reducible rfl))
    simp only [Act.put, List.getElem_toArray, List.getElem_cons_succ, List.getElem_cons_zero, List.setIfInBounds_toArray, List.set_cons_zero, List.set_cons_succ]
    refine' wpAnyH_take (i := 3) (v := ?vr2_3) rfl (by kernel_rfl) (by kernel_rfl) (by kernel_rfl) (fun _ _ _ h => h) (Or.inl ⟨by rfl, ?hyr2_3⟩) (by assumption) ?restr2_3
    case hyr2_3 => (intro w hSw; (try dsimp only at hSw); go_simp; try (with_reducible rfl))
    simp only [Act.put, List.getElem_toArray, List.getElem_cons_succ, List.getElem_cons_zero, List.setIfInBounds_toArray, List.set_cons_zero, List.set_cons_succ]
    refine' wpAnyH_take (i := 4) (v := ?vr2_4) rfl (by kernel_rfl) (by kernel_rfl) (by kernel_rfl) (fun _ _ _ h => h) (Or.inl ⟨by rfl, ?hyr2_4⟩) (by assumption) ?restr2_4
    case hyr2_4 => (intro w hSw; (try dsimp only at hSw); go_simp; try (with_reducible rfl))
    simp only [Act.put, List.getElem_toArray, List.getElem_cons_succ, List.getElem_cons_zero, List.setIfInBounds_toArray, List.set_cons_zero, List.set_cons_succ]
    refine' wpAnyH_take (i := 5) (v := ?vr2_5) rfl (by kernel_rfl) (by kernel_rfl) (by kernel_rfl) (fun _ _ _ h => h) (Or.inl ⟨by rfl, ?hyr2_5⟩) (by assumption) ?restr2_5
    case hyr2_5 => (intro w hSw; (try dsimp only at hSw); go_simp; try (with_reducible rfl))
    simp only [Act.put, List.getElem_toArray, List.getElem_cons_succ, List.getElem_cons_zero, List.setIfInBounds_toArray, List.set_cons_zero, List.set_cons_succ]
    refine' wpAnyH_take (i := 6) (v := ?vr2_6) rfl (by kernel_rfl) (by kernel_rfl) (by kernel_rfl) (fun _ _ _ h => h) (Or.inl ⟨by rfl, ?hyr2_6⟩) (by assumption) ?restr2_6
    case hyr2_6 => (intro w hSw; (try dsimp only at hSw); go_simp; try (with_reducible rfl))
    simp only [Act.put, List.getElem_toArray, List.getElem_cons_succ, List.getElem_cons_zero, List.setIfInBounds_toArray, List.set_cons_zero, List.set_cons_succ]
    refine wpAnyH_ready (rs := [7]) (by kernel_rfl) (by simp) ?_
    refine AllReadyH.cons rfl (fun K hK => ?_) AllReadyH.nil
    go_simp
    refine (ph.reduced_any R tr rn rd _ lR ltr ltr1 HRN HRD).mono ?_
    rintro e w9 ⟨rfl, b9⟩
    refine hK.out _ _ (sb_step hHeld HWB.out b9) (fun hHeld1 => ?_)
    clear hK K hHeld
    have hHeld := hHeld1
    clear hHeld1
    try simp only [Act.put, List.getElem_toArray, List.getElem_cons_succ, List.getElem_cons_zero, List.setIfInBounds_toArray, List.set_cons_zero, List.set_cons_succ]
    refine' wpAnyH_take (i := 8) (v := ?vr2_8) rfl (by kernel_rfl) (by kernel_rfl) (by kernel_rfl) (fun _ _ _ h => h) (Or.inl ⟨by rfl, ?hyr2_8⟩) (by assumption) ?restr2_8
    case hyr2_8 => (intro w hSw; (try dsimp only at hSw); go_simp; try (with_reducible rfl))
    simp only [Act.put, List.getElem_toArray, List.getElem_cons_succ, List.getElem_cons_zero, List.setIfInBounds_toArray, List.set_cons_zero, List.set_cons_succ]
    refine' wpAnyH_take (i := 9) (v := ?vr2_9) rfl (by kernel_rfl) (by kernel_rfl) (by kernel_rfl) (fun _ _ _ h => h) (Or.inl ⟨by rfl, ?hyr2_9⟩) (by assumption) ?restr2_9
    case hyr2_9 => (intro w hSw; (try dsimp only at hSw); go_simp; try (with_reducible rfl))
    simp only [Act.put, List.getElem_toArray, List.getElem_cons_succ, List.getElem_cons_zero, List.setIfInBounds_toArray, List.set_cons_zero, List.set_cons_succ]
    refine' wpAnyH_take (i := 10) (v := ?vr2_10) rfl (by kernel_rfl) (by kernel_rfl) (by kernel_rfl) (fun _ _ _ h => h) (Or.inl ⟨by rfl, ?hyr2_10⟩) (by assumption) ?restr2_10
    case hyr2_10 => (intro w hSw; (try dsimp only at hSw); go_simp; try (with_reducible rfl))
    simp only [Act.put, List.getElem_toArray, List.getElem_cons_succ, List.getElem_cons_zero, List.setIfInBounds_toArray, List.set_cons_zero, List.set_cons_succ]
    refine' wpAnyH_take (i := 11) (v := ?vr2_11) rfl (by kernel_rfl) (by kernel_rfl) (by kernel_rfl) (fun _ _ _ h => h) (Or.inl ⟨by rfl, ?hyr2_11⟩) (by assumption) ?restr2_11
    case hyr2_11 => (intro w hSw; (try dsimp only at hSw); go_simp; try (with_reducible rfl))
    simp only [Act.put, List.getElem_toArray, List.getElem_cons_succ, List.getElem_cons_zero, List.setIfInBounds_toArray, List.set_cons_zero, List.set_cons_succ]
    refine' wpAnyH_take (i := 12) (v := ?vr2_12) rfl (by kernel_rfl) (by kernel_rfl) (by kernel_rfl) (fun _ _ _ h => h) (Or.inl ⟨by rfl, ?hyr2_12⟩) (by assumption) ?restr2_12
    case hyr2_12 => (intro w hSw; (try dsimp only at hSw); go_simp; try (with_reducible rfl))
    simp only [Act.put, List.getElem_toArray, List.getElem_cons_succ, List.getElem_cons_zero, List.setIfInBounds_toArray, List.set_cons_zero, List.set_cons_succ]
    refine wpAnyH_done (by kernel_rfl) ?_ _
    go_wp2_with fail
    go_ret3
    exact ⟨by rw [HF.out]; rfl, HBA.out.trans (hHeld.2.mono (by rw [← HBB.out]; exact HBA.out.size))⟩
end Go.Proofs.YtnpghhpcloljeabGreatDoor.ph
