/-
  FnPoints: the law's walk.
  Conditions: the code has at most 65536 bytes.
-/
import Derived.Test.YtiimegmaokfpgaaVaW
import Derived.Test.YtiimegmaokfpgaaVaU
import Derived.Deep.DeepCutAuto
import Derived.Deep.RegionHeld3
namespace Go.Proofs.Ytiimegmaokfpgaa.fpw
open Go.RowKit
open reads base curs curd ty va rowi drp dpw
set_option linter.unusedVariables false
set_option linter.unusedSimpArgs false

set_option maxHeartbeats 64000000 in
set_option maxRecDepth 100000 in
theorem walk (A : Option Addr) (n cap : Nat) (zs : List UInt8) (w : World) (hn : n ≤ 65536) (hS : Hid (St w A n zs w)) :
    Calls Try.prog 4 #[.slice A n cap] w (LawPost w) := by
  have HB := Lib.hid (rs.big_no A n cap w hn)
  clear hn
  go_enter Try.func4, Try.ntmps4
  go_wp2_with fail
  refine HB.out.mono ?_
  rintro e w' ⟨rfl, rfl⟩
  clear HB
  go_wp2_with fail
  refine (addPoint_draw A n cap zs _ (Lib.hid hS.out.2)).mono ?_
  rintro e W1 ⟨v1, L1, t1, p1, rfl, ho, hl1, hL1, b⟩
  obtain ⟨A1, c1, rfl⟩ := row_slice ho
  have HR1 := Lib.hid ho
  have HL1 := Lib.hid hl1
  clear ho hl1
  have H1 := Lib.hid (show St w A n zs W1 from hS.out.step b)
  clear b hS
  go_upto_region 4 with fail
  obtain ⟨W2, HW⟩ : ∃ W2, Hid (W1.alloc (.cells #[.int .i64 p1.day, .int .i64 p1.tn] 42) = W2) := ⟨_, Lib.hid rfl⟩
  have H2 := Lib.hid (show St w A n zs W2 by rw [← HW.out]; exact (H1.out.alloc _))
  have H3 := Lib.hid (show W2.ownsRow (w.heap.size) 42 2 (.slice A1 L1 c1) L1 (flatDp t1) by rw [← HW.out]; exact (HR1.out.alloc _))
  have H4 := Lib.hid (show Blk W2 (W1.heap.size) 42 #[.int .i64 p1.day, .int .i64 p1.tn] by rw [← HW.out]; exact Blk.new _ _ _)
  rw [HW.out]
  clear HW H1 HR1
  obtain ⟨ok, HOK⟩ : ∃ t, Hid (apOk t1 p1 = t) := ⟨_, Lib.hid rfl⟩
  obtain ⟨R1, HR⟩ : ∃ R, Hid (apV t1 p1 = R) := ⟨_, Lib.hid rfl⟩
  obtain ⟨N1, HN1⟩ : ∃ N, Hid (R1.length = N) := ⟨_, Lib.hid rfl⟩
  have hN1 : N1 ≤ 8 := by rw [← HN1.out, ← HR.out]; exact apV_len t1 p1
  have q_pl := H4.out.lt
  have q_p0 : W2.cell? ⟨W1.heap.size, 0, none⟩ = some (.int .i64 p1.day) := H4.out.cell 0
  have q_p1 : W2.cell? ⟨W1.heap.size, 1, none⟩ = some (.int .i64 p1.tn) := H4.out.cell 1
  go_wp2_with fail
  clear q_pl q_p0 q_p1
  refine (ap_i HR HOK (cap_own H3.out) (by omega) (Lib.hid (own_Dp HL1.out H3.out))).mono ?_
  rintro e W3 ⟨vr, rfl, ho, b⟩
  rw [HN1.out] at ho
  obtain ⟨Ara, cra, rfl⟩ := row_slice ho
  have HRra := Lib.hid ho
  clear ho
  have H5 := Lib.hid (show St w A n zs W3 from H2.out.step b)
  have H6 := Lib.hid (show W3.ownsRow (w.heap.size) 42 2 (.slice A1 L1 c1) L1 (flatDp t1) from row_below H3.out b)
  have H7 := Lib.hid (show Blk W3 (W1.heap.size) 42 #[.int .i64 p1.day, .int .i64 p1.tn] from H4.out.below b H4.out.lt)
  clear b H2 H3 H4
  have q_pl := H7.out.lt
  have q_p0 : W3.cell? ⟨W1.heap.size, 0, none⟩ = some (.int .i64 p1.day) := H7.out.cell 0
  have q_p1 : W3.cell? ⟨W1.heap.size, 1, none⟩ = some (.int .i64 p1.tn) := H7.out.cell 1
  go_wp2_with fail
  clear q_pl q_p0 q_p1
  refine (ap_m HR HOK (cap_own H6.out) (by omega) (Lib.hid (own_Dp HL1.out H6.out))).mono ?_
  rintro e W4 ⟨vr, rfl, ho, b⟩
  rw [HN1.out] at ho
  obtain ⟨Arb, crb, rfl⟩ := row_slice ho
  have HRrb := Lib.hid ho
  clear ho
  have H8 := Lib.hid (show St w A n zs W4 from H5.out.step b)
  have H9 := Lib.hid (show W4.ownsRow (w.heap.size) 42 2 (.slice A1 L1 c1) L1 (flatDp t1) from row_below H6.out b)
  have H10 := Lib.hid (show Blk W4 (W1.heap.size) 42 #[.int .i64 p1.day, .int .i64 p1.tn] from H7.out.below b H7.out.lt)
  have H11 := Lib.hid (show W4.ownsRow (W2.heap.size) 42 2 (.slice Ara N1 cra) N1 (flatDp R1) from row_below HRra.out b)
  clear b H5 H6 H7 HRra
  go_wp2_with fail
  refine (rpoints_any Ara Arb N1 cra crb R1 _ (by omega) (Lib.hid (own_Dp HN1.out H11.out)) (Lib.hid (own_Dp HN1.out HRrb.out))).mono ?_
  rintro e W5 ⟨rfl, b⟩
  have H12 := Lib.hid (show St w A n zs W5 from H8.out.step b)
  have H13 := Lib.hid (show W5.ownsRow (w.heap.size) 42 2 (.slice A1 L1 c1) L1 (flatDp t1) from row_below H9.out b)
  have H14 := Lib.hid (show Blk W5 (W1.heap.size) 42 #[.int .i64 p1.day, .int .i64 p1.tn] from H10.out.below b H10.out.lt)
  have H15 := Lib.hid (show W5.ownsRow (W2.heap.size) 42 2 (.slice Ara N1 cra) N1 (flatDp R1) from row_below H11.out b)
  have H16 := Lib.hid (show W5.ownsRow (W3.heap.size) 42 2 (.slice Arb N1 crb) N1 (flatDp R1) from row_below HRrb.out b)
  clear b H8 H9 H10 H11 HRrb
  clear H16
  clear H13
  go_upto_if 58 with fail
  go_cut [9] (fun _ wx => St w A n zs wx)
  case first =>
    as_aux_lemma =>
        cases ok
        · go_wp2_with fail
          go_meet
          case rel => exact H12.out
        · have HYY := ap_yes HR.out HOK.out rfl
          have HE1 := Lib.hid HYY.1
          have HE2 := Lib.hid HYY.2
          clear HYY
          have q_pl := H14.out.lt
          have q_p0 : W5.cell? ⟨W1.heap.size, 0, none⟩ = some (.int .i64 p1.day) := H14.out.cell 0
          have q_p1 : W5.cell? ⟨W1.heap.size, 1, none⟩ = some (.int .i64 p1.tn) := H14.out.cell 1
          go_wp2_with fail
          clear q_pl q_p0 q_p1
          refine (on_i HE1 (by omega) (Lib.hid (own_Dp HN1.out H15.out))).mono ?_
          rintro e W6 ⟨rfl, b⟩
          have H17 := Lib.hid (show St w A n zs W6 from H12.out.step b)
          have H18 := Lib.hid (show Blk W6 (W1.heap.size) 42 #[.int .i64 p1.day, .int .i64 p1.tn] from H14.out.below b H14.out.lt)
          have H19 := Lib.hid (show W6.ownsRow (W2.heap.size) 42 2 (.slice Ara N1 cra) N1 (flatDp R1) from row_below H15.out b)
          clear b H12 H14 H15
          have q_pl := H18.out.lt
          have q_p0 : W6.cell? ⟨W1.heap.size, 0, none⟩ = some (.int .i64 p1.day) := H18.out.cell 0
          have q_p1 : W6.cell? ⟨W1.heap.size, 1, none⟩ = some (.int .i64 p1.tn) := H18.out.cell 1
          go_wp2_with fail
          clear q_pl q_p0 q_p1
          refine (ar_i HE2 (by omega) (Lib.hid (own_Dp HN1.out H19.out))).mono ?_
          rintro e W7 ⟨rfl, b⟩
          have H20 := Lib.hid (show St w A n zs W7 from H17.out.step b)
          have H21 := Lib.hid (show Blk W7 (W1.heap.size) 42 #[.int .i64 p1.day, .int .i64 p1.tn] from H18.out.below b H18.out.lt)
          have H22 := Lib.hid (show W7.ownsRow (W2.heap.size) 42 2 (.slice Ara N1 cra) N1 (flatDp R1) from row_below H19.out b)
          clear b H17 H18 H19
          go_wp2_with fail
          go_meet
          case rel => exact H20.out
  case rest =>
    as_aux_lemma =>
        have H23 := Lib.hid hcut
        clear hcut H12 H14 H15
        clear HR HOK HN1 hN1
        go_wp2_with fail
        refine (needless_draw A n cap zs _ (Lib.hid H23.out.2)).mono ?_
        rintro e W8 ⟨v2, L2, t2, rfl, ho, hl2, hL2, b⟩
        obtain ⟨A2, c2, rfl⟩ := row_slice ho
        have HR2 := Lib.hid ho
        have HL2 := Lib.hid hl2
        clear ho hl2
        have H24 := Lib.hid (show St w A n zs W8 from H23.out.step b)
        clear b H23
        obtain ⟨BA, HBA⟩ : ∃ B, Hid (wc.heap.size = B) := ⟨_, Lib.hid rfl⟩
        rw [HBA.out] at HR2
        clear HBA
        obtain ⟨G2, HG2⟩ : ∃ G, Hid (goodDp t2 = G) := ⟨_, Lib.hid rfl⟩
        obtain ⟨I2, HI2⟩ : ∃ I, Hid (ndIds t2 = I) := ⟨_, Lib.hid rfl⟩
        obtain ⟨N2, HN2⟩ : ∃ N, Hid (I2.length = N) := ⟨_, Lib.hid rfl⟩
        have hN2 : N2 ≤ 8 := by rw [← HN2.out, ← HI2.out]; exact ndIds_len t2
        go_wp2_with fail
        refine (nd_i HI2 HG2 (cap_own HR2.out) (by omega) (Lib.hid (own_Dp HL2.out HR2.out))).mono ?_
        rintro e W9 ⟨vr, rfl, ho, b⟩
        rw [HN2.out] at ho
        obtain ⟨Ara, cra, rfl⟩ := row_slice ho
        have HRra := Lib.hid ho
        clear ho
        have H25 := Lib.hid (show St w A n zs W9 from H24.out.step b)
        have H26 := Lib.hid (show W9.ownsRow (BA) 42 2 (.slice A2 L2 c2) L2 (flatDp t2) from row_below HR2.out b)
        clear b H24 HR2
        go_wp2_with fail
        refine (nd_m HI2 HG2 (cap_own H26.out) (by omega) (Lib.hid (own_Dp HL2.out H26.out))).mono ?_
        rintro e W10 ⟨vr, rfl, ho, b⟩
        rw [HN2.out] at ho
        obtain ⟨Arb, crb, rfl⟩ := row_slice ho
        have HRrb := Lib.hid ho
        clear ho
        have H27 := Lib.hid (show St w A n zs W10 from H25.out.step b)
        have H28 := Lib.hid (show W10.ownsRow (BA) 42 2 (.slice A2 L2 c2) L2 (flatDp t2) from row_below H26.out b)
        have H29 := Lib.hid (show W10.ownsRow (W8.heap.size) 3 1 (.slice Ara N2 cra) N2 (ints.intsV I2) from row_below HRra.out b)
        clear b H25 H26 HRra
        go_wp2_with fail
        refine (rints_b (by omega) (Lib.hid (ints.IL.of_own H29.out)) (Lib.hid (ints.IL.of_own HRrb.out))).mono ?_
        rintro e W11 ⟨rfl, b⟩
        have H30 := Lib.hid (show St w A n zs W11 from H27.out.step b)
        have H31 := Lib.hid (show W11.ownsRow (BA) 42 2 (.slice A2 L2 c2) L2 (flatDp t2) from row_below H28.out b)
        have H32 := Lib.hid (show W11.ownsRow (W8.heap.size) 3 1 (.slice Ara N2 cra) N2 (ints.intsV I2) from row_below H29.out b)
        have H33 := Lib.hid (show W11.ownsRow (W9.heap.size) 3 1 (.slice Arb N2 crb) N2 (ints.intsV I2) from row_below HRrb.out b)
        clear b H27 H28 H29 HRrb
        clear H33
        go_wp2_with fail
        go_loopw [16] (fun i wr => ∃ j : Nat, j ≤ N2 ∧ i = .int .i64 j ∧ St w A n zs wr ∧ wr.ownsRow (BA) 42 2 (.slice A2 L2 c2) L2 (flatDp t2) ∧ wr.ownsRow (W8.heap.size) 3 1 (.slice Ara N2 cra) N2 (ints.intsV I2)) (fun i _ => N2 - (intOf i).toNat)
        case atStart => exact ⟨0, Nat.zero_le _, rfl, H30.out, H31.out, H32.out⟩
        case round =>
          obtain ⟨j, hj, rfl, r_S, r_l2, r_ra⟩ := hrel
          have R_S := Lib.hid r_S
          have R_l2 := Lib.hid r_l2
          have R_ra := Lib.hid r_ra
          clear r_S r_l2 r_ra H30 H31 H32
          by_cases hlt : j < N2
          · obtain ⟨x, hx⟩ := at_lt HN2.out hlt
            obtain ⟨k, rfl, hk, h1, hg1, hg2, hall⟩ := nd_yes HI2.out hx
            rw [HL2.out] at hk h1
            obtain ⟨gi, rfl, ci⟩ := (ints.IL.of_own R_ra.out).2 j (k : Int) hx
            have HG1 := Lib.hid hg1
            have HGL := Lib.hid hg2
            have HALL := Lib.hid hall
            clear hg1 hg2 hall hx
            obtain ⟨tk, htk⟩ := at_lt HL2.out hk
            obtain ⟨g, rfl, hg, -, -⟩ := (own_Dp HL2.out R_l2.out).2 k tk htk
            clear htk hg
            have HTW := Lib.hid (fun (v : World) (hv : Below wr.heap.size wr v) => show DpAt v wr.heap.size (some ⟨g, 0, none⟩) L2 t2 from ((own_Dp HL2.out R_l2.out).below hv))
            obtain ⟨N1, HN1⟩ : ∃ N, Hid (L2 = N + 1) := ⟨L2 - 1, Lib.hid (by omega)⟩
            have hN1 : N1 ≤ 4 := by have := HN1.out; omega
            have HLE := Lib.hid (show (lessDp t2 k).length = N1 by rw [lessDp_len (by rw [HL2.out]; exact hk), HL2.out]; have := HN1.out; omega)
            have hnc : L2 ≤ c2 := by rcases cap_own R_l2.out with ⟨g9, -, h⟩ | ⟨e, -⟩; exact h; cases e
            have hji : (j : Int) < (N2 : Int) := by omega
            have hj0 : (0 : Int) ≤ (j : Int) := by omega
            have hjd : decide (j < N2) = true := by simpa using hlt
            have hk0 : (0 : Int) ≤ (k : Int) := by omega
            have hkc : k ≤ c2 := by omega
            have hkci : (k : Int) ≤ (c2 : Int) := by omega
            have hk1n : (k : Int) + 1 ≤ (L2 : Int) := by omega
            have hk10 : (0 : Int) ≤ (k : Int) + 1 := by omega
            have hk1t : ((k : Int) + 1).toNat = k + 1 := by omega
            have hnci : (L2 : Int) ≤ (c2 : Int) := by omega
            have hk1w : IntKind.i64.wrap ((k : Int) + 1) = (k : Int) + 1 := IntWalk.i64_in _ (by omega)
            have hki : (k : Int) < (L2 : Int) := by omega
            go_upto_region 21 with fail
            go_cut [18] (fun v wx => ∃ (A3 : Option Addr) (c3 : Nat), v = .slice A3 N1 c3 ∧ St w A n zs wx ∧ wx.ownsRow (BA) 42 2 (.slice (some ⟨g, 0, none⟩) L2 c2) L2 (flatDp t2) ∧ wx.ownsRow (W8.heap.size) 3 1 (.slice (some ⟨gi, 0, none⟩) N2 cra) N2 (ints.intsV I2) ∧ wx.ownsRow (wr.heap.size) 42 2 (.slice A3 N1 c3) N1 (flatDp (lessDp t2 k)))
            case first =>
              rename_i J0 K0 hJ0 hK0
              by_cases hce : c2 = k + 1
              · subst hce
                obtain rfl : L2 = k + 1 := by omega
                have hkk : (k : Int) ≤ (k : Int) + 1 := by omega
                refine wp_region_held_drew (S := fun _ => True) (by kernel_rfl) trivial (fun hHeld => ?_)
                obtain ⟨V0, HV0⟩ : ∃ V, Hid (wr.drew = V) := ⟨_, Lib.hid rfl⟩
                have HB0 := Lib.hid (show Below wr.heap.size wr V0 by rw [← HV0.out]; exact drewN_below _ 1)
                rw [HV0.out]
                clear HV0
                refine' wpAnyH_take (i := 1) (v := ?vr1_1) rfl (by kernel_rfl) (by kernel_rfl) (by kernel_rfl) (fun _ _ _ h => h) (Or.inl ⟨by rfl, ?hyr1_1⟩) (by assumption) ?restr1_1
                case hyr1_1 => (intro w hSw; (try dsimp only at hSw); go_simp; try (with_reducible rfl))
                simp only [Act.put, List.getElem_toArray, List.getElem_cons_succ, List.getElem_cons_zero, List.setIfInBounds_toArray, List.set_cons_zero, List.set_cons_succ]
                refine' wpAnyH_take (i := 2) (v := ?vr1_2) rfl (by kernel_rfl) (by kernel_rfl) (by kernel_rfl) (fun _ _ _ h => h) (Or.inl ⟨by rfl, ?hyr1_2⟩) (by assumption) ?restr1_2
                case hyr1_2 => (intro w hSw; (try dsimp only at hSw); go_simp; try (with_reducible rfl))
                simp only [Act.put, List.getElem_toArray, List.getElem_cons_succ, List.getElem_cons_zero, List.setIfInBounds_toArray, List.set_cons_zero, List.set_cons_succ]
                refine' wpAnyH_take (i := 3) (v := ?vr1_3) rfl (by kernel_rfl) (by kernel_rfl) (by kernel_rfl) (fun _ _ _ h => h) (Or.inl ⟨by rfl, ?hyr1_3⟩) (by assumption) ?restr1_3
                case hyr1_3 => (intro w hSw; (try dsimp only at hSw); go_simp; try (with_reducible rfl))
                simp only [Act.put, List.getElem_toArray, List.getElem_cons_succ, List.getElem_cons_zero, List.setIfInBounds_toArray, List.set_cons_zero, List.set_cons_succ]
                refine' wpAnyH_take (i := 5) (v := ?vr1_5) rfl (by kernel_rfl) (by kernel_rfl) (by kernel_rfl) (fun _ _ _ h => h) (Or.inl ⟨by rfl, ?hyr1_5⟩) (by assumption) ?restr1_5
                case hyr1_5 => (intro w hSw; (try dsimp only at hSw); go_simp; try (with_reducible rfl))
                simp only [Act.put, List.getElem_toArray, List.getElem_cons_succ, List.getElem_cons_zero, List.setIfInBounds_toArray, List.set_cons_zero, List.set_cons_succ]
                refine' wpAnyH_take (i := 6) (v := ?vr1_6) rfl (by kernel_rfl) (by kernel_rfl) (by kernel_rfl) (fun _ _ _ h => h) (Or.inl ⟨by rfl, ?hyr1_6⟩) (by assumption) ?restr1_6
                case hyr1_6 => (intro w hSw; (try dsimp only at hSw); go_simp; try (with_reducible rfl))
                simp only [Act.put, List.getElem_toArray, List.getElem_cons_succ, List.getElem_cons_zero, List.setIfInBounds_toArray, List.set_cons_zero, List.set_cons_succ]
                refine' wpAnyH_take (i := 7) (v := ?vr1_7) rfl (by kernel_rfl) (by kernel_rfl) (by kernel_rfl) (fun _ _ _ h => h) (Or.inl ⟨by rfl, ?hyr1_7⟩) (by assumption) ?restr1_7
                case hyr1_7 => (intro w hSw; (try dsimp only at hSw); go_simp; try (with_reducible rfl))
                simp only [Act.put, List.getElem_toArray, List.getElem_cons_succ, List.getElem_cons_zero, List.setIfInBounds_toArray, List.set_cons_zero, List.set_cons_succ]
                refine' wpAnyH_take (i := 8) (v := ?vr1_8) rfl (by kernel_rfl) (by kernel_rfl) (by kernel_rfl) (fun _ _ _ h => h) (Or.inl ⟨by rfl, ?hyr1_8⟩) (by assumption) ?restr1_8
                case hyr1_8 => (intro w hSw; (try dsimp only at hSw); go_simp; try (with_reducible rfl))
                simp only [Act.put, List.getElem_toArray, List.getElem_cons_succ, List.getElem_cons_zero, List.setIfInBounds_toArray, List.set_cons_zero, List.set_cons_succ]
                refine wpAnyH_ready (rs := [0]) (by kernel_rfl) (by simp) ?_
                refine AllReadyH.cons rfl (fun K hK => ?_) AllReadyH.nil
                go_simp
                refine hK.out _ _ trivial (fun hHeld1 => ?_)
                clear hK K hHeld
                have hHeld := hHeld1
                clear hHeld1
                try simp only [Act.put, List.getElem_toArray, List.getElem_cons_succ, List.getElem_cons_zero, List.setIfInBounds_toArray, List.set_cons_zero, List.set_cons_succ]
                obtain ⟨g0, HG0⟩ : ∃ G, Hid (V0.heap.size = G) := ⟨_, Lib.hid rfl⟩
                obtain ⟨V1, HW1⟩ : ∃ W, Hid (V0.alloc (.cells #[] 42) = W) := ⟨_, Lib.hid rfl⟩
                have HM1 := Lib.hid (show MX wr (.slice (some ⟨g0, 0, none⟩) 0 0) 0 [] V1 by rw [← HW1.out, ← HG0.out]; exact ⟨HB0.out.alloc HB0.out.size _, made1 wr V0 HB0.out.size 42 2⟩)
                rw [HW1.out]
                try rw [HG0.out]
                clear HW1 HG0
                refine wpAnyH_ready (rs := [4]) (by kernel_rfl) (by simp) ?_
                refine AllReadyH.cons rfl (fun K hK => ?_) AllReadyH.nil
                refine step_src rfl _ _ rfl rfl HM1.out.2 rfl (src_take (HTW.out V1 HM1.out.1) (by omega) _) (by omega) HM1.out.1.size ?_
                intro v2x V2 ho hg
                have HM2 := Lib.hid (show MX wr v2x (0 + k) ([] ++ (t2.take k)) V2 from HM1.out.app (vs := (t2.take k)) ho hg)
                refine hK.out _ _ trivial (fun hHeld1 => ?_)
                clear ho hg
                clear hK K hHeld
                have hHeld := hHeld1
                clear hHeld1
                try simp only [Act.put, List.getElem_toArray, List.getElem_cons_succ, List.getElem_cons_zero, List.setIfInBounds_toArray, List.set_cons_zero, List.set_cons_succ]
                refine wpAnyH_ready (rs := [9]) (by kernel_rfl) (by simp) ?_
                refine AllReadyH.cons rfl (fun K hK => ?_) AllReadyH.nil
                refine step_src rfl _ _ rfl rfl HM2.out.2 rfl (show SrcDp V2 wr.heap.size _ _ _ (t2.drop (k + 1)) by rw [List.drop_of_length_le (by rw [HL2.out]; omega)]; exact src_end _ _ _ _) (by omega) HM2.out.1.size ?_
                intro v3x V3 ho hg
                have HM3 := Lib.hid (show MX wr v3x ((0 + k) + 0) (([] ++ t2.take k) ++ (t2.drop (k + 1))) V3 from HM2.out.app (vs := (t2.drop (k + 1))) ho hg)
                refine hK.out _ _ trivial (fun hHeld1 => ?_)
                clear ho hg
                clear hK K hHeld
                have hHeld := hHeld1
                clear hHeld1
                try simp only [Act.put, List.getElem_toArray, List.getElem_cons_succ, List.getElem_cons_zero, List.setIfInBounds_toArray, List.set_cons_zero, List.set_cons_succ]
                refine' wpAnyH_take (i := 10) (v := ?vr2_10) rfl (by kernel_rfl) (by kernel_rfl) (by kernel_rfl) (fun _ _ _ h => h) (Or.inl ⟨by rfl, ?hyr2_10⟩) (by assumption) ?restr2_10
                case hyr2_10 => (intro w hSw; (try dsimp only at hSw); go_simp; try (with_reducible rfl))
                simp only [Act.put, List.getElem_toArray, List.getElem_cons_succ, List.getElem_cons_zero, List.setIfInBounds_toArray, List.set_cons_zero, List.set_cons_succ]
                refine wpAnyH_done (by kernel_rfl) ?_ _
                have HFF := Lib.hid (show MX wr v3x N1 (lessDp t2 k) V3 by have h := HM3.out; rw [show ([] ++ t2.take k) ++ t2.drop (k + 1) = lessDp t2 k from rfl, show 0 + k + 0 = N1 by have := HN1.out; omega] at h; exact h)
                clear hHeld HM1 HM2 HM3 HB0
                obtain ⟨A3, c3, rfl⟩ := row_slice HFF.out.2
                first | refine hK0 _ _ (Met.intro (hJ0 _ _ ?_)) | refine Met.intro (hK0 _ _ (Met.intro (hJ0 _ _ ?_)))
                (repeat apply Exists.intro)
                exact ⟨⟨A3, c3, rfl, R_S.out.step HFF.out.1, row_below R_l2.out HFF.out.1, row_below R_ra.out HFF.out.1, HFF.out.2⟩, rfl⟩
              · have hci : ¬ (c2 : Int) = (k : Int) + 1 := by omega
                refine wp_region_held_drew (S := fun _ => True) (by kernel_rfl) trivial (fun hHeld => ?_)
                obtain ⟨V0, HV0⟩ : ∃ V, Hid (wr.drew = V) := ⟨_, Lib.hid rfl⟩
                have HB0 := Lib.hid (show Below wr.heap.size wr V0 by rw [← HV0.out]; exact drewN_below _ 1)
                rw [HV0.out]
                clear HV0
                refine' wpAnyH_take (i := 1) (v := ?vr3_1) rfl (by kernel_rfl) (by kernel_rfl) (by kernel_rfl) (fun _ _ _ h => h) (Or.inl ⟨by rfl, ?hyr3_1⟩) (by assumption) ?restr3_1
                case hyr3_1 => (intro w hSw; (try dsimp only at hSw); go_simp; try (with_reducible rfl))
                simp only [Act.put, List.getElem_toArray, List.getElem_cons_succ, List.getElem_cons_zero, List.setIfInBounds_toArray, List.set_cons_zero, List.set_cons_succ]
                refine' wpAnyH_take (i := 2) (v := ?vr3_2) rfl (by kernel_rfl) (by kernel_rfl) (by kernel_rfl) (fun _ _ _ h => h) (Or.inl ⟨by rfl, ?hyr3_2⟩) (by assumption) ?restr3_2
                case hyr3_2 => (intro w hSw; (try dsimp only at hSw); go_simp; try (with_reducible rfl))
                simp only [Act.put, List.getElem_toArray, List.getElem_cons_succ, List.getElem_cons_zero, List.setIfInBounds_toArray, List.set_cons_zero, List.set_cons_succ]
                refine' wpAnyH_take (i := 3) (v := ?vr3_3) rfl (by kernel_rfl) (by kernel_rfl) (by kernel_rfl) (fun _ _ _ h => h) (Or.inl ⟨by rfl, ?hyr3_3⟩) (by assumption) ?restr3_3
                case hyr3_3 => (intro w hSw; (try dsimp only at hSw); go_simp; try (with_reducible rfl))
                simp only [Act.put, List.getElem_toArray, List.getElem_cons_succ, List.getElem_cons_zero, List.setIfInBounds_toArray, List.set_cons_zero, List.set_cons_succ]
                refine' wpAnyH_take (i := 5) (v := ?vr3_5) rfl (by kernel_rfl) (by kernel_rfl) (by kernel_rfl) (fun _ _ _ h => h) (Or.inl ⟨by rfl, ?hyr3_5⟩) (by assumption) ?restr3_5
                case hyr3_5 => (intro w hSw; (try dsimp only at hSw); go_simp; try (with_reducible rfl))
                simp only [Act.put, List.getElem_toArray, List.getElem_cons_succ, List.getElem_cons_zero, List.setIfInBounds_toArray, List.set_cons_zero, List.set_cons_succ]
                refine' wpAnyH_take (i := 6) (v := ?vr3_6) rfl (by kernel_rfl) (by kernel_rfl) (by kernel_rfl) (fun _ _ _ h => h) (Or.inl ⟨by rfl, ?hyr3_6⟩) (by assumption) ?restr3_6
                case hyr3_6 => (intro w hSw; (try dsimp only at hSw); go_simp; try (with_reducible rfl))
                simp only [Act.put, List.getElem_toArray, List.getElem_cons_succ, List.getElem_cons_zero, List.setIfInBounds_toArray, List.set_cons_zero, List.set_cons_succ]
                refine' wpAnyH_take (i := 7) (v := ?vr3_7) rfl (by kernel_rfl) (by kernel_rfl) (by kernel_rfl) (fun _ _ _ h => h) (Or.inl ⟨by rfl, ?hyr3_7⟩) (by assumption) ?restr3_7
                case hyr3_7 => (intro w hSw; (try dsimp only at hSw); go_simp; try (with_reducible rfl))
                simp only [Act.put, List.getElem_toArray, List.getElem_cons_succ, List.getElem_cons_zero, List.setIfInBounds_toArray, List.set_cons_zero, List.set_cons_succ]
                refine' wpAnyH_take (i := 8) (v := ?vr3_8) rfl (by kernel_rfl) (by kernel_rfl) (by kernel_rfl) (fun _ _ _ h => h) (Or.inl ⟨by rfl, ?hyr3_8⟩) (by assumption) ?restr3_8
                case hyr3_8 => (intro w hSw; (try dsimp only at hSw); go_simp; try (with_reducible rfl))
                simp only [Act.put, List.getElem_toArray, List.getElem_cons_succ, List.getElem_cons_zero, List.setIfInBounds_toArray, List.set_cons_zero, List.set_cons_succ]
                refine wpAnyH_ready (rs := [0]) (by kernel_rfl) (by simp) ?_
                refine AllReadyH.cons rfl (fun K hK => ?_) AllReadyH.nil
                go_simp
                refine hK.out _ _ trivial (fun hHeld1 => ?_)
                clear hK K hHeld
                have hHeld := hHeld1
                clear hHeld1
                try simp only [Act.put, List.getElem_toArray, List.getElem_cons_succ, List.getElem_cons_zero, List.setIfInBounds_toArray, List.set_cons_zero, List.set_cons_succ]
                obtain ⟨g0, HG0⟩ : ∃ G, Hid (V0.heap.size = G) := ⟨_, Lib.hid rfl⟩
                obtain ⟨V1, HW1⟩ : ∃ W, Hid (V0.alloc (.cells #[] 42) = W) := ⟨_, Lib.hid rfl⟩
                have HM1 := Lib.hid (show MX wr (.slice (some ⟨g0, 0, none⟩) 0 0) 0 [] V1 by rw [← HW1.out, ← HG0.out]; exact ⟨HB0.out.alloc HB0.out.size _, made1 wr V0 HB0.out.size 42 2⟩)
                rw [HW1.out]
                try rw [HG0.out]
                clear HW1 HG0
                refine wpAnyH_ready (rs := [4]) (by kernel_rfl) (by simp) ?_
                refine AllReadyH.cons rfl (fun K hK => ?_) AllReadyH.nil
                refine step_src rfl _ _ rfl rfl HM1.out.2 rfl (src_take (HTW.out V1 HM1.out.1) (by omega) _) (by omega) HM1.out.1.size ?_
                intro v2x V2 ho hg
                have HM2 := Lib.hid (show MX wr v2x (0 + k) ([] ++ (t2.take k)) V2 from HM1.out.app (vs := (t2.take k)) ho hg)
                refine hK.out _ _ trivial (fun hHeld1 => ?_)
                clear ho hg
                clear hK K hHeld
                have hHeld := hHeld1
                clear hHeld1
                try simp only [Act.put, List.getElem_toArray, List.getElem_cons_succ, List.getElem_cons_zero, List.setIfInBounds_toArray, List.set_cons_zero, List.set_cons_succ]
                refine wpAnyH_ready (rs := [9]) (by kernel_rfl) (by simp) ?_
                refine AllReadyH.cons rfl (fun K hK => ?_) AllReadyH.nil
                refine step_src rfl _ _ rfl rfl HM2.out.2 rfl (src_drop (HTW.out V2 HM2.out.1) (by omega) _) (by omega) HM2.out.1.size ?_
                intro v3x V3 ho hg
                have HM3 := Lib.hid (show MX wr v3x ((0 + k) + (L2 - (k + 1))) (([] ++ t2.take k) ++ (t2.drop (k + 1))) V3 from HM2.out.app (vs := (t2.drop (k + 1))) ho hg)
                refine hK.out _ _ trivial (fun hHeld1 => ?_)
                clear ho hg
                clear hK K hHeld
                have hHeld := hHeld1
                clear hHeld1
                try simp only [Act.put, List.getElem_toArray, List.getElem_cons_succ, List.getElem_cons_zero, List.setIfInBounds_toArray, List.set_cons_zero, List.set_cons_succ]
                refine' wpAnyH_take (i := 10) (v := ?vr4_10) rfl (by kernel_rfl) (by kernel_rfl) (by kernel_rfl) (fun _ _ _ h => h) (Or.inl ⟨by rfl, ?hyr4_10⟩) (by assumption) ?restr4_10
                case hyr4_10 => (intro w hSw; (try dsimp only at hSw); go_simp; try (with_reducible rfl))
                simp only [Act.put, List.getElem_toArray, List.getElem_cons_succ, List.getElem_cons_zero, List.setIfInBounds_toArray, List.set_cons_zero, List.set_cons_succ]
                refine wpAnyH_done (by kernel_rfl) ?_ _
                have HFF := Lib.hid (show MX wr v3x N1 (lessDp t2 k) V3 by have h := HM3.out; rw [show ([] ++ t2.take k) ++ t2.drop (k + 1) = lessDp t2 k from rfl, show 0 + k + (L2 - (k + 1)) = N1 by have := HN1.out; omega] at h; exact h)
                clear hHeld HM1 HM2 HM3 HB0
                obtain ⟨A3, c3, rfl⟩ := row_slice HFF.out.2
                first | refine hK0 _ _ (Met.intro (hJ0 _ _ ?_)) | refine Met.intro (hK0 _ _ (Met.intro (hJ0 _ _ ?_)))
                (repeat apply Exists.intro)
                exact ⟨⟨A3, c3, rfl, R_S.out.step HFF.out.1, row_below R_l2.out HFF.out.1, row_below R_ra.out HFF.out.1, HFF.out.2⟩, rfl⟩
            case rest =>
              obtain ⟨A3, c3, rfl, q_S, q_l2, q_ra, q_less⟩ := hcut
              have Q_S := Lib.hid q_S
              have Q_l2 := Lib.hid q_l2
              have Q_ra := Lib.hid q_ra
              have Q_less := Lib.hid q_less
              clear q_S q_l2 q_ra q_less R_S R_l2 R_ra HTW ci hk1n hk10 hk1t hk1w hkc hkci hki hk0
              obtain ⟨BB, HBB⟩ : ∃ B, Hid (wr.heap.size = B) := ⟨_, Lib.hid rfl⟩
              rw [HBB.out] at Q_less
              go_wp2_with fail
              go_loopw [19] (fun i wr => ∃ d : Nat, d ≤ 1036 ∧ i = .int .i64 d ∧ St w A n zs wr ∧ wr.ownsRow (BA) 42 2 (.slice (some ⟨g, 0, none⟩) L2 c2) L2 (flatDp t2) ∧ wr.ownsRow (W8.heap.size) 3 1 (.slice (some ⟨gi, 0, none⟩) N2 cra) N2 (ints.intsV I2) ∧ wr.ownsRow (BB) 42 2 (.slice A3 N1 c3) N1 (flatDp (lessDp t2 k))) (fun i _ => 1037 - (intOf i).toNat)
              case atStart => exact ⟨0, Nat.zero_le _, rfl, Q_S.out, Q_l2.out, Q_ra.out, Q_less.out⟩
              case round =>
                obtain ⟨d, hd, rfl, s_S, s_l2, s_ra, s_less⟩ := hrel
                have S_S := Lib.hid s_S
                have S_l2 := Lib.hid s_l2
                have S_ra := Lib.hid s_ra
                have S_less := Lib.hid s_less
                clear s_S s_l2 s_ra s_less Q_S Q_l2 Q_ra Q_less
                by_cases hdl : d < 1000
                · obtain ⟨q9, e1, e2⟩ := HALL.out d hdl
                  have HE1 := Lib.hid e1
                  have HE2 := Lib.hid e2
                  clear e1 e2
                  have hdd : decide ((d : Int) ≤ 999) = true := by simp; omega
                  have hd0 : (0 : Int) ≤ (d : Int) := by omega
                  go_wp2_with fail
                  refine (on_i HE1 (by omega) (Lib.hid (own_Dp HL2.out S_l2.out))).mono ?_
                  rintro e W12 ⟨rfl, b⟩
                  have H34 := Lib.hid (show St w A n zs W12 from S_S.out.step b)
                  have H35 := Lib.hid (show W12.ownsRow (BA) 42 2 (.slice (some ⟨g, 0, none⟩) L2 c2) L2 (flatDp t2) from row_below S_l2.out b)
                  have H36 := Lib.hid (show W12.ownsRow (W8.heap.size) 3 1 (.slice (some ⟨gi, 0, none⟩) N2 cra) N2 (ints.intsV I2) from row_below S_ra.out b)
                  have H37 := Lib.hid (show W12.ownsRow (BB) 42 2 (.slice A3 N1 c3) N1 (flatDp (lessDp t2 k)) from row_below S_less.out b)
                  clear b S_S S_l2 S_ra S_less
                  go_wp2_with fail
                  refine (on_i HE2 (by omega) (Lib.hid (own_Dp HLE.out H37.out))).mono ?_
                  rintro e W13 ⟨rfl, b⟩
                  have H38 := Lib.hid (show St w A n zs W13 from H34.out.step b)
                  have H39 := Lib.hid (show W13.ownsRow (BA) 42 2 (.slice (some ⟨g, 0, none⟩) L2 c2) L2 (flatDp t2) from row_below H35.out b)
                  have H40 := Lib.hid (show W13.ownsRow (W8.heap.size) 3 1 (.slice (some ⟨gi, 0, none⟩) N2 cra) N2 (ints.intsV I2) from row_below H36.out b)
                  have H41 := Lib.hid (show W13.ownsRow (BB) 42 2 (.slice A3 N1 c3) N1 (flatDp (lessDp t2 k)) from row_below H37.out b)
                  clear b H34 H35 H36 H37
                  go_wp2_with fail
                  go_roundw
                  case rel => exact ⟨d + 37, by omega, by go_num, H38.out, H39.out, H40.out, H41.out⟩
                  case measure => simp [intOf]; omega
                · have hdd : decide ((d : Int) ≤ 999) = false := by simp; omega
                  go_wp2_with fail
                  go_roundw
                  case rel => exact ⟨j + 1, by omega, by go_num, S_S.out, S_l2.out, S_ra.out⟩
                  case measure => simp [intOf]; omega
          · have hjd : decide (j < N2) = false := by simpa using hlt
            have hji : decide ((j : Int) < (N2 : Int)) = false := by simp; omega
            clear R_ra
            clear R_l2
            go_wp2_with fail
            refine (declinationOn_draw A n cap zs _ (Lib.hid R_S.out.2)).mono ?_
            rintro e W12 ⟨v3, L3, t3, d3, rfl, ho, hl3, hL3, b⟩
            obtain ⟨A3, c3, rfl⟩ := row_slice ho
            have HR3 := Lib.hid ho
            have HL3 := Lib.hid hl3
            clear ho hl3
            have H34 := Lib.hid (show St w A n zs W12 from R_S.out.step b)
            clear b R_S
            obtain ⟨q3, ok3, hf3⟩ := on_form t3 d3
            have HF3 := Lib.hid hf3
            clear hf3
            go_wp2_with fail
            refine (on_i HF3 (by omega) (Lib.hid (own_Dp HL3.out HR3.out))).mono ?_
            rintro e W13 ⟨rfl, b⟩
            have H35 := Lib.hid (show St w A n zs W13 from H34.out.step b)
            have H36 := Lib.hid (show W13.ownsRow (wr.heap.size) 42 2 (.slice A3 L3 c3) L3 (flatDp t3) from row_below HR3.out b)
            clear b H34 HR3
            go_wp2_with fail
            refine (on_m HF3 (by omega) (Lib.hid (own_Dp HL3.out H36.out))).mono ?_
            rintro e W14 ⟨rfl, b⟩
            have H37 := Lib.hid (show St w A n zs W14 from H35.out.step b)
            have H38 := Lib.hid (show W14.ownsRow (wr.heap.size) 42 2 (.slice A3 L3 c3) L3 (flatDp t3) from row_below H36.out b)
            clear b H35 H36
            go_wp2_with fail
            go_ret
            exact ⟨rfl, H37.out.1⟩
end Go.Proofs.Ytiimegmaokfpgaa.fpw
