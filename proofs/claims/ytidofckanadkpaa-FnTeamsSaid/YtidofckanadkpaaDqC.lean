/-
  FnTeams: the law's walk.
  Conditions: the code has at most 65536 bytes.
-/
import Derived.Test.YtidofckanadkpaaDqH
namespace Go.Proofs.Ytidofckanadkpaa.tea
open Go.RowKit
open reads base curs curd ty rowi psk psl psm psn pso psp pq dps
set_option linter.unusedVariables false
set_option linter.unusedSimpArgs false

set_option maxHeartbeats 16000000 in
set_option maxRecDepth 100000 in
theorem walk (A : Option Addr) (n cap : Nat) (zs : List UInt8) (w : World) (hn : n ≤ 65536) (hS : Hid (St w A n zs w)) :
    Calls Try.prog 3 #[.slice A n cap] w (LawPost w) := by
  have HB := Lib.hid (rs.big_no A n cap w hn)
  clear hn
  go_enter Try.func3, Try.ntmps3
  go_wp2_with fail
  refine HB.out.mono ?_
  rintro e w' ⟨rfl, rfl⟩
  clear HB
  go_wp2_with fail
  refine (dps.smallestTeam_draw A n cap zs _ (Lib.hid hS.out.2)).mono ?_
  rintro e W1 ⟨v1, t1, q1, rfl, ⟨qa1, qb1⟩, ho, hl1, hnm, b⟩
  obtain ⟨L1, HL1⟩ : ∃ L, Hid (t1.length = L) := ⟨_, Lib.hid rfl⟩
  rw [HL1.out] at ho hl1
  obtain ⟨A1, c1, rfl⟩ := base.row_slice ho
  have HR1 := Lib.hid ho
  have hc1 := pi5.own_cap5 ho
  have HN1 := Lib.hid (show ∀ t ∈ t1, t.name.size ≤ 1048576 from fun t ht => by have := hnm t ht; omega)
  clear ho hnm
  have H1 := Lib.hid (show St w A n zs W1 from hS.out.step b)
  clear b hS
  obtain ⟨I1, HI1⟩ : ∃ I, Hid (smIds t1 q1 = I) := ⟨_, Lib.hid rfl⟩
  obtain ⟨B1, HB1⟩ : ∃ B, Hid (decide (0 < I1.length) = B) := ⟨_, Lib.hid rfl⟩
  obtain ⟨K4, HK4⟩ : ∃ M, Hid (I1.length = M) := ⟨_, Lib.hid rfl⟩
  have hM1 : K4 ≤ 11 := by rw [← HK4.out, ← HI1.out]; unfold smIds; split; (have := smB_le (ts := t1) (q := q1) (k := 2 ^ t1.length); have := HL1.out; omega); simp
  go_wp2_with fail
  refine (pi5.smallest_is A1 L1 c1 t1 q1 I1 B1 _ HI1 HB1 (by omega) hc1 HN1 (Lib.hid (own_Ps HL1.out HR1.out))).mono ?_
  rintro e W2 ⟨vr, rfl, ho, b⟩
  rw [HK4.out] at ho
  obtain ⟨Ag1, cg1, rfl⟩ := base.row_slice ho
  have HRg1 := Lib.hid ho
  clear ho
  have H2 := Lib.hid (show St w A n zs W2 from H1.out.step b)
  have H3 := Lib.hid (show W2.ownsRow (w.heap.size) 41 4 (.slice A1 L1 c1) L1 (flatPs t1) from row_below HR1.out b)
  clear b H1 HR1
  go_wp2_with fail
  refine (small_m HI1 HB1 (by omega) HN1 (Lib.hid (own_Ps HL1.out H3.out))).mono ?_
  rintro e W3 ⟨vr, rfl, ho, b⟩
  rw [HK4.out] at ho
  obtain ⟨Aw1, cw1, rfl⟩ := base.row_slice ho
  have HRw1 := Lib.hid ho
  clear ho
  have H4 := Lib.hid (show St w A n zs W3 from H2.out.step b)
  have H5 := Lib.hid (show W3.ownsRow (w.heap.size) 41 4 (.slice A1 L1 c1) L1 (flatPs t1) from row_below H3.out b)
  have H6 := Lib.hid (show W3.ownsRow (W1.heap.size) 3 1 (.slice Ag1 K4 cg1) K4 (ints.intsV I1) from row_below HRg1.out b)
  clear b H2 H3 HRg1
  go_wp2_with fail
  refine (rints_b (by omega) (Lib.hid (ints.IL.of_own H6.out)) (Lib.hid (ints.IL.of_own HRw1.out))).mono ?_
  rintro e W4 ⟨rfl, b⟩
  have H7 := Lib.hid (show St w A n zs W4 from H4.out.step b)
  have H8 := Lib.hid (show W4.ownsRow (w.heap.size) 41 4 (.slice A1 L1 c1) L1 (flatPs t1) from row_below H5.out b)
  have H9 := Lib.hid (show W4.ownsRow (W1.heap.size) 3 1 (.slice Ag1 K4 cg1) K4 (ints.intsV I1) from row_below H6.out b)
  have H10 := Lib.hid (show W4.ownsRow (W2.heap.size) 3 1 (.slice Aw1 K4 cw1) K4 (ints.intsV I1) from row_below HRw1.out b)
  clear b H4 H5 H6 HRw1
  clear H10
  go_upto_if 61 with fail
  go_cut [9] (fun _ wx => St w A n zs wx)
  case first =>
    as_aux_lemma =>
      cases B1
      · go_wp2_with fail
        go_meet
        case rel => exact H7.out
      · have hf := fq.small_facts (ts := t1) (q := q1) (by rw [HI1.out]; simpa using HB1.out)
        rw [HI1.out] at hf
        have HIS := Lib.hid hf.1
        have HMS := Lib.hid hf.2
        clear hf
        go_wp2_with fail
        refine (pi5.isTeam_is A1 L1 c1 t1 Ag1 K4 cg1 I1 _ _ HIS (by omega) (by omega) HN1 (Lib.hid (own_Ps HL1.out H8.out)) (Lib.hid (own_In HK4.out H9.out))).mono ?_
        rintro e W5 ⟨rfl, b⟩
        have H11 := Lib.hid (show St w A n zs W5 from H7.out.step b)
        have H12 := Lib.hid (show W5.ownsRow (w.heap.size) 41 4 (.slice A1 L1 c1) L1 (flatPs t1) from row_below H8.out b)
        have H13 := Lib.hid (show W5.ownsRow (W1.heap.size) 3 1 (.slice Ag1 K4 cg1) K4 (ints.intsV I1) from row_below H9.out b)
        clear b H7 H8 H9
        go_wp2_with fail
        refine (pi5.missing_is A1 L1 c1 t1 Ag1 K4 cg1 I1 q1 _ _ HMS (by omega) (by omega) HN1 (Lib.hid (own_Ps HL1.out H12.out)) (Lib.hid (own_In HK4.out H13.out))).mono ?_
        rintro e W6 ⟨rfl, b⟩
        have H14 := Lib.hid (show St w A n zs W6 from H11.out.step b)
        have H15 := Lib.hid (show W6.ownsRow (w.heap.size) 41 4 (.slice A1 L1 c1) L1 (flatPs t1) from row_below H12.out b)
        have H16 := Lib.hid (show W6.ownsRow (W1.heap.size) 3 1 (.slice Ag1 K4 cg1) K4 (ints.intsV I1) from row_below H13.out b)
        clear b H11 H12 H13
        go_wp2_with fail
        go_meet
        case rel => exact H14.out
  case rest =>
    as_aux_lemma =>
      have SA := Lib.hid hcut
      clear hcut
      go_wp2_with fail
      refine (dps.goOnTrip_draw A n cap zs _ (Lib.hid SA.out.2)).mono ?_
      rintro e W7 ⟨v2, t2, u2, x2, rfl, hu, hx2, ho, hl2, hnm, b⟩
      obtain ⟨L2, HL2⟩ : ∃ L, Hid (t2.length = L) := ⟨_, Lib.hid rfl⟩
      rw [HL2.out] at ho hl2
      obtain ⟨A2, c2, rfl⟩ := base.row_slice ho
      have HR2 := Lib.hid ho
      have hc2 := pi5.own_cap5 ho
      have HN2 := Lib.hid (show ∀ t ∈ t2, t.name.size ≤ 1048576 from fun t ht => by have := hnm t ht; omega)
      clear ho hnm
      obtain ⟨K2, HK2⟩ : ∃ K, Hid (x2.length = K) := ⟨_, Lib.hid rfl⟩
      rw [HK2.out] at hu hx2
      obtain ⟨X2, d2, rfl⟩ := base.row_slice hu
      have HU2 := Lib.hid hu
      clear hu
      have H17 := Lib.hid (show St w A n zs W7 from SA.out.step b)
      clear b SA
      obtain ⟨P, HP⟩ : ∃ P, Hid (gtPs t2 x2 = P) := ⟨_, Lib.hid rfl⟩
      obtain ⟨Q, HQ⟩ : ∃ Q, Hid (gtOk t2 x2 = Q) := ⟨_, Lib.hid rfl⟩
      obtain ⟨M, HM⟩ : ∃ M, Hid (P.length = M) := ⟨_, Lib.hid rfl⟩
      have hM : M ≤ 11 := by rw [← HM.out, ← HP.out]; unfold gtPs gone; split; (rw [List.length_map]; have := HL2.out; omega); simp
      go_wp2_with fail
      refine (pi5.goOnTrip_is A2 L2 c2 t2 X2 K2 d2 x2 P Q _ HP HQ (by omega) (by omega) HN2 (Lib.hid (own_Ps HL2.out HR2.out)) (Lib.hid (own_In HK2.out HU2.out))).mono ?_
      rintro e W8 ⟨vr, rfl, ho, b⟩
      rw [HM.out] at ho
      obtain ⟨Ag2, cg2, rfl⟩ := base.row_slice ho
      have HRg2 := Lib.hid ho
      clear ho
      have H18 := Lib.hid (show St w A n zs W8 from H17.out.step b)
      have H19 := Lib.hid (show W8.ownsRow (wc.heap.size) 41 4 (.slice A2 L2 c2) L2 (flatPs t2) from row_below HR2.out b)
      have H20 := Lib.hid (show W8.ownsRow (wc.heap.size) 3 1 (.slice X2 K2 d2) K2 (ints.intsV x2) from row_below HU2.out b)
      clear b H17 HR2 HU2
      go_wp2_with fail
      refine (trip_m HP HQ (by omega) (by omega) HN2 (Lib.hid (own_Ps HL2.out H19.out)) (Lib.hid (own_In HK2.out H20.out))).mono ?_
      rintro e W9 ⟨vr, rfl, ho, b⟩
      rw [HM.out] at ho
      obtain ⟨Aw2, cw2, rfl⟩ := base.row_slice ho
      have HRw2 := Lib.hid ho
      clear ho
      have H21 := Lib.hid (show St w A n zs W9 from H18.out.step b)
      have H22 := Lib.hid (show W9.ownsRow (wc.heap.size) 41 4 (.slice A2 L2 c2) L2 (flatPs t2) from row_below H19.out b)
      have H23 := Lib.hid (show W9.ownsRow (wc.heap.size) 3 1 (.slice X2 K2 d2) K2 (ints.intsV x2) from row_below H20.out b)
      have H24 := Lib.hid (show W9.ownsRow (W7.heap.size) 41 4 (.slice Ag2 M cg2) M (flatPs P) from row_below HRg2.out b)
      clear b H18 H19 H20 HRg2
      go_wp2_with fail
      refine (dq.rpeople_any Ag2 Aw2 M cg2 cw2 P _ (by omega) (Lib.hid (own_Ps HM.out H24.out)) (Lib.hid (own_Ps HM.out HRw2.out))).mono ?_
      rintro e W10 ⟨rfl, b⟩
      have H25 := Lib.hid (show St w A n zs W10 from H21.out.step b)
      have H26 := Lib.hid (show W10.ownsRow (wc.heap.size) 41 4 (.slice A2 L2 c2) L2 (flatPs t2) from row_below H22.out b)
      have H27 := Lib.hid (show W10.ownsRow (wc.heap.size) 3 1 (.slice X2 K2 d2) K2 (ints.intsV x2) from row_below H23.out b)
      have H28 := Lib.hid (show W10.ownsRow (W7.heap.size) 41 4 (.slice Ag2 M cg2) M (flatPs P) from row_below H24.out b)
      have H29 := Lib.hid (show W10.ownsRow (W8.heap.size) 41 4 (.slice Aw2 M cw2) M (flatPs P) from row_below HRw2.out b)
      clear b H21 H22 H23 H24 HRw2
      clear H29
      go_wp2_with fail
      go_loopw [19] (fun i wr => ∃ k : Nat, k ≤ M ∧ i = .int .i64 k ∧ wr.ownsRow (wc.heap.size) 41 4 (.slice A2 L2 c2) L2 (flatPs t2) ∧ wr.ownsRow (wc.heap.size) 3 1 (.slice X2 K2 d2) K2 (ints.intsV x2) ∧ wr.ownsRow (W7.heap.size) 41 4 (.slice Ag2 M cg2) M (flatPs P) ∧ St w A n zs wr) (fun i _ => M - (intOf i).toNat)
      case atStart => exact ⟨0, Nat.zero_le _, rfl, H26.out, H27.out, H28.out, H25.out⟩
      case round =>
        obtain ⟨k, hk, rfl, r_l2, r_u2, r_g2, r_S⟩ := hrel
        have R_l2 := Lib.hid r_l2
        have R_u2 := Lib.hid r_u2
        have R_g2 := Lib.hid r_g2
        have R_S := Lib.hid r_S
        clear r_l2 r_u2 r_g2 r_S H26 H27 H28 H25
        by_cases hlt : k < M
        · obtain ⟨t, htk, hgk, tb0, tb1⟩ := fq.gt_at (ts := t2) (xs := x2) (k := k) (by rw [HP.out, HM.out]; exact hlt)
          rw [HP.out] at hgk
          obtain ⟨g1, rfl, hg1, a0, a1, a2, a3⟩ := (own_Ps HL2.out R_l2.out).2 k t htk
          obtain ⟨g2, rfl, hg2, b0, b1, b2, b3⟩ := (own_Ps HM.out R_g2.out).2 k _ hgk
          have hkL : k < L2 := by have := (List.getElem?_eq_some_iff.1 htk).1; rw [HL2.out] at this; exact this
          obtain ⟨y, HY⟩ : ∃ y, Hid ((trip x2 t).trips = y) := ⟨_, Lib.hid rfl⟩
          rw [HY.out] at b3
          obtain ⟨p, HPP⟩ : ∃ p, Hid (t.trips = p) := ⟨_, Lib.hid rfl⟩
          rw [HPP.out] at a3 tb0 tb1
          obtain ⟨B, HBB⟩ : ∃ B, Hid (wr.heap.size = B) := ⟨_, Lib.hid rfl⟩
          rw [HBB.out] at hg1 hg2
          have HBle := Lib.hid (show B ≤ wr.heap.size by rw [HBB.out]; exact Nat.le_refl _)
          have hki : (k : Int) < (M : Int) := by omega
          have hkl : (k : Int) < (L2 : Int) := by omega
          have hk0 : 0 ≤ (k : Int) := by omega
          have hkd : decide (k < M) = true := by simpa using hlt
          have HST := Lib.hid (sb_start (Below.refl B wr))
          have HIL := Lib.hid (show ∀ v, Below B wr v → ints.IL v X2 K2 x2 from fun v hv => ints.IL.of_own (row_below R_u2.out (by rw [HBB.out]; exact hv)))
          have HREL := Lib.hid (show ∀ v, Below B wr v → v.ownsRow (wc.heap.size) 41 4 (.slice (some ⟨g1, 0, none⟩) L2 c2) L2 (flatPs t2) ∧ v.ownsRow (wc.heap.size) 3 1 (.slice X2 K2 d2) K2 (ints.intsV x2) ∧ v.ownsRow (W7.heap.size) 41 4 (.slice (some ⟨g2, 0, none⟩) M cg2) M (flatPs P) ∧ St w A n zs v from fun v hv => ⟨row_below R_l2.out (by rw [HBB.out]; exact hv), row_below R_u2.out (by rw [HBB.out]; exact hv), row_below R_g2.out (by rw [HBB.out]; exact hv), R_S.out.step (by rw [HBB.out]; exact hv)⟩)
          clear htk hgk a1 a2 b0 b1 b2
          cases hm : mem x2 t.id
          · have HMEM := Lib.hid hm
            have hy : y = p := by rw [← HY.out, ← HPP.out]; unfold trip; rw [hm]; rfl
            subst hy
            clear hm
            go_wp2_with fail
            refine wp_region_held_drew (S := (fun v => (∀ b o, b < B → v.cell? ⟨b, o, none⟩ = wr.cell? ⟨b, o, none⟩) ∧ Below B wr v)) (by kernel_rfl) ?_ (fun hHeld => ?_)
            · exact HST.out
            refine' wpAnyH_take (i := 0) (v := ?vr1_0) rfl (by kernel_rfl) (by kernel_rfl) (by kernel_rfl) (fun _ _ _ h => h) (Or.inl ⟨by rfl, ?hyr1_0⟩) (by assumption) ?restr1_0
            case hyr1_0 => (intro w hSw; (try dsimp only at hSw); go_simp; try (with_reducible rfl))
            simp only [Act.put, List.getElem_toArray, List.getElem_cons_succ, List.getElem_cons_zero, List.setIfInBounds_toArray, List.set_cons_zero, List.set_cons_succ]
            refine' wpAnyH_take (i := 1) (v := ?vr1_1) rfl (by kernel_rfl) (by kernel_rfl) (by kernel_rfl) (fun _ _ _ h => h) (Or.inl ⟨by rfl, ?hyr1_1⟩) (by assumption) ?restr1_1
            case hyr1_1 => (intro w hSw; (try dsimp only at hSw); go_simp; try (with_reducible rfl))
            simp only [Act.put, List.getElem_toArray, List.getElem_cons_succ, List.getElem_cons_zero, List.setIfInBounds_toArray, List.set_cons_zero, List.set_cons_succ]
            refine' wpAnyH_take (i := 2) (v := ?vr1_2) rfl (by kernel_rfl) (by kernel_rfl) (by kernel_rfl) (fun _ _ _ h => h) (Or.inl ⟨by rfl, ?hyr1_2⟩) (by assumption) ?restr1_2
            case hyr1_2 => (intro w hSw; (try dsimp only at hSw); go_simp; try (with_reducible rfl))
            simp only [Act.put, List.getElem_toArray, List.getElem_cons_succ, List.getElem_cons_zero, List.setIfInBounds_toArray, List.set_cons_zero, List.set_cons_succ]
            refine' wpAnyH_take (i := 3) (v := ?vr1_3) rfl (by kernel_rfl) (by kernel_rfl) (by kernel_rfl) (fun _ _ _ h => h) (Or.inl ⟨by rfl, ?hyr1_3⟩) (by assumption) ?restr1_3
            case hyr1_3 => (intro w hSw; (try dsimp only at hSw); go_simp; try (with_reducible rfl))
            simp only [Act.put, List.getElem_toArray, List.getElem_cons_succ, List.getElem_cons_zero, List.setIfInBounds_toArray, List.set_cons_zero, List.set_cons_succ]
            refine' wpAnyH_take (i := 4) (v := ?vr1_4) rfl (by kernel_rfl) (by kernel_rfl) (by kernel_rfl) (fun _ _ _ h => h) (Or.inl ⟨by rfl, ?hyr1_4⟩) (by assumption) ?restr1_4
            case hyr1_4 => (intro w hSw; (try dsimp only at hSw); go_simp; try (with_reducible rfl))
            simp only [Act.put, List.getElem_toArray, List.getElem_cons_succ, List.getElem_cons_zero, List.setIfInBounds_toArray, List.set_cons_zero, List.set_cons_succ]
            refine' wpAnyH_take (i := 5) (v := ?vr1_5) rfl (by kernel_rfl) (by kernel_rfl) (by kernel_rfl) (fun _ _ _ h => h) (Or.inl ⟨by rfl, ?hyr1_5⟩) (by assumption) ?restr1_5
            case hyr1_5 => (intro w hSw; (try dsimp only at hSw); go_simp; try (with_reducible rfl))
            simp only [Act.put, List.getElem_toArray, List.getElem_cons_succ, List.getElem_cons_zero, List.setIfInBounds_toArray, List.set_cons_zero, List.set_cons_succ]
            refine' wpAnyH_take (i := 6) (v := ?vr1_6) rfl (by kernel_rfl) (by kernel_rfl) (by kernel_rfl) (fun _ _ _ h => h) (Or.inl ⟨by rfl, ?hyr1_6⟩) (by assumption) ?restr1_6
            case hyr1_6 => (intro w hSw; (try dsimp only at hSw); go_simp; try (with_reducible rfl))
            simp only [Act.put, List.getElem_toArray, List.getElem_cons_succ, List.getElem_cons_zero, List.setIfInBounds_toArray, List.set_cons_zero, List.set_cons_succ]
            refine' wpAnyH_take (i := 7) (v := ?vr1_7) rfl (by kernel_rfl) (by kernel_rfl) (by kernel_rfl) (fun _ _ _ h => h) (Or.inl ⟨by rfl, ?hyr1_7⟩) (by assumption) ?restr1_7
            case hyr1_7 => (intro w hSw; (try dsimp only at hSw); go_simp; try (with_reducible rfl))
            simp only [Act.put, List.getElem_toArray, List.getElem_cons_succ, List.getElem_cons_zero, List.setIfInBounds_toArray, List.set_cons_zero, List.set_cons_succ]
            refine' wpAnyH_take (i := 8) (v := ?vr1_8) rfl (by kernel_rfl) (by kernel_rfl) (by kernel_rfl) (fun _ _ _ h => h) (Or.inl ⟨by rfl, ?hyr1_8⟩) (by assumption) ?restr1_8
            case hyr1_8 => (intro w hSw; (try dsimp only at hSw); go_simp; try (with_reducible rfl))
            simp only [Act.put, List.getElem_toArray, List.getElem_cons_succ, List.getElem_cons_zero, List.setIfInBounds_toArray, List.set_cons_zero, List.set_cons_succ]
            refine' wpAnyH_take (i := 9) (v := ?vr1_9) rfl (by kernel_rfl) (by kernel_rfl) (by kernel_rfl) (fun _ _ _ h => h) (Or.inl ⟨by rfl, ?hyr1_9⟩) (by assumption) ?restr1_9
            case hyr1_9 => (intro w hSw; (try dsimp only at hSw); go_simp; try (with_reducible rfl))
            simp only [Act.put, List.getElem_toArray, List.getElem_cons_succ, List.getElem_cons_zero, List.setIfInBounds_toArray, List.set_cons_zero, List.set_cons_succ]
            refine' wpAnyH_take (i := 10) (v := ?vr1_10) rfl (by kernel_rfl) (by kernel_rfl) (by kernel_rfl) (fun _ _ _ h => h) (Or.inl ⟨by rfl, ?hyr1_10⟩) (by assumption) ?restr1_10
            case hyr1_10 => (intro w hSw; (try dsimp only at hSw); go_simp; try (with_reducible rfl))
            simp only [Act.put, List.getElem_toArray, List.getElem_cons_succ, List.getElem_cons_zero, List.setIfInBounds_toArray, List.set_cons_zero, List.set_cons_succ]
            refine' wpAnyH_take (i := 11) (v := ?vr1_11) rfl (by kernel_rfl) (by kernel_rfl) (by kernel_rfl) (fun _ _ _ h => h) (Or.inl ⟨by rfl, ?hyr1_11⟩) (by assumption) ?restr1_11
            case hyr1_11 => (intro w hSw; (try dsimp only at hSw); go_simp; try (with_reducible rfl))
            simp only [Act.put, List.getElem_toArray, List.getElem_cons_succ, List.getElem_cons_zero, List.setIfInBounds_toArray, List.set_cons_zero, List.set_cons_succ]
            refine' wpAnyH_take (i := 12) (v := ?vr1_12) rfl (by kernel_rfl) (by kernel_rfl) (by kernel_rfl) (fun _ _ _ h => h) (Or.inl ⟨by rfl, ?hyr1_12⟩) (by assumption) ?restr1_12
            case hyr1_12 => (intro w hSw; (try dsimp only at hSw); go_simp; try (with_reducible rfl))
            simp only [Act.put, List.getElem_toArray, List.getElem_cons_succ, List.getElem_cons_zero, List.setIfInBounds_toArray, List.set_cons_zero, List.set_cons_succ]
            refine' wpAnyH_take (i := 13) (v := ?vr1_13) rfl (by kernel_rfl) (by kernel_rfl) (by kernel_rfl) (fun _ _ _ h => h) (Or.inl ⟨by rfl, ?hyr1_13⟩) (by assumption) ?restr1_13
            case hyr1_13 => (intro w hSw; (try dsimp only at hSw); go_simp; try (with_reducible rfl))
            simp only [Act.put, List.getElem_toArray, List.getElem_cons_succ, List.getElem_cons_zero, List.setIfInBounds_toArray, List.set_cons_zero, List.set_cons_succ]
            refine' wpAnyH_take (i := 14) (v := ?vr1_14) rfl (by kernel_rfl) (by kernel_rfl) (by kernel_rfl) (fun _ _ _ h => h) (Or.inl ⟨by rfl, ?hyr1_14⟩) (by assumption) ?restr1_14
            case hyr1_14 => (intro w hSw; (try dsimp only at hSw); go_simp; try (with_reducible rfl))
            simp only [Act.put, List.getElem_toArray, List.getElem_cons_succ, List.getElem_cons_zero, List.setIfInBounds_toArray, List.set_cons_zero, List.set_cons_succ]
            refine' wpAnyH_take (i := 15) (v := ?vr1_15) rfl (by kernel_rfl) (by kernel_rfl) (by kernel_rfl) (fun _ _ _ h => h) (Or.inl ⟨by rfl, ?hyr1_15⟩) (by assumption) ?restr1_15
            case hyr1_15 => (intro w hSw; (try dsimp only at hSw); go_simp; try (with_reducible rfl))
            simp only [Act.put, List.getElem_toArray, List.getElem_cons_succ, List.getElem_cons_zero, List.setIfInBounds_toArray, List.set_cons_zero, List.set_cons_succ]
            refine' wpAnyH_take (i := 16) (v := ?vr1_16) rfl (by kernel_rfl) (by kernel_rfl) (by kernel_rfl) (fun _ _ _ h => h) (Or.inl ⟨by rfl, ?hyr1_16⟩) (by assumption) ?restr1_16
            case hyr1_16 => (intro w hSw; (try dsimp only at hSw); go_simp; try (with_reducible rfl))
            simp only [Act.put, List.getElem_toArray, List.getElem_cons_succ, List.getElem_cons_zero, List.setIfInBounds_toArray, List.set_cons_zero, List.set_cons_succ]
            refine' wpAnyH_take (i := 17) (v := ?vr1_17) rfl (by kernel_rfl) (by kernel_rfl) (by kernel_rfl) (fun _ _ _ h => h) (Or.inl ⟨by rfl, ?hyr1_17⟩) (by assumption) ?restr1_17
            case hyr1_17 => (intro w hSw; (try dsimp only at hSw); go_simp; try (with_reducible rfl))
            simp only [Act.put, List.getElem_toArray, List.getElem_cons_succ, List.getElem_cons_zero, List.setIfInBounds_toArray, List.set_cons_zero, List.set_cons_succ]
            refine' wpAnyH_take (i := 18) (v := ?vr1_18) rfl (by kernel_rfl) (by kernel_rfl) (by kernel_rfl) (fun _ _ _ h => h) (Or.inl ⟨by rfl, ?hyr1_18⟩) (by assumption) ?restr1_18
            case hyr1_18 => (intro w hSw; (try dsimp only at hSw); go_simp; try (with_reducible rfl))
            simp only [Act.put, List.getElem_toArray, List.getElem_cons_succ, List.getElem_cons_zero, List.setIfInBounds_toArray, List.set_cons_zero, List.set_cons_succ]
            refine wpAnyH_ready (rs := [19]) (by kernel_rfl) (by simp) ?_
            refine AllReadyH.cons rfl (fun K hK => ?_) AllReadyH.nil
            go_simp
            refine (dq.rhas_is X2 K2 d2 x2 t.id false HMEM _ (by omega) (Lib.hid (HIL.out _ hHeld.2))).mono ?_
            rintro e w1 ⟨rfl, rfl⟩
            refine hK.out _ _ (hHeld) (fun hHeld1 => ?_)
            clear hK K hHeld
            have hHeld := hHeld1
            clear hHeld1
            try simp only [Act.put, List.getElem_toArray, List.getElem_cons_succ, List.getElem_cons_zero, List.setIfInBounds_toArray, List.set_cons_zero, List.set_cons_succ]
            refine' wpAnyH_take (i := 20) (v := ?vr1_20) rfl (by kernel_rfl) (by kernel_rfl) (by kernel_rfl) (fun _ _ _ h => h) (Or.inl ⟨by rfl, ?hyr1_20⟩) (by assumption) ?restr1_20
            case hyr1_20 => (intro w hSw; (try dsimp only at hSw); go_simp; try (with_reducible rfl))
            simp only [Act.put, List.getElem_toArray, List.getElem_cons_succ, List.getElem_cons_zero, List.setIfInBounds_toArray, List.set_cons_zero, List.set_cons_succ]
            refine' wpAnyH_take (i := 21) (v := ?vr1_21) rfl (by kernel_rfl) (by kernel_rfl) (by kernel_rfl) (fun _ _ _ h => h) (Or.inl ⟨by rfl, ?hyr1_21⟩) (by assumption) ?restr1_21
            case hyr1_21 => (intro w hSw; (try dsimp only at hSw); go_simp; try (with_reducible rfl))
            simp only [Act.put, List.getElem_toArray, List.getElem_cons_succ, List.getElem_cons_zero, List.setIfInBounds_toArray, List.set_cons_zero, List.set_cons_succ]
            refine' wpAnyH_take (i := 22) (v := ?vr1_22) rfl (by kernel_rfl) (by kernel_rfl) (by kernel_rfl) (fun _ _ _ h => h) (Or.inl ⟨by rfl, ?hyr1_22⟩) (by assumption) ?restr1_22
            case hyr1_22 => (intro w hSw; (try dsimp only at hSw); go_simp; try (with_reducible rfl))
            simp only [Act.put, List.getElem_toArray, List.getElem_cons_succ, List.getElem_cons_zero, List.setIfInBounds_toArray, List.set_cons_zero, List.set_cons_succ]
            refine' wpAnyH_take (i := 23) (v := ?vr1_23) rfl (by kernel_rfl) (by kernel_rfl) (by kernel_rfl) (fun _ _ _ h => h) (Or.inl ⟨by rfl, ?hyr1_23⟩) (by assumption) ?restr1_23
            case hyr1_23 => (intro w hSw; (try dsimp only at hSw); go_simp; try (with_reducible rfl))
            simp only [Act.put, List.getElem_toArray, List.getElem_cons_succ, List.getElem_cons_zero, List.setIfInBounds_toArray, List.set_cons_zero, List.set_cons_succ]
            refine' wpAnyH_take (i := 24) (v := ?vr1_24) rfl (by kernel_rfl) (by kernel_rfl) (by kernel_rfl) (fun _ _ _ h => h) (Or.inl ⟨by rfl, ?hyr1_24⟩) (by assumption) ?restr1_24
            case hyr1_24 => (intro w hSw; (try dsimp only at hSw); go_simp; try (with_reducible rfl))
            simp only [Act.put, List.getElem_toArray, List.getElem_cons_succ, List.getElem_cons_zero, List.setIfInBounds_toArray, List.set_cons_zero, List.set_cons_succ]
            refine' wpAnyH_take (i := 25) (v := ?vr1_25) rfl (by kernel_rfl) (by kernel_rfl) (by kernel_rfl) (fun _ _ _ h => h) (Or.inl ⟨by rfl, ?hyr1_25⟩) (by assumption) ?restr1_25
            case hyr1_25 => (intro w hSw; (try dsimp only at hSw); go_simp; try (with_reducible rfl))
            simp only [Act.put, List.getElem_toArray, List.getElem_cons_succ, List.getElem_cons_zero, List.setIfInBounds_toArray, List.set_cons_zero, List.set_cons_succ]
            refine' wpAnyH_take (i := 26) (v := ?vr1_26) rfl (by kernel_rfl) (by kernel_rfl) (by kernel_rfl) (fun _ _ _ h => h) (Or.inl ⟨by rfl, ?hyr1_26⟩) (by assumption) ?restr1_26
            case hyr1_26 => (intro w hSw; (try dsimp only at hSw); go_simp; try (with_reducible rfl))
            simp only [Act.put, List.getElem_toArray, List.getElem_cons_succ, List.getElem_cons_zero, List.setIfInBounds_toArray, List.set_cons_zero, List.set_cons_succ]
            refine' wpAnyH_take (i := 27) (v := ?vr1_27) rfl (by kernel_rfl) (by kernel_rfl) (by kernel_rfl) (fun _ _ _ h => h) (Or.inl ⟨by rfl, ?hyr1_27⟩) (by assumption) ?restr1_27
            case hyr1_27 => (intro w hSw; (try dsimp only at hSw); go_simp; try (with_reducible rfl))
            simp only [Act.put, List.getElem_toArray, List.getElem_cons_succ, List.getElem_cons_zero, List.setIfInBounds_toArray, List.set_cons_zero, List.set_cons_succ]
            refine' wpAnyH_take (i := 28) (v := ?vr1_28) rfl (by kernel_rfl) (by kernel_rfl) (by kernel_rfl) (fun _ _ _ h => h) (Or.inl ⟨by rfl, ?hyr1_28⟩) (by assumption) ?restr1_28
            case hyr1_28 => (intro w hSw; (try dsimp only at hSw); go_simp; try (with_reducible rfl))
            simp only [Act.put, List.getElem_toArray, List.getElem_cons_succ, List.getElem_cons_zero, List.setIfInBounds_toArray, List.set_cons_zero, List.set_cons_succ]
            refine' wpAnyH_take (i := 29) (v := ?vr1_29) rfl (by kernel_rfl) (by kernel_rfl) (by kernel_rfl) (fun _ _ _ h => h) (Or.inl ⟨by rfl, ?hyr1_29⟩) (by assumption) ?restr1_29
            case hyr1_29 => (intro w hSw; (try dsimp only at hSw); go_simp; try (with_reducible rfl))
            simp only [Act.put, List.getElem_toArray, List.getElem_cons_succ, List.getElem_cons_zero, List.setIfInBounds_toArray, List.set_cons_zero, List.set_cons_succ]
            refine' wpAnyH_take (i := 30) (v := ?vr1_30) rfl (by kernel_rfl) (by kernel_rfl) (by kernel_rfl) (fun _ _ _ h => h) (Or.inl ⟨by rfl, ?hyr1_30⟩) (by assumption) ?restr1_30
            case hyr1_30 => (intro w hSw; (try dsimp only at hSw); go_simp; try (with_reducible rfl))
            simp only [Act.put, List.getElem_toArray, List.getElem_cons_succ, List.getElem_cons_zero, List.setIfInBounds_toArray, List.set_cons_zero, List.set_cons_succ]
            refine' wpAnyH_take (i := 31) (v := ?vr1_31) rfl (by kernel_rfl) (by kernel_rfl) (by kernel_rfl) (fun _ _ _ h => h) (Or.inl ⟨by rfl, ?hyr1_31⟩) (by assumption) ?restr1_31
            case hyr1_31 => (intro w hSw; (try dsimp only at hSw); go_simp; try (with_reducible rfl))
            simp only [Act.put, List.getElem_toArray, List.getElem_cons_succ, List.getElem_cons_zero, List.setIfInBounds_toArray, List.set_cons_zero, List.set_cons_succ]
            refine' wpAnyH_take (i := 32) (v := ?vr1_32) rfl (by kernel_rfl) (by kernel_rfl) (by kernel_rfl) (fun _ _ _ h => h) (Or.inl ⟨by rfl, ?hyr1_32⟩) (by assumption) ?restr1_32
            case hyr1_32 => (intro w hSw; (try dsimp only at hSw); go_simp; try (with_reducible rfl))
            simp only [Act.put, List.getElem_toArray, List.getElem_cons_succ, List.getElem_cons_zero, List.setIfInBounds_toArray, List.set_cons_zero, List.set_cons_succ]
            refine' wpAnyH_take (i := 33) (v := ?vr1_33) rfl (by kernel_rfl) (by kernel_rfl) (by kernel_rfl) (fun _ _ _ h => h) (Or.inl ⟨by rfl, ?hyr1_33⟩) (by assumption) ?restr1_33
            case hyr1_33 => (intro w hSw; (try dsimp only at hSw); go_simp; try (with_reducible rfl))
            simp only [Act.put, List.getElem_toArray, List.getElem_cons_succ, List.getElem_cons_zero, List.setIfInBounds_toArray, List.set_cons_zero, List.set_cons_succ]
            refine wpAnyH_take (i := 34) (v := undef) rfl (by kernel_rfl) (by kernel_rfl) (by kernel_rfl) (fun _ _ _ h => h) (Or.inr ⟨by rfl, rfl⟩) (by assumption) ?_
            simp only [Act.put, List.getElem_toArray, List.getElem_cons_succ, List.getElem_cons_zero, List.setIfInBounds_toArray, List.set_cons_zero, List.set_cons_succ]
            refine wpAnyH_take (i := 35) (v := undef) rfl (by kernel_rfl) (by kernel_rfl) (by kernel_rfl) (fun _ _ _ h => h) (Or.inr ⟨by rfl, rfl⟩) (by assumption) ?_
            simp only [Act.put, List.getElem_toArray, List.getElem_cons_succ, List.getElem_cons_zero, List.setIfInBounds_toArray, List.set_cons_zero, List.set_cons_succ]
            refine wpAnyH_take (i := 36) (v := undef) rfl (by kernel_rfl) (by kernel_rfl) (by kernel_rfl) (fun _ _ _ h => h) (Or.inr ⟨by rfl, rfl⟩) (by assumption) ?_
            simp only [Act.put, List.getElem_toArray, List.getElem_cons_succ, List.getElem_cons_zero, List.setIfInBounds_toArray, List.set_cons_zero, List.set_cons_succ]
            refine wpAnyH_take (i := 37) (v := undef) rfl (by kernel_rfl) (by kernel_rfl) (by kernel_rfl) (fun _ _ _ h => h) (Or.inr ⟨by rfl, rfl⟩) (by assumption) ?_
            simp only [Act.put, List.getElem_toArray, List.getElem_cons_succ, List.getElem_cons_zero, List.setIfInBounds_toArray, List.set_cons_zero, List.set_cons_succ]
            refine wpAnyH_take (i := 38) (v := undef) rfl (by kernel_rfl) (by kernel_rfl) (by kernel_rfl) (fun _ _ _ h => h) (Or.inr ⟨by rfl, rfl⟩) (by assumption) ?_
            simp only [Act.put, List.getElem_toArray, List.getElem_cons_succ, List.getElem_cons_zero, List.setIfInBounds_toArray, List.set_cons_zero, List.set_cons_succ]
            refine wpAnyH_take (i := 39) (v := undef) rfl (by kernel_rfl) (by kernel_rfl) (by kernel_rfl) (fun _ _ _ h => h) (Or.inr ⟨by rfl, rfl⟩) (by assumption) ?_
            simp only [Act.put, List.getElem_toArray, List.getElem_cons_succ, List.getElem_cons_zero, List.setIfInBounds_toArray, List.set_cons_zero, List.set_cons_succ]
            refine wpAnyH_take (i := 40) (v := undef) rfl (by kernel_rfl) (by kernel_rfl) (by kernel_rfl) (fun _ _ _ h => h) (Or.inr ⟨by rfl, rfl⟩) (by assumption) ?_
            simp only [Act.put, List.getElem_toArray, List.getElem_cons_succ, List.getElem_cons_zero, List.setIfInBounds_toArray, List.set_cons_zero, List.set_cons_succ]
            refine wpAnyH_take (i := 41) (v := undef) rfl (by kernel_rfl) (by kernel_rfl) (by kernel_rfl) (fun _ _ _ h => h) (Or.inr ⟨by rfl, rfl⟩) (by assumption) ?_
            simp only [Act.put, List.getElem_toArray, List.getElem_cons_succ, List.getElem_cons_zero, List.setIfInBounds_toArray, List.set_cons_zero, List.set_cons_succ]
            refine' wpAnyH_take (i := 42) (v := ?vr1_42) rfl (by kernel_rfl) (by kernel_rfl) (by kernel_rfl) (fun _ _ _ h => h) (Or.inl ⟨by rfl, ?hyr1_42⟩) (by assumption) ?restr1_42
            case hyr1_42 => (intro w hSw; (try dsimp only at hSw); go_simp; try (with_reducible rfl))
            simp only [Act.put, List.getElem_toArray, List.getElem_cons_succ, List.getElem_cons_zero, List.setIfInBounds_toArray, List.set_cons_zero, List.set_cons_succ]
            refine' wpAnyH_take (i := 43) (v := ?vr1_43) rfl (by kernel_rfl) (by kernel_rfl) (by kernel_rfl) (fun _ _ _ h => h) (Or.inl ⟨by rfl, ?hyr1_43⟩) (by assumption) ?restr1_43
            case hyr1_43 => (intro w hSw; (try dsimp only at hSw); go_simp; try (with_reducible rfl))
            simp only [Act.put, List.getElem_toArray, List.getElem_cons_succ, List.getElem_cons_zero, List.setIfInBounds_toArray, List.set_cons_zero, List.set_cons_succ]
            refine wpAnyH_done (by kernel_rfl) ?_ _
            have HV := Lib.hid (HREL.out _ hHeld.2)
            clear hHeld
            go_wp2_with fail
            go_roundw
            case rel => exact ⟨k + 1, by omega, by go_num, HV.out⟩
            case measure => simp [intOf]; omega
          · have HMEM := Lib.hid hm
            have hy : y = p + 1 := by rw [← HY.out, ← HPP.out]; unfold trip; rw [hm]; rfl
            have hyp : y - p = 1 := by omega
            have hw1 : IntKind.i64.wrap 1 = 1 := by decide
            have hyn : (y != p) = true := by simp; omega
            have hyn2 : (y == p) = false := by simp; omega
            have hyb : y ≤ 501 := by omega
            have hy0 : 0 ≤ y := by omega
            clear hy
            clear hm
            go_wp2_with fail
            refine wp_region_held_drew (S := (fun v => (∀ b o, b < B → v.cell? ⟨b, o, none⟩ = wr.cell? ⟨b, o, none⟩) ∧ Below B wr v)) (by kernel_rfl) ?_ (fun hHeld => ?_)
            · exact HST.out
            refine' wpAnyH_take (i := 0) (v := ?vr2_0) rfl (by kernel_rfl) (by kernel_rfl) (by kernel_rfl) (fun _ _ _ h => h) (Or.inl ⟨by rfl, ?hyr2_0⟩) (by assumption) ?restr2_0
            case hyr2_0 => (intro w hSw; (try dsimp only at hSw); go_simp; try (with_reducible rfl))
            simp only [Act.put, List.getElem_toArray, List.getElem_cons_succ, List.getElem_cons_zero, List.setIfInBounds_toArray, List.set_cons_zero, List.set_cons_succ]
            refine' wpAnyH_take (i := 1) (v := ?vr2_1) rfl (by kernel_rfl) (by kernel_rfl) (by kernel_rfl) (fun _ _ _ h => h) (Or.inl ⟨by rfl, ?hyr2_1⟩) (by assumption) ?restr2_1
            case hyr2_1 => (intro w hSw; (try dsimp only at hSw); go_simp; try (with_reducible rfl))
            simp only [Act.put, List.getElem_toArray, List.getElem_cons_succ, List.getElem_cons_zero, List.setIfInBounds_toArray, List.set_cons_zero, List.set_cons_succ]
            refine' wpAnyH_take (i := 2) (v := ?vr2_2) rfl (by kernel_rfl) (by kernel_rfl) (by kernel_rfl) (fun _ _ _ h => h) (Or.inl ⟨by rfl, ?hyr2_2⟩) (by assumption) ?restr2_2
            case hyr2_2 => (intro w hSw; (try dsimp only at hSw); go_simp; try (with_reducible rfl))
            simp only [Act.put, List.getElem_toArray, List.getElem_cons_succ, List.getElem_cons_zero, List.setIfInBounds_toArray, List.set_cons_zero, List.set_cons_succ]
            refine' wpAnyH_take (i := 3) (v := ?vr2_3) rfl (by kernel_rfl) (by kernel_rfl) (by kernel_rfl) (fun _ _ _ h => h) (Or.inl ⟨by rfl, ?hyr2_3⟩) (by assumption) ?restr2_3
            case hyr2_3 => (intro w hSw; (try dsimp only at hSw); go_simp; try (with_reducible rfl))
            simp only [Act.put, List.getElem_toArray, List.getElem_cons_succ, List.getElem_cons_zero, List.setIfInBounds_toArray, List.set_cons_zero, List.set_cons_succ]
            refine' wpAnyH_take (i := 4) (v := ?vr2_4) rfl (by kernel_rfl) (by kernel_rfl) (by kernel_rfl) (fun _ _ _ h => h) (Or.inl ⟨by rfl, ?hyr2_4⟩) (by assumption) ?restr2_4
            case hyr2_4 => (intro w hSw; (try dsimp only at hSw); go_simp; try (with_reducible rfl))
            simp only [Act.put, List.getElem_toArray, List.getElem_cons_succ, List.getElem_cons_zero, List.setIfInBounds_toArray, List.set_cons_zero, List.set_cons_succ]
            refine' wpAnyH_take (i := 5) (v := ?vr2_5) rfl (by kernel_rfl) (by kernel_rfl) (by kernel_rfl) (fun _ _ _ h => h) (Or.inl ⟨by rfl, ?hyr2_5⟩) (by assumption) ?restr2_5
            case hyr2_5 => (intro w hSw; (try dsimp only at hSw); go_simp; try (with_reducible rfl))
            simp only [Act.put, List.getElem_toArray, List.getElem_cons_succ, List.getElem_cons_zero, List.setIfInBounds_toArray, List.set_cons_zero, List.set_cons_succ]
            refine' wpAnyH_take (i := 6) (v := ?vr2_6) rfl (by kernel_rfl) (by kernel_rfl) (by kernel_rfl) (fun _ _ _ h => h) (Or.inl ⟨by rfl, ?hyr2_6⟩) (by assumption) ?restr2_6
            case hyr2_6 => (intro w hSw; (try dsimp only at hSw); go_simp; try (with_reducible rfl))
            simp only [Act.put, List.getElem_toArray, List.getElem_cons_succ, List.getElem_cons_zero, List.setIfInBounds_toArray, List.set_cons_zero, List.set_cons_succ]
            refine' wpAnyH_take (i := 7) (v := ?vr2_7) rfl (by kernel_rfl) (by kernel_rfl) (by kernel_rfl) (fun _ _ _ h => h) (Or.inl ⟨by rfl, ?hyr2_7⟩) (by assumption) ?restr2_7
            case hyr2_7 => (intro w hSw; (try dsimp only at hSw); go_simp; try (with_reducible rfl))
            simp only [Act.put, List.getElem_toArray, List.getElem_cons_succ, List.getElem_cons_zero, List.setIfInBounds_toArray, List.set_cons_zero, List.set_cons_succ]
            refine' wpAnyH_take (i := 8) (v := ?vr2_8) rfl (by kernel_rfl) (by kernel_rfl) (by kernel_rfl) (fun _ _ _ h => h) (Or.inl ⟨by rfl, ?hyr2_8⟩) (by assumption) ?restr2_8
            case hyr2_8 => (intro w hSw; (try dsimp only at hSw); go_simp; try (with_reducible rfl))
            simp only [Act.put, List.getElem_toArray, List.getElem_cons_succ, List.getElem_cons_zero, List.setIfInBounds_toArray, List.set_cons_zero, List.set_cons_succ]
            refine' wpAnyH_take (i := 9) (v := ?vr2_9) rfl (by kernel_rfl) (by kernel_rfl) (by kernel_rfl) (fun _ _ _ h => h) (Or.inl ⟨by rfl, ?hyr2_9⟩) (by assumption) ?restr2_9
            case hyr2_9 => (intro w hSw; (try dsimp only at hSw); go_simp; try (with_reducible rfl))
            simp only [Act.put, List.getElem_toArray, List.getElem_cons_succ, List.getElem_cons_zero, List.setIfInBounds_toArray, List.set_cons_zero, List.set_cons_succ]
            refine' wpAnyH_take (i := 10) (v := ?vr2_10) rfl (by kernel_rfl) (by kernel_rfl) (by kernel_rfl) (fun _ _ _ h => h) (Or.inl ⟨by rfl, ?hyr2_10⟩) (by assumption) ?restr2_10
            case hyr2_10 => (intro w hSw; (try dsimp only at hSw); go_simp; try (with_reducible rfl))
            simp only [Act.put, List.getElem_toArray, List.getElem_cons_succ, List.getElem_cons_zero, List.setIfInBounds_toArray, List.set_cons_zero, List.set_cons_succ]
            refine' wpAnyH_take (i := 11) (v := ?vr2_11) rfl (by kernel_rfl) (by kernel_rfl) (by kernel_rfl) (fun _ _ _ h => h) (Or.inl ⟨by rfl, ?hyr2_11⟩) (by assumption) ?restr2_11
            case hyr2_11 => (intro w hSw; (try dsimp only at hSw); go_simp; try (with_reducible rfl))
            simp only [Act.put, List.getElem_toArray, List.getElem_cons_succ, List.getElem_cons_zero, List.setIfInBounds_toArray, List.set_cons_zero, List.set_cons_succ]
            refine' wpAnyH_take (i := 12) (v := ?vr2_12) rfl (by kernel_rfl) (by kernel_rfl) (by kernel_rfl) (fun _ _ _ h => h) (Or.inl ⟨by rfl, ?hyr2_12⟩) (by assumption) ?restr2_12
            case hyr2_12 => (intro w hSw; (try dsimp only at hSw); go_simp; try (with_reducible rfl))
            simp only [Act.put, List.getElem_toArray, List.getElem_cons_succ, List.getElem_cons_zero, List.setIfInBounds_toArray, List.set_cons_zero, List.set_cons_succ]
            refine wpAnyH_take (i := 13) (v := undef) rfl (by kernel_rfl) (by kernel_rfl) (by kernel_rfl) (fun _ _ _ h => h) (Or.inr ⟨by rfl, rfl⟩) (by assumption) ?_
            simp only [Act.put, List.getElem_toArray, List.getElem_cons_succ, List.getElem_cons_zero, List.setIfInBounds_toArray, List.set_cons_zero, List.set_cons_succ]
            refine wpAnyH_take (i := 14) (v := undef) rfl (by kernel_rfl) (by kernel_rfl) (by kernel_rfl) (fun _ _ _ h => h) (Or.inr ⟨by rfl, rfl⟩) (by assumption) ?_
            simp only [Act.put, List.getElem_toArray, List.getElem_cons_succ, List.getElem_cons_zero, List.setIfInBounds_toArray, List.set_cons_zero, List.set_cons_succ]
            refine wpAnyH_take (i := 15) (v := undef) rfl (by kernel_rfl) (by kernel_rfl) (by kernel_rfl) (fun _ _ _ h => h) (Or.inr ⟨by rfl, rfl⟩) (by assumption) ?_
            simp only [Act.put, List.getElem_toArray, List.getElem_cons_succ, List.getElem_cons_zero, List.setIfInBounds_toArray, List.set_cons_zero, List.set_cons_succ]
            refine wpAnyH_take (i := 16) (v := undef) rfl (by kernel_rfl) (by kernel_rfl) (by kernel_rfl) (fun _ _ _ h => h) (Or.inr ⟨by rfl, rfl⟩) (by assumption) ?_
            simp only [Act.put, List.getElem_toArray, List.getElem_cons_succ, List.getElem_cons_zero, List.setIfInBounds_toArray, List.set_cons_zero, List.set_cons_succ]
            refine wpAnyH_take (i := 17) (v := undef) rfl (by kernel_rfl) (by kernel_rfl) (by kernel_rfl) (fun _ _ _ h => h) (Or.inr ⟨by rfl, rfl⟩) (by assumption) ?_
            simp only [Act.put, List.getElem_toArray, List.getElem_cons_succ, List.getElem_cons_zero, List.setIfInBounds_toArray, List.set_cons_zero, List.set_cons_succ]
            refine wpAnyH_take (i := 18) (v := undef) rfl (by kernel_rfl) (by kernel_rfl) (by kernel_rfl) (fun _ _ _ h => h) (Or.inr ⟨by rfl, rfl⟩) (by assumption) ?_
            simp only [Act.put, List.getElem_toArray, List.getElem_cons_succ, List.getElem_cons_zero, List.setIfInBounds_toArray, List.set_cons_zero, List.set_cons_succ]
            refine wpAnyH_take (i := 19) (v := undef) rfl (by kernel_rfl) (by kernel_rfl) (by kernel_rfl) (fun _ _ _ h => h) (Or.inr ⟨by rfl, rfl⟩) (by assumption) ?_
            simp only [Act.put, List.getElem_toArray, List.getElem_cons_succ, List.getElem_cons_zero, List.setIfInBounds_toArray, List.set_cons_zero, List.set_cons_succ]
            refine' wpAnyH_take (i := 20) (v := ?vr2_20) rfl (by kernel_rfl) (by kernel_rfl) (by kernel_rfl) (fun _ _ _ h => h) (Or.inl ⟨by rfl, ?hyr2_20⟩) (by assumption) ?restr2_20
            case hyr2_20 => (intro w hSw; (try dsimp only at hSw); go_simp; try (with_reducible rfl))
            simp only [Act.put, List.getElem_toArray, List.getElem_cons_succ, List.getElem_cons_zero, List.setIfInBounds_toArray, List.set_cons_zero, List.set_cons_succ]
            refine' wpAnyH_take (i := 21) (v := ?vr2_21) rfl (by kernel_rfl) (by kernel_rfl) (by kernel_rfl) (fun _ _ _ h => h) (Or.inl ⟨by rfl, ?hyr2_21⟩) (by assumption) ?restr2_21
            case hyr2_21 => (intro w hSw; (try dsimp only at hSw); go_simp; try (with_reducible rfl))
            simp only [Act.put, List.getElem_toArray, List.getElem_cons_succ, List.getElem_cons_zero, List.setIfInBounds_toArray, List.set_cons_zero, List.set_cons_succ]
            refine' wpAnyH_take (i := 22) (v := ?vr2_22) rfl (by kernel_rfl) (by kernel_rfl) (by kernel_rfl) (fun _ _ _ h => h) (Or.inl ⟨by rfl, ?hyr2_22⟩) (by assumption) ?restr2_22
            case hyr2_22 => (intro w hSw; (try dsimp only at hSw); go_simp; try (with_reducible rfl))
            simp only [Act.put, List.getElem_toArray, List.getElem_cons_succ, List.getElem_cons_zero, List.setIfInBounds_toArray, List.set_cons_zero, List.set_cons_succ]
            refine' wpAnyH_take (i := 23) (v := ?vr2_23) rfl (by kernel_rfl) (by kernel_rfl) (by kernel_rfl) (fun _ _ _ h => h) (Or.inl ⟨by rfl, ?hyr2_23⟩) (by assumption) ?restr2_23
            case hyr2_23 => (intro w hSw; (try dsimp only at hSw); go_simp; try (with_reducible rfl))
            simp only [Act.put, List.getElem_toArray, List.getElem_cons_succ, List.getElem_cons_zero, List.setIfInBounds_toArray, List.set_cons_zero, List.set_cons_succ]
            refine' wpAnyH_take (i := 24) (v := ?vr2_24) rfl (by kernel_rfl) (by kernel_rfl) (by kernel_rfl) (fun _ _ _ h => h) (Or.inl ⟨by rfl, ?hyr2_24⟩) (by assumption) ?restr2_24
            case hyr2_24 => (intro w hSw; (try dsimp only at hSw); go_simp; try (with_reducible rfl))
            simp only [Act.put, List.getElem_toArray, List.getElem_cons_succ, List.getElem_cons_zero, List.setIfInBounds_toArray, List.set_cons_zero, List.set_cons_succ]
            refine' wpAnyH_take (i := 25) (v := ?vr2_25) rfl (by kernel_rfl) (by kernel_rfl) (by kernel_rfl) (fun _ _ _ h => h) (Or.inl ⟨by rfl, ?hyr2_25⟩) (by assumption) ?restr2_25
            case hyr2_25 => (intro w hSw; (try dsimp only at hSw); go_simp; try (with_reducible rfl))
            simp only [Act.put, List.getElem_toArray, List.getElem_cons_succ, List.getElem_cons_zero, List.setIfInBounds_toArray, List.set_cons_zero, List.set_cons_succ]
            refine' wpAnyH_take (i := 26) (v := ?vr2_26) rfl (by kernel_rfl) (by kernel_rfl) (by kernel_rfl) (fun _ _ _ h => h) (Or.inl ⟨by rfl, ?hyr2_26⟩) (by assumption) ?restr2_26
            case hyr2_26 => (intro w hSw; (try dsimp only at hSw); go_simp; try (with_reducible rfl))
            simp only [Act.put, List.getElem_toArray, List.getElem_cons_succ, List.getElem_cons_zero, List.setIfInBounds_toArray, List.set_cons_zero, List.set_cons_succ]
            refine' wpAnyH_take (i := 27) (v := ?vr2_27) rfl (by kernel_rfl) (by kernel_rfl) (by kernel_rfl) (fun _ _ _ h => h) (Or.inl ⟨by rfl, ?hyr2_27⟩) (by assumption) ?restr2_27
            case hyr2_27 => (intro w hSw; (try dsimp only at hSw); go_simp; try (with_reducible rfl))
            simp only [Act.put, List.getElem_toArray, List.getElem_cons_succ, List.getElem_cons_zero, List.setIfInBounds_toArray, List.set_cons_zero, List.set_cons_succ]
            refine' wpAnyH_take (i := 28) (v := ?vr2_28) rfl (by kernel_rfl) (by kernel_rfl) (by kernel_rfl) (fun _ _ _ h => h) (Or.inl ⟨by rfl, ?hyr2_28⟩) (by assumption) ?restr2_28
            case hyr2_28 => (intro w hSw; (try dsimp only at hSw); go_simp; try (with_reducible rfl))
            simp only [Act.put, List.getElem_toArray, List.getElem_cons_succ, List.getElem_cons_zero, List.setIfInBounds_toArray, List.set_cons_zero, List.set_cons_succ]
            refine' wpAnyH_take (i := 29) (v := ?vr2_29) rfl (by kernel_rfl) (by kernel_rfl) (by kernel_rfl) (fun _ _ _ h => h) (Or.inl ⟨by rfl, ?hyr2_29⟩) (by assumption) ?restr2_29
            case hyr2_29 => (intro w hSw; (try dsimp only at hSw); go_simp; try (with_reducible rfl))
            simp only [Act.put, List.getElem_toArray, List.getElem_cons_succ, List.getElem_cons_zero, List.setIfInBounds_toArray, List.set_cons_zero, List.set_cons_succ]
            refine' wpAnyH_take (i := 30) (v := ?vr2_30) rfl (by kernel_rfl) (by kernel_rfl) (by kernel_rfl) (fun _ _ _ h => h) (Or.inl ⟨by rfl, ?hyr2_30⟩) (by assumption) ?restr2_30
            case hyr2_30 => (intro w hSw; (try dsimp only at hSw); go_simp; try (with_reducible rfl))
            simp only [Act.put, List.getElem_toArray, List.getElem_cons_succ, List.getElem_cons_zero, List.setIfInBounds_toArray, List.set_cons_zero, List.set_cons_succ]
            refine' wpAnyH_take (i := 31) (v := ?vr2_31) rfl (by kernel_rfl) (by kernel_rfl) (by kernel_rfl) (fun _ _ _ h => h) (Or.inl ⟨by rfl, ?hyr2_31⟩) (by assumption) ?restr2_31
            case hyr2_31 => (intro w hSw; (try dsimp only at hSw); go_simp; try (with_reducible rfl))
            simp only [Act.put, List.getElem_toArray, List.getElem_cons_succ, List.getElem_cons_zero, List.setIfInBounds_toArray, List.set_cons_zero, List.set_cons_succ]
            refine' wpAnyH_take (i := 32) (v := ?vr2_32) rfl (by kernel_rfl) (by kernel_rfl) (by kernel_rfl) (fun _ _ _ h => h) (Or.inl ⟨by rfl, ?hyr2_32⟩) (by assumption) ?restr2_32
            case hyr2_32 => (intro w hSw; (try dsimp only at hSw); go_simp; try (with_reducible rfl))
            simp only [Act.put, List.getElem_toArray, List.getElem_cons_succ, List.getElem_cons_zero, List.setIfInBounds_toArray, List.set_cons_zero, List.set_cons_succ]
            refine' wpAnyH_take (i := 33) (v := ?vr2_33) rfl (by kernel_rfl) (by kernel_rfl) (by kernel_rfl) (fun _ _ _ h => h) (Or.inl ⟨by rfl, ?hyr2_33⟩) (by assumption) ?restr2_33
            case hyr2_33 => (intro w hSw; (try dsimp only at hSw); go_simp; try (with_reducible rfl))
            simp only [Act.put, List.getElem_toArray, List.getElem_cons_succ, List.getElem_cons_zero, List.setIfInBounds_toArray, List.set_cons_zero, List.set_cons_succ]
            refine' wpAnyH_take (i := 34) (v := ?vr2_34) rfl (by kernel_rfl) (by kernel_rfl) (by kernel_rfl) (fun _ _ _ h => h) (Or.inl ⟨by rfl, ?hyr2_34⟩) (by assumption) ?restr2_34
            case hyr2_34 => (intro w hSw; (try dsimp only at hSw); go_simp; try (with_reducible rfl))
            simp only [Act.put, List.getElem_toArray, List.getElem_cons_succ, List.getElem_cons_zero, List.setIfInBounds_toArray, List.set_cons_zero, List.set_cons_succ]
            refine' wpAnyH_take (i := 35) (v := ?vr2_35) rfl (by kernel_rfl) (by kernel_rfl) (by kernel_rfl) (fun _ _ _ h => h) (Or.inl ⟨by rfl, ?hyr2_35⟩) (by assumption) ?restr2_35
            case hyr2_35 => (intro w hSw; (try dsimp only at hSw); go_simp; try (with_reducible rfl))
            simp only [Act.put, List.getElem_toArray, List.getElem_cons_succ, List.getElem_cons_zero, List.setIfInBounds_toArray, List.set_cons_zero, List.set_cons_succ]
            refine' wpAnyH_take (i := 36) (v := ?vr2_36) rfl (by kernel_rfl) (by kernel_rfl) (by kernel_rfl) (fun _ _ _ h => h) (Or.inl ⟨by rfl, ?hyr2_36⟩) (by assumption) ?restr2_36
            case hyr2_36 => (intro w hSw; (try dsimp only at hSw); go_simp; try (with_reducible rfl))
            simp only [Act.put, List.getElem_toArray, List.getElem_cons_succ, List.getElem_cons_zero, List.setIfInBounds_toArray, List.set_cons_zero, List.set_cons_succ]
            refine' wpAnyH_take (i := 37) (v := ?vr2_37) rfl (by kernel_rfl) (by kernel_rfl) (by kernel_rfl) (fun _ _ _ h => h) (Or.inl ⟨by rfl, ?hyr2_37⟩) (by assumption) ?restr2_37
            case hyr2_37 => (intro w hSw; (try dsimp only at hSw); go_simp; try (with_reducible rfl))
            simp only [Act.put, List.getElem_toArray, List.getElem_cons_succ, List.getElem_cons_zero, List.setIfInBounds_toArray, List.set_cons_zero, List.set_cons_succ]
            refine' wpAnyH_take (i := 38) (v := ?vr2_38) rfl (by kernel_rfl) (by kernel_rfl) (by kernel_rfl) (fun _ _ _ h => h) (Or.inl ⟨by rfl, ?hyr2_38⟩) (by assumption) ?restr2_38
            case hyr2_38 => (intro w hSw; (try dsimp only at hSw); go_simp; try (with_reducible rfl))
            simp only [Act.put, List.getElem_toArray, List.getElem_cons_succ, List.getElem_cons_zero, List.setIfInBounds_toArray, List.set_cons_zero, List.set_cons_succ]
            refine' wpAnyH_take (i := 39) (v := ?vr2_39) rfl (by kernel_rfl) (by kernel_rfl) (by kernel_rfl) (fun _ _ _ h => h) (Or.inl ⟨by rfl, ?hyr2_39⟩) (by assumption) ?restr2_39
            case hyr2_39 => (intro w hSw; (try dsimp only at hSw); go_simp; try (with_reducible rfl))
            simp only [Act.put, List.getElem_toArray, List.getElem_cons_succ, List.getElem_cons_zero, List.setIfInBounds_toArray, List.set_cons_zero, List.set_cons_succ]
            refine wpAnyH_ready (rs := [40]) (by kernel_rfl) (by simp) ?_
            refine AllReadyH.cons rfl (fun K hK => ?_) AllReadyH.nil
            go_simp
            refine (dq.rhas_is X2 K2 d2 x2 t.id true HMEM _ (by omega) (Lib.hid (HIL.out _ hHeld.2))).mono ?_
            rintro e w1 ⟨rfl, rfl⟩
            refine hK.out _ _ (hHeld) (fun hHeld1 => ?_)
            clear hK K hHeld
            have hHeld := hHeld1
            clear hHeld1
            try simp only [Act.put, List.getElem_toArray, List.getElem_cons_succ, List.getElem_cons_zero, List.setIfInBounds_toArray, List.set_cons_zero, List.set_cons_succ]
            refine' wpAnyH_take (i := 41) (v := ?vr2_41) rfl (by kernel_rfl) (by kernel_rfl) (by kernel_rfl) (fun _ _ _ h => h) (Or.inl ⟨by rfl, ?hyr2_41⟩) (by assumption) ?restr2_41
            case hyr2_41 => (intro w hSw; (try dsimp only at hSw); go_simp; try (with_reducible rfl))
            simp only [Act.put, List.getElem_toArray, List.getElem_cons_succ, List.getElem_cons_zero, List.setIfInBounds_toArray, List.set_cons_zero, List.set_cons_succ]
            refine' wpAnyH_take (i := 42) (v := ?vr2_42) rfl (by kernel_rfl) (by kernel_rfl) (by kernel_rfl) (fun _ _ _ h => h) (Or.inl ⟨by rfl, ?hyr2_42⟩) (by assumption) ?restr2_42
            case hyr2_42 => (intro w hSw; (try dsimp only at hSw); go_simp; try (with_reducible rfl))
            simp only [Act.put, List.getElem_toArray, List.getElem_cons_succ, List.getElem_cons_zero, List.setIfInBounds_toArray, List.set_cons_zero, List.set_cons_succ]
            refine' wpAnyH_take (i := 43) (v := ?vr2_43) rfl (by kernel_rfl) (by kernel_rfl) (by kernel_rfl) (fun _ _ _ h => h) (Or.inl ⟨by rfl, ?hyr2_43⟩) (by assumption) ?restr2_43
            case hyr2_43 => (intro w hSw; (try dsimp only at hSw); go_simp; try (with_reducible rfl))
            simp only [Act.put, List.getElem_toArray, List.getElem_cons_succ, List.getElem_cons_zero, List.setIfInBounds_toArray, List.set_cons_zero, List.set_cons_succ]
            refine wpAnyH_done (by kernel_rfl) ?_ _
            have HV := Lib.hid (HREL.out _ hHeld.2)
            clear hHeld
            go_wp2_with fail
            go_roundw
            case rel => exact ⟨k + 1, by omega, by go_num, HV.out⟩
            case measure => simp [intOf]; omega
        · have hkd : decide (k < M) = false := by simpa using hlt
          clear hlt
          clear R_g2
          obtain ⟨a, b9, hi, him⟩ := fq.is_form t2 x2
          rw [HQ.out] at him
          have HIS := Lib.hid hi
          have HIM := Lib.hid him
          clear hi him
          go_wp2_with fail
          refine (pi5.isTeam_is A2 L2 c2 t2 X2 K2 d2 x2 _ _ HIS (by omega) (by omega) HN2 (Lib.hid (own_Ps HL2.out R_l2.out)) (Lib.hid (own_In HK2.out R_u2.out))).mono ?_
          rintro e W11 ⟨rfl, b⟩
          have H30 := Lib.hid (show St w A n zs W11 from R_S.out.step b)
          have H31 := Lib.hid (show W11.ownsRow (wc.heap.size) 41 4 (.slice A2 L2 c2) L2 (flatPs t2) from row_below R_l2.out b)
          have H32 := Lib.hid (show W11.ownsRow (wc.heap.size) 3 1 (.slice X2 K2 d2) K2 (ints.intsV x2) from row_below R_u2.out b)
          clear b R_S R_l2 R_u2
          go_wp2_with fail
          refine (is_m HIS (by omega) (by omega) HN2 (Lib.hid (own_Ps HL2.out H31.out)) (Lib.hid (own_In HK2.out H32.out))).mono ?_
          rintro e W12 ⟨rfl, b⟩
          have H33 := Lib.hid (show St w A n zs W12 from H30.out.step b)
          clear b H30 H31 H32
          go_upto_region 25 with fail
          go_cut [191] (fun u wx => u = .bool false ∧ St w A n zs wx)
          case first =>
            as_aux_lemma =>
              have him := HIM.out
              clear HIM
              cases Q
              · cases a
                · cases b9 <;> (go_wp2_with fail; go_meet; case rel => exact ⟨rfl, H33.out⟩)
                · cases b9 <;> (go_wp2_with fail; go_meet; case rel => exact ⟨rfl, H33.out⟩)
              · obtain rfl := him rfl
                cases b9 <;> (go_wp2_with fail; go_meet; case rel => exact ⟨rfl, H33.out⟩)
          case rest =>
            as_aux_lemma =>
              obtain ⟨rfl, hs⟩ := hcut
              have SB := Lib.hid hs
              clear hs
              go_wp2_with fail
              refine (dps.missing_draw A n cap zs _ (Lib.hid SB.out.2)).mono ?_
              rintro e W13 ⟨v3, t3, u3, x3, q3, rfl, ⟨qa3, qb3⟩, hu, hx3, ho, hl3, hnm, b⟩
              obtain ⟨L3, HL3⟩ : ∃ L, Hid (t3.length = L) := ⟨_, Lib.hid rfl⟩
              rw [HL3.out] at ho hl3
              obtain ⟨A3, c3, rfl⟩ := base.row_slice ho
              have HR3 := Lib.hid ho
              have hc3 := pi5.own_cap5 ho
              have HN3 := Lib.hid (show ∀ t ∈ t3, t.name.size ≤ 1048576 from fun t ht => by have := hnm t ht; omega)
              clear ho hnm
              obtain ⟨K3, HK3⟩ : ∃ K, Hid (x3.length = K) := ⟨_, Lib.hid rfl⟩
              rw [HK3.out] at hu hx3
              obtain ⟨X3, d3, rfl⟩ := base.row_slice hu
              have HU3 := Lib.hid hu
              clear hu
              have H34 := Lib.hid (show St w A n zs W13 from SB.out.step b)
              clear b SB
              obtain ⟨gd, HGD⟩ : ∃ gd, Hid (psg.good t3 = gd) := ⟨_, Lib.hid rfl⟩
              rcases fq.miss_form t3 x3 q3 with hm | ⟨al, mi, z, hm, hsk, z1, z2, z3⟩
              · have HMS := Lib.hid hm
                clear hm
                go_wp2_with fail
                refine (pi5.missing_is A3 L3 c3 t3 X3 K3 d3 x3 q3 _ _ HMS (by omega) (by omega) HN3 (Lib.hid (own_Ps HL3.out HR3.out)) (Lib.hid (own_In HK3.out HU3.out))).mono ?_
                rintro e W14 ⟨rfl, b⟩
                have H35 := Lib.hid (show St w A n zs W14 from H34.out.step b)
                have H36 := Lib.hid (show W14.ownsRow (wc.heap.size) 41 4 (.slice A3 L3 c3) L3 (flatPs t3) from row_below HR3.out b)
                have H37 := Lib.hid (show W14.ownsRow (wc.heap.size) 3 1 (.slice X3 K3 d3) K3 (ints.intsV x3) from row_below HU3.out b)
                clear b H34 HR3 HU3
                go_wp2_with fail
                refine (ms_m HMS (by omega) (by omega) HN3 (Lib.hid (own_Ps HL3.out H36.out)) (Lib.hid (own_In HK3.out H37.out))).mono ?_
                rintro e W15 ⟨rfl, b⟩
                have H38 := Lib.hid (show St w A n zs W15 from H35.out.step b)
                have H39 := Lib.hid (show W15.ownsRow (wc.heap.size) 41 4 (.slice A3 L3 c3) L3 (flatPs t3) from row_below H36.out b)
                have H40 := Lib.hid (show W15.ownsRow (wc.heap.size) 3 1 (.slice X3 K3 d3) K3 (ints.intsV x3) from row_below H37.out b)
                clear b H35 H36 H37
                go_wp2_with fail
                refine (pi5.people_is A3 L3 c3 t3 gd _ (by omega) HN3 (Lib.hid (own_Ps HL3.out H39.out)) HGD).mono ?_
                rintro e W16 ⟨rfl, b⟩
                have H41 := Lib.hid (show St w A n zs W16 from H38.out.step b)
                have H42 := Lib.hid (show W16.ownsRow (wc.heap.size) 41 4 (.slice A3 L3 c3) L3 (flatPs t3) from row_below H39.out b)
                have H43 := Lib.hid (show W16.ownsRow (wc.heap.size) 3 1 (.slice X3 K3 d3) K3 (ints.intsV x3) from row_below H40.out b)
                clear b H38 H39 H40
                go_wp2_with fail
                refine (people_m HGD (by omega) HN3 (Lib.hid (own_Ps HL3.out H42.out))).mono ?_
                rintro e W17 ⟨rfl, b⟩
                have H44 := Lib.hid (show St w A n zs W17 from H41.out.step b)
                clear b H41 H42 H43
                go_wp2_with fail
                go_ret
                exact ⟨by simp, H44.out.1⟩
              · have HMS := Lib.hid hm
                clear hm
                have HSK := Lib.hid hsk
                clear hsk
                go_wp2_with fail
                refine (pi5.missing_is A3 L3 c3 t3 X3 K3 d3 x3 q3 _ _ HMS (by omega) (by omega) HN3 (Lib.hid (own_Ps HL3.out HR3.out)) (Lib.hid (own_In HK3.out HU3.out))).mono ?_
                rintro e W14 ⟨rfl, b⟩
                have H35 := Lib.hid (show St w A n zs W14 from H34.out.step b)
                have H36 := Lib.hid (show W14.ownsRow (wc.heap.size) 41 4 (.slice A3 L3 c3) L3 (flatPs t3) from row_below HR3.out b)
                have H37 := Lib.hid (show W14.ownsRow (wc.heap.size) 3 1 (.slice X3 K3 d3) K3 (ints.intsV x3) from row_below HU3.out b)
                clear b H34 HR3 HU3
                go_wp2_with fail
                refine (ms_m HMS (by omega) (by omega) HN3 (Lib.hid (own_Ps HL3.out H36.out)) (Lib.hid (own_In HK3.out H37.out))).mono ?_
                rintro e W15 ⟨rfl, b⟩
                have H38 := Lib.hid (show St w A n zs W15 from H35.out.step b)
                have H39 := Lib.hid (show W15.ownsRow (wc.heap.size) 41 4 (.slice A3 L3 c3) L3 (flatPs t3) from row_below H36.out b)
                have H40 := Lib.hid (show W15.ownsRow (wc.heap.size) 3 1 (.slice X3 K3 d3) K3 (ints.intsV x3) from row_below H37.out b)
                clear b H35 H36 H37
                go_wp2_with fail
                refine (pi5.skillsOf_is A3 L3 c3 t3 X3 K3 d3 x3 _ _ HSK (by omega) (by omega) HN3 (Lib.hid (own_Ps HL3.out H39.out)) (Lib.hid (own_In HK3.out H40.out))).mono ?_
                rintro e W16 ⟨rfl, b⟩
                have H41 := Lib.hid (show St w A n zs W16 from H38.out.step b)
                have H42 := Lib.hid (show W16.ownsRow (wc.heap.size) 41 4 (.slice A3 L3 c3) L3 (flatPs t3) from row_below H39.out b)
                have H43 := Lib.hid (show W16.ownsRow (wc.heap.size) 3 1 (.slice X3 K3 d3) K3 (ints.intsV x3) from row_below H40.out b)
                clear b H38 H39 H40
                go_wp2_with fail
                refine (pi5.people_is A3 L3 c3 t3 gd _ (by omega) HN3 (Lib.hid (own_Ps HL3.out H42.out)) HGD).mono ?_
                rintro e W17 ⟨rfl, b⟩
                have H44 := Lib.hid (show St w A n zs W17 from H41.out.step b)
                have H45 := Lib.hid (show W17.ownsRow (wc.heap.size) 41 4 (.slice A3 L3 c3) L3 (flatPs t3) from row_below H42.out b)
                have H46 := Lib.hid (show W17.ownsRow (wc.heap.size) 3 1 (.slice X3 K3 d3) K3 (ints.intsV x3) from row_below H43.out b)
                clear b H41 H42 H43
                go_wp2_with fail
                refine (people_m HGD (by omega) HN3 (Lib.hid (own_Ps HL3.out H45.out))).mono ?_
                rintro e W18 ⟨rfl, b⟩
                have H47 := Lib.hid (show St w A n zs W18 from H44.out.step b)
                clear b H44 H45 H46
                go_wp2_with fail
                go_ret
                exact ⟨by simp, H47.out.1⟩
#print axioms walk
end Go.Proofs.Ytidofckanadkpaa.tea
