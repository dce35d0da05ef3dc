/-
  FnPassages: the law's walk.
  Conditions: the code has at most 65536 bytes.
-/
import Derived.Test.YtnpghhpcloljeaaPwT
import Derived.Test.YtnpghhpcloljeaaPwD
import Derived.Deep.DeepCutAuto
import Derived.Deep.RegionHeld3
namespace Go.Proofs.Ytnpghhpcloljeaa.fpw
open Go.RowKit
open reads base curs curd ty rowi lg lgw pw hs drg ppw
set_option linter.unusedVariables false
set_option linter.unusedSimpArgs false

theorem lgv_cap {w : World} {base size n c : Nat} {e : TypeId} {A : Option Addr} {xs : List Value} (h : w.ownsRow base e size (.slice A n c) n xs) : n ≤ c := by
  rcases h.2 with ⟨e1, e2⟩ | ⟨g, cp, cur, e1, e2, e3, h3, -⟩
  · injection e1 with a b d; omega
  · injection e1 with a b d; omega
set_option maxHeartbeats 64000000 in
set_option maxRecDepth 100000 in
theorem walk (A : Option Addr) (n cap : Nat) (zs : List UInt8) (w : World) (hn : n ≤ 65536) (hS : Hid (St w A n zs w)) :
    Calls Try.prog 11 #[.slice A n cap] w (LawPost w) := by
  have HB := Lib.hid (vs.big_no A n cap w hn)
  clear hn
  go_enter Try.func11, Try.ntmps11
  go_wp2_with fail
  refine HB.out.mono ?_
  rintro e w' ⟨rfl, rfl⟩
  clear HB
  go_wp2_with fail
  refine (volume_draw A n cap zs _ (Lib.hid hS.out.2)).mono ?_
  rintro e W1 ⟨v1, v2, t1, t2, rfl, ho1, ho2, hle1, hle2, b⟩
  obtain ⟨L1, hl1⟩ : ∃ L, t1.length = L := ⟨_, rfl⟩
  rw [hl1] at ho1 hle1
  obtain ⟨A1, c1, rfl⟩ := row_slice ho1
  have HR1 := Lib.hid ho1
  have HL1 := Lib.hid hl1
  clear ho1 hl1
  obtain ⟨L2, hl2⟩ : ∃ L, t2.length = L := ⟨_, rfl⟩
  rw [hl2] at ho2 hle2
  obtain ⟨A2, c2, rfl⟩ := row_slice ho2
  have HR2 := Lib.hid ho2
  have HL2 := Lib.hid hl2
  clear ho2 hl2
  have H1 := Lib.hid (show St w A n zs W1 from hS.out.step b)
  clear b hS
  obtain ⟨a1, b1, ok1, hf, hk⟩ := vo_form t1 t2
  have HF := Lib.hid hf
  have HK := Lib.hid hk
  obtain ⟨G1, HG1⟩ : ∃ G, Hid (goodPg t1 = G) := ⟨_, Lib.hid rfl⟩
  clear hf hk
  go_wp2_with fail
  refine (vo_i HF (by omega) (Lib.hid (own_Pg HL1.out HR1.out)) (by omega) (Lib.hid (LgO.whole (own_Lg HL2.out HR2.out)))).mono ?_
  rintro e W2 ⟨rfl, b⟩
  have H2 := Lib.hid (show St w A n zs W2 from H1.out.step b)
  have H3 := Lib.hid (show W2.ownsRow (w.heap.size) 53 5 (.slice A1 L1 c1) L1 (flatPg t1) from row_below HR1.out b)
  have H4 := Lib.hid (show W2.ownsRow (w.heap.size) 74 5 (.slice A2 L2 c2) L2 (flatLg t2) from row_below HR2.out b)
  clear b H1 HR1 HR2
  go_wp2_with fail
  refine (vo_m HF (by omega) (Lib.hid (own_Pg HL1.out H3.out)) (by omega) (Lib.hid (own_Lg HL2.out H4.out))).mono ?_
  rintro e W3 ⟨rfl, b⟩
  have H5 := Lib.hid (show St w A n zs W3 from H2.out.step b)
  have H6 := Lib.hid (show W3.ownsRow (w.heap.size) 53 5 (.slice A1 L1 c1) L1 (flatPg t1) from row_below H3.out b)
  have H7 := Lib.hid (show W3.ownsRow (w.heap.size) 74 5 (.slice A2 L2 c2) L2 (flatLg t2) from row_below H4.out b)
  clear b H2 H3 H4
  go_wp2_with fail
  refine (ar_i HG1 (by omega) (Lib.hid (own_Pg HL1.out H6.out))).mono ?_
  rintro e W4 ⟨rfl, b⟩
  have H8 := Lib.hid (show St w A n zs W4 from H5.out.step b)
  have H9 := Lib.hid (show W4.ownsRow (w.heap.size) 53 5 (.slice A1 L1 c1) L1 (flatPg t1) from row_below H6.out b)
  have H10 := Lib.hid (show W4.ownsRow (w.heap.size) 74 5 (.slice A2 L2 c2) L2 (flatLg t2) from row_below H7.out b)
  clear b H5 H6 H7
  go_wp2_with fail
  refine (ar_m HG1 (by omega) (Lib.hid (own_Pg HL1.out H9.out))).mono ?_
  rintro e W5 ⟨rfl, b⟩
  have H11 := Lib.hid (show St w A n zs W5 from H8.out.step b)
  have H12 := Lib.hid (show W5.ownsRow (w.heap.size) 53 5 (.slice A1 L1 c1) L1 (flatPg t1) from row_below H9.out b)
  have H13 := Lib.hid (show W5.ownsRow (w.heap.size) 74 5 (.slice A2 L2 c2) L2 (flatLg t2) from row_below H10.out b)
  clear b H8 H9 H10
  go_upto_if 89 with fail
  go_cut [11] (fun _ wx => St w A n zs wx)
  case first =>
    as_aux_lemma =>
        cases ok1
        · go_wp2_with fail
          go_meet
          case rel => exact H11.out
        · obtain ⟨g1, g2, ea, eb⟩ := HK.out rfl
          obtain ⟨k, hkk⟩ : ∃ k, L2 / 2 = k := ⟨_, rfl⟩
          obtain ⟨p, q, r, s, e1, e2, e3, ⟨m1, m2⟩, ⟨m3, m4⟩, ⟨m5, m6⟩, m7, m8⟩ := vo_yes k g1 g2 ea eb
          have HE1 := Lib.hid e1
          have HE2 := Lib.hid e2
          have HE3 := Lib.hid e3
          clear e1 e2 e3 g1 g2 ea eb HK HF
          have hkb : k ≤ L2 := by omega
          have hdiv : (L2 : Int).tdiv 2 = (k : Int) := by rw [Int.tdiv_eq_ediv_of_nonneg (by omega)]; omega
          have hdiv2 : (L2 : Int) / 2 = (k : Int) := by omega
          obtain ⟨cq, hcq⟩ : ∃ c, c2 = c := ⟨_, rfl⟩
          have hk0 : 0 ≤ (k : Int) := by omega
          have hkl : (k : Int) ≤ (L2 : Int) := by omega
          have hc2 := lgv_cap H13.out
          have hkc : (k : Int) ≤ (c2 : Int) := by omega
          have hkc2 : k ≤ c2 := by omega
          have HT1 := Lib.hid (LgO.take (own_Lg HL2.out H13.out) k (by omega))
          have hw3 : IntKind.i64.wrap ((p * s + r * q) * b1) = a1 * q * s := by rw [HE3.out]; exact IntWalk.i64_in _ (by omega)
          clear hcq
          by_cases hz : L2 = 0
          · subst hz
            obtain rfl : k = 0 := by omega
            obtain rfl : t2 = [] := List.eq_nil_of_length_eq_zero HL2.out
            go_wp2_with fail
            refine (vo_i HE1 (by omega) (Lib.hid (own_Pg HL1.out H12.out)) (by omega) HT1).mono ?_
            rintro e W6 ⟨rfl, b⟩
            have H14 := Lib.hid (show St w A n zs W6 from H11.out.step b)
            have H15 := Lib.hid (show W6.ownsRow (w.heap.size) 53 5 (.slice A1 L1 c1) L1 (flatPg t1) from row_below H12.out b)
            have H16 := Lib.hid (show W6.ownsRow (w.heap.size) 74 5 (.slice A2 0 c2) 0 (flatLg []) from row_below H13.out b)
            clear b H11 H12 H13
            go_wp2_with fail
            refine (vo_i (n1 := 0) (ls := ([] : List Lg).drop 0) HE2 (by omega) (Lib.hid (own_Pg HL1.out H15.out)) (by omega) (Lib.hid ⟨rfl, by simp⟩)).mono ?_
            rintro e W7 ⟨rfl, b⟩
            have H17 := Lib.hid (show St w A n zs W7 from H14.out.step b)
            have H18 := Lib.hid (show W7.ownsRow (w.heap.size) 53 5 (.slice A1 L1 c1) L1 (flatPg t1) from row_below H15.out b)
            have H19 := Lib.hid (show W7.ownsRow (w.heap.size) 74 5 (.slice A2 0 c2) 0 (flatLg []) from row_below H16.out b)
            clear b H14 H15 H16
            go_wp2_with fail
            go_meet
            case rel => exact H17.out
          · obtain ⟨g, rfl⟩ : ∃ g, A2 = some ⟨g, 0, none⟩ := by
              obtain ⟨t, ht⟩ := at_lt (k := 0) HL2.out (by omega)
              obtain ⟨g, e, -⟩ := (own_Lg HL2.out H13.out).2 0 t ht
              exact ⟨g, e⟩
            have HT2 := Lib.hid (LgO.drop (c := 0) (own_Lg HL2.out H13.out) k (by omega))
            have hkL : k < L2 := by omega
            have hne : ¬ c2 = k := by omega
            go_wp2_with fail
            refine (vo_i HE1 (by omega) (Lib.hid (own_Pg HL1.out H12.out)) (by omega) HT1).mono ?_
            rintro e W6 ⟨rfl, b⟩
            have HT3 := Lib.hid (HT2.out.step b)
            have H14 := Lib.hid (show St w A n zs W6 from H11.out.step b)
            have H15 := Lib.hid (show W6.ownsRow (w.heap.size) 53 5 (.slice A1 L1 c1) L1 (flatPg t1) from row_below H12.out b)
            have H16 := Lib.hid (show W6.ownsRow (w.heap.size) 74 5 (.slice (some ⟨g, 0, none⟩) L2 c2) L2 (flatLg t2) from row_below H13.out b)
            clear b H11 H12 H13
            go_wp2_with fail
            refine (vo_i HE2 (by omega) (Lib.hid (own_Pg HL1.out H15.out)) (by omega) HT3).mono ?_
            rintro e W7 ⟨rfl, b⟩
            have H17 := Lib.hid (show St w A n zs W7 from H14.out.step b)
            have H18 := Lib.hid (show W7.ownsRow (w.heap.size) 53 5 (.slice A1 L1 c1) L1 (flatPg t1) from row_below H15.out b)
            have H19 := Lib.hid (show W7.ownsRow (w.heap.size) 74 5 (.slice (some ⟨g, 0, none⟩) L2 c2) L2 (flatLg t2) from row_below H16.out b)
            clear b H14 H15 H16
            go_wp2_with fail
            go_meet
            case rel => exact H17.out
  case rest =>
    as_aux_lemma =>
        have H14 := Lib.hid hcut
        clear hcut H11 H12 H13
        go_wp2_with fail
        refine (merge_draw A n cap zs _ (Lib.hid H14.out.2)).mono ?_
        rintro e W6 ⟨v3, v4, t3, t4, rfl, ho3, ho4, hle3, hle4, b⟩
        obtain ⟨L3, hl3⟩ : ∃ L, t3.length = L := ⟨_, rfl⟩
        rw [hl3] at ho3 hle3
        obtain ⟨A3, c3, rfl⟩ := row_slice ho3
        have HR3 := Lib.hid ho3
        have HL3 := Lib.hid hl3
        clear ho3 hl3
        obtain ⟨L4, hl4⟩ : ∃ L, t4.length = L := ⟨_, rfl⟩
        rw [hl4] at ho4 hle4
        obtain ⟨A4, c4, rfl⟩ := row_slice ho4
        have HR4 := Lib.hid ho4
        have HL4 := Lib.hid hl4
        clear ho4 hl4
        have H15 := Lib.hid (show St w A n zs W6 from H14.out.step b)
        clear b H14
        obtain ⟨R, HRV⟩ : ∃ R, Hid (mgV t3 t4 = R) := ⟨_, Lib.hid rfl⟩
        obtain ⟨G3, HG3⟩ : ∃ G, Hid (mgOk t3 t4 = G) := ⟨_, Lib.hid rfl⟩
        obtain ⟨NR, HNR⟩ : ∃ N, Hid (R.length = N) := ⟨_, Lib.hid rfl⟩
        have hNR : NR ≤ 8 := by rw [← HNR.out, ← HRV.out]; exact mgV_len t3 t4
        go_wp2_with fail
        refine (mg_i HRV HG3 (by omega) (Lib.hid (own_Pg HL3.out HR3.out)) (by omega) (Lib.hid (own_Pg HL4.out HR4.out))).mono ?_
        rintro e W7 ⟨vr, rfl, ho, b⟩
        rw [HNR.out] at ho
        obtain ⟨Ara, cra, rfl⟩ := row_slice ho
        have HRra := Lib.hid ho
        clear ho
        have H16 := Lib.hid (show St w A n zs W7 from H15.out.step b)
        have H17 := Lib.hid (show W7.ownsRow (wc.heap.size) 53 5 (.slice A3 L3 c3) L3 (flatPg t3) from row_below HR3.out b)
        have H18 := Lib.hid (show W7.ownsRow (wc.heap.size) 53 5 (.slice A4 L4 c4) L4 (flatPg t4) from row_below HR4.out b)
        clear b H15 HR3 HR4
        go_wp2_with fail
        refine (mg_m HRV HG3 (by omega) (Lib.hid (own_Pg HL3.out H17.out)) (by omega) (Lib.hid (own_Pg HL4.out H18.out))).mono ?_
        rintro e W8 ⟨vr, rfl, ho, b⟩
        rw [HNR.out] at ho
        obtain ⟨Arb, crb, rfl⟩ := row_slice ho
        have HRrb := Lib.hid ho
        clear ho
        have H19 := Lib.hid (show St w A n zs W8 from H16.out.step b)
        have H20 := Lib.hid (show W8.ownsRow (wc.heap.size) 53 5 (.slice A3 L3 c3) L3 (flatPg t3) from row_below H17.out b)
        have H21 := Lib.hid (show W8.ownsRow (wc.heap.size) 53 5 (.slice A4 L4 c4) L4 (flatPg t4) from row_below H18.out b)
        have H22 := Lib.hid (show W8.ownsRow (W6.heap.size) 53 5 (.slice Ara NR cra) NR (flatPg R) from row_below HRra.out b)
        clear b H16 H17 H18 HRra
        go_wp2_with fail
        refine (vpgs_any _ _ _ _ _ _ _ (by omega) (Lib.hid (own_Pg HNR.out H22.out)) (Lib.hid (own_Pg HNR.out HRrb.out))).mono ?_
        rintro e W9 ⟨rfl, b⟩
        have H23 := Lib.hid (show St w A n zs W9 from H19.out.step b)
        have H24 := Lib.hid (show W9.ownsRow (wc.heap.size) 53 5 (.slice A3 L3 c3) L3 (flatPg t3) from row_below H20.out b)
        have H25 := Lib.hid (show W9.ownsRow (wc.heap.size) 53 5 (.slice A4 L4 c4) L4 (flatPg t4) from row_below H21.out b)
        have H26 := Lib.hid (show W9.ownsRow (W6.heap.size) 53 5 (.slice Ara NR cra) NR (flatPg R) from row_below H22.out b)
        have H27 := Lib.hid (show W9.ownsRow (W7.heap.size) 53 5 (.slice Arb NR crb) NR (flatPg R) from row_below HRrb.out b)
        clear b H19 H20 H21 H22 HRrb
        clear H27
        go_upto_if 160 with fail
        go_cut [24] (fun _ wx => St w A n zs wx)
        case first =>
          as_aux_lemma =>
              cases G3
              · go_wp2_with fail
                go_meet
                case rel => exact H23.out
              · have HM1 := Lib.hid (show mgV t4 t3 = R by rw [mgV_comm HG3.out]; exact HRV.out)
                have HM2 := Lib.hid (mgOk_comm HG3.out)
                have HM3 := Lib.hid (show mgV R t3 = R by have h := mgV_again HG3.out; rw [HRV.out] at h; exact h)
                have HM4 := Lib.hid (show mgOk R t3 = true by have h := mgOk_again HG3.out; rw [HRV.out] at h; exact h)
                go_wp2_with fail
                refine (mg_i HM1 HM2 (by omega) (Lib.hid (own_Pg HL4.out H25.out)) (by omega) (Lib.hid (own_Pg HL3.out H24.out))).mono ?_
                rintro e W10 ⟨vr, rfl, ho, b⟩
                rw [HNR.out] at ho
                obtain ⟨Arc, crc, rfl⟩ := row_slice ho
                have HRrc := Lib.hid ho
                clear ho
                have H28 := Lib.hid (show St w A n zs W10 from H23.out.step b)
                have H29 := Lib.hid (show W10.ownsRow (wc.heap.size) 53 5 (.slice A3 L3 c3) L3 (flatPg t3) from row_below H24.out b)
                have H30 := Lib.hid (show W10.ownsRow (wc.heap.size) 53 5 (.slice A4 L4 c4) L4 (flatPg t4) from row_below H25.out b)
                have H31 := Lib.hid (show W10.ownsRow (W6.heap.size) 53 5 (.slice Ara NR cra) NR (flatPg R) from row_below H26.out b)
                clear b H23 H24 H25 H26
                go_wp2_with fail
                refine (mg_i HM3 HM4 (by omega) (Lib.hid (own_Pg HNR.out H31.out)) (by omega) (Lib.hid (own_Pg HL3.out H29.out))).mono ?_
                rintro e W11 ⟨vr, rfl, ho, b⟩
                rw [HNR.out] at ho
                obtain ⟨Ard, crd, rfl⟩ := row_slice ho
                have HRrd := Lib.hid ho
                clear ho
                have H32 := Lib.hid (show St w A n zs W11 from H28.out.step b)
                have H33 := Lib.hid (show W11.ownsRow (wc.heap.size) 53 5 (.slice A3 L3 c3) L3 (flatPg t3) from row_below H29.out b)
                have H34 := Lib.hid (show W11.ownsRow (wc.heap.size) 53 5 (.slice A4 L4 c4) L4 (flatPg t4) from row_below H30.out b)
                have H35 := Lib.hid (show W11.ownsRow (W6.heap.size) 53 5 (.slice Ara NR cra) NR (flatPg R) from row_below H31.out b)
                have H36 := Lib.hid (show W11.ownsRow (W9.heap.size) 53 5 (.slice Arc NR crc) NR (flatPg R) from row_below HRrc.out b)
                clear b H28 H29 H30 H31 HRrc
                go_wp2_with fail
                refine (vpgs_any _ _ _ _ _ _ _ (by omega) (Lib.hid (own_Pg HNR.out H36.out)) (Lib.hid (own_Pg HNR.out H35.out))).mono ?_
                rintro e W12 ⟨rfl, b⟩
                have H37 := Lib.hid (show St w A n zs W12 from H32.out.step b)
                have H38 := Lib.hid (show W12.ownsRow (wc.heap.size) 53 5 (.slice A3 L3 c3) L3 (flatPg t3) from row_below H33.out b)
                have H39 := Lib.hid (show W12.ownsRow (wc.heap.size) 53 5 (.slice A4 L4 c4) L4 (flatPg t4) from row_below H34.out b)
                have H40 := Lib.hid (show W12.ownsRow (W6.heap.size) 53 5 (.slice Ara NR cra) NR (flatPg R) from row_below H35.out b)
                have H41 := Lib.hid (show W12.ownsRow (W9.heap.size) 53 5 (.slice Arc NR crc) NR (flatPg R) from row_below H36.out b)
                have H42 := Lib.hid (show W12.ownsRow (W10.heap.size) 53 5 (.slice Ard NR crd) NR (flatPg R) from row_below HRrd.out b)
                clear b H32 H33 H34 H35 H36 HRrd
                go_wp2_with fail
                refine (vpgs_any _ _ _ _ _ _ _ (by omega) (Lib.hid (own_Pg HNR.out H42.out)) (Lib.hid (own_Pg HNR.out H40.out))).mono ?_
                rintro e W13 ⟨rfl, b⟩
                have H43 := Lib.hid (show St w A n zs W13 from H37.out.step b)
                have H44 := Lib.hid (show W13.ownsRow (wc.heap.size) 53 5 (.slice A3 L3 c3) L3 (flatPg t3) from row_below H38.out b)
                have H45 := Lib.hid (show W13.ownsRow (wc.heap.size) 53 5 (.slice A4 L4 c4) L4 (flatPg t4) from row_below H39.out b)
                have H46 := Lib.hid (show W13.ownsRow (W6.heap.size) 53 5 (.slice Ara NR cra) NR (flatPg R) from row_below H40.out b)
                have H47 := Lib.hid (show W13.ownsRow (W9.heap.size) 53 5 (.slice Arc NR crc) NR (flatPg R) from row_below H41.out b)
                have H48 := Lib.hid (show W13.ownsRow (W10.heap.size) 53 5 (.slice Ard NR crd) NR (flatPg R) from row_below H42.out b)
                clear b H37 H38 H39 H40 H41 H42
                go_wp2_with fail
                go_meet
                case rel => exact H43.out
        case rest =>
          as_aux_lemma =>
              have H49 := Lib.hid hcut
              clear hcut H23 H24 H25 H26
              go_wp2_with fail
              refine (fitting_draw A n cap zs _ (Lib.hid H49.out.2)).mono ?_
              rintro e W14 ⟨v5, t5, a5, h5, rfl, ho5, hle5, ⟨ba0, ba1⟩, ⟨bh0, bh1⟩, b⟩
              obtain ⟨L5, hl5⟩ : ∃ L, t5.length = L := ⟨_, rfl⟩
              rw [hl5] at ho5 hle5
              obtain ⟨A5, c5, rfl⟩ := row_slice ho5
              have HR5 := Lib.hid ho5
              have HL5 := Lib.hid hl5
              clear ho5 hl5
              have H50 := Lib.hid (show St w A n zs W14 from H49.out.step b)
              clear b H49
              obtain ⟨I5, HI5⟩ : ∃ I, Hid (ftV a5 h5 t5 = I) := ⟨_, Lib.hid rfl⟩
              obtain ⟨G5, HG5⟩ : ∃ G, Hid (ftOk a5 h5 t5 = G) := ⟨_, Lib.hid rfl⟩
              obtain ⟨N5, HN5⟩ : ∃ N, Hid (I5.length = N) := ⟨_, Lib.hid rfl⟩
              have hN5 : N5 ≤ 8 := by rw [← HN5.out, ← HI5.out]; exact ftV_len a5 h5 t5
              go_wp2_with fail
              refine (ft_i HI5 HG5 (by omega) (Lib.hid (own_Pg HL5.out HR5.out))).mono ?_
              rintro e W15 ⟨vr, rfl, ho, b⟩
              rw [HN5.out] at ho
              obtain ⟨Ara, cra, rfl⟩ := row_slice ho
              have HRra := Lib.hid ho
              clear ho
              have H51 := Lib.hid (show St w A n zs W15 from H50.out.step b)
              have H52 := Lib.hid (show W15.ownsRow (wc.heap.size) 53 5 (.slice A5 L5 c5) L5 (flatPg t5) from row_below HR5.out b)
              clear b H50 HR5
              go_wp2_with fail
              refine (ft_m HI5 HG5 (by omega) (Lib.hid (own_Pg HL5.out H52.out))).mono ?_
              rintro e W16 ⟨vr, rfl, ho, b⟩
              rw [HN5.out] at ho
              obtain ⟨Arb, crb, rfl⟩ := row_slice ho
              have HRrb := Lib.hid ho
              clear ho
              have H53 := Lib.hid (show St w A n zs W16 from H51.out.step b)
              have H54 := Lib.hid (show W16.ownsRow (wc.heap.size) 53 5 (.slice A5 L5 c5) L5 (flatPg t5) from row_below H52.out b)
              have H55 := Lib.hid (show W16.ownsRow (W14.heap.size) 3 1 (.slice Ara N5 cra) N5 (ints.intsV I5) from row_below HRra.out b)
              clear b H51 H52 HRra
              go_wp2_with fail
              refine (vints_b (by omega) (Lib.hid (ints.IL.of_own H55.out)) (Lib.hid (ints.IL.of_own HRrb.out))).mono ?_
              rintro e W17 ⟨rfl, b⟩
              have H56 := Lib.hid (show St w A n zs W17 from H53.out.step b)
              have H57 := Lib.hid (show W17.ownsRow (wc.heap.size) 53 5 (.slice A5 L5 c5) L5 (flatPg t5) from row_below H54.out b)
              have H58 := Lib.hid (show W17.ownsRow (W14.heap.size) 3 1 (.slice Ara N5 cra) N5 (ints.intsV I5) from row_below H55.out b)
              have H59 := Lib.hid (show W17.ownsRow (W15.heap.size) 3 1 (.slice Arb N5 crb) N5 (ints.intsV I5) from row_below HRrb.out b)
              clear b H53 H54 H55 HRrb
              clear H59
              go_upto_if 220 with fail
              go_cut [35] (fun _ wx => St w A n zs wx)
              case first =>
                as_aux_lemma =>
                    cases G5
                    · go_wp2_with fail
                      go_meet
                      case rel => exact H56.out
                    · obtain ⟨y1, y2⟩ := ft_yes HG5.out
                      have HY1 := Lib.hid y1
                      obtain ⟨I6, HI6⟩ : ∃ I, Hid (ftV (a5 + 1) h5 t5 = I) := ⟨_, Lib.hid rfl⟩
                      obtain ⟨N6, HN6⟩ : ∃ N, Hid (I6.length = N) := ⟨_, Lib.hid rfl⟩
                      have hN6 : N6 ≤ 8 := by rw [← HN6.out, ← HI6.out]; exact ftV_len (a5 + 1) h5 t5
                      have HY2 := Lib.hid (show ∀ x ∈ I6, mem I5 x = true by rw [← HI6.out, ← HI5.out]; exact y2)
                      clear y1 y2
                      go_wp2_with fail
                      refine (ft_i HI6 HY1 (by omega) (Lib.hid (own_Pg HL5.out H57.out))).mono ?_
                      rintro e W18 ⟨vr, rfl, ho, b⟩
                      rw [HN6.out] at ho
                      obtain ⟨Arc, crc, rfl⟩ := row_slice ho
                      have HRrc := Lib.hid ho
                      clear ho
                      have H60 := Lib.hid (show St w A n zs W18 from H56.out.step b)
                      have H61 := Lib.hid (show W18.ownsRow (wc.heap.size) 53 5 (.slice A5 L5 c5) L5 (flatPg t5) from row_below H57.out b)
                      have H62 := Lib.hid (show W18.ownsRow (W14.heap.size) 3 1 (.slice Ara N5 cra) N5 (ints.intsV I5) from row_below H58.out b)
                      clear b H56 H57 H58
                      go_wp2_with fail
                      refine (vwithin_b (by omega) (by omega) (Lib.hid (ints.IL.of_own HRrc.out)) (Lib.hid (ints.IL.of_own H62.out)) HY2).mono ?_
                      rintro e W19 ⟨rfl, b⟩
                      have H63 := Lib.hid (show St w A n zs W19 from H60.out.step b)
                      have H64 := Lib.hid (show W19.ownsRow (wc.heap.size) 53 5 (.slice A5 L5 c5) L5 (flatPg t5) from row_below H61.out b)
                      have H65 := Lib.hid (show W19.ownsRow (W14.heap.size) 3 1 (.slice Ara N5 cra) N5 (ints.intsV I5) from row_below H62.out b)
                      have H66 := Lib.hid (show W19.ownsRow (W17.heap.size) 3 1 (.slice Arc N6 crc) N6 (ints.intsV I6) from row_below HRrc.out b)
                      clear b H60 H61 H62 HRrc
                      go_wp2_with fail
                      go_meet
                      case rel => exact H63.out
              case rest =>
                as_aux_lemma =>
                    have H67 := Lib.hid hcut
                    clear hcut H56 H57 H58
                    go_wp2_with fail
                    refine (mean_draw A n cap zs _ (Lib.hid H67.out.2)).mono ?_
                    rintro e W20 ⟨v7, t7, rfl, ho7, hle7, b⟩
                    obtain ⟨L7, hl7⟩ : ∃ L, t7.length = L := ⟨_, rfl⟩
                    rw [hl7] at ho7 hle7
                    obtain ⟨A7, c7, rfl⟩ := row_slice ho7
                    have HR7 := Lib.hid ho7
                    have HL7 := Lib.hid hl7
                    clear ho7 hl7
                    have H68 := Lib.hid (show St w A n zs W20 from H67.out.step b)
                    clear b H67
                    obtain ⟨a7, b7, ok7, hf, hk⟩ := ma_form t7
                    have HF := Lib.hid hf
                    have HK := Lib.hid hk
                    clear hf hk
                    go_wp2_with fail
                    refine (ma_i HF (by omega) (Lib.hid (own_Pg HL7.out HR7.out))).mono ?_
                    rintro e W21 ⟨rfl, b⟩
                    have H69 := Lib.hid (show St w A n zs W21 from H68.out.step b)
                    have H70 := Lib.hid (show W21.ownsRow (wc.heap.size) 53 5 (.slice A7 L7 c7) L7 (flatPg t7) from row_below HR7.out b)
                    clear b H68 HR7
                    go_wp2_with fail
                    refine (ma_m HF (by omega) (Lib.hid (own_Pg HL7.out H70.out))).mono ?_
                    rintro e W22 ⟨rfl, b⟩
                    have H71 := Lib.hid (show St w A n zs W22 from H69.out.step b)
                    have H72 := Lib.hid (show W22.ownsRow (wc.heap.size) 53 5 (.slice A7 L7 c7) L7 (flatPg t7) from row_below H70.out b)
                    clear b H69 H70
                    cases ok7
                    · go_wp2_with fail
                      go_ret
                      exact ⟨rfl, H71.out.1⟩
                    · obtain ⟨g1, ea, eb⟩ := HK.out rfl
                      obtain ⟨s7, v7, e1, e2, e3, e4, e5⟩ := ma_yes g1 ea eb
                      have HE1 := Lib.hid e1
                      have HE2 := Lib.hid e2
                      clear e1 e2 g1 ea eb HK HF
                      have hge : decide (a7 ≤ v7 * b7) = true := by simpa using e3
                      go_wp2_with fail
                      refine (wp_i HE1 (by omega) (Lib.hid (own_Pg HL7.out H72.out))).mono ?_
                      rintro e W23 ⟨rfl, b⟩
                      have H73 := Lib.hid (show St w A n zs W23 from H71.out.step b)
                      have H74 := Lib.hid (show W23.ownsRow (wc.heap.size) 53 5 (.slice A7 L7 c7) L7 (flatPg t7) from row_below H72.out b)
                      clear b H71 H72
                      go_wp2_with fail
                      refine (aa_i HE2 (by omega) (Lib.hid (own_Pg HL7.out H74.out))).mono ?_
                      rintro e W24 ⟨rfl, b⟩
                      have H75 := Lib.hid (show St w A n zs W24 from H73.out.step b)
                      have H76 := Lib.hid (show W24.ownsRow (wc.heap.size) 53 5 (.slice A7 L7 c7) L7 (flatPg t7) from row_below H74.out b)
                      clear b H73 H74
                      go_wp2_with fail
                      go_ret
                      exact ⟨rfl, H75.out.1⟩
end Go.Proofs.Ytnpghhpcloljeaa.fpw
