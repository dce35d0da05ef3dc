/-
  FnDeclinations: the law's walk.
  Conditions: the code has at most 65536 bytes.
-/
import Derived.Test.YtiimegmaokfpgaaVaW
import Derived.Test.YtiimegmaokfpgaaVaT
import Derived.Test.YtiimegmaokfpgaaVaV
import Derived.Deep.DeepCutAuto
import Derived.Deep.RegionHeld3
namespace Go.Proofs.Ytiimegmaokfpgaa.fdw
open Go.RowKit
open reads base curs curd ty va rowi drp dpw
set_option linter.unusedVariables false
set_option linter.unusedSimpArgs false

set_option maxHeartbeats 64000000 in
set_option maxRecDepth 100000 in
theorem walk (A : Option Addr) (n cap : Nat) (zs : List UInt8) (w : World) (hn : n ≤ 65536) (hS : Hid (St w A n zs w)) :
    Calls Try.prog 3 #[.slice A n cap] w (LawPost w) := by
  have HB := Lib.hid (rs.big_no A n cap w hn)
  clear hn
  go_enter Try.func3, Try.ntmps3
  go_wp2_with fail
  refine HB.out.mono ?_
  rintro e w' ⟨rfl, rfl⟩
  clear HB
  go_wp2_with fail
  refine (trueBearing_draw A n cap zs _ (Lib.hid hS.out.2)).mono ?_
  rintro e W1 ⟨v1, L1, t1, d1, m1, rfl, ho, hl1, hL1, b⟩
  obtain ⟨A1, c1, rfl⟩ := row_slice ho
  have HR1 := Lib.hid ho
  have HL1 := Lib.hid hl1
  clear ho hl1
  have H1 := Lib.hid (show St w A n zs W1 from hS.out.step b)
  clear b hS
  obtain ⟨b1, ok, hf, hok⟩ := tb_form t1 d1 m1
  have HF := Lib.hid hf
  have HOK := Lib.hid hok
  clear hf hok
  go_wp2_with fail
  refine (tb_i HF (by omega) (Lib.hid (own_Dp HL1.out HR1.out))).mono ?_
  rintro e W2 ⟨rfl, b⟩
  have H2 := Lib.hid (show St w A n zs W2 from H1.out.step b)
  have H3 := Lib.hid (show W2.ownsRow (w.heap.size) 42 2 (.slice A1 L1 c1) L1 (flatDp t1) from row_below HR1.out b)
  clear b H1 HR1
  go_wp2_with fail
  refine (tb_m HF (by omega) (Lib.hid (own_Dp HL1.out H3.out))).mono ?_
  rintro e W3 ⟨rfl, b⟩
  have H4 := Lib.hid (show St w A n zs W3 from H2.out.step b)
  have H5 := Lib.hid (show W3.ownsRow (w.heap.size) 42 2 (.slice A1 L1 c1) L1 (flatDp t1) from row_below H3.out b)
  clear b H2 H3
  go_upto_if 73 with fail
  go_cut [10] (fun _ wx => St w A n zs wx)
  case first =>
    as_aux_lemma =>
        cases ok
        · go_wp2_with fail
          go_meet
          case rel => exact H4.out
        · obtain ⟨k1, k2, k3, k4⟩ := HOK.out rfl
          obtain ⟨q1, f1, g1, e1, e2, e3, hfd, hdl⟩ := tb_yes k1 k2 k3 k4
          have HE1 := Lib.hid e1
          have HE2 := Lib.hid e2
          have HE3 := Lib.hid e3
          clear e1 e2 e3 k1 k2 k3 k4 HOK HF
          go_wp2_with fail
          refine (mb_i HE1 (by omega) (Lib.hid (own_Dp HL1.out H5.out))).mono ?_
          rintro e W4 ⟨rfl, b⟩
          have H6 := Lib.hid (show St w A n zs W4 from H4.out.step b)
          have H7 := Lib.hid (show W4.ownsRow (w.heap.size) 42 2 (.slice A1 L1 c1) L1 (flatDp t1) from row_below H5.out b)
          clear b H4 H5
          go_wp2_with fail
          refine (on_i HE2 (by omega) (Lib.hid (own_Dp HL1.out H7.out))).mono ?_
          rintro e W5 ⟨rfl, b⟩
          have H8 := Lib.hid (show St w A n zs W5 from H6.out.step b)
          have H9 := Lib.hid (show W5.ownsRow (w.heap.size) 42 2 (.slice A1 L1 c1) L1 (flatDp t1) from row_below H7.out b)
          clear b H6 H7
          go_wp2_with fail
          refine (dw_i HE3 (by omega) (Lib.hid (own_Dp HL1.out H9.out))).mono ?_
          rintro e W6 ⟨rfl, b⟩
          have H10 := Lib.hid (show St w A n zs W6 from H8.out.step b)
          have H11 := Lib.hid (show W6.ownsRow (w.heap.size) 42 2 (.slice A1 L1 c1) L1 (flatDp t1) from row_below H9.out b)
          clear b H8 H9
          have z1 : decide (d1 < f1) = false := by simp; omega
          have z2 : decide (g1 < d1) = false := by simp; omega
          go_wp2_with fail
          go_meet
          case rel => exact H10.out
  case rest =>
    as_aux_lemma =>
        have H12 := Lib.hid hcut
        clear hcut H4 H5
        go_wp2_with fail
        refine (correctAll_draw A n cap zs _ (Lib.hid H12.out.2)).mono ?_
        rintro e W7 ⟨v2, L2, t2, ga, ma, ca, da, gb, mb, cb, fb, rfl, ho, hl2, hL2, hma, hmb, hoa, hob, b⟩
        obtain ⟨A2, c2, rfl⟩ := row_slice ho
        have HR2 := Lib.hid ho
        have HL2 := Lib.hid hl2
        have HRA := Lib.hid hoa.1
        have HRB := Lib.hid hob.1
        have HLA := Lib.hid hoa.2
        have HLB := Lib.hid hob.2
        clear ho hl2 hoa hob
        have H13 := Lib.hid (show St w A n zs W7 from H12.out.step b)
        clear b H12
        obtain ⟨G2, HG2⟩ : ∃ G, Hid (crGood t2 da fb = G) := ⟨_, Lib.hid rfl⟩
        obtain ⟨I2, HI2⟩ : ∃ I, Hid (crV t2 da fb = I) := ⟨_, Lib.hid rfl⟩
        obtain ⟨N2, HN2⟩ : ∃ N, Hid (I2.length = N) := ⟨_, Lib.hid rfl⟩
        have hN2 : N2 ≤ 20 := by rw [← HN2.out, ← HI2.out]; exact crV_len t2 da fb
        go_wp2_with fail
        refine (ca_i HI2 HG2 (by omega) (by omega) (Lib.hid (own_In HLA.out HRA.out)) (Lib.hid (own_In HLB.out HRB.out)) (by omega) (Lib.hid (own_Dp HL2.out HR2.out))).mono ?_
        rintro e W8 ⟨vr, rfl, ho, b⟩
        rw [HN2.out] at ho
        obtain ⟨Ara, cra, rfl⟩ := row_slice ho
        have HRra := Lib.hid ho
        clear ho
        have H14 := Lib.hid (show St w A n zs W8 from H13.out.step b)
        have H15 := Lib.hid (show W8.ownsRow (wc.heap.size) 42 2 (.slice A2 L2 c2) L2 (flatDp t2) from row_below HR2.out b)
        have H16 := Lib.hid (show W8.ownsRow (wc.heap.size) 3 1 (.slice (some ⟨ga, 0, none⟩) ma ca) ma (ints.intsV da) from row_below HRA.out b)
        have H17 := Lib.hid (show W8.ownsRow (wc.heap.size) 3 1 (.slice (some ⟨gb, 0, none⟩) mb cb) mb (ints.intsV fb) from row_below HRB.out b)
        clear b H13 HR2 HRA HRB
        go_wp2_with fail
        refine (ca_m HI2 HG2 (by omega) (by omega) (Lib.hid (own_In HLA.out H16.out)) (Lib.hid (own_In HLB.out H17.out)) (by omega) (Lib.hid (own_Dp HL2.out H15.out))).mono ?_
        rintro e W9 ⟨vr, rfl, ho, b⟩
        rw [HN2.out] at ho
        obtain ⟨Arb, crb, rfl⟩ := row_slice ho
        have HRrb := Lib.hid ho
        clear ho
        have H18 := Lib.hid (show St w A n zs W9 from H14.out.step b)
        have H19 := Lib.hid (show W9.ownsRow (wc.heap.size) 42 2 (.slice A2 L2 c2) L2 (flatDp t2) from row_below H15.out b)
        have H20 := Lib.hid (show W9.ownsRow (wc.heap.size) 3 1 (.slice (some ⟨ga, 0, none⟩) ma ca) ma (ints.intsV da) from row_below H16.out b)
        have H21 := Lib.hid (show W9.ownsRow (wc.heap.size) 3 1 (.slice (some ⟨gb, 0, none⟩) mb cb) mb (ints.intsV fb) from row_below H17.out b)
        have H22 := Lib.hid (show W9.ownsRow (W7.heap.size) 3 1 (.slice Ara N2 cra) N2 (ints.intsV I2) from row_below HRra.out b)
        clear b H14 H15 H16 H17 HRra
        go_wp2_with fail
        refine (rints_b (by omega) (Lib.hid (ints.IL.of_own H22.out)) (Lib.hid (ints.IL.of_own HRrb.out))).mono ?_
        rintro e W10 ⟨rfl, b⟩
        have H23 := Lib.hid (show St w A n zs W10 from H18.out.step b)
        have H24 := Lib.hid (show W10.ownsRow (wc.heap.size) 42 2 (.slice A2 L2 c2) L2 (flatDp t2) from row_below H19.out b)
        have H25 := Lib.hid (show W10.ownsRow (wc.heap.size) 3 1 (.slice (some ⟨ga, 0, none⟩) ma ca) ma (ints.intsV da) from row_below H20.out b)
        have H26 := Lib.hid (show W10.ownsRow (wc.heap.size) 3 1 (.slice (some ⟨gb, 0, none⟩) mb cb) mb (ints.intsV fb) from row_below H21.out b)
        have H27 := Lib.hid (show W10.ownsRow (W7.heap.size) 3 1 (.slice Ara N2 cra) N2 (ints.intsV I2) from row_below H22.out b)
        have H28 := Lib.hid (show W10.ownsRow (W8.heap.size) 3 1 (.slice Arb N2 crb) N2 (ints.intsV I2) from row_below HRrb.out b)
        clear b H18 H19 H20 H21 H22 HRrb
        clear H27
        clear H28
        clear H24
        clear H25
        clear H26
        go_wp2_with fail
        refine (changeBetween_draw A n cap zs _ (Lib.hid H23.out.2)).mono ?_
        rintro e W11 ⟨v3, L3, t3, a3, b3, rfl, ho, hl3, hL3, b⟩
        obtain ⟨A3, c3, rfl⟩ := row_slice ho
        have HR3 := Lib.hid ho
        have HL3 := Lib.hid hl3
        clear ho hl3
        have H29 := Lib.hid (show St w A n zs W11 from H23.out.step b)
        clear b H23
        obtain ⟨ch, kn, hf3, hk3⟩ := cb_form t3 a3 b3
        have HF3 := Lib.hid hf3
        have HK3 := Lib.hid hk3
        clear hf3 hk3
        go_wp2_with fail
        refine (cb_i HF3 (by omega) (Lib.hid (own_Dp HL3.out HR3.out))).mono ?_
        rintro e W12 ⟨rfl, b⟩
        have H30 := Lib.hid (show St w A n zs W12 from H29.out.step b)
        have H31 := Lib.hid (show W12.ownsRow (W10.heap.size) 42 2 (.slice A3 L3 c3) L3 (flatDp t3) from row_below HR3.out b)
        clear b H29 HR3
        go_wp2_with fail
        refine (cb_m HF3 (by omega) (Lib.hid (own_Dp HL3.out H31.out))).mono ?_
        rintro e W13 ⟨rfl, b⟩
        have H32 := Lib.hid (show St w A n zs W13 from H30.out.step b)
        have H33 := Lib.hid (show W13.ownsRow (W10.heap.size) 42 2 (.slice A3 L3 c3) L3 (flatDp t3) from row_below H31.out b)
        clear b H30 H31
        go_upto_if 176 with fail
        go_cut [29] (fun _ wx => St w A n zs wx)
        case first =>
          as_aux_lemma =>
              cases kn
              · go_wp2_with fail
                go_meet
                case rel => exact H32.out
              · obtain ⟨p3, q3, e1, e2, hpq, ⟨b1, b2⟩, ⟨b3, b4⟩⟩ := HK3.out rfl
                have HE1 := Lib.hid e1
                have HE2 := Lib.hid e2
                clear e1 e2 HK3 HF3
                go_wp2_with fail
                refine (cb_i HE1 (by omega) (Lib.hid (own_Dp HL3.out H33.out))).mono ?_
                rintro e W14 ⟨rfl, b⟩
                have H34 := Lib.hid (show St w A n zs W14 from H32.out.step b)
                have H35 := Lib.hid (show W14.ownsRow (W10.heap.size) 42 2 (.slice A3 L3 c3) L3 (flatDp t3) from row_below H33.out b)
                clear b H32 H33
                go_wp2_with fail
                refine (cb_i HE2 (by omega) (Lib.hid (own_Dp HL3.out H35.out))).mono ?_
                rintro e W15 ⟨rfl, b⟩
                have H36 := Lib.hid (show St w A n zs W15 from H34.out.step b)
                have H37 := Lib.hid (show W15.ownsRow (W10.heap.size) 42 2 (.slice A3 L3 c3) L3 (flatDp t3) from row_below H35.out b)
                clear b H34 H35
                have z1 : IntKind.i64.wrap (p3 + q3) = ch := by rw [IntWalk.i64_in _ (by omega)]; exact hpq
                clear hpq
                go_wp2_with fail
                go_meet
                case rel => exact H36.out
        case rest =>
          as_aux_lemma =>
              have H38 := Lib.hid hcut
              clear hcut H32 H33
              go_wp2_with fail
              refine (daysWith_draw A n cap zs _ (Lib.hid H38.out.2)).mono ?_
              rintro e W16 ⟨v4, L4, t4, s4, rfl, ho, hl4, hL4, b⟩
              obtain ⟨A4, c4, rfl⟩ := row_slice ho
              have HR4 := Lib.hid ho
              have HL4 := Lib.hid hl4
              clear ho hl4
              have H39 := Lib.hid (show St w A n zs W16 from H38.out.step b)
              clear b H38
              obtain ⟨f4, g4, ok4, hf4⟩ := dw_form t4 s4
              have HF4 := Lib.hid hf4
              clear hf4
              obtain ⟨G4, HG4⟩ : ∃ G, Hid (goodDp t4 = G) := ⟨_, Lib.hid rfl⟩
              go_wp2_with fail
              refine (dw_i HF4 (by omega) (Lib.hid (own_Dp HL4.out HR4.out))).mono ?_
              rintro e W17 ⟨rfl, b⟩
              have H40 := Lib.hid (show St w A n zs W17 from H39.out.step b)
              have H41 := Lib.hid (show W17.ownsRow (wc.heap.size) 42 2 (.slice A4 L4 c4) L4 (flatDp t4) from row_below HR4.out b)
              clear b H39 HR4
              go_wp2_with fail
              refine (dw_m HF4 (by omega) (Lib.hid (own_Dp HL4.out H41.out))).mono ?_
              rintro e W18 ⟨rfl, b⟩
              have H42 := Lib.hid (show St w A n zs W18 from H40.out.step b)
              have H43 := Lib.hid (show W18.ownsRow (wc.heap.size) 42 2 (.slice A4 L4 c4) L4 (flatDp t4) from row_below H41.out b)
              clear b H40 H41
              go_wp2_with fail
              refine (ar_i HG4 (by omega) (Lib.hid (own_Dp HL4.out H43.out))).mono ?_
              rintro e W19 ⟨rfl, b⟩
              have H44 := Lib.hid (show St w A n zs W19 from H42.out.step b)
              have H45 := Lib.hid (show W19.ownsRow (wc.heap.size) 42 2 (.slice A4 L4 c4) L4 (flatDp t4) from row_below H43.out b)
              clear b H42 H43
              go_wp2_with fail
              refine (ar_m HG4 (by omega) (Lib.hid (own_Dp HL4.out H45.out))).mono ?_
              rintro e W20 ⟨rfl, b⟩
              have H46 := Lib.hid (show St w A n zs W20 from H44.out.step b)
              have H47 := Lib.hid (show W20.ownsRow (wc.heap.size) 42 2 (.slice A4 L4 c4) L4 (flatDp t4) from row_below H45.out b)
              clear b H44 H45
              go_wp2_with fail
              go_ret
              exact ⟨rfl, H46.out.1⟩
end Go.Proofs.Ytiimegmaokfpgaa.fdw
