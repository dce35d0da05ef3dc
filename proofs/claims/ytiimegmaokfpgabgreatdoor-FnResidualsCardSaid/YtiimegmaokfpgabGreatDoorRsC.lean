/-
  FnResiduals: the law's walk.
  Conditions: those that each theorem names.
-/
import Derived.Test.YtiimegmaokfpgabGreatDoorNqJq
import Derived.Deep.DeepCutAuto
namespace Go.Proofs.YtiimegmaokfpgabGreatDoor.rsc
open Go.RowKit
open reads base ty win lg rowi hs nt nq dt ml pg ph phx lp lpi bl nw rs9 rsb
set_option linter.unusedVariables false
set_option linter.unusedSimpArgs false

set_option maxHeartbeats 16000000 in
set_option maxRecDepth 100000 in
theorem walk (A : Option Addr) (n cap : Nat) (zs : List UInt8) (w : World) (hn : n ≤ 65536) (hS : Hid (St w A n zs w)) :
    Calls Tryz.prog 4 #[.slice A n cap] w (LawPost w) := by
  have HB := Lib.hid (vs.big_no A n cap w hn)
  clear hn
  go_enter Tryz.func4, Tryz.ntmps4
  go_wp2_with fail
  refine HB.out.mono ?_
  rintro e w' ⟨rfl, rfl⟩
  clear HB
  go_wp2_with fail
  refine (dcv.squareSum_draw A n cap zs _ (Lib.hid hS.out.2.1)).mono ?_
  rintro e W1 ⟨v1, t1, q1, rfl, ho, hl1, ⟨q1a, q1b⟩, b⟩
  obtain ⟨L1, HL1⟩ : ∃ L, Hid (t1.length = L) := ⟨_, Lib.hid rfl⟩
  rw [HL1.out] at ho hl1
  obtain ⟨A1, c1, rfl⟩ := base.row_slice ho
  have HR1 := Lib.hid ho
  clear ho
  have H1 := Lib.hid (show St w A n zs W1 from hS.out.step b)
  clear b hS
  obtain ⟨a1, b1, hf, ha0, haz⟩ := sq_form t1 q1
  have HF := Lib.hid hf
  have HAZ := Lib.hid haz
  clear hf haz
  obtain ⟨ok1, HOK⟩ : ∃ t, Hid (axOk t1 q1 = t) := ⟨_, Lib.hid rfl⟩
  rw [HOK.out] at HF
  have hna : decide (a1 < 0) = false := by simp; omega
  obtain ⟨m1, told, hl, hm⟩ := lr_form t1 q1
  have HL := Lib.hid hl
  have HM := Lib.hid hm
  clear hl hm
  go_wp2_with fail
  refine (sq_i HF (by omega) (Lib.hid (own_Lg HL1.out HR1.out)) (Lib.hid H1.out.2.2)).mono ?_
  rintro e W2 ⟨rfl, b⟩
  have H2 := Lib.hid (show St w A n zs W2 from H1.out.step b)
  have H3 := Lib.hid (show W2.ownsRow (w.heap.size) 87 5 (.slice A1 L1 c1) L1 (flatLg t1) from row_below HR1.out b)
  clear b H1 HR1
  go_wp2_with fail
  refine (sq_m HF (by omega) (Lib.hid (own_Lg HL1.out H3.out))).mono ?_
  rintro e W3 ⟨rfl, b⟩
  have H4 := Lib.hid (show St w A n zs W3 from H2.out.step b)
  have H5 := Lib.hid (show W3.ownsRow (w.heap.size) 87 5 (.slice A1 L1 c1) L1 (flatLg t1) from row_below H3.out b)
  clear b H2 H3
  go_wp2_with fail
  refine (lr_i HL (by omega) (Lib.hid (own_Lg HL1.out H5.out)) (Lib.hid H4.out.2.2)).mono ?_
  rintro e W4 ⟨rfl, b⟩
  have H6 := Lib.hid (show St w A n zs W4 from H4.out.step b)
  have H7 := Lib.hid (show W4.ownsRow (w.heap.size) 87 5 (.slice A1 L1 c1) L1 (flatLg t1) from row_below H5.out b)
  clear b H4 H5
  go_wp2_with fail
  refine (lr_m HL (by omega) (Lib.hid (own_Lg HL1.out H7.out))).mono ?_
  rintro e W5 ⟨rfl, b⟩
  have H8 := Lib.hid (show St w A n zs W5 from H6.out.step b)
  have H9 := Lib.hid (show W5.ownsRow (w.heap.size) 87 5 (.slice A1 L1 c1) L1 (flatLg t1) from row_below H7.out b)
  clear b H6 H7
  go_upto_if 103 with fail
  go_cut [15] (fun _ wx => St w A n zs wx)
  case first =>
    as_aux_lemma =>
        cases told
        · go_wp2_with fail
          go_meet
          case rel => exact H8.out
        · have HMM := Lib.hid (HM.out rfl)
          obtain ⟨a, HA⟩ : ∃ a, Hid (redN (resV t1 q1 m1) (TC t1) = a) := ⟨_, Lib.hid rfl⟩
          obtain ⟨b, HB⟩ : ∃ b, Hid (redD (resV t1 q1 m1) (TC t1) = b) := ⟨_, Lib.hid rfl⟩
          have HRY := Lib.hid (show ansRs t1 q1 m1 = .tuple #[.int .i64 a, .int .i64 b, .bool true] by rw [rs_yes HMM.out.1 HMM.out.2.1, HA.out, HB.out])
          obtain ⟨⟨ba0, ba1⟩, ⟨bb0, bb1⟩⟩ := mx_facts HMM.out HA.out HB.out
          obtain ⟨y, HY⟩ : ∃ y, Hid ((a.natAbs : Int) = y) := ⟨_, Lib.hid rfl⟩
          have hy0 : 0 ≤ y ∧ y ≤ 10000000000 := by rw [← HY.out]; omega
          have HGG := Lib.hid (show goodLg t1 = true by have h := HMM.out.1; unfold axOk at h; rw [Bool.and_eq_true] at h; exact h.1)
          have hiff : a1 = 0 ↔ a = 0 := by rw [HAZ.out HMM.out.1, sq_zero HMM.out.2.1 HMM.out.2.2, ← HA.out, redN_zero (TC_pos HGG.out)]
          obtain ⟨z, hz1, hz2⟩ : ∃ z, (a1 == 0) = z ∧ (a == 0) = z := ⟨(a == 0), Bool.eq_iff_iff.2 (by simpa using hiff), rfl⟩
          clear hiff HM HF HL HAZ HOK ha0 hna
          go_wp2_with fail
          refine (rs_i HRY (by omega) (Lib.hid (own_Lg HL1.out H9.out)) (Lib.hid H8.out.2.2)).mono ?_
          rintro e W6 ⟨rfl, b⟩
          have H10 := Lib.hid (show St w A n zs W6 from H8.out.step b)
          have H11 := Lib.hid (show W6.ownsRow (w.heap.size) 87 5 (.slice A1 L1 c1) L1 (flatLg t1) from row_below H9.out b)
          clear b H8 H9
          go_wp2_with fail
          go_loopw [18] (fun i wr => ∃ k : Nat, k ≤ L1 ∧ i = .int .i64 k ∧ St w A n zs wr ∧ wr.ownsRow (w.heap.size) 87 5 (.slice A1 L1 c1) L1 (flatLg t1)) (fun i _ => L1 - (intOf i).toNat)
          case atStart => exact ⟨0, Nat.zero_le _, rfl, H10.out, H11.out⟩
          case round =>
            obtain ⟨k, hk, rfl, r_S, r_l1⟩ := hrel
            have R_S := Lib.hid r_S
            have R_l1 := Lib.hid r_l1
            clear r_S r_l1 H10 H11
            have hk0 : (0 : Int) ≤ (k : Int) := by omega
            by_cases hlt : k < L1
            · obtain ⟨c, d, two, e, ⟨k0c, k1c⟩, ⟨k0d, k1d⟩, hle⟩ := loop_facts (ok := true) HMM.out HA.out HB.out k
              have HE := Lib.hid e
              have HLE := Lib.hid hle
              clear e hle
              have hki : (k : Int) < (L1 : Int) := by omega
              have hkd : decide (k < L1) = true := by simpa using hlt
              go_wp2_with fail
              refine (rs_i HE (by omega) (Lib.hid (own_Lg HL1.out R_l1.out)) (Lib.hid R_S.out.2.2)).mono ?_
              rintro e W7 ⟨rfl, b⟩
              have H12 := Lib.hid (show St w A n zs W7 from R_S.out.step b)
              have H13 := Lib.hid (show W7.ownsRow (w.heap.size) 87 5 (.slice A1 L1 c1) L1 (flatLg t1) from row_below R_l1.out b)
              clear b R_S R_l1
              cases two
              · go_wp2_with fail
                go_roundw
                case rel => exact ⟨k + 1, by omega, by go_num, H12.out, H13.out⟩
                case measure => simp [intOf]; omega
              · obtain ⟨x, HX⟩ : ∃ x, Hid ((c.natAbs : Int) = x) := ⟨_, Lib.hid rfl⟩
                have hx0 : 0 ≤ x ∧ x ≤ 10000000000 := by rw [← HX.out]; omega
                have hxy := HLE.out rfl
                rw [HX.out, HY.out] at hxy
                obtain ⟨p, hp⟩ : ∃ p, x * b = p := ⟨_, rfl⟩
                obtain ⟨r, hr⟩ : ∃ r, y * d = r := ⟨_, rfl⟩
                have p0 : 0 ≤ p := by rw [← hp]; exact Int.mul_nonneg hx0.1 (by omega)
                have p1 : p ≤ 10000000000 * 1000000 := by rw [← hp]; exact Int.mul_le_mul hx0.2 bb1 (by omega) (by omega)
                have r0 : 0 ≤ r := by rw [← hr]; exact Int.mul_nonneg hy0.1 k0d
                have r1 : r ≤ 10000000000 * 1000000 := by rw [← hr]; exact Int.mul_le_mul hy0.2 k1d k0d (by omega)
                rw [hp, hr] at hxy
                have hpr : decide (r < p) = false := by simp; omega
                go_wp2_with fail
                refine (far_b c x _ k0c k1c HX).mono ?_
                rintro e W8 ⟨rfl, b⟩
                have H14 := Lib.hid (show St w A n zs W8 from H12.out.step b)
                have H15 := Lib.hid (show W8.ownsRow (w.heap.size) 87 5 (.slice A1 L1 c1) L1 (flatLg t1) from row_below H13.out b)
                clear b H12 H13
                go_wp2_with fail
                refine (far_b a y _ ba0 ba1 HY).mono ?_
                rintro e W9 ⟨rfl, b⟩
                have H16 := Lib.hid (show St w A n zs W9 from H14.out.step b)
                have H17 := Lib.hid (show W9.ownsRow (w.heap.size) 87 5 (.slice A1 L1 c1) L1 (flatLg t1) from row_below H15.out b)
                clear b H14 H15
                go_wp2_with fail
                go_roundw
                case rel => exact ⟨k + 1, by omega, by go_num, H16.out, H17.out⟩
                case measure => simp [intOf]; omega
            · have hkd : decide (k < L1) = false := by simpa using hlt
              have hki : decide ((k : Int) < (L1 : Int)) = false := by simp; omega
              cases z
              · skip
                go_wp2_with fail
                go_meet
                case rel => exact R_S.out
              · skip
                go_wp2_with fail
                go_meet
                case rel => exact R_S.out
  case rest =>
    as_aux_lemma =>
        have H12 := Lib.hid hcut
        clear hcut H8 H9
        clear HF HAZ HOK ha0 hna HL HM
        go_wp2_with fail
        refine (dcv.exactLegs_draw A n cap zs _ (Lib.hid H12.out.2.1)).mono ?_
        rintro e W7 ⟨v2, t2, rfl, ho, hl2, b⟩
        obtain ⟨L2, HL2⟩ : ∃ L, Hid (t2.length = L) := ⟨_, Lib.hid rfl⟩
        rw [HL2.out] at ho hl2
        obtain ⟨A2, c2, rfl⟩ := base.row_slice ho
        have HR2 := Lib.hid ho
        clear ho
        have H13 := Lib.hid (show St w A n zs W7 from H12.out.step b)
        clear b H12
        obtain ⟨G2, HG2⟩ : ∃ G, Hid (goodLg t2 = G) := ⟨_, Lib.hid rfl⟩
        obtain ⟨I2, HI2⟩ : ∃ I, Hid (exIds t2 = I) := ⟨_, Lib.hid rfl⟩
        obtain ⟨K2, HK2⟩ : ∃ K, Hid (I2.length = K) := ⟨_, Lib.hid rfl⟩
        have hK2 : K2 ≤ 13 := by rw [← HK2.out, ← HI2.out]; have := exIds_len (ts := t2) (by rw [HL2.out]; omega); have := HL2.out; omega
        obtain ⟨I3, HI3⟩ : ∃ I, Hid (brIds t2 = I) := ⟨_, Lib.hid rfl⟩
        obtain ⟨K3, HK3⟩ : ∃ K, Hid (I3.length = K) := ⟨_, Lib.hid rfl⟩
        have hK3 : K3 ≤ 13 := by rw [← HK3.out, ← HI3.out]; have := brIds_len t2; omega
        go_wp2_with fail
        refine (ex_i HI2 HG2 (by omega) (Lib.hid (own_Lg HL2.out HR2.out)) (Lib.hid H13.out.2.2)).mono ?_
        rintro e W8 ⟨vr, rfl, ho, b⟩
        rw [HK2.out] at ho
        obtain ⟨Aga, cga, rfl⟩ := base.row_slice ho
        have HRga := Lib.hid ho
        clear ho
        have H14 := Lib.hid (show St w A n zs W8 from H13.out.step b)
        have H15 := Lib.hid (show W8.ownsRow (wc.heap.size) 87 5 (.slice A2 L2 c2) L2 (flatLg t2) from row_below HR2.out b)
        clear b H13 HR2
        go_wp2_with fail
        refine (ex_m HI2 HG2 (by omega) (Lib.hid (own_Lg HL2.out H15.out))).mono ?_
        rintro e W9 ⟨vr, rfl, ho, b⟩
        rw [HK2.out] at ho
        obtain ⟨Awa, cwa, rfl⟩ := base.row_slice ho
        have HRwa := Lib.hid ho
        clear ho
        have H16 := Lib.hid (show St w A n zs W9 from H14.out.step b)
        have H17 := Lib.hid (show W9.ownsRow (wc.heap.size) 87 5 (.slice A2 L2 c2) L2 (flatLg t2) from row_below H15.out b)
        have H18 := Lib.hid (show W9.ownsRow (W7.heap.size) 3 1 (.slice Aga K2 cga) K2 (ints.intsV I2) from row_below HRga.out b)
        clear b H14 H15 HRga
        go_wp2_with fail
        refine (vints_b (by omega) (Lib.hid (ints.IL.of_own H18.out)) (Lib.hid (ints.IL.of_own HRwa.out))).mono ?_
        rintro e W10 ⟨rfl, b⟩
        have H19 := Lib.hid (show St w A n zs W10 from H16.out.step b)
        have H20 := Lib.hid (show W10.ownsRow (wc.heap.size) 87 5 (.slice A2 L2 c2) L2 (flatLg t2) from row_below H17.out b)
        have H21 := Lib.hid (show W10.ownsRow (W7.heap.size) 3 1 (.slice Aga K2 cga) K2 (ints.intsV I2) from row_below H18.out b)
        have H22 := Lib.hid (show W10.ownsRow (W8.heap.size) 3 1 (.slice Awa K2 cwa) K2 (ints.intsV I2) from row_below HRwa.out b)
        clear b H16 H17 H18 HRwa
        clear H22
        go_upto_if 168 with fail
        go_cut [27] (fun _ wx => St w A n zs wx)
        case first =>
          as_aux_lemma =>
              cases G2
              · go_wp2_with fail
                go_meet
                case rel => exact H19.out
              · have HSUB := Lib.hid (show ∀ x ∈ I3, mem I2 x = true from fun x hx => by rw [← HI2.out]; rw [← HI3.out] at hx; exact mem_iff.2 (br_exact hx))
                go_wp2_with fail
                refine (br_i HI3 HG2 (by omega) (Lib.hid (own_Lg HL2.out H20.out)) (Lib.hid H19.out.2.2)).mono ?_
                rintro e W11 ⟨vr, rfl, ho, b⟩
                rw [HK3.out] at ho
                obtain ⟨Aba, cba, rfl⟩ := base.row_slice ho
                have HRba := Lib.hid ho
                clear ho
                have H23 := Lib.hid (show St w A n zs W11 from H19.out.step b)
                have H24 := Lib.hid (show W11.ownsRow (wc.heap.size) 87 5 (.slice A2 L2 c2) L2 (flatLg t2) from row_below H20.out b)
                have H25 := Lib.hid (show W11.ownsRow (W7.heap.size) 3 1 (.slice Aga K2 cga) K2 (ints.intsV I2) from row_below H21.out b)
                clear b H19 H20 H21
                go_wp2_with fail
                refine (within_b HSUB (by omega) (by omega) (Lib.hid (ints.IL.of_own HRba.out)) (Lib.hid (ints.IL.of_own H25.out))).mono ?_
                rintro e W12 ⟨rfl, b⟩
                have H26 := Lib.hid (show St w A n zs W12 from H23.out.step b)
                have H27 := Lib.hid (show W12.ownsRow (wc.heap.size) 87 5 (.slice A2 L2 c2) L2 (flatLg t2) from row_below H24.out b)
                have H28 := Lib.hid (show W12.ownsRow (W7.heap.size) 3 1 (.slice Aga K2 cga) K2 (ints.intsV I2) from row_below H25.out b)
                have H29 := Lib.hid (show W12.ownsRow (W10.heap.size) 3 1 (.slice Aba K3 cba) K3 (ints.intsV I3) from row_below HRba.out b)
                clear b H23 H24 H25 HRba
                go_wp2_with fail
                go_meet
                case rel => exact H26.out
        case rest =>
          as_aux_lemma =>
              have H30 := Lib.hid hcut
              clear hcut H19 H20 H21
              clear HG2 HI2 HK2 hK2 HI3 HK3 hK3
              go_wp2_with fail
              refine (dcv.adjDepth_draw A n cap zs _ (Lib.hid H30.out.2.1)).mono ?_
              rintro e W13 ⟨v3, t3, rfl, ho, hl3, b⟩
              obtain ⟨L3, HL3⟩ : ∃ L, Hid (t3.length = L) := ⟨_, Lib.hid rfl⟩
              rw [HL3.out] at ho hl3
              obtain ⟨A3, c3, rfl⟩ := base.row_slice ho
              have HR3 := Lib.hid ho
              clear ho
              have H31 := Lib.hid (show St w A n zs W13 from H30.out.step b)
              clear b H30
              obtain ⟨a3, d3, hf3⟩ := dp_form t3
              obtain ⟨e3, hg3⟩ := de_form t3
              have HF3 := Lib.hid hf3
              have HE3 := Lib.hid hg3
              clear hf3 hg3
              obtain ⟨G3, HG3⟩ : ∃ G, Hid (goodLg t3 = G) := ⟨_, Lib.hid rfl⟩
              obtain ⟨n3, HN3⟩ : ∃ G, Hid ((clIds t3).length = G) := ⟨_, Lib.hid rfl⟩
              have HD3 := Lib.hid (show G3 = true → n3 = 0 → a3 = e3 ∧ d3 = 1 from fun h1 h2 => dp_none (HG3.out.trans h1) (HN3.out.trans h2) HF3.out HE3.out)
              have HCO := Lib.hid (show Value.tuple #[.int .i64 ((clIds t3).length : Nat), .bool (goodLg t3)] = .tuple #[.int .i64 (n3 : Int), .bool G3] by rw [HN3.out, HG3.out])
              rw [HG3.out] at HF3 HE3
              go_wp2_with fail
              refine (ad_i HF3 (by omega) (Lib.hid (own_Lg HL3.out HR3.out)) (Lib.hid H31.out.2.2)).mono ?_
              rintro e W14 ⟨rfl, b⟩
              have H32 := Lib.hid (show St w A n zs W14 from H31.out.step b)
              have H33 := Lib.hid (show W14.ownsRow (wc.heap.size) 87 5 (.slice A3 L3 c3) L3 (flatLg t3) from row_below HR3.out b)
              clear b H31 HR3
              go_wp2_with fail
              refine (ad_m HF3 (by omega) (Lib.hid (own_Lg HL3.out H33.out))).mono ?_
              rintro e W15 ⟨rfl, b⟩
              have H34 := Lib.hid (show St w A n zs W15 from H32.out.step b)
              have H35 := Lib.hid (show W15.ownsRow (wc.heap.size) 87 5 (.slice A3 L3 c3) L3 (flatLg t3) from row_below H33.out b)
              clear b H32 H33
              go_upto_if 209 with fail
              go_cut [36] (fun _ wx => St w A n zs wx)
              case first =>
                as_aux_lemma =>
                    cases G3
                    · go_wp2_with fail
                      go_meet
                      case rel => exact H34.out
                    · go_wp2_with fail
                      refine (co_i HCO (by omega) (Lib.hid (own_Lg HL3.out H35.out)) (Lib.hid H34.out.2.2)).mono ?_
                      rintro e W16 ⟨rfl, b⟩
                      have H36 := Lib.hid (show St w A n zs W16 from H34.out.step b)
                      have H37 := Lib.hid (show W16.ownsRow (wc.heap.size) 87 5 (.slice A3 L3 c3) L3 (flatLg t3) from row_below H35.out b)
                      clear b H34 H35
                      go_wp2_with fail
                      refine (de_i HE3 (by omega) (Lib.hid (own_Lg HL3.out H37.out)) (Lib.hid H36.out.2.2)).mono ?_
                      rintro e W17 ⟨rfl, b⟩
                      have H38 := Lib.hid (show St w A n zs W17 from H36.out.step b)
                      have H39 := Lib.hid (show W17.ownsRow (wc.heap.size) 87 5 (.slice A3 L3 c3) L3 (flatLg t3) from row_below H37.out b)
                      clear b H36 H37
                      by_cases hn3 : n3 = 0
                      · obtain ⟨rfl, rfl⟩ := HD3.out (by trivial) hn3
                        subst hn3
                        go_wp2_with fail
                        go_meet
                        case rel => exact H38.out
                      · have z1 : ((n3 : Int) == 0) = false := by simp; omega
                        have z2 : (n3 == 0) = false := by simpa using hn3
                        go_wp2_with fail
                        go_meet
                        case rel => exact H38.out
              case rest =>
                as_aux_lemma =>
                    have H40 := Lib.hid hcut
                    clear hcut H34 H35
                    clear HF3 HE3 HG3 HN3 HD3 HCO
                    go_wp2_with fail
                    refine (dcv.treeCount_draw A n cap zs _ (Lib.hid H40.out.2.1)).mono ?_
                    rintro e W18 ⟨v4, t4, rfl, ho, hl4, b⟩
                    obtain ⟨L4, HL4⟩ : ∃ L, Hid (t4.length = L) := ⟨_, Lib.hid rfl⟩
                    rw [HL4.out] at ho hl4
                    obtain ⟨A4, c4, rfl⟩ := base.row_slice ho
                    have HR4 := Lib.hid ho
                    clear ho
                    have H41 := Lib.hid (show St w A n zs W18 from H40.out.step b)
                    clear b H40
                    obtain ⟨v4, HT4⟩ : ∃ v : Int × Bool, Hid (ansTc t4 = .tuple #[.int .i64 v.1, .bool v.2]) := ⟨(_, _), Lib.hid rfl⟩
                    obtain ⟨n4, g4⟩ := v4
                    go_wp2_with fail
                    refine (tc_i HT4 (by omega) (Lib.hid (own_Lg HL4.out HR4.out)) (Lib.hid H41.out.2.2)).mono ?_
                    rintro e W19 ⟨rfl, b⟩
                    have H42 := Lib.hid (show St w A n zs W19 from H41.out.step b)
                    have H43 := Lib.hid (show W19.ownsRow (wc.heap.size) 87 5 (.slice A4 L4 c4) L4 (flatLg t4) from row_below HR4.out b)
                    clear b H41 HR4
                    go_wp2_with fail
                    refine (tc_m HT4 (by omega) (Lib.hid (own_Lg HL4.out H43.out))).mono ?_
                    rintro e W20 ⟨rfl, b⟩
                    have H44 := Lib.hid (show St w A n zs W20 from H42.out.step b)
                    have H45 := Lib.hid (show W20.ownsRow (wc.heap.size) 87 5 (.slice A4 L4 c4) L4 (flatLg t4) from row_below H43.out b)
                    clear b H42 H43
                    go_wp2_with fail
                    go_ret
                    exact ⟨rfl, H44.out.1⟩
end Go.Proofs.YtiimegmaokfpgabGreatDoor.rsc
