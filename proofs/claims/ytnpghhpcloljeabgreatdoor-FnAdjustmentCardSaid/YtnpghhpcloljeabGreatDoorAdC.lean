/-
  FnAdjustment: the law's walk.
  Conditions: those that each theorem names.
-/
import Derived.Test.YtnpghhpcloljeabGreatDoorNwA0q
import Derived.Test.YtnpghhpcloljeabGreatDoorDrXq
import Derived.Deep.DeepCutAuto
namespace Go.Proofs.YtnpghhpcloljeabGreatDoor.adc
open Go.RowKit
open reads base ty win lg rowi hs nt nq dt mt ml pg ph phb lp lpi bl nw rs9 rsb ad9 adb
set_option linter.unusedVariables false
set_option linter.unusedSimpArgs false

/-- the coordinate of a station without a place -/
theorem far_zero {ts : List Lg} {ax : Int} {xs : List Int} {k : Nat} {c : Int} (hg : goodLg ts = true) (hI : xcN ts ax = xs) (hk : xs[k]? = some c) (hm : mem (psIds ts) (k : Int) = false) : c = 0 := by
  rw [← hI] at hk
  unfold xcN at hk
  rw [List.getElem?_map] at hk
  cases e : (List.range 8)[k]? with
  | none => rw [e] at hk; cases hk
  | some j =>
    rw [e] at hk
    obtain ⟨hj, e2⟩ := List.getElem?_eq_some_iff.1 e
    rw [List.getElem_range] at e2
    subst e2
    obtain rfl : XC ts ax k = c := Option.some.inj hk
    refine xc_far hg ax (fun q => ?_)
    have h1 : (k : Int) ∈ psIds ts := by unfold psIds; rw [hg]; exact q
    rw [mem_iff.2 h1] at hm
    cases hm
theorem vhas_b {A : Option Addr} {n c : Nat} {xs : List Int} {a : Int} {t : Bool} {w : World} (h : Hid (mem xs a = t)) (hn : n ≤ 2000000) (hx : Hid (ints.IL w A n xs)) :
    Calls Tryz.prog 15 #[.slice A n c, .int .i64 a] w (APost (.bool t) w) :=
  (vsh.vhas_is A n c xs a t h w hn hx).mono (by rintro e w' ⟨rfl, rfl⟩; exact ⟨rfl, Below.refl _ _⟩)
set_option maxHeartbeats 16000000 in
set_option maxRecDepth 100000 in
theorem walk (A : Option Addr) (n cap : Nat) (zs : List UInt8) (w : World) (hn : n ≤ 65536) (hS : Hid (St w A n zs w)) :
    Calls Tryz.prog 3 #[.slice A n cap] w (LawPost w) := by
  have HB := Lib.hid (vs.big_no A n cap w hn)
  clear hn
  go_enter Tryz.func3, Tryz.ntmps3
  go_wp2_with fail
  refine HB.out.mono ?_
  rintro e w' ⟨rfl, rfl⟩
  clear HB
  go_wp2_with fail
  refine (dcv.axis_draw A n cap zs _ (Lib.hid hS.out.2.1)).mono ?_
  rintro e W1 ⟨v1, t1, q1, rfl, ho, hl1, ⟨q1a, q1b⟩, b⟩
  obtain ⟨L1, HL1⟩ : ∃ L, Hid (t1.length = L) := ⟨_, Lib.hid rfl⟩
  rw [HL1.out] at ho hl1
  obtain ⟨A1, c1, rfl⟩ := base.row_slice ho
  have HR1 := Lib.hid ho
  clear ho
  have H1 := Lib.hid (show St w A n zs W1 from hS.out.step b)
  clear b hS
  obtain ⟨I1, HI1⟩ : ∃ I, Hid (axL t1 q1 = I) := ⟨_, Lib.hid rfl⟩
  obtain ⟨K1, HK1⟩ : ∃ K, Hid (I1.length = K) := ⟨_, Lib.hid rfl⟩
  have hK1 : K1 ≤ 13 := by rw [← HK1.out, ← HI1.out]; have := axL_len t1 q1; omega
  obtain ⟨d1, HD1⟩ : ∃ d, Hid (axD t1 q1 = d) := ⟨_, Lib.hid rfl⟩
  obtain ⟨G1, HG1⟩ : ∃ g, Hid (axOk t1 q1 = g) := ⟨_, Lib.hid rfl⟩
  go_wp2_with fail
  refine (ax_i HI1 HD1 HG1 (by omega) (Lib.hid (own_Lg HL1.out HR1.out)) (Lib.hid H1.out.2.2)).mono ?_
  rintro e W2 ⟨vr, rfl, ho, b⟩
  rw [HK1.out] at ho
  obtain ⟨Aca, cca, rfl⟩ := base.row_slice ho
  have HRca := Lib.hid ho
  clear ho
  have H2 := Lib.hid (show St w A n zs W2 from H1.out.step b)
  have H3 := Lib.hid (show W2.ownsRow (w.heap.size) 87 5 (.slice A1 L1 c1) L1 (flatLg t1) from row_below HR1.out b)
  clear b H1 HR1
  go_wp2_with fail
  refine (ax_m HI1 HD1 HG1 (by omega) (Lib.hid (own_Lg HL1.out H3.out))).mono ?_
  rintro e W3 ⟨vr, rfl, ho, b⟩
  rw [HK1.out] at ho
  obtain ⟨Awa, cwa, rfl⟩ := base.row_slice ho
  have HRwa := Lib.hid ho
  clear ho
  have H4 := Lib.hid (show St w A n zs W3 from H2.out.step b)
  have H5 := Lib.hid (show W3.ownsRow (w.heap.size) 87 5 (.slice A1 L1 c1) L1 (flatLg t1) from row_below H3.out b)
  have H6 := Lib.hid (show W3.ownsRow (W1.heap.size) 3 1 (.slice Aca K1 cca) K1 (ints.intsV I1) from row_below HRca.out b)
  clear b H2 H3 HRca
  go_wp2_with fail
  refine (vints_b (by omega) (Lib.hid (ints.IL.of_own H6.out)) (Lib.hid (ints.IL.of_own HRwa.out))).mono ?_
  rintro e W4 ⟨rfl, b⟩
  have H7 := Lib.hid (show St w A n zs W4 from H4.out.step b)
  have H8 := Lib.hid (show W4.ownsRow (w.heap.size) 87 5 (.slice A1 L1 c1) L1 (flatLg t1) from row_below H5.out b)
  have H9 := Lib.hid (show W4.ownsRow (W1.heap.size) 3 1 (.slice Aca K1 cca) K1 (ints.intsV I1) from row_below H6.out b)
  have H10 := Lib.hid (show W4.ownsRow (W2.heap.size) 3 1 (.slice Awa K1 cwa) K1 (ints.intsV I1) from row_below HRwa.out b)
  clear b H4 H5 H6 HRwa
  clear H10
  go_upto_if 78 with fail
  go_cut [17] (fun _ wx => St w A n zs wx)
  case first =>
    as_aux_lemma =>
        cases G1
        · go_wp2_with fail
          go_meet
          case rel => exact H7.out
        · have HGO := Lib.hid (show goodLg t1 = true by have h := HG1.out; unfold axOk at h; rw [Bool.and_eq_true] at h; exact h.1)
          have HXI := Lib.hid (show xcN t1 q1 = I1 by rw [← HI1.out]; unfold axL; rw [HG1.out]; rfl)
          have HTC := Lib.hid (show TC t1 = d1 by rw [← HD1.out]; unfold axD; rw [HG1.out]; rfl)
          obtain ⟨hd1, hd2⟩ : 1 ≤ d1 ∧ d1 ≤ 663552 := by rw [← HTC.out]; exact ⟨TC_pos HGO.out, TC_le HGO.out⟩
          have HTA := Lib.hid (show ansTc t1 = .tuple #[.int .i64 d1, .bool true] by unfold ansTc; rw [HGO.out, ← HTC.out]; rfl)
          obtain ⟨I2, HI2⟩ : ∃ I, Hid (psIds t1 = I) := ⟨_, Lib.hid rfl⟩
          obtain ⟨K2, HK2⟩ : ∃ K, Hid (I2.length = K) := ⟨_, Lib.hid rfl⟩
          have hK2 : K2 ≤ 13 := by rw [← HK2.out, ← HI2.out]; have := psIds_len t1; omega
          obtain ⟨I3, HI3⟩ : ∃ I, Hid (clIds t1 = I) := ⟨_, Lib.hid rfl⟩
          obtain ⟨K3, HK3⟩ : ∃ K, Hid (I3.length = K) := ⟨_, Lib.hid rfl⟩
          have hK3 : K3 ≤ 13 := by rw [← HK3.out, ← HI3.out]; have := clIds_len t1; omega
          obtain ⟨I4, HI4⟩ : ∃ I, Hid (brIds t1 = I) := ⟨_, Lib.hid rfl⟩
          obtain ⟨K4, HK4⟩ : ∃ K, Hid (I4.length = K) := ⟨_, Lib.hid rfl⟩
          have hK4 : K4 ≤ 13 := by rw [← HK4.out, ← HI4.out]; have := brIds_len t1; omega
          have HONE := Lib.hid (show K3 = 0 → d1 = 1 from fun h => by rw [← HTC.out]; exact TC_one HGO.out (by rw [HI3.out]; exact List.eq_nil_of_length_eq_zero (HK3.out.trans h)))
          go_wp2_with fail
          refine (tc_i HTA (by omega) (Lib.hid (own_Lg HL1.out H8.out)) (Lib.hid H7.out.2.2)).mono ?_
          rintro e W5 ⟨rfl, b⟩
          have H11 := Lib.hid (show St w A n zs W5 from H7.out.step b)
          have H12 := Lib.hid (show W5.ownsRow (w.heap.size) 87 5 (.slice A1 L1 c1) L1 (flatLg t1) from row_below H8.out b)
          have H13 := Lib.hid (show W5.ownsRow (W1.heap.size) 3 1 (.slice Aca K1 cca) K1 (ints.intsV I1) from row_below H9.out b)
          clear b H7 H8 H9
          go_wp2_with fail
          refine (ps_i HI2 HGO (by omega) (Lib.hid (own_Lg HL1.out H12.out)) (Lib.hid H11.out.2.2)).mono ?_
          rintro e W6 ⟨vr, rfl, ho, b⟩
          rw [HK2.out] at ho
          obtain ⟨Apl, cpl, rfl⟩ := base.row_slice ho
          have HRpl := Lib.hid ho
          clear ho
          have H14 := Lib.hid (show St w A n zs W6 from H11.out.step b)
          have H15 := Lib.hid (show W6.ownsRow (w.heap.size) 87 5 (.slice A1 L1 c1) L1 (flatLg t1) from row_below H12.out b)
          have H16 := Lib.hid (show W6.ownsRow (W1.heap.size) 3 1 (.slice Aca K1 cca) K1 (ints.intsV I1) from row_below H13.out b)
          clear b H11 H12 H13
          go_wp2_with fail
          refine (cl_i HI3 HGO (by omega) (Lib.hid (own_Lg HL1.out H15.out)) (Lib.hid H14.out.2.2)).mono ?_
          rintro e W7 ⟨vr, rfl, ho, b⟩
          rw [HK3.out] at ho
          obtain ⟨Acl, ccl, rfl⟩ := base.row_slice ho
          have HRcl := Lib.hid ho
          clear ho
          have H17 := Lib.hid (show St w A n zs W7 from H14.out.step b)
          have H18 := Lib.hid (show W7.ownsRow (w.heap.size) 87 5 (.slice A1 L1 c1) L1 (flatLg t1) from row_below H15.out b)
          have H19 := Lib.hid (show W7.ownsRow (W1.heap.size) 3 1 (.slice Aca K1 cca) K1 (ints.intsV I1) from row_below H16.out b)
          have H20 := Lib.hid (show W7.ownsRow (W5.heap.size) 3 1 (.slice Apl K2 cpl) K2 (ints.intsV I2) from row_below HRpl.out b)
          clear b H14 H15 H16 HRpl
          go_upto_region 12 with fail
          go_cut [125] (fun t wx => t = .bool false ∧ wx = W7)
          case first => as_aux_lemma =>
            have hdd : decide (d1 < 1) = false := by simp; omega
            by_cases hk3 : K3 = 0
            · obtain rfl := HONE.out hk3
              subst hk3
              go_wp2_with fail
              go_meet
              case rel => exact ⟨rfl, rfl⟩
            · have z1 : ((K3 : Int) == 0) = false := by simp; omega
              have z2 : (K3 == 0) = false := by simpa using hk3
              by_cases hd : d1 = 1
              · subst hd
                go_wp2_with fail
                go_meet
                case rel => exact ⟨rfl, rfl⟩
              · have z3 : (d1 == 1) = false := by simpa using hd
                have z4 : decide (d1 = 1) = false := by simpa using hd
                go_wp2_with fail
                go_meet
                case rel => exact ⟨rfl, rfl⟩
          case rest => as_aux_lemma =>
            obtain ⟨rfl, hw⟩ := hcut
            rw [hw]
            clear hw HONE HTA
            clear HRcl
            go_wp2_with fail
            go_loopw [17] (fun i wr => ∃ k : Nat, k ≤ K1 ∧ i = .int .i64 k ∧ St w A n zs wr ∧ wr.ownsRow (w.heap.size) 87 5 (.slice A1 L1 c1) L1 (flatLg t1) ∧ wr.ownsRow (W1.heap.size) 3 1 (.slice Aca K1 cca) K1 (ints.intsV I1) ∧ wr.ownsRow (W5.heap.size) 3 1 (.slice Apl K2 cpl) K2 (ints.intsV I2)) (fun i _ => K1 - (intOf i).toNat)
            case atStart => exact ⟨0, Nat.zero_le _, rfl, H17.out, H18.out, H19.out, H20.out⟩
            case round =>
              obtain ⟨k, hk, rfl, r_S, r_l1, r_ca, r_pl⟩ := hrel
              have Ra_S := Lib.hid r_S
              have Ra_l1 := Lib.hid r_l1
              have Ra_ca := Lib.hid r_ca
              have Ra_pl := Lib.hid r_pl
              clear r_S r_l1 r_ca r_pl H17 H18 H19 H20
              have hk0 : 0 ≤ (k : Int) := by omega
              by_cases hlt : k < K1
              · skip
                have hki : (k : Int) < (K1 : Int) := by omega
                have hkd : decide (k < K1) = true := by simpa using hlt
                obtain ⟨x, hx⟩ : ∃ x, I1[k]? = some x := ⟨_, List.getElem?_eq_getElem (by rw [HK1.out]; exact hlt)⟩
                have HX := Lib.hid hx
                obtain ⟨g, hA, -⟩ := (ints.IL.of_own Ra_ca.out).2 k x hx
                subst hA
                clear hx
                obtain ⟨b, HBQ⟩ : ∃ b, Hid (mem I2 (k : Int) = b) := ⟨_, Lib.hid rfl⟩
                have HZ := Lib.hid (show b = false → x = 0 from fun e => far_zero HGO.out HXI.out HX.out (by rw [HI2.out, HBQ.out]; exact e))
                go_wp2_with fail
                refine (vhas_b HBQ (by omega) (Lib.hid (ints.IL.of_own Ra_pl.out))).mono ?_
                rintro e W8 ⟨rfl, b⟩
                have H21 := Lib.hid (show St w A n zs W8 from Ra_S.out.step b)
                have H22 := Lib.hid (show W8.ownsRow (w.heap.size) 87 5 (.slice A1 L1 c1) L1 (flatLg t1) from row_below Ra_l1.out b)
                have H23 := Lib.hid (show W8.ownsRow (W1.heap.size) 3 1 (.slice (some ⟨g, 0, none⟩) K1 cca) K1 (ints.intsV I1) from row_below Ra_ca.out b)
                have H24 := Lib.hid (show W8.ownsRow (W5.heap.size) 3 1 (.slice Apl K2 cpl) K2 (ints.intsV I2) from row_below Ra_pl.out b)
                clear b Ra_S Ra_l1 Ra_ca Ra_pl
                cases b
                · obtain rfl := HZ.out rfl
                  clear HZ
                  have c0 : W8.cell? ⟨g, k, none⟩ = some (.int .i64 0) := by obtain ⟨g1, e, c⟩ := (ints.IL.of_own H23.out).2 k 0 HX.out; injection e with e; injection e with e; subst e; exact c
                  have c0l : g < W8.heap.size := (H23.out.lt g rfl).2
                  go_wp2_with fail
                  go_roundw
                  case rel => exact ⟨k + 1, by omega, by go_num, H21.out, H22.out, H23.out, H24.out⟩
                  case measure => simp [intOf]; omega
                · clear HZ
                  go_wp2_with fail
                  go_roundw
                  case rel => exact ⟨k + 1, by omega, by go_num, H21.out, H22.out, H23.out, H24.out⟩
                  case measure => simp [intOf]; omega
              · skip
                have hkd : decide (k < K1) = false := by simpa using hlt
                have hkn : ¬ (k : Int) < (K1 : Int) := by omega
                clear hlt hk
                clear Ra_pl
                obtain ⟨b2, four, hbf, hfb⟩ := bl_form HG1.out
                rw [HXI.out, HTC.out] at hbf
                have HBF := Lib.hid hbf
                have HFB := Lib.hid hfb
                clear hbf hfb
                go_upto_if 144 with fail
                go_cut [18] (fun _ wx => St w A n zs wx ∧ wx.ownsRow (w.heap.size) 87 5 (.slice A1 L1 c1) L1 (flatLg t1))
                case first => as_aux_lemma =>
                  by_cases hle : d1 ≤ 100000
                  · have hld : decide (d1 ≤ 100000) = true := by simpa using hle
                    go_wp2_with fail
                    refine (bl_i HBF (by omega) (by omega) (Lib.hid (own_Lg HL1.out Ra_l1.out)) (Lib.hid (own_In HK1.out Ra_ca.out)) (Lib.hid Ra_S.out.2.2)).mono ?_
                    rintro e W9 ⟨rfl, b⟩
                    have H25 := Lib.hid (show St w A n zs W9 from Ra_S.out.step b)
                    have H26 := Lib.hid (show W9.ownsRow (w.heap.size) 87 5 (.slice A1 L1 c1) L1 (flatLg t1) from row_below Ra_l1.out b)
                    have H27 := Lib.hid (show W9.ownsRow (W1.heap.size) 3 1 (.slice Aca K1 cca) K1 (ints.intsV I1) from row_below Ra_ca.out b)
                    clear b Ra_S Ra_l1 Ra_ca
                    cases four
                    · go_wp2_with fail
                      go_meet
                      case rel => exact ⟨H25.out, H26.out⟩
                    · obtain rfl := HFB.out rfl
                      go_wp2_with fail
                      go_meet
                      case rel => exact ⟨H25.out, H26.out⟩
                  · have hld : decide (d1 ≤ 100000) = false := by simpa using hle
                    go_wp2_with fail
                    go_meet
                    case rel => exact ⟨Ra_S.out, Ra_l1.out⟩
                case rest => as_aux_lemma =>
                  have H28 := Lib.hid hcut.1
                  have H29 := Lib.hid hcut.2
                  clear hcut HBF HFB Ra_S Ra_l1 Ra_ca
                  go_wp2_with fail
                  refine (br_i HI4 HGO (by omega) (Lib.hid (own_Lg HL1.out H29.out)) (Lib.hid H28.out.2.2)).mono ?_
                  rintro e W10 ⟨vr, rfl, ho, b⟩
                  rw [HK4.out] at ho
                  obtain ⟨Aba, cba, rfl⟩ := base.row_slice ho
                  have HRba := Lib.hid ho
                  clear ho
                  have H30 := Lib.hid (show St w A n zs W10 from H28.out.step b)
                  have H31 := Lib.hid (show W10.ownsRow (w.heap.size) 87 5 (.slice A1 L1 c1) L1 (flatLg t1) from row_below H29.out b)
                  clear b H28 H29
                  go_wp2_with fail
                  go_loopw [22] (fun i wr => ∃ k : Nat, k ≤ K4 ∧ i = .int .i64 k ∧ St w A n zs wr ∧ wr.ownsRow (w.heap.size) 87 5 (.slice A1 L1 c1) L1 (flatLg t1) ∧ wr.ownsRow (wc.heap.size) 3 1 (.slice Aba K4 cba) K4 (ints.intsV I4)) (fun i _ => K4 - (intOf i).toNat)
                  case atStart => exact ⟨0, Nat.zero_le _, rfl, H30.out, H31.out, HRba.out⟩
                  case round =>
                    obtain ⟨k, hk, rfl, r_S, r_l1, r_ba⟩ := hrel
                    have Rb_S := Lib.hid r_S
                    have Rb_l1 := Lib.hid r_l1
                    have Rb_ba := Lib.hid r_ba
                    clear r_S r_l1 r_ba H30 H31 HRba
                    have hk0 : 0 ≤ (k : Int) := by omega
                    by_cases hlt : k < K4
                    · skip
                      have hki : (k : Int) < (K4 : Int) := by omega
                      have hkd : decide (k < K4) = true := by simpa using hlt
                      obtain ⟨x, hx⟩ : ∃ x, I4[k]? = some x := ⟨_, List.getElem?_eq_getElem (by rw [HK4.out]; exact hlt)⟩
                      have HX := Lib.hid hx
                      obtain ⟨g, hA, -⟩ := (ints.IL.of_own Rb_ba.out).2 k x hx
                      subst hA
                      clear hx
                      have HRY := Lib.hid (br_res (ax := q1) HG1.out (show x ∈ brIds t1 by rw [HI4.out]; exact List.mem_of_getElem? HX.out))
                      have c0 : wr.cell? ⟨g, k, none⟩ = some (.int .i64 x) := by obtain ⟨g1, e, c⟩ := (ints.IL.of_own Rb_ba.out).2 k x HX.out; injection e with e; injection e with e; subst e; exact c
                      have c0l : g < wr.heap.size := (Rb_ba.out.lt g rfl).2
                      go_wp2_with fail
                      clear c0 c0l
                      refine (rs_i HRY (by omega) (Lib.hid (own_Lg HL1.out Rb_l1.out)) (Lib.hid Rb_S.out.2.2)).mono ?_
                      rintro e W11 ⟨rfl, b⟩
                      have H32 := Lib.hid (show St w A n zs W11 from Rb_S.out.step b)
                      have H33 := Lib.hid (show W11.ownsRow (w.heap.size) 87 5 (.slice A1 L1 c1) L1 (flatLg t1) from row_below Rb_l1.out b)
                      have H34 := Lib.hid (show W11.ownsRow (wc.heap.size) 3 1 (.slice (some ⟨g, 0, none⟩) K4 cba) K4 (ints.intsV I4) from row_below Rb_ba.out b)
                      clear b Rb_S Rb_l1 Rb_ba
                      go_wp2_with fail
                      go_roundw
                      case rel => exact ⟨k + 1, by omega, by go_num, H32.out, H33.out, H34.out⟩
                      case measure => simp [intOf]; omega
                    · skip
                      have hkd : decide (k < K4) = false := by simpa using hlt
                      have hkn : ¬ (k : Int) < (K4 : Int) := by omega
                      clear hlt hk
                      go_wp2_with fail
                      go_meet
                      case rel => exact Rb_S.out
  case rest =>
    as_aux_lemma =>
        have H35 := Lib.hid hcut
        clear hcut H7 H8 H9
        clear HI1 HK1 hK1 HD1 HG1
        go_wp2_with fail
        refine (dcv.residualOf_draw A n cap zs _ (Lib.hid H35.out.2.1)).mono ?_
        rintro e W12 ⟨v2, t2, a2, q2, rfl, ho, hl2, ⟨a2a, a2b⟩, ⟨q2a, q2b⟩, b⟩
        obtain ⟨L2, HL2⟩ : ∃ L, Hid (t2.length = L) := ⟨_, Lib.hid rfl⟩
        rw [HL2.out] at ho hl2
        obtain ⟨A2, c2, rfl⟩ := base.row_slice ho
        have HR2 := Lib.hid ho
        clear ho
        have H36 := Lib.hid (show St w A n zs W12 from H35.out.step b)
        clear b H35
        obtain ⟨r2, s2, f2, hf, -⟩ := rs_form t2 a2 q2
        have HF := Lib.hid hf
        clear hf
        go_wp2_with fail
        refine (rs_i HF (by omega) (Lib.hid (own_Lg HL2.out HR2.out)) (Lib.hid H36.out.2.2)).mono ?_
        rintro e W13 ⟨rfl, b⟩
        have H37 := Lib.hid (show St w A n zs W13 from H36.out.step b)
        have H38 := Lib.hid (show W13.ownsRow (wc.heap.size) 87 5 (.slice A2 L2 c2) L2 (flatLg t2) from row_below HR2.out b)
        clear b H36 HR2
        go_wp2_with fail
        refine (rs_m HF (by omega) (Lib.hid (own_Lg HL2.out H38.out))).mono ?_
        rintro e W14 ⟨rfl, b⟩
        have H39 := Lib.hid (show St w A n zs W14 from H37.out.step b)
        have H40 := Lib.hid (show W14.ownsRow (wc.heap.size) 87 5 (.slice A2 L2 c2) L2 (flatLg t2) from row_below H38.out b)
        clear b H37 H38
        clear HF
        go_wp2_with fail
        refine (dcv.isBalanced_draw A n cap zs _ (Lib.hid H39.out.2.1)).mono ?_
        rintro e W15 ⟨v3, u3, t3, q3, d3, s3, rfl, ho, hl3, ⟨q3a, q3b⟩, hp, hs3, b⟩
        obtain ⟨L3, HL3⟩ : ∃ L, Hid (t3.length = L) := ⟨_, Lib.hid rfl⟩
        rw [HL3.out] at ho hl3
        obtain ⟨A3, c3, rfl⟩ := base.row_slice ho
        have HR3 := Lib.hid ho
        obtain ⟨M3, HM3⟩ : ∃ L, Hid (s3.length = L) := ⟨_, Lib.hid rfl⟩
        rw [HM3.out] at hp hs3
        obtain ⟨B3, e3, rfl⟩ := base.row_slice hp
        have HP3 := Lib.hid hp
        clear ho hp
        have H41 := Lib.hid (show St w A n zs W15 from H39.out.step b)
        have H42 := Lib.hid (show W15.ownsRow (wc.heap.size) 87 5 (.slice A2 L2 c2) L2 (flatLg t2) from row_below H40.out b)
        clear b H39 H40
        obtain ⟨b3, f3, hf⟩ : ∃ (b f : Bool), ansBl t3 q3 s3 d3 = .tuple #[.bool b, .bool f] := by unfold ansBl; split <;> exact ⟨_, _, rfl⟩
        have HF := Lib.hid hf
        clear hf
        go_wp2_with fail
        refine (bl_i HF (by omega) (by omega) (Lib.hid (own_Lg HL3.out HR3.out)) (Lib.hid (own_In HM3.out HP3.out)) (Lib.hid H41.out.2.2)).mono ?_
        rintro e W16 ⟨rfl, b⟩
        have H43 := Lib.hid (show St w A n zs W16 from H41.out.step b)
        have H44 := Lib.hid (show W16.ownsRow (wc.heap.size) 87 5 (.slice A2 L2 c2) L2 (flatLg t2) from row_below H42.out b)
        have H45 := Lib.hid (show W16.ownsRow (W14.heap.size) 87 5 (.slice A3 L3 c3) L3 (flatLg t3) from row_below HR3.out b)
        have H46 := Lib.hid (show W16.ownsRow (W14.heap.size) 3 1 (.slice B3 M3 e3) M3 (ints.intsV s3) from row_below HP3.out b)
        clear b H41 H42 HR3 HP3
        go_wp2_with fail
        refine (bl_m HF (by omega) (by omega) (Lib.hid (own_Lg HL3.out H45.out)) (Lib.hid (own_In HM3.out H46.out))).mono ?_
        rintro e W17 ⟨rfl, b⟩
        have H47 := Lib.hid (show St w A n zs W17 from H43.out.step b)
        have H48 := Lib.hid (show W17.ownsRow (wc.heap.size) 87 5 (.slice A2 L2 c2) L2 (flatLg t2) from row_below H44.out b)
        have H49 := Lib.hid (show W17.ownsRow (W14.heap.size) 87 5 (.slice A3 L3 c3) L3 (flatLg t3) from row_below H45.out b)
        have H50 := Lib.hid (show W17.ownsRow (W14.heap.size) 3 1 (.slice B3 M3 e3) M3 (ints.intsV s3) from row_below H46.out b)
        clear b H43 H44 H45 H46
        cases b3 <;> cases f3
        · go_wp2_with fail
          go_ret
          exact ⟨rfl, H47.out.1⟩
        · go_wp2_with fail
          go_ret
          exact ⟨rfl, H47.out.1⟩
        · go_wp2_with fail
          go_ret
          exact ⟨rfl, H47.out.1⟩
        · go_wp2_with fail
          go_ret
          exact ⟨rfl, H47.out.1⟩
end Go.Proofs.YtnpghhpcloljeabGreatDoor.adc
