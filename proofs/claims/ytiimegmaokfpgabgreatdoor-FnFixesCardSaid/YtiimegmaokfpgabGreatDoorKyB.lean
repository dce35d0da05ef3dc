/-
  FnFixes: the law's walk.
  Conditions: the code has at most 65536 bytes; the variable holds the table of the sines.
-/
import Derived.Test.YtiimegmaokfpgabGreatDoorKyZ
import Derived.Test.YtiimegmaokfpgabGreatDoorDyN
import Derived.Deep.RegionHeld3
import Derived.OwnWalk
namespace Go.Proofs.YtiimegmaokfpgabGreatDoor.kyb
open Go.RowKit
open reads base ty win lg rowi hs nt nq ml lp bl nw
set_option linter.unusedVariables false
set_option linter.unusedSimpArgs false

theorem row_nil {w : World} {b s n c m : Nat} {e : TypeId} {xs : List Value} (h : w.ownsRow b e s (.slice none n c) m xs) : c = 0 := by
  rcases h.2 with ⟨e1, e2⟩ | ⟨g, cp, cur, e1, _⟩
  · injection e1
  · injection e1 with e2; cases e2

set_option maxHeartbeats 16000000 in
set_option maxRecDepth 100000 in
theorem walk (A : Option Addr) (n cap : Nat) (zs : List UInt8) (w : World) (hn : n ≤ 65536) (hS : Hid (St w A n zs w)) :
    Calls Tryz.prog 6 #[.slice A n cap] w (LawPost w) := by
  have HB := Lib.hid (vs.big_no A n cap w hn)
  clear hn
  go_enter Tryz.func6, Tryz.ntmps6
  go_wp2_with fail
  refine HB.out.mono ?_
  rintro e w' ⟨rfl, rfl⟩
  clear HB
  go_wp2_with fail
  refine (dcv.fix_draw A n cap zs _ (Lib.hid hS.out.2.1)).mono ?_
  rintro e W1 ⟨v1, t1, q1, f1, rfl, ho, hl1, ⟨q1a, q1b⟩, ⟨f1a, f1b⟩, b⟩
  obtain ⟨L1, HL1⟩ : ∃ L, Hid (t1.length = L) := ⟨_, Lib.hid rfl⟩
  rw [HL1.out] at ho hl1
  obtain ⟨A1, c1, rfl⟩ := base.row_slice ho
  have HR1 := Lib.hid ho
  clear ho
  have H1 := Lib.hid (show St w A n zs W1 from hS.out.step b)
  clear b hS
  obtain ⟨U, HU⟩ : ∃ q, Hid (fxTs t1 q1 f1 = q) := ⟨_, Lib.hid rfl⟩
  obtain ⟨M, HM⟩ : ∃ q, Hid (U.length = q) := ⟨_, Lib.hid rfl⟩
  obtain ⟨ok1, Hok1⟩ : ∃ q, Hid (canB t1 q1 f1 = q) := ⟨_, Lib.hid rfl⟩
  have hM : M ≤ 13 := by have := fxTs_len t1 q1 f1; rw [HU.out, HM.out, HL1.out] at this; omega
  go_wp2_with fail
  refine (fx_i HU HM Hok1 (by omega) (Lib.hid (own_Lg HL1.out HR1.out)) (Lib.hid H1.out.2.2)).mono ?_
  rintro e W2 ⟨Aout, cout, rfl, ho, b⟩
  have HRout := Lib.hid ho
  clear ho
  have H2 := Lib.hid (show St w A n zs W2 from H1.out.step b)
  have H3 := Lib.hid (show W2.ownsRow (w.heap.size) 87 5 (.slice A1 L1 c1) L1 (flatLg t1) from row_below HR1.out b)
  clear b H1 HR1
  go_wp2_with fail
  refine (fx_m HU HM Hok1 (by omega) (Lib.hid (own_Lg HL1.out H3.out))).mono ?_
  rintro e W3 ⟨Awant, cwant, rfl, ho, b⟩
  have HRwant := Lib.hid ho
  clear ho
  have H4 := Lib.hid (show St w A n zs W3 from H2.out.step b)
  have H5 := Lib.hid (show W3.ownsRow (w.heap.size) 87 5 (.slice A1 L1 c1) L1 (flatLg t1) from row_below H3.out b)
  have H6 := Lib.hid (show W3.ownsRow (W1.heap.size) 87 5 (.slice Aout M cout) M (flatLg U) from row_below HRout.out b)
  clear b H2 H3 HRout
  go_wp2_with fail
  refine (vlg.vlegs_any _ _ _ _ _ U _ (by omega) (Lib.hid (own_Lg HM.out H6.out)) (Lib.hid (own_Lg HM.out HRwant.out))).mono ?_
  rintro e W4 ⟨rfl, b⟩
  have H7 := Lib.hid (show St w A n zs W4 from H4.out.step b)
  have H8 := Lib.hid (show W4.ownsRow (w.heap.size) 87 5 (.slice A1 L1 c1) L1 (flatLg t1) from row_below H5.out b)
  have H9 := Lib.hid (show W4.ownsRow (W1.heap.size) 87 5 (.slice Aout M cout) M (flatLg U) from row_below H6.out b)
  have H10 := Lib.hid (show W4.ownsRow (W2.heap.size) 87 5 (.slice Awant M cwant) M (flatLg U) from row_below HRwant.out b)
  clear b H4 H5 H6 HRwant
  clear H10
  obtain ⟨a1, d1, hX, hY⟩ := sa_form t1 q1 f1
  rw [Hok1.out] at hX hY
  have HX := Lib.hid hX
  have HY := Lib.hid hY
  obtain ⟨b1, h1, fine, hZ, hP, hN⟩ := bf_form t1
  have HZ := Lib.hid hZ
  have HP := Lib.hid hP
  have HN := Lib.hid hN
  clear hX hY hZ hP hN
  go_wp2_with fail
  refine (sa_i HX (by omega) (Lib.hid (own_Lg HL1.out H8.out)) (Lib.hid H7.out.2.2)).mono ?_
  rintro e W5 ⟨rfl, b⟩
  have H11 := Lib.hid (show St w A n zs W5 from H7.out.step b)
  have H12 := Lib.hid (show W5.ownsRow (w.heap.size) 87 5 (.slice A1 L1 c1) L1 (flatLg t1) from row_below H8.out b)
  have H13 := Lib.hid (show W5.ownsRow (W1.heap.size) 87 5 (.slice Aout M cout) M (flatLg U) from row_below H9.out b)
  clear b H7 H8 H9
  go_wp2_with fail
  refine (sa_m HX (by omega) (Lib.hid (own_Lg HL1.out H12.out))).mono ?_
  rintro e W6 ⟨rfl, b⟩
  have H14 := Lib.hid (show St w A n zs W6 from H11.out.step b)
  have H15 := Lib.hid (show W6.ownsRow (w.heap.size) 87 5 (.slice A1 L1 c1) L1 (flatLg t1) from row_below H12.out b)
  have H16 := Lib.hid (show W6.ownsRow (W1.heap.size) 87 5 (.slice Aout M cout) M (flatLg U) from row_below H13.out b)
  clear b H11 H12 H13
  go_wp2_with fail
  refine (bf_i HZ (by omega) (Lib.hid (own_Lg HL1.out H15.out)) (Lib.hid H14.out.2.2)).mono ?_
  rintro e W7 ⟨rfl, b⟩
  have H17 := Lib.hid (show St w A n zs W7 from H14.out.step b)
  have H18 := Lib.hid (show W7.ownsRow (w.heap.size) 87 5 (.slice A1 L1 c1) L1 (flatLg t1) from row_below H15.out b)
  have H19 := Lib.hid (show W7.ownsRow (W1.heap.size) 87 5 (.slice Aout M cout) M (flatLg U) from row_below H16.out b)
  clear b H14 H15 H16
  go_wp2_with fail
  refine (bf_m HZ (by omega) (Lib.hid (own_Lg HL1.out H18.out))).mono ?_
  rintro e W8 ⟨rfl, b⟩
  have H20 := Lib.hid (show St w A n zs W8 from H17.out.step b)
  have H21 := Lib.hid (show W8.ownsRow (w.heap.size) 87 5 (.slice A1 L1 c1) L1 (flatLg t1) from row_below H18.out b)
  have H22 := Lib.hid (show W8.ownsRow (W1.heap.size) 87 5 (.slice Aout M cout) M (flatLg U) from row_below H19.out b)
  clear b H17 H18 H19
  clear HX HZ
  go_upto_if 135 with fail
  go_cut [22] (fun _ wx => St w A n zs wx ∧ wx.ownsRow (w.heap.size) 87 5 (.slice A1 L1 c1) L1 (flatLg t1) ∧ wx.ownsRow (W1.heap.size) 87 5 (.slice Aout M cout) M (flatLg U))
  case first => as_aux_lemma =>
    cases ok1
    · skip
      go_wp2_with fail
      go_meet
      case rel => exact ⟨H20.out, H21.out, H22.out⟩
    · obtain ⟨e1, e2, e3, s1, e4, e5⟩ := fx_all Hok1.out HN.out
      rw [HU.out] at e1
      rw [← e1] at e2 e3 e4
      have hst := HY.out (by first | trivial | rfl)
      rw [← e1] at hst
      have HST := Lib.hid hst
      have HE4 := Lib.hid e4
      have HE5 := Lib.hid e5
      clear e4 e5 hst e1
      obtain ⟨u1, Hu1⟩ : ∃ q, Hid (undoF f1 = q) := ⟨_, Lib.hid rfl⟩
      rw [Hu1.out] at e2 e3
      have HE2 := Lib.hid e2
      have HE3 := Lib.hid e3
      clear e2 e3
      by_cases p3 : f1 = 3
      · obtain rfl : u1 = 4 := by rw [← Hu1.out, p3]; rfl
        subst p3
        go_wp2_with fail
        refine (fx_i HE3 HL1 HE2 (by omega) (Lib.hid (own_Lg HM.out H22.out)) (Lib.hid H20.out.2.2)).mono ?_
        rintro e W9 ⟨Aback, cback, rfl, ho, b⟩
        have HRback := Lib.hid ho
        clear ho
        have H23 := Lib.hid (show St w A n zs W9 from H20.out.step b)
        have H24 := Lib.hid (show W9.ownsRow (w.heap.size) 87 5 (.slice A1 L1 c1) L1 (flatLg t1) from row_below H21.out b)
        have H25 := Lib.hid (show W9.ownsRow (W1.heap.size) 87 5 (.slice Aout M cout) M (flatLg U) from row_below H22.out b)
        clear b H20 H21 H22
        go_wp2_with fail
        refine (st_i HST (by omega) (Lib.hid (own_Lg HM.out H25.out)) (Lib.hid H23.out.2.2)).mono ?_
        rintro e W10 ⟨rfl, b⟩
        have H26 := Lib.hid (show St w A n zs W10 from H23.out.step b)
        have H27 := Lib.hid (show W10.ownsRow (w.heap.size) 87 5 (.slice A1 L1 c1) L1 (flatLg t1) from row_below H24.out b)
        have H28 := Lib.hid (show W10.ownsRow (W1.heap.size) 87 5 (.slice Aout M cout) M (flatLg U) from row_below H25.out b)
        have H29 := Lib.hid (show W10.ownsRow (W8.heap.size) 87 5 (.slice Aback L1 cback) L1 (flatLg t1) from row_below HRback.out b)
        clear b H23 H24 H25 HRback
        go_wp2_with fail
        refine (vlg.vlegs_any _ _ _ _ _ t1 _ (by omega) (Lib.hid (own_Lg HL1.out H29.out)) (Lib.hid (own_Lg HL1.out H27.out))).mono ?_
        rintro e W11 ⟨rfl, b⟩
        have H30 := Lib.hid (show St w A n zs W11 from H26.out.step b)
        have H31 := Lib.hid (show W11.ownsRow (w.heap.size) 87 5 (.slice A1 L1 c1) L1 (flatLg t1) from row_below H27.out b)
        have H32 := Lib.hid (show W11.ownsRow (W1.heap.size) 87 5 (.slice Aout M cout) M (flatLg U) from row_below H28.out b)
        have H33 := Lib.hid (show W11.ownsRow (W8.heap.size) 87 5 (.slice Aback L1 cback) L1 (flatLg t1) from row_below H29.out b)
        clear b H26 H27 H28 H29
        clear H33
        go_wp2_with fail
        refine (cs_i HE4 (by omega) (by omega) (Lib.hid (own_Lg HM.out H32.out)) (Lib.hid (own_Lg HL1.out H31.out)) (Lib.hid H30.out.2.2)).mono ?_
        rintro e W12 ⟨rfl, b⟩
        have H34 := Lib.hid (show St w A n zs W12 from H30.out.step b)
        have H35 := Lib.hid (show W12.ownsRow (w.heap.size) 87 5 (.slice A1 L1 c1) L1 (flatLg t1) from row_below H31.out b)
        have H36 := Lib.hid (show W12.ownsRow (W1.heap.size) 87 5 (.slice Aout M cout) M (flatLg U) from row_below H32.out b)
        clear b H30 H31 H32
        by_cases hs1 : s1 < 0
        · obtain rfl : fine = true := HE5.out hs1
          go_wp2_with fail
          go_meet
          case rel => exact ⟨H34.out, H35.out, H36.out⟩
        · skip
          go_wp2_with fail
          go_meet
          case rel => exact ⟨H34.out, H35.out, H36.out⟩
      · have z3 : ((f1 : Int) == 3) = false := by simp; omega
        by_cases p4 : f1 = 4
        · obtain rfl : u1 = 3 := by rw [← Hu1.out, p4]; rfl
          subst p4
          go_wp2_with fail
          refine (fx_i HE3 HL1 HE2 (by omega) (Lib.hid (own_Lg HM.out H22.out)) (Lib.hid H20.out.2.2)).mono ?_
          rintro e W9 ⟨Aback, cback, rfl, ho, b⟩
          have HRback := Lib.hid ho
          clear ho
          have H23 := Lib.hid (show St w A n zs W9 from H20.out.step b)
          have H24 := Lib.hid (show W9.ownsRow (w.heap.size) 87 5 (.slice A1 L1 c1) L1 (flatLg t1) from row_below H21.out b)
          have H25 := Lib.hid (show W9.ownsRow (W1.heap.size) 87 5 (.slice Aout M cout) M (flatLg U) from row_below H22.out b)
          clear b H20 H21 H22
          go_wp2_with fail
          refine (st_i HST (by omega) (Lib.hid (own_Lg HM.out H25.out)) (Lib.hid H23.out.2.2)).mono ?_
          rintro e W10 ⟨rfl, b⟩
          have H26 := Lib.hid (show St w A n zs W10 from H23.out.step b)
          have H27 := Lib.hid (show W10.ownsRow (w.heap.size) 87 5 (.slice A1 L1 c1) L1 (flatLg t1) from row_below H24.out b)
          have H28 := Lib.hid (show W10.ownsRow (W1.heap.size) 87 5 (.slice Aout M cout) M (flatLg U) from row_below H25.out b)
          have H29 := Lib.hid (show W10.ownsRow (W8.heap.size) 87 5 (.slice Aback L1 cback) L1 (flatLg t1) from row_below HRback.out b)
          clear b H23 H24 H25 HRback
          go_wp2_with fail
          refine (vlg.vlegs_any _ _ _ _ _ t1 _ (by omega) (Lib.hid (own_Lg HL1.out H29.out)) (Lib.hid (own_Lg HL1.out H27.out))).mono ?_
          rintro e W11 ⟨rfl, b⟩
          have H30 := Lib.hid (show St w A n zs W11 from H26.out.step b)
          have H31 := Lib.hid (show W11.ownsRow (w.heap.size) 87 5 (.slice A1 L1 c1) L1 (flatLg t1) from row_below H27.out b)
          have H32 := Lib.hid (show W11.ownsRow (W1.heap.size) 87 5 (.slice Aout M cout) M (flatLg U) from row_below H28.out b)
          have H33 := Lib.hid (show W11.ownsRow (W8.heap.size) 87 5 (.slice Aback L1 cback) L1 (flatLg t1) from row_below H29.out b)
          clear b H26 H27 H28 H29
          clear H33
          go_wp2_with fail
          refine (cs_i HE4 (by omega) (by omega) (Lib.hid (own_Lg HM.out H32.out)) (Lib.hid (own_Lg HL1.out H31.out)) (Lib.hid H30.out.2.2)).mono ?_
          rintro e W12 ⟨rfl, b⟩
          have H34 := Lib.hid (show St w A n zs W12 from H30.out.step b)
          have H35 := Lib.hid (show W12.ownsRow (w.heap.size) 87 5 (.slice A1 L1 c1) L1 (flatLg t1) from row_below H31.out b)
          have H36 := Lib.hid (show W12.ownsRow (W1.heap.size) 87 5 (.slice Aout M cout) M (flatLg U) from row_below H32.out b)
          clear b H30 H31 H32
          by_cases hs1 : s1 < 0
          · obtain rfl : fine = true := HE5.out hs1
            go_wp2_with fail
            go_meet
            case rel => exact ⟨H34.out, H35.out, H36.out⟩
          · skip
            go_wp2_with fail
            go_meet
            case rel => exact ⟨H34.out, H35.out, H36.out⟩
        · have z4 : ((f1 : Int) == 4) = false := by simp; omega
          obtain rfl : u1 = f1 := by rw [← Hu1.out]; unfold undoF; rw [if_neg p3, if_neg p4]
          go_wp2_with fail
          refine (fx_i HE3 HL1 HE2 (by omega) (Lib.hid (own_Lg HM.out H22.out)) (Lib.hid H20.out.2.2)).mono ?_
          rintro e W9 ⟨Aback, cback, rfl, ho, b⟩
          have HRback := Lib.hid ho
          clear ho
          have H23 := Lib.hid (show St w A n zs W9 from H20.out.step b)
          have H24 := Lib.hid (show W9.ownsRow (w.heap.size) 87 5 (.slice A1 L1 c1) L1 (flatLg t1) from row_below H21.out b)
          have H25 := Lib.hid (show W9.ownsRow (W1.heap.size) 87 5 (.slice Aout M cout) M (flatLg U) from row_below H22.out b)
          clear b H20 H21 H22
          go_wp2_with fail
          refine (st_i HST (by omega) (Lib.hid (own_Lg HM.out H25.out)) (Lib.hid H23.out.2.2)).mono ?_
          rintro e W10 ⟨rfl, b⟩
          have H26 := Lib.hid (show St w A n zs W10 from H23.out.step b)
          have H27 := Lib.hid (show W10.ownsRow (w.heap.size) 87 5 (.slice A1 L1 c1) L1 (flatLg t1) from row_below H24.out b)
          have H28 := Lib.hid (show W10.ownsRow (W1.heap.size) 87 5 (.slice Aout M cout) M (flatLg U) from row_below H25.out b)
          have H29 := Lib.hid (show W10.ownsRow (W8.heap.size) 87 5 (.slice Aback L1 cback) L1 (flatLg t1) from row_below HRback.out b)
          clear b H23 H24 H25 HRback
          go_wp2_with fail
          refine (vlg.vlegs_any _ _ _ _ _ t1 _ (by omega) (Lib.hid (own_Lg HL1.out H29.out)) (Lib.hid (own_Lg HL1.out H27.out))).mono ?_
          rintro e W11 ⟨rfl, b⟩
          have H30 := Lib.hid (show St w A n zs W11 from H26.out.step b)
          have H31 := Lib.hid (show W11.ownsRow (w.heap.size) 87 5 (.slice A1 L1 c1) L1 (flatLg t1) from row_below H27.out b)
          have H32 := Lib.hid (show W11.ownsRow (W1.heap.size) 87 5 (.slice Aout M cout) M (flatLg U) from row_below H28.out b)
          have H33 := Lib.hid (show W11.ownsRow (W8.heap.size) 87 5 (.slice Aback L1 cback) L1 (flatLg t1) from row_below H29.out b)
          clear b H26 H27 H28 H29
          clear H33
          go_wp2_with fail
          refine (cs_i HE4 (by omega) (by omega) (Lib.hid (own_Lg HM.out H32.out)) (Lib.hid (own_Lg HL1.out H31.out)) (Lib.hid H30.out.2.2)).mono ?_
          rintro e W12 ⟨rfl, b⟩
          have H34 := Lib.hid (show St w A n zs W12 from H30.out.step b)
          have H35 := Lib.hid (show W12.ownsRow (w.heap.size) 87 5 (.slice A1 L1 c1) L1 (flatLg t1) from row_below H31.out b)
          have H36 := Lib.hid (show W12.ownsRow (W1.heap.size) 87 5 (.slice Aout M cout) M (flatLg U) from row_below H32.out b)
          clear b H30 H31 H32
          by_cases hs1 : s1 < 0
          · obtain rfl : fine = true := HE5.out hs1
            go_wp2_with fail
            go_meet
            case rel => exact ⟨H34.out, H35.out, H36.out⟩
          · skip
            go_wp2_with fail
            go_meet
            case rel => exact ⟨H34.out, H35.out, H36.out⟩
  case rest => as_aux_lemma =>
    obtain ⟨hco_S, hco_l1, hco_out⟩ := hcut
    have H23 := Lib.hid hco_S
    have H24 := Lib.hid hco_l1
    have H25 := Lib.hid hco_out
    clear hco_S hco_l1 hco_out H20 H21 H22 HY
    go_upto_if 193 with fail
    go_cut [30] (fun _ wx => St w A n zs wx)
    case first => as_aux_lemma =>
      cases fine
      · skip
        go_wp2_with fail
        go_meet
        case rel => exact H23.out
      · have hbv := HP.out (by first | trivial | rfl)
        obtain ⟨k1, k2, s2, k3, k4⟩ := bf_all hbv
        obtain ⟨F, HF⟩ : ∃ q, Hid (fixTs t1 b1 h1 = q) := ⟨_, Lib.hid rfl⟩
        obtain ⟨G, HG⟩ : ∃ q, Hid (F.length = q) := ⟨_, Lib.hid rfl⟩
        have HBV := Lib.hid hbv
        have HK1 := Lib.hid k1
        rw [HF.out] at k2 k3
        have HK2 := Lib.hid k2
        have HK3 := Lib.hid k3
        have hG : G ≤ 13 := by have := fxTs_len t1 b1 h1; rw [k2, HG.out, HL1.out] at this; omega
        have d2 : ¬ (0 ≤ s2) := by omega
        clear hbv k1 k2 k3
        go_wp2_with fail
        refine (fx_i HK2 HG HK1 (by omega) (Lib.hid (own_Lg HL1.out H24.out)) (Lib.hid H23.out.2.2)).mono ?_
        rintro e W9 ⟨Afixed, cfixed, rfl, ho, b⟩
        have HRfixed := Lib.hid ho
        clear ho
        have H26 := Lib.hid (show St w A n zs W9 from H23.out.step b)
        have H27 := Lib.hid (show W9.ownsRow (w.heap.size) 87 5 (.slice A1 L1 c1) L1 (flatLg t1) from row_below H24.out b)
        have H28 := Lib.hid (show W9.ownsRow (W1.heap.size) 87 5 (.slice Aout M cout) M (flatLg U) from row_below H25.out b)
        clear b H23 H24 H25
        go_wp2_with fail
        refine (cs_i HK3 (by omega) (by omega) (Lib.hid (own_Lg HG.out HRfixed.out)) (Lib.hid (own_Lg HL1.out H27.out)) (Lib.hid H26.out.2.2)).mono ?_
        rintro e W10 ⟨rfl, b⟩
        have H29 := Lib.hid (show St w A n zs W10 from H26.out.step b)
        have H30 := Lib.hid (show W10.ownsRow (w.heap.size) 87 5 (.slice A1 L1 c1) L1 (flatLg t1) from row_below H27.out b)
        have H31 := Lib.hid (show W10.ownsRow (W1.heap.size) 87 5 (.slice Aout M cout) M (flatLg U) from row_below H28.out b)
        have H32 := Lib.hid (show W10.ownsRow (wc.heap.size) 87 5 (.slice Afixed G cfixed) G (flatLg F) from row_below HRfixed.out b)
        clear b H26 H27 H28 HRfixed
        cases ok1
        · skip
          go_wp2_with fail
          go_meet
          case rel => exact H29.out
        · obtain ⟨s3, m1, m2⟩ := bf_two HBV.out Hok1.out
          have eU : fixTs t1 q1 f1 = U := by rw [← HU.out]; unfold fxTs; rw [if_pos Hok1.out]
          rw [HF.out, eU] at m1
          have HM1 := Lib.hid m1
          have d3 : ¬ (0 < s3) := by omega
          clear m1 eU
          go_wp2_with fail
          refine (cs_i HM1 (by omega) (by omega) (Lib.hid (own_Lg HG.out H32.out)) (Lib.hid (own_Lg HM.out H31.out)) (Lib.hid H29.out.2.2)).mono ?_
          rintro e W11 ⟨rfl, b⟩
          have H33 := Lib.hid (show St w A n zs W11 from H29.out.step b)
          have H34 := Lib.hid (show W11.ownsRow (w.heap.size) 87 5 (.slice A1 L1 c1) L1 (flatLg t1) from row_below H30.out b)
          have H35 := Lib.hid (show W11.ownsRow (W1.heap.size) 87 5 (.slice Aout M cout) M (flatLg U) from row_below H31.out b)
          have H36 := Lib.hid (show W11.ownsRow (wc.heap.size) 87 5 (.slice Afixed G cfixed) G (flatLg F) from row_below H32.out b)
          clear b H29 H30 H31 H32
          go_wp2_with fail
          go_meet
          case rel => exact H33.out
    case rest => as_aux_lemma =>
      have hcf_S := hcut
      clear hcut
      have H37 := Lib.hid hcf_S
      clear hcf_S H23 H24 H25 HU HM HP HN Hok1
      go_wp2_with fail
      refine (dcv.clean_draw A n cap zs _ (Lib.hid H37.out.2.1)).mono ?_
      rintro e W12 ⟨v2, t2, rfl, ho, hl2, b⟩
      obtain ⟨L2, HL2⟩ : ∃ L, Hid (t2.length = L) := ⟨_, Lib.hid rfl⟩
      rw [HL2.out] at ho hl2
      obtain ⟨A2, c2, rfl⟩ := base.row_slice ho
      have HR2 := Lib.hid ho
      clear ho
      have H38 := Lib.hid (show St w A n zs W12 from H37.out.step b)
      clear b H37
      obtain ⟨C, HC⟩ : ∃ q, Hid (clTs t2 = q) := ⟨_, Lib.hid rfl⟩
      obtain ⟨N, HN⟩ : ∃ q, Hid (C.length = q) := ⟨_, Lib.hid rfl⟩
      obtain ⟨k2, Hk2⟩ : ∃ q, Hid (clN' t2 = q) := ⟨_, Lib.hid rfl⟩
      obtain ⟨g2, Hg2⟩ : ∃ q, Hid (goodLg t2 = q) := ⟨_, Lib.hid rfl⟩
      have hN : N ≤ 13 := by have := clTs_len t2; rw [HC.out, HN.out, HL2.out] at this; omega
      have hnil : A2 = none → c2 = 0 := fun e => by subst e; exact row_nil HR2.out
      go_wp2_with fail
      refine (cl_i HC HN Hk2 Hg2 (by omega) (Lib.hid (own_Lg HL2.out HR2.out)) (Lib.hid H38.out.2.2)).mono ?_
      rintro e W13 ⟨Aclean, cclean, rfl, ho, b⟩
      have HRclean := Lib.hid ho
      clear ho
      have H39 := Lib.hid (show St w A n zs W13 from H38.out.step b)
      have H40 := Lib.hid (show W13.ownsRow (wc.heap.size) 87 5 (.slice A2 L2 c2) L2 (flatLg t2) from row_below HR2.out b)
      clear b H38 HR2
      go_wp2_with fail
      refine (cl_m HC HN Hk2 Hg2 (by omega) hnil (Lib.hid (own_Lg HL2.out H40.out))).mono ?_
      rintro e W14 ⟨Awant, cwant, rfl, ho, b⟩
      have HRwant := Lib.hid ho
      clear ho
      have H41 := Lib.hid (show St w A n zs W14 from H39.out.step b)
      have H42 := Lib.hid (show W14.ownsRow (wc.heap.size) 87 5 (.slice A2 L2 c2) L2 (flatLg t2) from row_below H40.out b)
      have H43 := Lib.hid (show W14.ownsRow (W12.heap.size) 87 5 (.slice Aclean N cclean) N (flatLg C) from row_below HRclean.out b)
      clear b H39 H40 HRclean
      go_wp2_with fail
      refine (vlg.vlegs_any _ _ _ _ _ C _ (by omega) (Lib.hid (own_Lg HN.out H43.out)) (Lib.hid (own_Lg HN.out HRwant.out))).mono ?_
      rintro e W15 ⟨rfl, b⟩
      have H44 := Lib.hid (show St w A n zs W15 from H41.out.step b)
      have H45 := Lib.hid (show W15.ownsRow (wc.heap.size) 87 5 (.slice A2 L2 c2) L2 (flatLg t2) from row_below H42.out b)
      have H46 := Lib.hid (show W15.ownsRow (W12.heap.size) 87 5 (.slice Aclean N cclean) N (flatLg C) from row_below H43.out b)
      have H47 := Lib.hid (show W15.ownsRow (W13.heap.size) 87 5 (.slice Awant N cwant) N (flatLg C) from row_below HRwant.out b)
      clear b H41 H42 H43 HRwant
      clear H47
      cases g2
      · skip
        go_wp2_with fail
        go_ret
        exact ⟨rfl, H44.out.1⟩
      · obtain ⟨s4, r1, r2, r3, r4⟩ := cl_all Hg2.out
        rw [HC.out] at r1
        rw [Hk2.out] at r3 r4
        have HR1 := Lib.hid r1
        clear r1
        go_wp2_with fail
        refine (cs_i HR1 (by omega) (by omega) (Lib.hid (own_Lg HN.out H46.out)) (Lib.hid (own_Lg HL2.out H45.out)) (Lib.hid H44.out.2.2)).mono ?_
        rintro e W16 ⟨rfl, b⟩
        have H48 := Lib.hid (show St w A n zs W16 from H44.out.step b)
        have H49 := Lib.hid (show W16.ownsRow (wc.heap.size) 87 5 (.slice A2 L2 c2) L2 (flatLg t2) from row_below H45.out b)
        have H50 := Lib.hid (show W16.ownsRow (W12.heap.size) 87 5 (.slice Aclean N cclean) N (flatLg C) from row_below H46.out b)
        clear b H44 H45 H46
        have w2 : decide (s4 ≤ 0) = true := by simpa using r2
        have w4 : decide (k2 ≤ 3) = true := by simpa using r4
        by_cases z : s4 = 0
        · have zk : k2 = 0 := by rw [decide_eq_decide] at r3; omega
          subst z
          subst zk
          go_wp2_with fail
          go_ret
          exact ⟨rfl, H48.out.1⟩
        · have zk : ¬ k2 = 0 := by rw [decide_eq_decide] at r3; omega
          have w5 : ((s4 : Int) == 0) = false := by simpa using z
          have w6 : ((k2 : Int) == 0) = false := by simpa using zk
          go_wp2_with fail
          go_ret
          exact ⟨by first | rfl | simp_all, H48.out.1⟩
#print axioms walk
end Go.Proofs.YtiimegmaokfpgabGreatDoor.kyb
