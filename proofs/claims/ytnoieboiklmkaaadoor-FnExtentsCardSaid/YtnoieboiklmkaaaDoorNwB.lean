/-
  FnExtents: the law's walk.
  Conditions: the code has at most 65536 bytes; the variable holds the table of the sines.
-/
import Derived.Test.YtnoieboiklmkaaaDoorNwM
namespace Go.Proofs.YtnoieboiklmkaaaDoor.nwb
open Go.RowKit
open reads base ty win lg rowi hs nt nq nw
set_option linter.unusedVariables false
set_option linter.unusedSimpArgs false

set_option maxHeartbeats 16000000 in
set_option maxRecDepth 100000 in
theorem walk (A : Option Addr) (n cap : Nat) (zs : List UInt8) (w : World) (hn : n ≤ 65536) (hS : Hid (St w A n zs w)) :
    Calls Tryd.prog 13 #[.slice A n cap] w (LawPost w) := by
  have HB := Lib.hid (vs.big_no A n cap w hn)
  clear hn
  go_enter Tryd.func13, Tryd.ntmps13
  go_wp2_with fail
  refine HB.out.mono ?_
  rintro e w' ⟨rfl, rfl⟩
  clear HB
  go_wp2_with fail
  refine (dcv.within_draw A n cap zs _ (Lib.hid hS.out.2.1)).mono ?_
  rintro e W1 ⟨v1, t1, q1, d1, rfl, ho, hl1, ⟨q1a, q1b⟩, ⟨d1a, d1b⟩, b⟩
  obtain ⟨L1, HL1⟩ : ∃ L, Hid (t1.length = L) := ⟨_, Lib.hid rfl⟩
  rw [HL1.out] at ho hl1
  obtain ⟨A1, c1, rfl⟩ := base.row_slice ho
  have HR1 := Lib.hid ho
  clear ho
  have H1 := Lib.hid (show St w A n zs W1 from hS.out.step b)
  clear b hS
  obtain ⟨I1, HI1⟩ : ∃ I, Hid (wdIds t1 q1 d1 = I) := ⟨_, Lib.hid rfl⟩
  obtain ⟨K1, HK1⟩ : ∃ K, Hid (I1.length = K) := ⟨_, Lib.hid rfl⟩
  have hK1 : K1 ≤ 12 := by rw [← HK1.out, ← HI1.out]; exact wdIds_len _ _ _
  obtain ⟨B1, HB1⟩ : ∃ B, Hid (wdOk t1 q1 d1 = B) := ⟨_, Lib.hid rfl⟩
  go_wp2_with fail
  refine (wd_i HI1 HB1 (by omega) (Lib.hid (own_Lg HL1.out HR1.out)) (Lib.hid H1.out.2.2)).mono ?_
  rintro e W2 ⟨vr, rfl, ho, b⟩
  rw [HK1.out] at ho
  obtain ⟨Anear, cnear, rfl⟩ := base.row_slice ho
  have HRnear := Lib.hid ho
  clear ho
  have H2 := Lib.hid (show St w A n zs W2 from H1.out.step b)
  have H3 := Lib.hid (show W2.ownsRow (w.heap.size) 59 5 (.slice A1 L1 c1) L1 (flatLg t1) from row_below HR1.out b)
  clear b H1 HR1
  go_wp2_with fail
  refine (wd_m HI1 HB1 (by omega) (Lib.hid (own_Lg HL1.out H3.out))).mono ?_
  rintro e W3 ⟨vr, rfl, ho, b⟩
  rw [HK1.out] at ho
  obtain ⟨Awant, cwant, rfl⟩ := base.row_slice ho
  have HRwant := Lib.hid ho
  clear ho
  have H4 := Lib.hid (show St w A n zs W3 from H2.out.step b)
  have H5 := Lib.hid (show W3.ownsRow (w.heap.size) 59 5 (.slice A1 L1 c1) L1 (flatLg t1) from row_below H3.out b)
  have H6 := Lib.hid (show W3.ownsRow (W1.heap.size) 3 1 (.slice Anear K1 cnear) K1 (ints.intsV I1) from row_below HRnear.out b)
  clear b H2 H3 HRnear
  go_wp2_with fail
  refine (vints_b (by omega) (Lib.hid (ints.IL.of_own H6.out)) (Lib.hid (ints.IL.of_own HRwant.out))).mono ?_
  rintro e W4 ⟨rfl, b⟩
  have H7 := Lib.hid (show St w A n zs W4 from H4.out.step b)
  have H8 := Lib.hid (show W4.ownsRow (w.heap.size) 59 5 (.slice A1 L1 c1) L1 (flatLg t1) from row_below H5.out b)
  have H9 := Lib.hid (show W4.ownsRow (W1.heap.size) 3 1 (.slice Anear K1 cnear) K1 (ints.intsV I1) from row_below H6.out b)
  have H10 := Lib.hid (show W4.ownsRow (W2.heap.size) 3 1 (.slice Awant K1 cwant) K1 (ints.intsV I1) from row_below HRwant.out b)
  clear b H4 H5 H6 HRwant
  clear H10
  go_upto_if 62 with fail
  go_cut [10] (fun _ wx => St w A n zs wx)
  case first => as_aux_lemma =>
    cases B1
    · go_wp2_with fail
      go_meet
      case rel => exact H7.out
    · obtain ⟨hg, hb2, hw1, hw2, hme⟩ := within_all HB1.out
      obtain ⟨I2, HI2⟩ : ∃ I, Hid (wdIds t1 q1 (d1 + 10) = I) := ⟨_, Lib.hid rfl⟩
      obtain ⟨K2, HK2⟩ : ∃ K, Hid (I2.length = K) := ⟨_, Lib.hid rfl⟩
      have hK2 : K2 ≤ 12 := by rw [← HK2.out, ← HI2.out]; exact wdIds_len _ _ _
      obtain ⟨I3, HI3⟩ : ∃ I, Hid (psIds t1 = I) := ⟨_, Lib.hid rfl⟩
      obtain ⟨K3, HK3⟩ : ∃ K, Hid (I3.length = K) := ⟨_, Lib.hid rfl⟩
      have hK3 : K3 ≤ 12 := by rw [← HK3.out, ← HI3.out]; exact psIds_len _
      rw [HI1.out] at hw1 hme
      rw [HI2.out] at hw1 hw2
      rw [HI3.out] at hw2
      have HG := Lib.hid hg
      have HB2 := Lib.hid hb2
      have HW1 := Lib.hid hw1
      have HW2 := Lib.hid hw2
      have HME := Lib.hid hme
      clear hg hb2 hw1 hw2 hme
      go_wp2_with fail
      refine (wd_i HI2 HB2 (by omega) (Lib.hid (own_Lg HL1.out H8.out)) (Lib.hid H7.out.2.2)).mono ?_
      rintro e W5 ⟨vr, rfl, ho, b⟩
      rw [HK2.out] at ho
      obtain ⟨Amore, cmore, rfl⟩ := base.row_slice ho
      have HRmore := Lib.hid ho
      clear ho
      have H11 := Lib.hid (show St w A n zs W5 from H7.out.step b)
      have H12 := Lib.hid (show W5.ownsRow (w.heap.size) 59 5 (.slice A1 L1 c1) L1 (flatLg t1) from row_below H8.out b)
      have H13 := Lib.hid (show W5.ownsRow (W1.heap.size) 3 1 (.slice Anear K1 cnear) K1 (ints.intsV I1) from row_below H9.out b)
      clear b H7 H8 H9
      go_wp2_with fail
      refine (ps_i HI3 HG (by omega) (Lib.hid (own_Lg HL1.out H12.out)) (Lib.hid H11.out.2.2)).mono ?_
      rintro e W6 ⟨vr, rfl, ho, b⟩
      rw [HK3.out] at ho
      obtain ⟨Apl, cpl, rfl⟩ := base.row_slice ho
      have HRpl := Lib.hid ho
      clear ho
      have H14 := Lib.hid (show St w A n zs W6 from H11.out.step b)
      have H15 := Lib.hid (show W6.ownsRow (w.heap.size) 59 5 (.slice A1 L1 c1) L1 (flatLg t1) from row_below H12.out b)
      have H16 := Lib.hid (show W6.ownsRow (W1.heap.size) 3 1 (.slice Anear K1 cnear) K1 (ints.intsV I1) from row_below H13.out b)
      have H17 := Lib.hid (show W6.ownsRow (W4.heap.size) 3 1 (.slice Amore K2 cmore) K2 (ints.intsV I2) from row_below HRmore.out b)
      clear b H11 H12 H13 HRmore
      go_wp2_with fail
      refine (within_b HW1 (by omega) (by omega) (Lib.hid (ints.IL.of_own H16.out)) (Lib.hid (ints.IL.of_own H17.out))).mono ?_
      rintro e W7 ⟨rfl, b⟩
      have H18 := Lib.hid (show St w A n zs W7 from H14.out.step b)
      have H19 := Lib.hid (show W7.ownsRow (w.heap.size) 59 5 (.slice A1 L1 c1) L1 (flatLg t1) from row_below H15.out b)
      have H20 := Lib.hid (show W7.ownsRow (W1.heap.size) 3 1 (.slice Anear K1 cnear) K1 (ints.intsV I1) from row_below H16.out b)
      have H21 := Lib.hid (show W7.ownsRow (W4.heap.size) 3 1 (.slice Amore K2 cmore) K2 (ints.intsV I2) from row_below H17.out b)
      have H22 := Lib.hid (show W7.ownsRow (W5.heap.size) 3 1 (.slice Apl K3 cpl) K3 (ints.intsV I3) from row_below HRpl.out b)
      clear b H14 H15 H16 H17 HRpl
      go_wp2_with fail
      refine (within_b HW2 (by omega) (by omega) (Lib.hid (ints.IL.of_own H21.out)) (Lib.hid (ints.IL.of_own H22.out))).mono ?_
      rintro e W8 ⟨rfl, b⟩
      have H23 := Lib.hid (show St w A n zs W8 from H18.out.step b)
      have H24 := Lib.hid (show W8.ownsRow (w.heap.size) 59 5 (.slice A1 L1 c1) L1 (flatLg t1) from row_below H19.out b)
      have H25 := Lib.hid (show W8.ownsRow (W1.heap.size) 3 1 (.slice Anear K1 cnear) K1 (ints.intsV I1) from row_below H20.out b)
      have H26 := Lib.hid (show W8.ownsRow (W4.heap.size) 3 1 (.slice Amore K2 cmore) K2 (ints.intsV I2) from row_below H21.out b)
      have H27 := Lib.hid (show W8.ownsRow (W5.heap.size) 3 1 (.slice Apl K3 cpl) K3 (ints.intsV I3) from row_below H22.out b)
      clear b H18 H19 H20 H21 H22
      go_wp2_with fail
      refine (vhas_b HME (by omega) (Lib.hid (ints.IL.of_own H25.out))).mono ?_
      rintro e W9 ⟨rfl, b⟩
      have H28 := Lib.hid (show St w A n zs W9 from H23.out.step b)
      have H29 := Lib.hid (show W9.ownsRow (w.heap.size) 59 5 (.slice A1 L1 c1) L1 (flatLg t1) from row_below H24.out b)
      have H30 := Lib.hid (show W9.ownsRow (W1.heap.size) 3 1 (.slice Anear K1 cnear) K1 (ints.intsV I1) from row_below H25.out b)
      have H31 := Lib.hid (show W9.ownsRow (W4.heap.size) 3 1 (.slice Amore K2 cmore) K2 (ints.intsV I2) from row_below H26.out b)
      have H32 := Lib.hid (show W9.ownsRow (W5.heap.size) 3 1 (.slice Apl K3 cpl) K3 (ints.intsV I3) from row_below H27.out b)
      clear b H23 H24 H25 H26 H27
      go_wp2_with fail
      go_meet
      case rel => exact H28.out
  case rest => as_aux_lemma =>
    have SA := Lib.hid hcut
    clear hcut HB1 HI1 HK1 H7 H8 H9
    go_wp2_with fail
    refine (dcv.extent_draw A n cap zs _ (Lib.hid SA.out.2.1)).mono ?_
    rintro e W10 ⟨v2, t2, rfl, ho, hl2, b⟩
    obtain ⟨L2, HL2⟩ : ∃ L, Hid (t2.length = L) := ⟨_, Lib.hid rfl⟩
    rw [HL2.out] at ho hl2
    obtain ⟨A2, c2, rfl⟩ := base.row_slice ho
    have HR2 := Lib.hid ho
    clear ho
    have H33 := Lib.hid (show St w A n zs W10 from SA.out.step b)
    clear b SA
    obtain ⟨lo, hi, ok2, hX, x0, x1, x2, x3⟩ := ex_form t2
    have HX := Lib.hid hX
    clear hX
    go_wp2_with fail
    refine (ex_i HX (by omega) (Lib.hid (own_Lg HL2.out HR2.out)) (Lib.hid H33.out.2.2)).mono ?_
    rintro e W11 ⟨rfl, b⟩
    have H34 := Lib.hid (show St w A n zs W11 from H33.out.step b)
    have H35 := Lib.hid (show W11.ownsRow (wc.heap.size) 59 5 (.slice A2 L2 c2) L2 (flatLg t2) from row_below HR2.out b)
    clear b H33 HR2
    go_upto_region 15 with fail
    obtain ⟨W12, HW⟩ : ∃ W12, Hid ((W11.alloc (.cells #[.int .i64 lo.east, .int .i64 lo.north, .int .i64 lo.up] 35)).alloc (.cells #[.int .i64 hi.east, .int .i64 hi.north, .int .i64 hi.up] 35) = W12) := ⟨_, Lib.hid rfl⟩
    have H36 := Lib.hid (show St w A n zs W12 by rw [← HW.out]; exact ((H34.out.alloc _).alloc _))
    have H37 := Lib.hid (show W12.ownsRow (wc.heap.size) 59 5 (.slice A2 L2 c2) L2 (flatLg t2) by rw [← HW.out]; exact ((H35.out.alloc _).alloc _))
    have H38 := Lib.hid (show Blk W12 (W11.heap.size) 35 #[.int .i64 lo.east, .int .i64 lo.north, .int .i64 lo.up] by rw [← HW.out]; exact ((Blk.new _ _ _).alloc _))
    have H39 := Lib.hid (show Blk W12 (W11.heap.size + 1) 35 #[.int .i64 hi.east, .int .i64 hi.north, .int .i64 hi.up] by rw [← HW.out]; exact (by have h := Blk.new (W11.alloc (.cells #[.int .i64 lo.east, .int .i64 lo.north, .int .i64 lo.up] 35)) 35 #[.int .i64 hi.east, .int .i64 hi.north, .int .i64 hi.up]; simpa using h))
    rw [HW.out]
    clear HW H34 H35
    go_wp2_with fail
    refine (ex_m HX (by omega) (Lib.hid (own_Lg HL2.out H37.out))).mono ?_
    rintro e W13 ⟨rfl, b⟩
    have H40 := Lib.hid (show St w A n zs W13 from H36.out.step b)
    have H41 := Lib.hid (show W13.ownsRow (wc.heap.size) 59 5 (.slice A2 L2 c2) L2 (flatLg t2) from row_below H37.out b)
    have H42 := Lib.hid (show Blk W13 (W11.heap.size) 35 #[.int .i64 lo.east, .int .i64 lo.north, .int .i64 lo.up] from H38.out.below b H38.out.lt)
    have H43 := Lib.hid (show Blk W13 (W11.heap.size + 1) 35 #[.int .i64 hi.east, .int .i64 hi.north, .int .i64 hi.up] from H39.out.below b H39.out.lt)
    clear b H36 H37 H38 H39
    go_upto_region 16 with fail
    obtain ⟨W14, HW⟩ : ∃ W14, Hid ((W13.alloc (.cells #[.int .i64 lo.east, .int .i64 lo.north, .int .i64 lo.up] 35)).alloc (.cells #[.int .i64 hi.east, .int .i64 hi.north, .int .i64 hi.up] 35) = W14) := ⟨_, Lib.hid rfl⟩
    have H44 := Lib.hid (show St w A n zs W14 by rw [← HW.out]; exact ((H40.out.alloc _).alloc _))
    have H45 := Lib.hid (show W14.ownsRow (wc.heap.size) 59 5 (.slice A2 L2 c2) L2 (flatLg t2) by rw [← HW.out]; exact ((H41.out.alloc _).alloc _))
    have H46 := Lib.hid (show Blk W14 (W11.heap.size) 35 #[.int .i64 lo.east, .int .i64 lo.north, .int .i64 lo.up] by rw [← HW.out]; exact ((H42.out.alloc _).alloc _))
    have H47 := Lib.hid (show Blk W14 (W11.heap.size + 1) 35 #[.int .i64 hi.east, .int .i64 hi.north, .int .i64 hi.up] by rw [← HW.out]; exact ((H43.out.alloc _).alloc _))
    have H48 := Lib.hid (show Blk W14 (W13.heap.size) 35 #[.int .i64 lo.east, .int .i64 lo.north, .int .i64 lo.up] by rw [← HW.out]; exact ((Blk.new _ _ _).alloc _))
    have H49 := Lib.hid (show Blk W14 (W13.heap.size + 1) 35 #[.int .i64 hi.east, .int .i64 hi.north, .int .i64 hi.up] by rw [← HW.out]; exact (by have h := Blk.new (W13.alloc (.cells #[.int .i64 lo.east, .int .i64 lo.north, .int .i64 lo.up] 35)) 35 #[.int .i64 hi.east, .int .i64 hi.north, .int .i64 hi.up]; simpa using h))
    rw [HW.out]
    clear HW H40 H41 H42 H43
    go_cut [149] (fun v wx => v = .bool false ∧ St w A n zs wx)
    case first => as_aux_lemma =>
      cases ok2
      · skip
        have q_lol := H46.out.lt
        have q_lo0 : W14.cell? ⟨W11.heap.size, 0, none⟩ = some (.int .i64 lo.east) := H46.out.cell 0
        have q_lo1 : W14.cell? ⟨W11.heap.size, 1, none⟩ = some (.int .i64 lo.north) := H46.out.cell 1
        have q_lo2 : W14.cell? ⟨W11.heap.size, 2, none⟩ = some (.int .i64 lo.up) := H46.out.cell 2
        have q_hil := H47.out.lt
        have q_hi0 : W14.cell? ⟨W11.heap.size + 1, 0, none⟩ = some (.int .i64 hi.east) := H47.out.cell 0
        have q_hi1 : W14.cell? ⟨W11.heap.size + 1, 1, none⟩ = some (.int .i64 hi.north) := H47.out.cell 1
        have q_hi2 : W14.cell? ⟨W11.heap.size + 1, 2, none⟩ = some (.int .i64 hi.up) := H47.out.cell 2
        have q_lal := H48.out.lt
        have q_la0 : W14.cell? ⟨W13.heap.size, 0, none⟩ = some (.int .i64 lo.east) := H48.out.cell 0
        have q_la1 : W14.cell? ⟨W13.heap.size, 1, none⟩ = some (.int .i64 lo.north) := H48.out.cell 1
        have q_la2 : W14.cell? ⟨W13.heap.size, 2, none⟩ = some (.int .i64 lo.up) := H48.out.cell 2
        have q_hal := H49.out.lt
        have q_ha0 : W14.cell? ⟨W13.heap.size + 1, 0, none⟩ = some (.int .i64 hi.east) := H49.out.cell 0
        have q_ha1 : W14.cell? ⟨W13.heap.size + 1, 1, none⟩ = some (.int .i64 hi.north) := H49.out.cell 1
        have q_ha2 : W14.cell? ⟨W13.heap.size + 1, 2, none⟩ = some (.int .i64 hi.up) := H49.out.cell 2
        go_wp2_with fail
        clear q_lol q_lo0 q_lo1 q_lo2 q_hil q_hi0 q_hi1 q_hi2 q_lal q_la0 q_la1 q_la2 q_hal q_ha0 q_ha1 q_ha2
        go_meet
        case rel => exact ⟨by first | rfl | (simp; omega), H44.out⟩
      · skip
        have q_lol := H46.out.lt
        have q_lo0 : W14.cell? ⟨W11.heap.size, 0, none⟩ = some (.int .i64 lo.east) := H46.out.cell 0
        have q_lo1 : W14.cell? ⟨W11.heap.size, 1, none⟩ = some (.int .i64 lo.north) := H46.out.cell 1
        have q_lo2 : W14.cell? ⟨W11.heap.size, 2, none⟩ = some (.int .i64 lo.up) := H46.out.cell 2
        have q_hil := H47.out.lt
        have q_hi0 : W14.cell? ⟨W11.heap.size + 1, 0, none⟩ = some (.int .i64 hi.east) := H47.out.cell 0
        have q_hi1 : W14.cell? ⟨W11.heap.size + 1, 1, none⟩ = some (.int .i64 hi.north) := H47.out.cell 1
        have q_hi2 : W14.cell? ⟨W11.heap.size + 1, 2, none⟩ = some (.int .i64 hi.up) := H47.out.cell 2
        have q_lal := H48.out.lt
        have q_la0 : W14.cell? ⟨W13.heap.size, 0, none⟩ = some (.int .i64 lo.east) := H48.out.cell 0
        have q_la1 : W14.cell? ⟨W13.heap.size, 1, none⟩ = some (.int .i64 lo.north) := H48.out.cell 1
        have q_la2 : W14.cell? ⟨W13.heap.size, 2, none⟩ = some (.int .i64 lo.up) := H48.out.cell 2
        have q_hal := H49.out.lt
        have q_ha0 : W14.cell? ⟨W13.heap.size + 1, 0, none⟩ = some (.int .i64 hi.east) := H49.out.cell 0
        have q_ha1 : W14.cell? ⟨W13.heap.size + 1, 1, none⟩ = some (.int .i64 hi.north) := H49.out.cell 1
        have q_ha2 : W14.cell? ⟨W13.heap.size + 1, 2, none⟩ = some (.int .i64 hi.up) := H49.out.cell 2
        go_wp2_with fail
        clear q_lol q_lo0 q_lo1 q_lo2 q_hil q_hi0 q_hi1 q_hi2 q_lal q_la0 q_la1 q_la2 q_hal q_ha0 q_ha1 q_ha2
        go_meet
        case rel => exact ⟨by first | rfl | (simp; omega), H44.out⟩
    case rest => as_aux_lemma =>
      obtain ⟨rfl, hcut⟩ := hcut
      have SB := Lib.hid hcut
      clear hcut HX H44 H45 H46 H47 H48 H49
      go_wp2_with fail
      refine (dcv.depth_draw A n cap zs _ (Lib.hid SB.out.2.1)).mono ?_
      rintro e W15 ⟨v3, t3, rfl, ho, hl3, b⟩
      obtain ⟨L3, HL3⟩ : ∃ L, Hid (t3.length = L) := ⟨_, Lib.hid rfl⟩
      rw [HL3.out] at ho hl3
      obtain ⟨A3, c3, rfl⟩ := base.row_slice ho
      have HR3 := Lib.hid ho
      clear ho
      have H50 := Lib.hid (show St w A n zs W15 from SB.out.step b)
      clear b SB
      obtain ⟨q3, ok3, hX, x0⟩ := de_form t3
      have HX := Lib.hid hX
      clear hX
      go_wp2_with fail
      refine (de_i HX (by omega) (Lib.hid (own_Lg HL3.out HR3.out)) (Lib.hid H50.out.2.2)).mono ?_
      rintro e W16 ⟨rfl, b⟩
      have H51 := Lib.hid (show St w A n zs W16 from H50.out.step b)
      have H52 := Lib.hid (show W16.ownsRow (wc.heap.size) 59 5 (.slice A3 L3 c3) L3 (flatLg t3) from row_below HR3.out b)
      clear b H50 HR3
      go_wp2_with fail
      refine (de_m HX (by omega) (Lib.hid (own_Lg HL3.out H52.out))).mono ?_
      rintro e W17 ⟨rfl, b⟩
      have H53 := Lib.hid (show St w A n zs W17 from H51.out.step b)
      have H54 := Lib.hid (show W17.ownsRow (wc.heap.size) 59 5 (.slice A3 L3 c3) L3 (flatLg t3) from row_below H52.out b)
      clear b H51 H52
      go_upto_region 21 with fail
      go_cut [173] (fun v wx => v = .bool false ∧ St w A n zs wx)
      case first => as_aux_lemma =>
        cases ok3
        · skip
          go_wp2_with fail
          go_meet
          case rel => exact ⟨by first | rfl | (simp; omega), H53.out⟩
        · skip
          go_wp2_with fail
          go_meet
          case rel => exact ⟨by first | rfl | (simp; omega), H53.out⟩
      case rest => as_aux_lemma =>
        obtain ⟨rfl, hcut⟩ := hcut
        have SC := Lib.hid hcut
        clear hcut HX H53 H54
        go_wp2_with fail
        refine (dcv.deepest_draw A n cap zs _ (Lib.hid SC.out.2.1)).mono ?_
        rintro e W18 ⟨v4, t4, rfl, ho, hl4, b⟩
        obtain ⟨L4, HL4⟩ : ∃ L, Hid (t4.length = L) := ⟨_, Lib.hid rfl⟩
        rw [HL4.out] at ho hl4
        obtain ⟨A4, c4, rfl⟩ := base.row_slice ho
        have HR4 := Lib.hid ho
        clear ho
        have H55 := Lib.hid (show St w A n zs W18 from SC.out.step b)
        clear b SC
        obtain ⟨q4, ok4, hX⟩ := dp_form t4
        have HX := Lib.hid hX
        clear hX
        go_wp2_with fail
        refine (dp_i HX (by omega) (Lib.hid (own_Lg HL4.out HR4.out)) (Lib.hid H55.out.2.2)).mono ?_
        rintro e W19 ⟨rfl, b⟩
        have H56 := Lib.hid (show St w A n zs W19 from H55.out.step b)
        have H57 := Lib.hid (show W19.ownsRow (wc.heap.size) 59 5 (.slice A4 L4 c4) L4 (flatLg t4) from row_below HR4.out b)
        clear b H55 HR4
        go_wp2_with fail
        refine (dp_m HX (by omega) (Lib.hid (own_Lg HL4.out H57.out))).mono ?_
        rintro e W20 ⟨rfl, b⟩
        have H58 := Lib.hid (show St w A n zs W20 from H56.out.step b)
        have H59 := Lib.hid (show W20.ownsRow (wc.heap.size) 59 5 (.slice A4 L4 c4) L4 (flatLg t4) from row_below H57.out b)
        clear b H56 H57
        cases ok4
        · skip
          go_wp2_with fail
          go_ret
          exact ⟨rfl, H58.out.1⟩
        · skip
          go_wp2_with fail
          go_ret
          exact ⟨rfl, H58.out.1⟩
#print axioms walk
end Go.Proofs.YtnoieboiklmkaaaDoor.nwb
