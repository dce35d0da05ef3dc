/-
  FnPlaces: the law's walk.
  Conditions: the code has at most 65536 bytes; the variable holds the table of the sines.
-/
import Derived.Test.YtnoieboiklmkaaaDoorNwM
namespace Go.Proofs.YtnoieboiklmkaaaDoor.nwc
open Go.RowKit
open reads base ty win lg rowi hs nt nq nw
set_option linter.unusedVariables false
set_option linter.unusedSimpArgs false

set_option maxHeartbeats 16000000 in
set_option maxRecDepth 100000 in
theorem walk (A : Option Addr) (n cap : Nat) (zs : List UInt8) (w : World) (hn : n ≤ 65536) (hS : Hid (St w A n zs w)) :
    Calls Tryd.prog 12 #[.slice A n cap] w (LawPost w) := by
  have HB := Lib.hid (vs.big_no A n cap w hn)
  clear hn
  go_enter Tryd.func12, Tryd.ntmps12
  go_wp2_with fail
  refine HB.out.mono ?_
  rintro e w' ⟨rfl, rfl⟩
  clear HB
  go_wp2_with fail
  refine (dcv.tree_draw A n cap zs _ (Lib.hid hS.out.2.1)).mono ?_
  rintro e W1 ⟨v1, t1, rfl, ho, hl1, b⟩
  obtain ⟨L1, HL1⟩ : ∃ L, Hid (t1.length = L) := ⟨_, Lib.hid rfl⟩
  rw [HL1.out] at ho hl1
  obtain ⟨A1, c1, rfl⟩ := base.row_slice ho
  have HR1 := Lib.hid ho
  clear ho
  have H1 := Lib.hid (show St w A n zs W1 from hS.out.step b)
  clear b hS
  obtain ⟨I1, HI1⟩ : ∃ I, Hid (trIds t1 = I) := ⟨_, Lib.hid rfl⟩
  obtain ⟨K1, HK1⟩ : ∃ K, Hid (I1.length = K) := ⟨_, Lib.hid rfl⟩
  have hK1 : K1 ≤ 12 := by rw [← HK1.out, ← HI1.out]; exact trIds_len _
  obtain ⟨I2, HI2⟩ : ∃ I, Hid (psIds t1 = I) := ⟨_, Lib.hid rfl⟩
  obtain ⟨K2, HK2⟩ : ∃ K, Hid (I2.length = K) := ⟨_, Lib.hid rfl⟩
  have hK2 : K2 ≤ 12 := by rw [← HK2.out, ← HI2.out]; exact psIds_len _
  obtain ⟨I3, HI3⟩ : ∃ I, Hid (clIds t1 = I) := ⟨_, Lib.hid rfl⟩
  obtain ⟨K3, HK3⟩ : ∃ K, Hid (I3.length = K) := ⟨_, Lib.hid rfl⟩
  have hK3 : K3 ≤ 12 := by rw [← HK3.out, ← HI3.out]; exact clIds_len _
  obtain ⟨B1, HB1⟩ : ∃ B, Hid (goodLg t1 = B) := ⟨_, Lib.hid rfl⟩
  go_wp2_with fail
  refine (tr_i HI1 HB1 (by omega) (Lib.hid (own_Lg HL1.out HR1.out)) (Lib.hid H1.out.2.2)).mono ?_
  rintro e W2 ⟨vr, rfl, ho, b⟩
  rw [HK1.out] at ho
  obtain ⟨Atree, ctree, rfl⟩ := base.row_slice ho
  have HRtree := Lib.hid ho
  clear ho
  have H2 := Lib.hid (show St w A n zs W2 from H1.out.step b)
  have H3 := Lib.hid (show W2.ownsRow (w.heap.size) 59 5 (.slice A1 L1 c1) L1 (flatLg t1) from row_below HR1.out b)
  clear b H1 HR1
  go_wp2_with fail
  refine (ps_i HI2 HB1 (by omega) (Lib.hid (own_Lg HL1.out H3.out)) (Lib.hid H2.out.2.2)).mono ?_
  rintro e W3 ⟨vr, rfl, ho, b⟩
  rw [HK2.out] at ho
  obtain ⟨Aplaced, cplaced, rfl⟩ := base.row_slice ho
  have HRplaced := Lib.hid ho
  clear ho
  have H4 := Lib.hid (show St w A n zs W3 from H2.out.step b)
  have H5 := Lib.hid (show W3.ownsRow (w.heap.size) 59 5 (.slice A1 L1 c1) L1 (flatLg t1) from row_below H3.out b)
  have H6 := Lib.hid (show W3.ownsRow (W1.heap.size) 3 1 (.slice Atree K1 ctree) K1 (ints.intsV I1) from row_below HRtree.out b)
  clear b H2 H3 HRtree
  go_wp2_with fail
  refine (cl_i HI3 HB1 (by omega) (Lib.hid (own_Lg HL1.out H5.out)) (Lib.hid H4.out.2.2)).mono ?_
  rintro e W4 ⟨vr, rfl, ho, b⟩
  rw [HK3.out] at ho
  obtain ⟨Aclosing, cclosing, rfl⟩ := base.row_slice ho
  have HRclosing := Lib.hid ho
  clear ho
  have H7 := Lib.hid (show St w A n zs W4 from H4.out.step b)
  have H8 := Lib.hid (show W4.ownsRow (w.heap.size) 59 5 (.slice A1 L1 c1) L1 (flatLg t1) from row_below H5.out b)
  have H9 := Lib.hid (show W4.ownsRow (W1.heap.size) 3 1 (.slice Atree K1 ctree) K1 (ints.intsV I1) from row_below H6.out b)
  have H10 := Lib.hid (show W4.ownsRow (W2.heap.size) 3 1 (.slice Aplaced K2 cplaced) K2 (ints.intsV I2) from row_below HRplaced.out b)
  clear b H4 H5 H6 HRplaced
  go_wp2_with fail
  refine (tr_m HI1 HB1 (by omega) (Lib.hid (own_Lg HL1.out H8.out))).mono ?_
  rintro e W5 ⟨vr, rfl, ho, b⟩
  rw [HK1.out] at ho
  obtain ⟨Awant1, cwant1, rfl⟩ := base.row_slice ho
  have HRwant1 := Lib.hid ho
  clear ho
  have H11 := Lib.hid (show St w A n zs W5 from H7.out.step b)
  have H12 := Lib.hid (show W5.ownsRow (w.heap.size) 59 5 (.slice A1 L1 c1) L1 (flatLg t1) from row_below H8.out b)
  have H13 := Lib.hid (show W5.ownsRow (W1.heap.size) 3 1 (.slice Atree K1 ctree) K1 (ints.intsV I1) from row_below H9.out b)
  have H14 := Lib.hid (show W5.ownsRow (W2.heap.size) 3 1 (.slice Aplaced K2 cplaced) K2 (ints.intsV I2) from row_below H10.out b)
  have H15 := Lib.hid (show W5.ownsRow (W3.heap.size) 3 1 (.slice Aclosing K3 cclosing) K3 (ints.intsV I3) from row_below HRclosing.out b)
  clear b H7 H8 H9 H10 HRclosing
  go_wp2_with fail
  refine (vints_b (by omega) (Lib.hid (ints.IL.of_own H13.out)) (Lib.hid (ints.IL.of_own HRwant1.out))).mono ?_
  rintro e W6 ⟨rfl, b⟩
  have H16 := Lib.hid (show St w A n zs W6 from H11.out.step b)
  have H17 := Lib.hid (show W6.ownsRow (w.heap.size) 59 5 (.slice A1 L1 c1) L1 (flatLg t1) from row_below H12.out b)
  have H18 := Lib.hid (show W6.ownsRow (W1.heap.size) 3 1 (.slice Atree K1 ctree) K1 (ints.intsV I1) from row_below H13.out b)
  have H19 := Lib.hid (show W6.ownsRow (W2.heap.size) 3 1 (.slice Aplaced K2 cplaced) K2 (ints.intsV I2) from row_below H14.out b)
  have H20 := Lib.hid (show W6.ownsRow (W3.heap.size) 3 1 (.slice Aclosing K3 cclosing) K3 (ints.intsV I3) from row_below H15.out b)
  have H21 := Lib.hid (show W6.ownsRow (W4.heap.size) 3 1 (.slice Awant1 K1 cwant1) K1 (ints.intsV I1) from row_below HRwant1.out b)
  clear b H11 H12 H13 H14 H15 HRwant1
  clear H21
  go_wp2_with fail
  refine (ps_m HI2 HB1 (by omega) (Lib.hid (own_Lg HL1.out H17.out))).mono ?_
  rintro e W7 ⟨vr, rfl, ho, b⟩
  rw [HK2.out] at ho
  obtain ⟨Awant2, cwant2, rfl⟩ := base.row_slice ho
  have HRwant2 := Lib.hid ho
  clear ho
  have H22 := Lib.hid (show St w A n zs W7 from H16.out.step b)
  have H23 := Lib.hid (show W7.ownsRow (w.heap.size) 59 5 (.slice A1 L1 c1) L1 (flatLg t1) from row_below H17.out b)
  have H24 := Lib.hid (show W7.ownsRow (W1.heap.size) 3 1 (.slice Atree K1 ctree) K1 (ints.intsV I1) from row_below H18.out b)
  have H25 := Lib.hid (show W7.ownsRow (W2.heap.size) 3 1 (.slice Aplaced K2 cplaced) K2 (ints.intsV I2) from row_below H19.out b)
  have H26 := Lib.hid (show W7.ownsRow (W3.heap.size) 3 1 (.slice Aclosing K3 cclosing) K3 (ints.intsV I3) from row_below H20.out b)
  clear b H16 H17 H18 H19 H20
  go_wp2_with fail
  refine (vints_b (by omega) (Lib.hid (ints.IL.of_own H25.out)) (Lib.hid (ints.IL.of_own HRwant2.out))).mono ?_
  rintro e W8 ⟨rfl, b⟩
  have H27 := Lib.hid (show St w A n zs W8 from H22.out.step b)
  have H28 := Lib.hid (show W8.ownsRow (w.heap.size) 59 5 (.slice A1 L1 c1) L1 (flatLg t1) from row_below H23.out b)
  have H29 := Lib.hid (show W8.ownsRow (W1.heap.size) 3 1 (.slice Atree K1 ctree) K1 (ints.intsV I1) from row_below H24.out b)
  have H30 := Lib.hid (show W8.ownsRow (W2.heap.size) 3 1 (.slice Aplaced K2 cplaced) K2 (ints.intsV I2) from row_below H25.out b)
  have H31 := Lib.hid (show W8.ownsRow (W3.heap.size) 3 1 (.slice Aclosing K3 cclosing) K3 (ints.intsV I3) from row_below H26.out b)
  have H32 := Lib.hid (show W8.ownsRow (W6.heap.size) 3 1 (.slice Awant2 K2 cwant2) K2 (ints.intsV I2) from row_below HRwant2.out b)
  clear b H22 H23 H24 H25 H26 HRwant2
  clear H32
  go_wp2_with fail
  refine (cl_m HI3 HB1 (by omega) (Lib.hid (own_Lg HL1.out H28.out))).mono ?_
  rintro e W9 ⟨vr, rfl, ho, b⟩
  rw [HK3.out] at ho
  obtain ⟨Awant3, cwant3, rfl⟩ := base.row_slice ho
  have HRwant3 := Lib.hid ho
  clear ho
  have H33 := Lib.hid (show St w A n zs W9 from H27.out.step b)
  have H34 := Lib.hid (show W9.ownsRow (w.heap.size) 59 5 (.slice A1 L1 c1) L1 (flatLg t1) from row_below H28.out b)
  have H35 := Lib.hid (show W9.ownsRow (W1.heap.size) 3 1 (.slice Atree K1 ctree) K1 (ints.intsV I1) from row_below H29.out b)
  have H36 := Lib.hid (show W9.ownsRow (W2.heap.size) 3 1 (.slice Aplaced K2 cplaced) K2 (ints.intsV I2) from row_below H30.out b)
  have H37 := Lib.hid (show W9.ownsRow (W3.heap.size) 3 1 (.slice Aclosing K3 cclosing) K3 (ints.intsV I3) from row_below H31.out b)
  clear b H27 H28 H29 H30 H31
  go_wp2_with fail
  refine (vints_b (by omega) (Lib.hid (ints.IL.of_own H37.out)) (Lib.hid (ints.IL.of_own HRwant3.out))).mono ?_
  rintro e W10 ⟨rfl, b⟩
  have H38 := Lib.hid (show St w A n zs W10 from H33.out.step b)
  have H39 := Lib.hid (show W10.ownsRow (w.heap.size) 59 5 (.slice A1 L1 c1) L1 (flatLg t1) from row_below H34.out b)
  have H40 := Lib.hid (show W10.ownsRow (W1.heap.size) 3 1 (.slice Atree K1 ctree) K1 (ints.intsV I1) from row_below H35.out b)
  have H41 := Lib.hid (show W10.ownsRow (W2.heap.size) 3 1 (.slice Aplaced K2 cplaced) K2 (ints.intsV I2) from row_below H36.out b)
  have H42 := Lib.hid (show W10.ownsRow (W3.heap.size) 3 1 (.slice Aclosing K3 cclosing) K3 (ints.intsV I3) from row_below H37.out b)
  have H43 := Lib.hid (show W10.ownsRow (W8.heap.size) 3 1 (.slice Awant3 K3 cwant3) K3 (ints.intsV I3) from row_below HRwant3.out b)
  clear b H33 H34 H35 H36 H37 HRwant3
  clear H43
  go_upto_if 114 with fail
  go_cut [12] (fun _ wx => St w A n zs wx)
  case first => as_aux_lemma =>
    cases B1
    · go_wp2_with fail
      go_meet
      case rel => exact H38.out
    · obtain ⟨lo, hi, bp, dq, ⟨hX, hD, hP, hB⟩, ⟨⟨lu0, lu1⟩, hu0, hu1⟩, hlen, hT, hS⟩ := good_all HB1.out
      rw [HI1.out] at hlen hT
      rw [HI2.out] at hlen hS
      rw [HI3.out] at hT
      rw [HK1.out, HK2.out] at hlen
      have HX := Lib.hid hX
      have HD := Lib.hid hD
      have HP := Lib.hid hP
      have HBO := Lib.hid hB
      have HT := Lib.hid hT
      have HS := Lib.hid hS
      have hl1 : (K2 : Int) - 1 = (K1 : Int) := by omega
      clear hX hD hP hB hT hS hlen
      go_wp2_with fail
      refine (ex_i HX (by omega) (Lib.hid (own_Lg HL1.out H39.out)) (Lib.hid H38.out.2.2)).mono ?_
      rintro e W11 ⟨rfl, b⟩
      have H44 := Lib.hid (show St w A n zs W11 from H38.out.step b)
      have H45 := Lib.hid (show W11.ownsRow (w.heap.size) 59 5 (.slice A1 L1 c1) L1 (flatLg t1) from row_below H39.out b)
      have H46 := Lib.hid (show W11.ownsRow (W1.heap.size) 3 1 (.slice Atree K1 ctree) K1 (ints.intsV I1) from row_below H40.out b)
      have H47 := Lib.hid (show W11.ownsRow (W2.heap.size) 3 1 (.slice Aplaced K2 cplaced) K2 (ints.intsV I2) from row_below H41.out b)
      have H48 := Lib.hid (show W11.ownsRow (W3.heap.size) 3 1 (.slice Aclosing K3 cclosing) K3 (ints.intsV I3) from row_below H42.out b)
      clear b H38 H39 H40 H41 H42
      go_upto_region 18 with fail
      obtain ⟨W12, HW⟩ : ∃ W12, Hid ((W11.alloc (.cells #[.int .i64 lo.east, .int .i64 lo.north, .int .i64 lo.up] 35)).alloc (.cells #[.int .i64 hi.east, .int .i64 hi.north, .int .i64 hi.up] 35) = W12) := ⟨_, Lib.hid rfl⟩
      have H49 := Lib.hid (show St w A n zs W12 by rw [← HW.out]; exact ((H44.out.alloc _).alloc _))
      have H50 := Lib.hid (show W12.ownsRow (w.heap.size) 59 5 (.slice A1 L1 c1) L1 (flatLg t1) by rw [← HW.out]; exact ((H45.out.alloc _).alloc _))
      have H51 := Lib.hid (show W12.ownsRow (W1.heap.size) 3 1 (.slice Atree K1 ctree) K1 (ints.intsV I1) by rw [← HW.out]; exact ((H46.out.alloc _).alloc _))
      have H52 := Lib.hid (show W12.ownsRow (W2.heap.size) 3 1 (.slice Aplaced K2 cplaced) K2 (ints.intsV I2) by rw [← HW.out]; exact ((H47.out.alloc _).alloc _))
      have H53 := Lib.hid (show W12.ownsRow (W3.heap.size) 3 1 (.slice Aclosing K3 cclosing) K3 (ints.intsV I3) by rw [← HW.out]; exact ((H48.out.alloc _).alloc _))
      have H54 := Lib.hid (show Blk W12 (W11.heap.size) 35 #[.int .i64 lo.east, .int .i64 lo.north, .int .i64 lo.up] by rw [← HW.out]; exact ((Blk.new _ _ _).alloc _))
      have H55 := Lib.hid (show Blk W12 (W11.heap.size + 1) 35 #[.int .i64 hi.east, .int .i64 hi.north, .int .i64 hi.up] by rw [← HW.out]; exact (by have h := Blk.new (W11.alloc (.cells #[.int .i64 lo.east, .int .i64 lo.north, .int .i64 lo.up] 35)) 35 #[.int .i64 hi.east, .int .i64 hi.north, .int .i64 hi.up]; simpa using h))
      rw [HW.out]
      clear HW H44 H45 H46 H47 H48
      go_wp2_with fail
      refine (de_i HD (by omega) (Lib.hid (own_Lg HL1.out H50.out)) (Lib.hid H49.out.2.2)).mono ?_
      rintro e W13 ⟨rfl, b⟩
      have H56 := Lib.hid (show St w A n zs W13 from H49.out.step b)
      have H57 := Lib.hid (show W13.ownsRow (w.heap.size) 59 5 (.slice A1 L1 c1) L1 (flatLg t1) from row_below H50.out b)
      have H58 := Lib.hid (show W13.ownsRow (W1.heap.size) 3 1 (.slice Atree K1 ctree) K1 (ints.intsV I1) from row_below H51.out b)
      have H59 := Lib.hid (show W13.ownsRow (W2.heap.size) 3 1 (.slice Aplaced K2 cplaced) K2 (ints.intsV I2) from row_below H52.out b)
      have H60 := Lib.hid (show W13.ownsRow (W3.heap.size) 3 1 (.slice Aclosing K3 cclosing) K3 (ints.intsV I3) from row_below H53.out b)
      have H61 := Lib.hid (show Blk W13 (W11.heap.size) 35 #[.int .i64 lo.east, .int .i64 lo.north, .int .i64 lo.up] from H54.out.below b H54.out.lt)
      have H62 := Lib.hid (show Blk W13 (W11.heap.size + 1) 35 #[.int .i64 hi.east, .int .i64 hi.north, .int .i64 hi.up] from H55.out.below b H55.out.lt)
      clear b H49 H50 H51 H52 H53 H54 H55
      go_wp2_with fail
      refine (dp_i HP (by omega) (Lib.hid (own_Lg HL1.out H57.out)) (Lib.hid H56.out.2.2)).mono ?_
      rintro e W14 ⟨rfl, b⟩
      have H63 := Lib.hid (show St w A n zs W14 from H56.out.step b)
      have H64 := Lib.hid (show W14.ownsRow (w.heap.size) 59 5 (.slice A1 L1 c1) L1 (flatLg t1) from row_below H57.out b)
      have H65 := Lib.hid (show W14.ownsRow (W1.heap.size) 3 1 (.slice Atree K1 ctree) K1 (ints.intsV I1) from row_below H58.out b)
      have H66 := Lib.hid (show W14.ownsRow (W2.heap.size) 3 1 (.slice Aplaced K2 cplaced) K2 (ints.intsV I2) from row_below H59.out b)
      have H67 := Lib.hid (show W14.ownsRow (W3.heap.size) 3 1 (.slice Aclosing K3 cclosing) K3 (ints.intsV I3) from row_below H60.out b)
      have H68 := Lib.hid (show Blk W14 (W11.heap.size) 35 #[.int .i64 lo.east, .int .i64 lo.north, .int .i64 lo.up] from H61.out.below b H61.out.lt)
      have H69 := Lib.hid (show Blk W14 (W11.heap.size + 1) 35 #[.int .i64 hi.east, .int .i64 hi.north, .int .i64 hi.up] from H62.out.below b H62.out.lt)
      clear b H56 H57 H58 H59 H60 H61 H62
      go_wp2_with fail
      refine (pl_i HBO (by omega) (Lib.hid (own_Lg HL1.out H64.out)) (Lib.hid H63.out.2.2)).mono ?_
      rintro e W15 ⟨rfl, b⟩
      have H70 := Lib.hid (show St w A n zs W15 from H63.out.step b)
      have H71 := Lib.hid (show W15.ownsRow (w.heap.size) 59 5 (.slice A1 L1 c1) L1 (flatLg t1) from row_below H64.out b)
      have H72 := Lib.hid (show W15.ownsRow (W1.heap.size) 3 1 (.slice Atree K1 ctree) K1 (ints.intsV I1) from row_below H65.out b)
      have H73 := Lib.hid (show W15.ownsRow (W2.heap.size) 3 1 (.slice Aplaced K2 cplaced) K2 (ints.intsV I2) from row_below H66.out b)
      have H74 := Lib.hid (show W15.ownsRow (W3.heap.size) 3 1 (.slice Aclosing K3 cclosing) K3 (ints.intsV I3) from row_below H67.out b)
      have H75 := Lib.hid (show Blk W15 (W11.heap.size) 35 #[.int .i64 lo.east, .int .i64 lo.north, .int .i64 lo.up] from H68.out.below b H68.out.lt)
      have H76 := Lib.hid (show Blk W15 (W11.heap.size + 1) 35 #[.int .i64 hi.east, .int .i64 hi.north, .int .i64 hi.up] from H69.out.below b H69.out.lt)
      clear b H63 H64 H65 H66 H67 H68 H69
      go_upto_region 21 with fail
      obtain ⟨W16, HW⟩ : ∃ W16, Hid (W15.alloc (.cells #[.int .i64 bp.east, .int .i64 bp.north, .int .i64 lo.up] 35) = W16) := ⟨_, Lib.hid rfl⟩
      have H77 := Lib.hid (show St w A n zs W16 by rw [← HW.out]; exact (H70.out.alloc _))
      have H78 := Lib.hid (show W16.ownsRow (w.heap.size) 59 5 (.slice A1 L1 c1) L1 (flatLg t1) by rw [← HW.out]; exact (H71.out.alloc _))
      have H79 := Lib.hid (show W16.ownsRow (W1.heap.size) 3 1 (.slice Atree K1 ctree) K1 (ints.intsV I1) by rw [← HW.out]; exact (H72.out.alloc _))
      have H80 := Lib.hid (show W16.ownsRow (W2.heap.size) 3 1 (.slice Aplaced K2 cplaced) K2 (ints.intsV I2) by rw [← HW.out]; exact (H73.out.alloc _))
      have H81 := Lib.hid (show W16.ownsRow (W3.heap.size) 3 1 (.slice Aclosing K3 cclosing) K3 (ints.intsV I3) by rw [← HW.out]; exact (H74.out.alloc _))
      have H82 := Lib.hid (show Blk W16 (W11.heap.size) 35 #[.int .i64 lo.east, .int .i64 lo.north, .int .i64 lo.up] by rw [← HW.out]; exact (H75.out.alloc _))
      have H83 := Lib.hid (show Blk W16 (W11.heap.size + 1) 35 #[.int .i64 hi.east, .int .i64 hi.north, .int .i64 hi.up] by rw [← HW.out]; exact (H76.out.alloc _))
      have H84 := Lib.hid (show Blk W16 (W15.heap.size) 35 #[.int .i64 bp.east, .int .i64 bp.north, .int .i64 lo.up] by rw [← HW.out]; exact Blk.new _ _ _)
      rw [HW.out]
      clear HW H70 H71 H72 H73 H74 H75 H76
      have q_lol := H82.out.lt
      have q_lo0 : W16.cell? ⟨W11.heap.size, 0, none⟩ = some (.int .i64 lo.east) := H82.out.cell 0
      have q_lo1 : W16.cell? ⟨W11.heap.size, 1, none⟩ = some (.int .i64 lo.north) := H82.out.cell 1
      have q_lo2 : W16.cell? ⟨W11.heap.size, 2, none⟩ = some (.int .i64 lo.up) := H82.out.cell 2
      have q_hil := H83.out.lt
      have q_hi0 : W16.cell? ⟨W11.heap.size + 1, 0, none⟩ = some (.int .i64 hi.east) := H83.out.cell 0
      have q_hi1 : W16.cell? ⟨W11.heap.size + 1, 1, none⟩ = some (.int .i64 hi.north) := H83.out.cell 1
      have q_hi2 : W16.cell? ⟨W11.heap.size + 1, 2, none⟩ = some (.int .i64 hi.up) := H83.out.cell 2
      have q_bpl := H84.out.lt
      have q_bp0 : W16.cell? ⟨W15.heap.size, 0, none⟩ = some (.int .i64 bp.east) := H84.out.cell 0
      have q_bp1 : W16.cell? ⟨W15.heap.size, 1, none⟩ = some (.int .i64 bp.north) := H84.out.cell 1
      have q_bp2 : W16.cell? ⟨W15.heap.size, 2, none⟩ = some (.int .i64 lo.up) := H84.out.cell 2
      go_upto_region 23 with fail
      clear q_lol q_lo0 q_lo1 q_lo2 q_hil q_hi0 q_hi1 q_hi2 q_bpl q_bp0 q_bp1 q_bp2
      clear H84
      clear hl1 HX HD HP HBO
      go_wp2_with fail
      go_loopw [25] (fun i wr => ∃ k : Nat, k ≤ K1 ∧ i = .int .i64 k ∧ wr.ownsRow (w.heap.size) 59 5 (.slice A1 L1 c1) L1 (flatLg t1) ∧ wr.ownsRow (W1.heap.size) 3 1 (.slice Atree K1 ctree) K1 (ints.intsV I1) ∧ wr.ownsRow (W2.heap.size) 3 1 (.slice Aplaced K2 cplaced) K2 (ints.intsV I2) ∧ wr.ownsRow (W3.heap.size) 3 1 (.slice Aclosing K3 cclosing) K3 (ints.intsV I3) ∧ Blk wr (W11.heap.size) 35 #[.int .i64 lo.east, .int .i64 lo.north, .int .i64 lo.up] ∧ Blk wr (W11.heap.size + 1) 35 #[.int .i64 hi.east, .int .i64 hi.north, .int .i64 hi.up] ∧ St w A n zs wr) (fun i _ => K1 - (intOf i).toNat)
      case atStart => exact ⟨0, Nat.zero_le _, rfl, H78.out, H79.out, H80.out, H81.out, H82.out, H83.out, H77.out⟩
      case round =>
        obtain ⟨k, hk, rfl, r_l1, r_tree, r_placed, r_closing, r_lo, r_hi, r_S⟩ := hrel
        have Ra_l1 := Lib.hid r_l1
        have Ra_tree := Lib.hid r_tree
        have Ra_placed := Lib.hid r_placed
        have Ra_closing := Lib.hid r_closing
        have Ra_lo := Lib.hid r_lo
        have Ra_hi := Lib.hid r_hi
        have Ra_S := Lib.hid r_S
        clear r_l1 r_tree r_placed r_closing r_lo r_hi r_S H78 H79 H80 H81 H82 H83 H77
        by_cases hlt : k < K1
        · skip
          have hki : (k : Int) < (K1 : Int) := by omega
          have hk0 : 0 ≤ (k : Int) := by omega
          have hkd : decide (k < K1) = true := by simpa using hlt
          obtain ⟨x, hx⟩ : ∃ x, I1[k]? = some x := ⟨_, List.getElem?_eq_getElem (by rw [HK1.out]; exact hlt)⟩
          have HX := Lib.hid hx
          obtain ⟨g, hA, -⟩ := (ints.IL.of_own Ra_tree.out).2 k x hx
          subst hA
          clear hx
          obtain ⟨hE, hM⟩ := HT.out k x HX.out
          have HE := Lib.hid hE
          have HM := Lib.hid hM
          clear hE hM
          have c0 : wr.cell? ⟨g, k, none⟩ = some (.int .i64 x) := by obtain ⟨g1, e, c⟩ := (ints.IL.of_own Ra_tree.out).2 k x HX.out; injection e with e; injection e with e; subst e; exact c
          have c0l : g < wr.heap.size := (Ra_tree.out.lt g rfl).2
          go_wp2_with fail
          clear c0 c0l
          refine (er_i HE (by omega) (Lib.hid (own_Lg HL1.out Ra_l1.out)) (Lib.hid Ra_S.out.2.2)).mono ?_
          rintro e W17 ⟨rfl, b⟩
          have H85 := Lib.hid (show St w A n zs W17 from Ra_S.out.step b)
          have H86 := Lib.hid (show W17.ownsRow (w.heap.size) 59 5 (.slice A1 L1 c1) L1 (flatLg t1) from row_below Ra_l1.out b)
          have H87 := Lib.hid (show W17.ownsRow (W1.heap.size) 3 1 (.slice (some ⟨g, 0, none⟩) K1 ctree) K1 (ints.intsV I1) from row_below Ra_tree.out b)
          have H88 := Lib.hid (show W17.ownsRow (W2.heap.size) 3 1 (.slice Aplaced K2 cplaced) K2 (ints.intsV I2) from row_below Ra_placed.out b)
          have H89 := Lib.hid (show W17.ownsRow (W3.heap.size) 3 1 (.slice Aclosing K3 cclosing) K3 (ints.intsV I3) from row_below Ra_closing.out b)
          have H90 := Lib.hid (show Blk W17 (W11.heap.size) 35 #[.int .i64 lo.east, .int .i64 lo.north, .int .i64 lo.up] from Ra_lo.out.below b Ra_lo.out.lt)
          have H91 := Lib.hid (show Blk W17 (W11.heap.size + 1) 35 #[.int .i64 hi.east, .int .i64 hi.north, .int .i64 hi.up] from Ra_hi.out.below b Ra_hi.out.lt)
          clear b Ra_S Ra_l1 Ra_tree Ra_placed Ra_closing Ra_lo Ra_hi
          go_upto_region 27 with fail
          obtain ⟨W18, HW⟩ : ∃ W18, Hid (W17.alloc (.cells #[.int .i64 0, .int .i64 0, .int .i64 0] 35) = W18) := ⟨_, Lib.hid rfl⟩
          have H92 := Lib.hid (show St w A n zs W18 by rw [← HW.out]; exact (H85.out.alloc _))
          have H93 := Lib.hid (show W18.ownsRow (w.heap.size) 59 5 (.slice A1 L1 c1) L1 (flatLg t1) by rw [← HW.out]; exact (H86.out.alloc _))
          have H94 := Lib.hid (show W18.ownsRow (W1.heap.size) 3 1 (.slice (some ⟨g, 0, none⟩) K1 ctree) K1 (ints.intsV I1) by rw [← HW.out]; exact (H87.out.alloc _))
          have H95 := Lib.hid (show W18.ownsRow (W2.heap.size) 3 1 (.slice Aplaced K2 cplaced) K2 (ints.intsV I2) by rw [← HW.out]; exact (H88.out.alloc _))
          have H96 := Lib.hid (show W18.ownsRow (W3.heap.size) 3 1 (.slice Aclosing K3 cclosing) K3 (ints.intsV I3) by rw [← HW.out]; exact (H89.out.alloc _))
          have H97 := Lib.hid (show Blk W18 (W11.heap.size) 35 #[.int .i64 lo.east, .int .i64 lo.north, .int .i64 lo.up] by rw [← HW.out]; exact (H90.out.alloc _))
          have H98 := Lib.hid (show Blk W18 (W11.heap.size + 1) 35 #[.int .i64 hi.east, .int .i64 hi.north, .int .i64 hi.up] by rw [← HW.out]; exact (H91.out.alloc _))
          have H99 := Lib.hid (show Blk W18 (W17.heap.size) 35 #[.int .i64 0, .int .i64 0, .int .i64 0] by rw [← HW.out]; exact Blk.new _ _ _)
          rw [HW.out]
          clear HW H85 H86 H87 H88 H89 H90 H91
          have c1 : W18.cell? ⟨g, k, none⟩ = some (.int .i64 x) := by obtain ⟨g1, e, c⟩ := (ints.IL.of_own H94.out).2 k x HX.out; injection e with e; injection e with e; subst e; exact c
          have c1l : g < W18.heap.size := (H94.out.lt g rfl).2
          have q_evl := H99.out.lt
          have q_ev0 : W18.cell? ⟨W17.heap.size, 0, none⟩ = some (.int .i64 0) := H99.out.cell 0
          have q_ev1 : W18.cell? ⟨W17.heap.size, 1, none⟩ = some (.int .i64 0) := H99.out.cell 1
          have q_ev2 : W18.cell? ⟨W17.heap.size, 2, none⟩ = some (.int .i64 0) := H99.out.cell 2
          go_wp2_with fail
          clear q_evl q_ev0 q_ev1 q_ev2
          clear c1 c1l
          clear H99
          refine (vhas_b HM (by omega) (Lib.hid (ints.IL.of_own H96.out))).mono ?_
          rintro e W19 ⟨rfl, b⟩
          have H100 := Lib.hid (show St w A n zs W19 from H92.out.step b)
          have H101 := Lib.hid (show W19.ownsRow (w.heap.size) 59 5 (.slice A1 L1 c1) L1 (flatLg t1) from row_below H93.out b)
          have H102 := Lib.hid (show W19.ownsRow (W1.heap.size) 3 1 (.slice (some ⟨g, 0, none⟩) K1 ctree) K1 (ints.intsV I1) from row_below H94.out b)
          have H103 := Lib.hid (show W19.ownsRow (W2.heap.size) 3 1 (.slice Aplaced K2 cplaced) K2 (ints.intsV I2) from row_below H95.out b)
          have H104 := Lib.hid (show W19.ownsRow (W3.heap.size) 3 1 (.slice Aclosing K3 cclosing) K3 (ints.intsV I3) from row_below H96.out b)
          have H105 := Lib.hid (show Blk W19 (W11.heap.size) 35 #[.int .i64 lo.east, .int .i64 lo.north, .int .i64 lo.up] from H97.out.below b H97.out.lt)
          have H106 := Lib.hid (show Blk W19 (W11.heap.size + 1) 35 #[.int .i64 hi.east, .int .i64 hi.north, .int .i64 hi.up] from H98.out.below b H98.out.lt)
          clear b H92 H93 H94 H95 H96 H97 H98
          go_wp2_with fail
          go_roundw
          case rel => exact ⟨k + 1, by omega, by go_num, H101.out, H102.out, H103.out, H104.out, H105.out, H106.out, H100.out⟩
          case measure => simp [intOf]; omega
        · skip
          have hkd : decide (k < K1) = false := by simpa using hlt
          have hkn : ¬ (k : Int) < (K1 : Int) := by omega
          clear hlt hk
          go_wp2_with fail
          go_loopw [28] (fun i wr => ∃ k : Nat, k ≤ K2 ∧ i = .int .i64 k ∧ wr.ownsRow (w.heap.size) 59 5 (.slice A1 L1 c1) L1 (flatLg t1) ∧ wr.ownsRow (W1.heap.size) 3 1 (.slice Atree K1 ctree) K1 (ints.intsV I1) ∧ wr.ownsRow (W2.heap.size) 3 1 (.slice Aplaced K2 cplaced) K2 (ints.intsV I2) ∧ wr.ownsRow (W3.heap.size) 3 1 (.slice Aclosing K3 cclosing) K3 (ints.intsV I3) ∧ Blk wr (W11.heap.size) 35 #[.int .i64 lo.east, .int .i64 lo.north, .int .i64 lo.up] ∧ Blk wr (W11.heap.size + 1) 35 #[.int .i64 hi.east, .int .i64 hi.north, .int .i64 hi.up] ∧ St w A n zs wr) (fun i _ => K2 - (intOf i).toNat)
          case atStart => exact ⟨0, Nat.zero_le _, rfl, Ra_l1.out, Ra_tree.out, Ra_placed.out, Ra_closing.out, Ra_lo.out, Ra_hi.out, Ra_S.out⟩
          case round =>
            obtain ⟨k, hk, rfl, r_l1, r_tree, r_placed, r_closing, r_lo, r_hi, r_S⟩ := hrel
            have Rb_l1 := Lib.hid r_l1
            have Rb_tree := Lib.hid r_tree
            have Rb_placed := Lib.hid r_placed
            have Rb_closing := Lib.hid r_closing
            have Rb_lo := Lib.hid r_lo
            have Rb_hi := Lib.hid r_hi
            have Rb_S := Lib.hid r_S
            clear r_l1 r_tree r_placed r_closing r_lo r_hi r_S Ra_l1 Ra_tree Ra_placed Ra_closing Ra_lo Ra_hi Ra_S
            by_cases hlt : k < K2
            · skip
              have hki : (k : Int) < (K2 : Int) := by omega
              have hk0 : 0 ≤ (k : Int) := by omega
              have hkd : decide (k < K2) = true := by simpa using hlt
              obtain ⟨x, hx⟩ : ∃ x, I2[k]? = some x := ⟨_, List.getElem?_eq_getElem (by rw [HK2.out]; exact hlt)⟩
              have HX := Lib.hid hx
              obtain ⟨g, hA, -⟩ := (ints.IL.of_own Rb_placed.out).2 k x hx
              subst hA
              clear hx
              obtain ⟨p, hE, ⟨e0, e1⟩, ⟨n0, n1⟩, m0, m1⟩ := HS.out k x HX.out
              have HE := Lib.hid hE
              clear hE
              have q0 : decide (p.east < lo.east) = false := by simp; omega
              have q1 : decide (hi.east < p.east) = false := by simp; omega
              have q2 : decide (p.north < lo.north) = false := by simp; omega
              have q3 : decide (hi.north < p.north) = false := by simp; omega
              have q4 : decide (p.up < lo.up) = false := by simp; omega
              have q5 : decide (hi.up < p.up) = false := by simp; omega
              have c0 : wr.cell? ⟨g, k, none⟩ = some (.int .i64 x) := by obtain ⟨g1, e, c⟩ := (ints.IL.of_own Rb_placed.out).2 k x HX.out; injection e with e; injection e with e; subst e; exact c
              have c0l : g < wr.heap.size := (Rb_placed.out.lt g rfl).2
              go_wp2_with fail
              clear c0 c0l
              refine (pl_i HE (by omega) (Lib.hid (own_Lg HL1.out Rb_l1.out)) (Lib.hid Rb_S.out.2.2)).mono ?_
              rintro e W20 ⟨rfl, b⟩
              have H107 := Lib.hid (show St w A n zs W20 from Rb_S.out.step b)
              have H108 := Lib.hid (show W20.ownsRow (w.heap.size) 59 5 (.slice A1 L1 c1) L1 (flatLg t1) from row_below Rb_l1.out b)
              have H109 := Lib.hid (show W20.ownsRow (W1.heap.size) 3 1 (.slice Atree K1 ctree) K1 (ints.intsV I1) from row_below Rb_tree.out b)
              have H110 := Lib.hid (show W20.ownsRow (W2.heap.size) 3 1 (.slice (some ⟨g, 0, none⟩) K2 cplaced) K2 (ints.intsV I2) from row_below Rb_placed.out b)
              have H111 := Lib.hid (show W20.ownsRow (W3.heap.size) 3 1 (.slice Aclosing K3 cclosing) K3 (ints.intsV I3) from row_below Rb_closing.out b)
              have H112 := Lib.hid (show Blk W20 (W11.heap.size) 35 #[.int .i64 lo.east, .int .i64 lo.north, .int .i64 lo.up] from Rb_lo.out.below b Rb_lo.out.lt)
              have H113 := Lib.hid (show Blk W20 (W11.heap.size + 1) 35 #[.int .i64 hi.east, .int .i64 hi.north, .int .i64 hi.up] from Rb_hi.out.below b Rb_hi.out.lt)
              clear b Rb_S Rb_l1 Rb_tree Rb_placed Rb_closing Rb_lo Rb_hi
              go_upto_region 33 with fail
              obtain ⟨W21, HW⟩ : ∃ W21, Hid (W20.alloc (.cells #[.int .i64 p.east, .int .i64 p.north, .int .i64 p.up] 35) = W21) := ⟨_, Lib.hid rfl⟩
              have H114 := Lib.hid (show St w A n zs W21 by rw [← HW.out]; exact (H107.out.alloc _))
              have H115 := Lib.hid (show W21.ownsRow (w.heap.size) 59 5 (.slice A1 L1 c1) L1 (flatLg t1) by rw [← HW.out]; exact (H108.out.alloc _))
              have H116 := Lib.hid (show W21.ownsRow (W1.heap.size) 3 1 (.slice Atree K1 ctree) K1 (ints.intsV I1) by rw [← HW.out]; exact (H109.out.alloc _))
              have H117 := Lib.hid (show W21.ownsRow (W2.heap.size) 3 1 (.slice (some ⟨g, 0, none⟩) K2 cplaced) K2 (ints.intsV I2) by rw [← HW.out]; exact (H110.out.alloc _))
              have H118 := Lib.hid (show W21.ownsRow (W3.heap.size) 3 1 (.slice Aclosing K3 cclosing) K3 (ints.intsV I3) by rw [← HW.out]; exact (H111.out.alloc _))
              have H119 := Lib.hid (show Blk W21 (W11.heap.size) 35 #[.int .i64 lo.east, .int .i64 lo.north, .int .i64 lo.up] by rw [← HW.out]; exact (H112.out.alloc _))
              have H120 := Lib.hid (show Blk W21 (W11.heap.size + 1) 35 #[.int .i64 hi.east, .int .i64 hi.north, .int .i64 hi.up] by rw [← HW.out]; exact (H113.out.alloc _))
              have H121 := Lib.hid (show Blk W21 (W20.heap.size) 35 #[.int .i64 p.east, .int .i64 p.north, .int .i64 p.up] by rw [← HW.out]; exact Blk.new _ _ _)
              rw [HW.out]
              clear HW H107 H108 H109 H110 H111 H112 H113
              have q_pvl := H121.out.lt
              have q_pv0 : W21.cell? ⟨W20.heap.size, 0, none⟩ = some (.int .i64 p.east) := H121.out.cell 0
              have q_pv1 : W21.cell? ⟨W20.heap.size, 1, none⟩ = some (.int .i64 p.north) := H121.out.cell 1
              have q_pv2 : W21.cell? ⟨W20.heap.size, 2, none⟩ = some (.int .i64 p.up) := H121.out.cell 2
              have q_lol := H119.out.lt
              have q_lo0 : W21.cell? ⟨W11.heap.size, 0, none⟩ = some (.int .i64 lo.east) := H119.out.cell 0
              have q_lo1 : W21.cell? ⟨W11.heap.size, 1, none⟩ = some (.int .i64 lo.north) := H119.out.cell 1
              have q_lo2 : W21.cell? ⟨W11.heap.size, 2, none⟩ = some (.int .i64 lo.up) := H119.out.cell 2
              have q_hil := H120.out.lt
              have q_hi0 : W21.cell? ⟨W11.heap.size + 1, 0, none⟩ = some (.int .i64 hi.east) := H120.out.cell 0
              have q_hi1 : W21.cell? ⟨W11.heap.size + 1, 1, none⟩ = some (.int .i64 hi.north) := H120.out.cell 1
              have q_hi2 : W21.cell? ⟨W11.heap.size + 1, 2, none⟩ = some (.int .i64 hi.up) := H120.out.cell 2
              go_wp2_with fail
              clear q_pvl q_pv0 q_pv1 q_pv2 q_lol q_lo0 q_lo1 q_lo2 q_hil q_hi0 q_hi1 q_hi2
              clear H121
              go_roundw
              case rel => exact ⟨k + 1, by omega, by go_num, H115.out, H116.out, H117.out, H118.out, H119.out, H120.out, H114.out⟩
              case measure => simp [intOf]; omega
            · skip
              have hkd : decide (k < K2) = false := by simpa using hlt
              have hkn : ¬ (k : Int) < (K2 : Int) := by omega
              clear hlt hk
              go_wp2_with fail
              go_meet
              case rel => exact Rb_S.out
  case rest => as_aux_lemma =>
    have SA := Lib.hid hcut
    clear hcut HB1 HI1 HK1 HI2 HK2 HI3 HK3 H38 H39 H40 H41 H42
    go_wp2_with fail
    refine (dcv.placeOf_draw A n cap zs _ (Lib.hid SA.out.2.1)).mono ?_
    rintro e W22 ⟨v2, t2, q2, rfl, ho, hl2, ⟨q2a, q2b⟩, b⟩
    obtain ⟨L2, HL2⟩ : ∃ L, Hid (t2.length = L) := ⟨_, Lib.hid rfl⟩
    rw [HL2.out] at ho hl2
    obtain ⟨A2, c2, rfl⟩ := base.row_slice ho
    have HR2 := Lib.hid ho
    clear ho
    have H122 := Lib.hid (show St w A n zs W22 from SA.out.step b)
    clear b SA
    obtain ⟨p2, ok2, hX⟩ := pl_form t2 q2
    have HX := Lib.hid hX
    clear hX
    go_wp2_with fail
    refine (pl_i HX (by omega) (Lib.hid (own_Lg HL2.out HR2.out)) (Lib.hid H122.out.2.2)).mono ?_
    rintro e W23 ⟨rfl, b⟩
    have H123 := Lib.hid (show St w A n zs W23 from H122.out.step b)
    have H124 := Lib.hid (show W23.ownsRow (wc.heap.size) 59 5 (.slice A2 L2 c2) L2 (flatLg t2) from row_below HR2.out b)
    clear b H122 HR2
    go_upto_region 37 with fail
    obtain ⟨W24, HW⟩ : ∃ W24, Hid (W23.alloc (.cells #[.int .i64 p2.east, .int .i64 p2.north, .int .i64 p2.up] 35) = W24) := ⟨_, Lib.hid rfl⟩
    have H125 := Lib.hid (show St w A n zs W24 by rw [← HW.out]; exact (H123.out.alloc _))
    have H126 := Lib.hid (show W24.ownsRow (wc.heap.size) 59 5 (.slice A2 L2 c2) L2 (flatLg t2) by rw [← HW.out]; exact (H124.out.alloc _))
    have H127 := Lib.hid (show Blk W24 (W23.heap.size) 35 #[.int .i64 p2.east, .int .i64 p2.north, .int .i64 p2.up] by rw [← HW.out]; exact Blk.new _ _ _)
    rw [HW.out]
    clear HW H123 H124
    go_wp2_with fail
    refine (pl_m HX (by omega) (Lib.hid (own_Lg HL2.out H126.out))).mono ?_
    rintro e W25 ⟨rfl, b⟩
    have H128 := Lib.hid (show St w A n zs W25 from H125.out.step b)
    have H129 := Lib.hid (show W25.ownsRow (wc.heap.size) 59 5 (.slice A2 L2 c2) L2 (flatLg t2) from row_below H126.out b)
    have H130 := Lib.hid (show Blk W25 (W23.heap.size) 35 #[.int .i64 p2.east, .int .i64 p2.north, .int .i64 p2.up] from H127.out.below b H127.out.lt)
    clear b H125 H126 H127
    go_upto_region 38 with fail
    obtain ⟨W26, HW⟩ : ∃ W26, Hid (W25.alloc (.cells #[.int .i64 p2.east, .int .i64 p2.north, .int .i64 p2.up] 35) = W26) := ⟨_, Lib.hid rfl⟩
    have H131 := Lib.hid (show St w A n zs W26 by rw [← HW.out]; exact (H128.out.alloc _))
    have H132 := Lib.hid (show W26.ownsRow (wc.heap.size) 59 5 (.slice A2 L2 c2) L2 (flatLg t2) by rw [← HW.out]; exact (H129.out.alloc _))
    have H133 := Lib.hid (show Blk W26 (W23.heap.size) 35 #[.int .i64 p2.east, .int .i64 p2.north, .int .i64 p2.up] by rw [← HW.out]; exact (H130.out.alloc _))
    have H134 := Lib.hid (show Blk W26 (W25.heap.size) 35 #[.int .i64 p2.east, .int .i64 p2.north, .int .i64 p2.up] by rw [← HW.out]; exact Blk.new _ _ _)
    rw [HW.out]
    clear HW H128 H129 H130
    go_cut [288] (fun v wx => v = .bool false ∧ St w A n zs wx)
    case first => as_aux_lemma =>
      cases ok2
      · skip
        have q_pal := H133.out.lt
        have q_pa0 : W26.cell? ⟨W23.heap.size, 0, none⟩ = some (.int .i64 p2.east) := H133.out.cell 0
        have q_pa1 : W26.cell? ⟨W23.heap.size, 1, none⟩ = some (.int .i64 p2.north) := H133.out.cell 1
        have q_pa2 : W26.cell? ⟨W23.heap.size, 2, none⟩ = some (.int .i64 p2.up) := H133.out.cell 2
        have q_pbl := H134.out.lt
        have q_pb0 : W26.cell? ⟨W25.heap.size, 0, none⟩ = some (.int .i64 p2.east) := H134.out.cell 0
        have q_pb1 : W26.cell? ⟨W25.heap.size, 1, none⟩ = some (.int .i64 p2.north) := H134.out.cell 1
        have q_pb2 : W26.cell? ⟨W25.heap.size, 2, none⟩ = some (.int .i64 p2.up) := H134.out.cell 2
        go_wp2_with fail
        clear q_pal q_pa0 q_pa1 q_pa2 q_pbl q_pb0 q_pb1 q_pb2
        go_meet
        case rel => exact ⟨by first | rfl | (simp; omega), H131.out⟩
      · skip
        have q_pal := H133.out.lt
        have q_pa0 : W26.cell? ⟨W23.heap.size, 0, none⟩ = some (.int .i64 p2.east) := H133.out.cell 0
        have q_pa1 : W26.cell? ⟨W23.heap.size, 1, none⟩ = some (.int .i64 p2.north) := H133.out.cell 1
        have q_pa2 : W26.cell? ⟨W23.heap.size, 2, none⟩ = some (.int .i64 p2.up) := H133.out.cell 2
        have q_pbl := H134.out.lt
        have q_pb0 : W26.cell? ⟨W25.heap.size, 0, none⟩ = some (.int .i64 p2.east) := H134.out.cell 0
        have q_pb1 : W26.cell? ⟨W25.heap.size, 1, none⟩ = some (.int .i64 p2.north) := H134.out.cell 1
        have q_pb2 : W26.cell? ⟨W25.heap.size, 2, none⟩ = some (.int .i64 p2.up) := H134.out.cell 2
        go_wp2_with fail
        clear q_pal q_pa0 q_pa1 q_pa2 q_pbl q_pb0 q_pb1 q_pb2
        go_meet
        case rel => exact ⟨by first | rfl | (simp; omega), H131.out⟩
    case rest => as_aux_lemma =>
      obtain ⟨rfl, hcut⟩ := hcut
      have SB := Lib.hid hcut
      clear hcut HX H131 H132 H133 H134
      go_wp2_with fail
      refine (dcv.errorOf_draw A n cap zs _ (Lib.hid SB.out.2.1)).mono ?_
      rintro e W27 ⟨v3, t3, q3, rfl, ho, hl3, ⟨q3a, q3b⟩, b⟩
      obtain ⟨L3, HL3⟩ : ∃ L, Hid (t3.length = L) := ⟨_, Lib.hid rfl⟩
      rw [HL3.out] at ho hl3
      obtain ⟨A3, c3, rfl⟩ := base.row_slice ho
      have HR3 := Lib.hid ho
      clear ho
      have H135 := Lib.hid (show St w A n zs W27 from SB.out.step b)
      clear b SB
      obtain ⟨p3, ok3, hX⟩ := er_form t3 q3
      have HX := Lib.hid hX
      clear hX
      go_wp2_with fail
      refine (er_i HX (by omega) (Lib.hid (own_Lg HL3.out HR3.out)) (Lib.hid H135.out.2.2)).mono ?_
      rintro e W28 ⟨rfl, b⟩
      have H136 := Lib.hid (show St w A n zs W28 from H135.out.step b)
      have H137 := Lib.hid (show W28.ownsRow (wc.heap.size) 59 5 (.slice A3 L3 c3) L3 (flatLg t3) from row_below HR3.out b)
      clear b H135 HR3
      go_upto_region 42 with fail
      obtain ⟨W29, HW⟩ : ∃ W29, Hid (W28.alloc (.cells #[.int .i64 p3.east, .int .i64 p3.north, .int .i64 p3.up] 35) = W29) := ⟨_, Lib.hid rfl⟩
      have H138 := Lib.hid (show St w A n zs W29 by rw [← HW.out]; exact (H136.out.alloc _))
      have H139 := Lib.hid (show W29.ownsRow (wc.heap.size) 59 5 (.slice A3 L3 c3) L3 (flatLg t3) by rw [← HW.out]; exact (H137.out.alloc _))
      have H140 := Lib.hid (show Blk W29 (W28.heap.size) 35 #[.int .i64 p3.east, .int .i64 p3.north, .int .i64 p3.up] by rw [← HW.out]; exact Blk.new _ _ _)
      rw [HW.out]
      clear HW H136 H137
      go_wp2_with fail
      refine (er_m HX (by omega) (Lib.hid (own_Lg HL3.out H139.out))).mono ?_
      rintro e W30 ⟨rfl, b⟩
      have H141 := Lib.hid (show St w A n zs W30 from H138.out.step b)
      have H142 := Lib.hid (show W30.ownsRow (wc.heap.size) 59 5 (.slice A3 L3 c3) L3 (flatLg t3) from row_below H139.out b)
      have H143 := Lib.hid (show Blk W30 (W28.heap.size) 35 #[.int .i64 p3.east, .int .i64 p3.north, .int .i64 p3.up] from H140.out.below b H140.out.lt)
      clear b H138 H139 H140
      go_upto_region 43 with fail
      obtain ⟨W31, HW⟩ : ∃ W31, Hid (W30.alloc (.cells #[.int .i64 p3.east, .int .i64 p3.north, .int .i64 p3.up] 35) = W31) := ⟨_, Lib.hid rfl⟩
      have H144 := Lib.hid (show St w A n zs W31 by rw [← HW.out]; exact (H141.out.alloc _))
      have H145 := Lib.hid (show W31.ownsRow (wc.heap.size) 59 5 (.slice A3 L3 c3) L3 (flatLg t3) by rw [← HW.out]; exact (H142.out.alloc _))
      have H146 := Lib.hid (show Blk W31 (W28.heap.size) 35 #[.int .i64 p3.east, .int .i64 p3.north, .int .i64 p3.up] by rw [← HW.out]; exact (H143.out.alloc _))
      have H147 := Lib.hid (show Blk W31 (W30.heap.size) 35 #[.int .i64 p3.east, .int .i64 p3.north, .int .i64 p3.up] by rw [← HW.out]; exact Blk.new _ _ _)
      rw [HW.out]
      clear HW H141 H142 H143
      cases ok3
      · skip
        have q_eal := H146.out.lt
        have q_ea0 : W31.cell? ⟨W28.heap.size, 0, none⟩ = some (.int .i64 p3.east) := H146.out.cell 0
        have q_ea1 : W31.cell? ⟨W28.heap.size, 1, none⟩ = some (.int .i64 p3.north) := H146.out.cell 1
        have q_ea2 : W31.cell? ⟨W28.heap.size, 2, none⟩ = some (.int .i64 p3.up) := H146.out.cell 2
        have q_ebl := H147.out.lt
        have q_eb0 : W31.cell? ⟨W30.heap.size, 0, none⟩ = some (.int .i64 p3.east) := H147.out.cell 0
        have q_eb1 : W31.cell? ⟨W30.heap.size, 1, none⟩ = some (.int .i64 p3.north) := H147.out.cell 1
        have q_eb2 : W31.cell? ⟨W30.heap.size, 2, none⟩ = some (.int .i64 p3.up) := H147.out.cell 2
        go_wp2_with fail
        clear q_eal q_ea0 q_ea1 q_ea2 q_ebl q_eb0 q_eb1 q_eb2
        go_ret
        exact ⟨rfl, H144.out.1⟩
      · skip
        have q_eal := H146.out.lt
        have q_ea0 : W31.cell? ⟨W28.heap.size, 0, none⟩ = some (.int .i64 p3.east) := H146.out.cell 0
        have q_ea1 : W31.cell? ⟨W28.heap.size, 1, none⟩ = some (.int .i64 p3.north) := H146.out.cell 1
        have q_ea2 : W31.cell? ⟨W28.heap.size, 2, none⟩ = some (.int .i64 p3.up) := H146.out.cell 2
        have q_ebl := H147.out.lt
        have q_eb0 : W31.cell? ⟨W30.heap.size, 0, none⟩ = some (.int .i64 p3.east) := H147.out.cell 0
        have q_eb1 : W31.cell? ⟨W30.heap.size, 1, none⟩ = some (.int .i64 p3.north) := H147.out.cell 1
        have q_eb2 : W31.cell? ⟨W30.heap.size, 2, none⟩ = some (.int .i64 p3.up) := H147.out.cell 2
        go_wp2_with fail
        clear q_eal q_ea0 q_ea1 q_ea2 q_ebl q_eb0 q_eb1 q_eb2
        go_ret
        exact ⟨rfl, H144.out.1⟩
#print axioms walk
end Go.Proofs.YtnoieboiklmkaaaDoor.nwc
