/-
  FnLegs: the law's walk.
  Conditions: the code has at most 65536 bytes; the variables hold what the program lays into them.
-/
import Derived.Test.YtiojgmojnnbpiaaDoorLwM
namespace Go.Proofs.YtiojgmojnnbpiaaDoor.lgw
open Go.RowKit
open reads base ty lg win lgx pcrd
set_option linter.unusedVariables false
set_option linter.unusedSimpArgs false

set_option maxHeartbeats 32000000 in
set_option maxRecDepth 100000 in
theorem walk (A : Option Addr) (n cap : Nat) (zs : List UInt8) (w : World) (hn : n ≤ 65536) (hS : Hid (St w A n zs w)) :
    Calls Tryd.prog 8 #[.slice A n cap] w (LawPost w) := by
  have HB := Lib.hid (vsb.big_no A n cap w hn)
  clear hn
  go_enter Tryd.func8, Tryd.ntmps8
  go_wp2_with fail
  refine HB.out.mono ?_
  rintro e w' ⟨rfl, rfl⟩
  clear HB
  go_wp2_with fail
  refine (lgd.shiftOf_draw A n cap zs _ (Lib.hid hS.out.2.1)).mono ?_
  rintro e W1 ⟨x, rfl, b⟩
  have H1 := Lib.hid (show St w A n zs W1 from hS.out.step b)
  clear b hS
  obtain ⟨s, ok, hF, hok, hs⟩ := shift_form x
  have HF := Lib.hid hF
  have HOK := Lib.hid hok
  have HSV := Lib.hid hs
  obtain ⟨r, hR, hr⟩ := rev_form x ok hok
  have HR := Lib.hid hR
  have HRV := Lib.hid hr
  clear hF hok hs hR hr
  go_upto_region 4 with fail
  obtain ⟨W2, HW⟩ : ∃ W2, Hid (W1.alloc (.cells #[.int .i64 x.frm, .int .i64 x.to_, .int .i64 x.tape, .int .i64 x.comp, .int .i64 x.slope] 41) = W2) := ⟨_, Lib.hid rfl⟩
  have H2 := Lib.hid (show St w A n zs W2 by rw [← HW.out]; exact (H1.out.alloc _))
  have H3 := Lib.hid (show Blk W2 (W1.heap.size) 41 #[.int .i64 x.frm, .int .i64 x.to_, .int .i64 x.tape, .int .i64 x.comp, .int .i64 x.slope] by rw [← HW.out]; exact Blk.new _ _ _)
  rw [HW.out]
  clear HW H1
  have q_Xl := H3.out.lt
  have q_X0 : W2.cell? ⟨W1.heap.size, 0, none⟩ = some (.int .i64 x.frm) := H3.out.cell 0
  have q_X1 : W2.cell? ⟨W1.heap.size, 1, none⟩ = some (.int .i64 x.to_) := H3.out.cell 1
  have q_X2 : W2.cell? ⟨W1.heap.size, 2, none⟩ = some (.int .i64 x.tape) := H3.out.cell 2
  have q_X3 : W2.cell? ⟨W1.heap.size, 3, none⟩ = some (.int .i64 x.comp) := H3.out.cell 3
  have q_X4 : W2.cell? ⟨W1.heap.size, 4, none⟩ = some (.int .i64 x.slope) := H3.out.cell 4
  go_wp2_with fail
  clear q_Xl q_X0 q_X1 q_X2 q_X3 q_X4
  refine (lgi.shiftOf_impl x _ (Lib.hid H2.out.2.2.1)).mono ?_
  rintro e W3 ⟨rfl, b⟩
  rw [HF.out]
  have H4 := Lib.hid (show St w A n zs W3 from H2.out.step b)
  have H5 := Lib.hid (show Blk W3 (W1.heap.size) 41 #[.int .i64 x.frm, .int .i64 x.to_, .int .i64 x.tape, .int .i64 x.comp, .int .i64 x.slope] from H3.out.below b H3.out.lt)
  clear b H2 H3
  go_upto_region 5 with fail
  obtain ⟨W4, HW⟩ : ∃ W4, Hid (W3.alloc (.cells #[.int .i64 s.east, .int .i64 s.north, .int .i64 s.up] 27) = W4) := ⟨_, Lib.hid rfl⟩
  have H6 := Lib.hid (show St w A n zs W4 by rw [← HW.out]; exact (H4.out.alloc _))
  have H7 := Lib.hid (show Blk W4 (W1.heap.size) 41 #[.int .i64 x.frm, .int .i64 x.to_, .int .i64 x.tape, .int .i64 x.comp, .int .i64 x.slope] by rw [← HW.out]; exact (H5.out.alloc _))
  have H8 := Lib.hid (show Blk W4 (W3.heap.size) 27 #[.int .i64 s.east, .int .i64 s.north, .int .i64 s.up] by rw [← HW.out]; exact Blk.new _ _ _)
  rw [HW.out]
  clear HW H4 H5
  have q_Xl := H7.out.lt
  have q_X0 : W4.cell? ⟨W1.heap.size, 0, none⟩ = some (.int .i64 x.frm) := H7.out.cell 0
  have q_X1 : W4.cell? ⟨W1.heap.size, 1, none⟩ = some (.int .i64 x.to_) := H7.out.cell 1
  have q_X2 : W4.cell? ⟨W1.heap.size, 2, none⟩ = some (.int .i64 x.tape) := H7.out.cell 2
  have q_X3 : W4.cell? ⟨W1.heap.size, 3, none⟩ = some (.int .i64 x.comp) := H7.out.cell 3
  have q_X4 : W4.cell? ⟨W1.heap.size, 4, none⟩ = some (.int .i64 x.slope) := H7.out.cell 4
  go_wp2_with fail
  clear q_Xl q_X0 q_X1 q_X2 q_X3 q_X4
  refine (lg.shiftOf_model x _).mono ?_
  rintro e W5 ⟨rfl, b⟩
  rw [HF.out]
  have H9 := Lib.hid (show St w A n zs W5 from H6.out.step b)
  have H10 := Lib.hid (show Blk W5 (W1.heap.size) 41 #[.int .i64 x.frm, .int .i64 x.to_, .int .i64 x.tape, .int .i64 x.comp, .int .i64 x.slope] from H7.out.below b H7.out.lt)
  have H11 := Lib.hid (show Blk W5 (W3.heap.size) 27 #[.int .i64 s.east, .int .i64 s.north, .int .i64 s.up] from H8.out.below b H8.out.lt)
  clear b H6 H7 H8
  clear HF
  go_upto_region 6 with fail
  obtain ⟨W6, HW⟩ : ∃ W6, Hid (W5.alloc (.cells #[.int .i64 s.east, .int .i64 s.north, .int .i64 s.up] 27) = W6) := ⟨_, Lib.hid rfl⟩
  have H12 := Lib.hid (show St w A n zs W6 by rw [← HW.out]; exact (H9.out.alloc _))
  have H13 := Lib.hid (show Blk W6 (W1.heap.size) 41 #[.int .i64 x.frm, .int .i64 x.to_, .int .i64 x.tape, .int .i64 x.comp, .int .i64 x.slope] by rw [← HW.out]; exact (H10.out.alloc _))
  have H14 := Lib.hid (show Blk W6 (W3.heap.size) 27 #[.int .i64 s.east, .int .i64 s.north, .int .i64 s.up] by rw [← HW.out]; exact (H11.out.alloc _))
  have H15 := Lib.hid (show Blk W6 (W5.heap.size) 27 #[.int .i64 s.east, .int .i64 s.north, .int .i64 s.up] by rw [← HW.out]; exact Blk.new _ _ _)
  rw [HW.out]
  clear HW H9 H10 H11
  have q_sl := H14.out.lt
  have q_s0 : W6.cell? ⟨W3.heap.size, 0, none⟩ = some (.int .i64 s.east) := H14.out.cell 0
  have q_s1 : W6.cell? ⟨W3.heap.size, 1, none⟩ = some (.int .i64 s.north) := H14.out.cell 1
  have q_s2 : W6.cell? ⟨W3.heap.size, 2, none⟩ = some (.int .i64 s.up) := H14.out.cell 2
  have q_s2l := H15.out.lt
  have q_s20 : W6.cell? ⟨W5.heap.size, 0, none⟩ = some (.int .i64 s.east) := H15.out.cell 0
  have q_s21 : W6.cell? ⟨W5.heap.size, 1, none⟩ = some (.int .i64 s.north) := H15.out.cell 1
  have q_s22 : W6.cell? ⟨W5.heap.size, 2, none⟩ = some (.int .i64 s.up) := H15.out.cell 2
  have q_Xl := H13.out.lt
  have q_X0 : W6.cell? ⟨W1.heap.size, 0, none⟩ = some (.int .i64 x.frm) := H13.out.cell 0
  have q_X1 : W6.cell? ⟨W1.heap.size, 1, none⟩ = some (.int .i64 x.to_) := H13.out.cell 1
  have q_X2 : W6.cell? ⟨W1.heap.size, 2, none⟩ = some (.int .i64 x.tape) := H13.out.cell 2
  have q_X3 : W6.cell? ⟨W1.heap.size, 3, none⟩ = some (.int .i64 x.comp) := H13.out.cell 3
  have q_X4 : W6.cell? ⟨W1.heap.size, 4, none⟩ = some (.int .i64 x.slope) := H13.out.cell 4
  go_wp2_with fail
  clear q_sl q_s0 q_s1 q_s2 q_s2l q_s20 q_s21 q_s22 q_Xl q_X0 q_X1 q_X2 q_X3 q_X4
  refine (lgi.isLeg_is x ok HOK _).mono ?_
  rintro e W7 ⟨rfl, b⟩
  have H16 := Lib.hid (show St w A n zs W7 from H12.out.step b)
  have H17 := Lib.hid (show Blk W7 (W1.heap.size) 41 #[.int .i64 x.frm, .int .i64 x.to_, .int .i64 x.tape, .int .i64 x.comp, .int .i64 x.slope] from H13.out.below b H13.out.lt)
  have H18 := Lib.hid (show Blk W7 (W3.heap.size) 27 #[.int .i64 s.east, .int .i64 s.north, .int .i64 s.up] from H14.out.below b H14.out.lt)
  clear b H12 H13 H14 H15
  have q_Xl := H17.out.lt
  have q_X0 : W7.cell? ⟨W1.heap.size, 0, none⟩ = some (.int .i64 x.frm) := H17.out.cell 0
  have q_X1 : W7.cell? ⟨W1.heap.size, 1, none⟩ = some (.int .i64 x.to_) := H17.out.cell 1
  have q_X2 : W7.cell? ⟨W1.heap.size, 2, none⟩ = some (.int .i64 x.tape) := H17.out.cell 2
  have q_X3 : W7.cell? ⟨W1.heap.size, 3, none⟩ = some (.int .i64 x.comp) := H17.out.cell 3
  have q_X4 : W7.cell? ⟨W1.heap.size, 4, none⟩ = some (.int .i64 x.slope) := H17.out.cell 4
  go_wp2_with fail
  clear q_Xl q_X0 q_X1 q_X2 q_X3 q_X4
  refine (lgi.reverseLeg_impl x _).mono ?_
  rintro e W8 ⟨rfl, b⟩
  rw [HR.out]
  have H19 := Lib.hid (show St w A n zs W8 from H16.out.step b)
  have H20 := Lib.hid (show Blk W8 (W1.heap.size) 41 #[.int .i64 x.frm, .int .i64 x.to_, .int .i64 x.tape, .int .i64 x.comp, .int .i64 x.slope] from H17.out.below b H17.out.lt)
  have H21 := Lib.hid (show Blk W8 (W3.heap.size) 27 #[.int .i64 s.east, .int .i64 s.north, .int .i64 s.up] from H18.out.below b H18.out.lt)
  clear b H16 H17 H18
  go_upto_region 9 with fail
  obtain ⟨W9, HW⟩ : ∃ W9, Hid (W8.alloc (.cells #[.int .i64 r.frm, .int .i64 r.to_, .int .i64 r.tape, .int .i64 r.comp, .int .i64 r.slope] 41) = W9) := ⟨_, Lib.hid rfl⟩
  have H22 := Lib.hid (show St w A n zs W9 by rw [← HW.out]; exact (H19.out.alloc _))
  have H23 := Lib.hid (show Blk W9 (W1.heap.size) 41 #[.int .i64 x.frm, .int .i64 x.to_, .int .i64 x.tape, .int .i64 x.comp, .int .i64 x.slope] by rw [← HW.out]; exact (H20.out.alloc _))
  have H24 := Lib.hid (show Blk W9 (W3.heap.size) 27 #[.int .i64 s.east, .int .i64 s.north, .int .i64 s.up] by rw [← HW.out]; exact (H21.out.alloc _))
  have H25 := Lib.hid (show Blk W9 (W8.heap.size) 41 #[.int .i64 r.frm, .int .i64 r.to_, .int .i64 r.tape, .int .i64 r.comp, .int .i64 r.slope] by rw [← HW.out]; exact Blk.new _ _ _)
  rw [HW.out]
  clear HW H19 H20 H21
  have q_Xl := H23.out.lt
  have q_X0 : W9.cell? ⟨W1.heap.size, 0, none⟩ = some (.int .i64 x.frm) := H23.out.cell 0
  have q_X1 : W9.cell? ⟨W1.heap.size, 1, none⟩ = some (.int .i64 x.to_) := H23.out.cell 1
  have q_X2 : W9.cell? ⟨W1.heap.size, 2, none⟩ = some (.int .i64 x.tape) := H23.out.cell 2
  have q_X3 : W9.cell? ⟨W1.heap.size, 3, none⟩ = some (.int .i64 x.comp) := H23.out.cell 3
  have q_X4 : W9.cell? ⟨W1.heap.size, 4, none⟩ = some (.int .i64 x.slope) := H23.out.cell 4
  go_wp2_with fail
  clear q_Xl q_X0 q_X1 q_X2 q_X3 q_X4
  refine (lg.reverseLeg_model x _).mono ?_
  rintro e W10 ⟨rfl, b⟩
  rw [HR.out]
  have H26 := Lib.hid (show St w A n zs W10 from H22.out.step b)
  have H27 := Lib.hid (show Blk W10 (W1.heap.size) 41 #[.int .i64 x.frm, .int .i64 x.to_, .int .i64 x.tape, .int .i64 x.comp, .int .i64 x.slope] from H23.out.below b H23.out.lt)
  have H28 := Lib.hid (show Blk W10 (W3.heap.size) 27 #[.int .i64 s.east, .int .i64 s.north, .int .i64 s.up] from H24.out.below b H24.out.lt)
  have H29 := Lib.hid (show Blk W10 (W8.heap.size) 41 #[.int .i64 r.frm, .int .i64 r.to_, .int .i64 r.tape, .int .i64 r.comp, .int .i64 r.slope] from H25.out.below b H25.out.lt)
  clear b H22 H23 H24 H25
  go_upto_region 10 with fail
  obtain ⟨W11, HW⟩ : ∃ W11, Hid (W10.alloc (.cells #[.int .i64 r.frm, .int .i64 r.to_, .int .i64 r.tape, .int .i64 r.comp, .int .i64 r.slope] 41) = W11) := ⟨_, Lib.hid rfl⟩
  have H30 := Lib.hid (show St w A n zs W11 by rw [← HW.out]; exact (H26.out.alloc _))
  have H31 := Lib.hid (show Blk W11 (W1.heap.size) 41 #[.int .i64 x.frm, .int .i64 x.to_, .int .i64 x.tape, .int .i64 x.comp, .int .i64 x.slope] by rw [← HW.out]; exact (H27.out.alloc _))
  have H32 := Lib.hid (show Blk W11 (W3.heap.size) 27 #[.int .i64 s.east, .int .i64 s.north, .int .i64 s.up] by rw [← HW.out]; exact (H28.out.alloc _))
  have H33 := Lib.hid (show Blk W11 (W8.heap.size) 41 #[.int .i64 r.frm, .int .i64 r.to_, .int .i64 r.tape, .int .i64 r.comp, .int .i64 r.slope] by rw [← HW.out]; exact (H29.out.alloc _))
  have H34 := Lib.hid (show Blk W11 (W10.heap.size) 41 #[.int .i64 r.frm, .int .i64 r.to_, .int .i64 r.tape, .int .i64 r.comp, .int .i64 r.slope] by rw [← HW.out]; exact Blk.new _ _ _)
  rw [HW.out]
  clear HW H26 H27 H28 H29
  clear HR
  have q_rl := H33.out.lt
  have q_r0 : W11.cell? ⟨W8.heap.size, 0, none⟩ = some (.int .i64 r.frm) := H33.out.cell 0
  have q_r1 : W11.cell? ⟨W8.heap.size, 1, none⟩ = some (.int .i64 r.to_) := H33.out.cell 1
  have q_r2 : W11.cell? ⟨W8.heap.size, 2, none⟩ = some (.int .i64 r.tape) := H33.out.cell 2
  have q_r3 : W11.cell? ⟨W8.heap.size, 3, none⟩ = some (.int .i64 r.comp) := H33.out.cell 3
  have q_r4 : W11.cell? ⟨W8.heap.size, 4, none⟩ = some (.int .i64 r.slope) := H33.out.cell 4
  have q_r2l := H34.out.lt
  have q_r20 : W11.cell? ⟨W10.heap.size, 0, none⟩ = some (.int .i64 r.frm) := H34.out.cell 0
  have q_r21 : W11.cell? ⟨W10.heap.size, 1, none⟩ = some (.int .i64 r.to_) := H34.out.cell 1
  have q_r22 : W11.cell? ⟨W10.heap.size, 2, none⟩ = some (.int .i64 r.tape) := H34.out.cell 2
  have q_r23 : W11.cell? ⟨W10.heap.size, 3, none⟩ = some (.int .i64 r.comp) := H34.out.cell 3
  have q_r24 : W11.cell? ⟨W10.heap.size, 4, none⟩ = some (.int .i64 r.slope) := H34.out.cell 4
  go_upto_if 97 with fail
  clear q_rl q_r0 q_r1 q_r2 q_r3 q_r4 q_r2l q_r20 q_r21 q_r22 q_r23 q_r24
  clear H34
  go_cut [97] (fun _ wx => St w A n zs wx)
  case first =>
    as_aux_lemma =>
      cases ok
      · go_wp2_with fail
        go_meet
        case rel => exact H30.out
      · have hx := HOK.out
        have hsv := HSV.out rfl
        have hrv := HRV.out rfl
        have HSR := Lib.hid (shift_rev hx hrv hsv)
        have HRB := Lib.hid (rev_back hx hrv)
        have HAG := Lib.hid (show ansAgree x r 0 0 = .tuple #[.bool true, .bool true] by rw [hrv]; exact agree_rev hx)
        have hb := shf_bd hx
        rw [← hsv] at hb
        obtain ⟨⟨e0, e1⟩, ⟨n0, n1⟩, u0, u1⟩ := hb
        obtain ⟨-, -, -, ⟨t0, t1⟩, -, -⟩ := okLg_lim hx
        have HXX := Lib.hid hx
        have HSS := Lib.hid hsv
        clear hx hsv hrv HSV HRV HOK
        have q_rl := H33.out.lt
        have q_r0 : W11.cell? ⟨W8.heap.size, 0, none⟩ = some (.int .i64 r.frm) := H33.out.cell 0
        have q_r1 : W11.cell? ⟨W8.heap.size, 1, none⟩ = some (.int .i64 r.to_) := H33.out.cell 1
        have q_r2 : W11.cell? ⟨W8.heap.size, 2, none⟩ = some (.int .i64 r.tape) := H33.out.cell 2
        have q_r3 : W11.cell? ⟨W8.heap.size, 3, none⟩ = some (.int .i64 r.comp) := H33.out.cell 3
        have q_r4 : W11.cell? ⟨W8.heap.size, 4, none⟩ = some (.int .i64 r.slope) := H33.out.cell 4
        go_wp2_with fail
        clear q_rl q_r0 q_r1 q_r2 q_r3 q_r4
        refine (lgi.shiftOf_impl r _ (Lib.hid H30.out.2.2.1)).mono ?_
        rintro e W12 ⟨rfl, b⟩
        rw [HSR.out]
        have H35 := Lib.hid (show St w A n zs W12 from H30.out.step b)
        have H36 := Lib.hid (show Blk W12 (W1.heap.size) 41 #[.int .i64 x.frm, .int .i64 x.to_, .int .i64 x.tape, .int .i64 x.comp, .int .i64 x.slope] from H31.out.below b H31.out.lt)
        have H37 := Lib.hid (show Blk W12 (W3.heap.size) 27 #[.int .i64 s.east, .int .i64 s.north, .int .i64 s.up] from H32.out.below b H32.out.lt)
        have H38 := Lib.hid (show Blk W12 (W8.heap.size) 41 #[.int .i64 r.frm, .int .i64 r.to_, .int .i64 r.tape, .int .i64 r.comp, .int .i64 r.slope] from H33.out.below b H33.out.lt)
        clear b H30 H31 H32 H33
        clear HSR
        go_upto_region 14 with fail
        obtain ⟨W13, HW⟩ : ∃ W13, Hid (W12.alloc (.cells #[.int .i64 (-s.east), .int .i64 (-s.north), .int .i64 (-s.up)] 27) = W13) := ⟨_, Lib.hid rfl⟩
        have H39 := Lib.hid (show St w A n zs W13 by rw [← HW.out]; exact (H35.out.alloc _))
        have H40 := Lib.hid (show Blk W13 (W1.heap.size) 41 #[.int .i64 x.frm, .int .i64 x.to_, .int .i64 x.tape, .int .i64 x.comp, .int .i64 x.slope] by rw [← HW.out]; exact (H36.out.alloc _))
        have H41 := Lib.hid (show Blk W13 (W3.heap.size) 27 #[.int .i64 s.east, .int .i64 s.north, .int .i64 s.up] by rw [← HW.out]; exact (H37.out.alloc _))
        have H42 := Lib.hid (show Blk W13 (W8.heap.size) 41 #[.int .i64 r.frm, .int .i64 r.to_, .int .i64 r.tape, .int .i64 r.comp, .int .i64 r.slope] by rw [← HW.out]; exact (H38.out.alloc _))
        have H43 := Lib.hid (show Blk W13 (W12.heap.size) 27 #[.int .i64 (-s.east), .int .i64 (-s.north), .int .i64 (-s.up)] by rw [← HW.out]; exact Blk.new _ _ _)
        rw [HW.out]
        clear HW H35 H36 H37 H38
        have q_rl := H42.out.lt
        have q_r0 : W13.cell? ⟨W8.heap.size, 0, none⟩ = some (.int .i64 r.frm) := H42.out.cell 0
        have q_r1 : W13.cell? ⟨W8.heap.size, 1, none⟩ = some (.int .i64 r.to_) := H42.out.cell 1
        have q_r2 : W13.cell? ⟨W8.heap.size, 2, none⟩ = some (.int .i64 r.tape) := H42.out.cell 2
        have q_r3 : W13.cell? ⟨W8.heap.size, 3, none⟩ = some (.int .i64 r.comp) := H42.out.cell 3
        have q_r4 : W13.cell? ⟨W8.heap.size, 4, none⟩ = some (.int .i64 r.slope) := H42.out.cell 4
        go_wp2_with fail
        clear q_rl q_r0 q_r1 q_r2 q_r3 q_r4
        refine (lgi.reverseLeg_impl r _).mono ?_
        rintro e W14 ⟨rfl, b⟩
        rw [HRB.out]
        have H44 := Lib.hid (show St w A n zs W14 from H39.out.step b)
        have H45 := Lib.hid (show Blk W14 (W1.heap.size) 41 #[.int .i64 x.frm, .int .i64 x.to_, .int .i64 x.tape, .int .i64 x.comp, .int .i64 x.slope] from H40.out.below b H40.out.lt)
        have H46 := Lib.hid (show Blk W14 (W3.heap.size) 27 #[.int .i64 s.east, .int .i64 s.north, .int .i64 s.up] from H41.out.below b H41.out.lt)
        have H47 := Lib.hid (show Blk W14 (W8.heap.size) 41 #[.int .i64 r.frm, .int .i64 r.to_, .int .i64 r.tape, .int .i64 r.comp, .int .i64 r.slope] from H42.out.below b H42.out.lt)
        have H48 := Lib.hid (show Blk W14 (W12.heap.size) 27 #[.int .i64 (-s.east), .int .i64 (-s.north), .int .i64 (-s.up)] from H43.out.below b H43.out.lt)
        clear b H39 H40 H41 H42 H43
        clear HRB
        go_upto_region 15 with fail
        obtain ⟨W15, HW⟩ : ∃ W15, Hid (W14.alloc (.cells #[.int .i64 x.frm, .int .i64 x.to_, .int .i64 x.tape, .int .i64 x.comp, .int .i64 x.slope] 41) = W15) := ⟨_, Lib.hid rfl⟩
        have H49 := Lib.hid (show St w A n zs W15 by rw [← HW.out]; exact (H44.out.alloc _))
        have H50 := Lib.hid (show Blk W15 (W1.heap.size) 41 #[.int .i64 x.frm, .int .i64 x.to_, .int .i64 x.tape, .int .i64 x.comp, .int .i64 x.slope] by rw [← HW.out]; exact (H45.out.alloc _))
        have H51 := Lib.hid (show Blk W15 (W3.heap.size) 27 #[.int .i64 s.east, .int .i64 s.north, .int .i64 s.up] by rw [← HW.out]; exact (H46.out.alloc _))
        have H52 := Lib.hid (show Blk W15 (W8.heap.size) 41 #[.int .i64 r.frm, .int .i64 r.to_, .int .i64 r.tape, .int .i64 r.comp, .int .i64 r.slope] by rw [← HW.out]; exact (H47.out.alloc _))
        have H53 := Lib.hid (show Blk W15 (W12.heap.size) 27 #[.int .i64 (-s.east), .int .i64 (-s.north), .int .i64 (-s.up)] by rw [← HW.out]; exact (H48.out.alloc _))
        have H54 := Lib.hid (show Blk W15 (W14.heap.size) 41 #[.int .i64 x.frm, .int .i64 x.to_, .int .i64 x.tape, .int .i64 x.comp, .int .i64 x.slope] by rw [← HW.out]; exact Blk.new _ _ _)
        rw [HW.out]
        clear HW H44 H45 H46 H47 H48
        have q_sl := H51.out.lt
        have q_s0 : W15.cell? ⟨W3.heap.size, 0, none⟩ = some (.int .i64 s.east) := H51.out.cell 0
        have q_s1 : W15.cell? ⟨W3.heap.size, 1, none⟩ = some (.int .i64 s.north) := H51.out.cell 1
        have q_s2 : W15.cell? ⟨W3.heap.size, 2, none⟩ = some (.int .i64 s.up) := H51.out.cell 2
        go_wp2_with fail
        clear q_sl q_s0 q_s1 q_s2
        refine (leni.lengthOf_impl s.east s.north s.up _).mono ?_
        rintro e W16 ⟨hd, b⟩
        obtain ⟨m, hm, rfl⟩ : ∃ q, len.IsRoot (s.east * s.east + s.north * s.north + s.up * s.up) q ∧ e = .returned (.tuple #[.int .i64 q, .bool true]) := by
          rcases hd with ⟨-, q, hq, he⟩ | ⟨hno, -⟩
          · exact ⟨q, hq, he⟩
          · exact absurd (show len.okL s.east s.north s.up by unfold len.okL; omega) hno
        obtain ⟨k0, k1⟩ := len_near HXX.out (by rw [← HSS.out]; exact hm)
        obtain ⟨f, HFA⟩ : ∃ f, Hid ((if m - x.tape < 0 then -(m - x.tape) else m - x.tape) = f) := ⟨_, Lib.hid rfl⟩
        have hf3 : f ≤ 3 := by rw [← HFA.out]; split <;> omega
        have hm0 : 0 ≤ m := hm.1
        clear hd hm HXX HSS
        have H55 := Lib.hid (show St w A n zs W16 from H49.out.step b)
        have H56 := Lib.hid (show Blk W16 (W1.heap.size) 41 #[.int .i64 x.frm, .int .i64 x.to_, .int .i64 x.tape, .int .i64 x.comp, .int .i64 x.slope] from H50.out.below b H50.out.lt)
        have H57 := Lib.hid (show Blk W16 (W3.heap.size) 27 #[.int .i64 s.east, .int .i64 s.north, .int .i64 s.up] from H51.out.below b H51.out.lt)
        have H58 := Lib.hid (show Blk W16 (W8.heap.size) 41 #[.int .i64 r.frm, .int .i64 r.to_, .int .i64 r.tape, .int .i64 r.comp, .int .i64 r.slope] from H52.out.below b H52.out.lt)
        have H59 := Lib.hid (show Blk W16 (W12.heap.size) 27 #[.int .i64 (-s.east), .int .i64 (-s.north), .int .i64 (-s.up)] from H53.out.below b H53.out.lt)
        have H60 := Lib.hid (show Blk W16 (W14.heap.size) 41 #[.int .i64 x.frm, .int .i64 x.to_, .int .i64 x.tape, .int .i64 x.comp, .int .i64 x.slope] from H54.out.below b H54.out.lt)
        clear b H49 H50 H51 H52 H53 H54
        have q_tl := H59.out.lt
        have q_t0 : W16.cell? ⟨W12.heap.size, 0, none⟩ = some (.int .i64 (-s.east)) := H59.out.cell 0
        have q_t1 : W16.cell? ⟨W12.heap.size, 1, none⟩ = some (.int .i64 (-s.north)) := H59.out.cell 1
        have q_t2 : W16.cell? ⟨W12.heap.size, 2, none⟩ = some (.int .i64 (-s.up)) := H59.out.cell 2
        have q_sl := H57.out.lt
        have q_s0 : W16.cell? ⟨W3.heap.size, 0, none⟩ = some (.int .i64 s.east) := H57.out.cell 0
        have q_s1 : W16.cell? ⟨W3.heap.size, 1, none⟩ = some (.int .i64 s.north) := H57.out.cell 1
        have q_s2 : W16.cell? ⟨W3.heap.size, 2, none⟩ = some (.int .i64 s.up) := H57.out.cell 2
        have q_bl := H60.out.lt
        have q_b0 : W16.cell? ⟨W14.heap.size, 0, none⟩ = some (.int .i64 x.frm) := H60.out.cell 0
        have q_b1 : W16.cell? ⟨W14.heap.size, 1, none⟩ = some (.int .i64 x.to_) := H60.out.cell 1
        have q_b2 : W16.cell? ⟨W14.heap.size, 2, none⟩ = some (.int .i64 x.tape) := H60.out.cell 2
        have q_b3 : W16.cell? ⟨W14.heap.size, 3, none⟩ = some (.int .i64 x.comp) := H60.out.cell 3
        have q_b4 : W16.cell? ⟨W14.heap.size, 4, none⟩ = some (.int .i64 x.slope) := H60.out.cell 4
        have q_Xl := H56.out.lt
        have q_X0 : W16.cell? ⟨W1.heap.size, 0, none⟩ = some (.int .i64 x.frm) := H56.out.cell 0
        have q_X1 : W16.cell? ⟨W1.heap.size, 1, none⟩ = some (.int .i64 x.to_) := H56.out.cell 1
        have q_X2 : W16.cell? ⟨W1.heap.size, 2, none⟩ = some (.int .i64 x.tape) := H56.out.cell 2
        have q_X3 : W16.cell? ⟨W1.heap.size, 3, none⟩ = some (.int .i64 x.comp) := H56.out.cell 3
        have q_X4 : W16.cell? ⟨W1.heap.size, 4, none⟩ = some (.int .i64 x.slope) := H56.out.cell 4
        go_wp2_with fail
        clear q_tl q_t0 q_t1 q_t2 q_sl q_s0 q_s1 q_s2 q_bl q_b0 q_b1 q_b2 q_b3 q_b4 q_Xl q_X0 q_X1 q_X2 q_X3 q_X4
        refine (vsb.far_is (m - x.tape) f _ (by omega) (by omega) HFA).mono ?_
        rintro e w' ⟨rfl, rfl⟩
        have hfd : decide (3 < f) = false := by simp; omega
        clear H59
        clear H57
        clear H60
        have q_Xl := H56.out.lt
        have q_X0 : W16.cell? ⟨W1.heap.size, 0, none⟩ = some (.int .i64 x.frm) := H56.out.cell 0
        have q_X1 : W16.cell? ⟨W1.heap.size, 1, none⟩ = some (.int .i64 x.to_) := H56.out.cell 1
        have q_X2 : W16.cell? ⟨W1.heap.size, 2, none⟩ = some (.int .i64 x.tape) := H56.out.cell 2
        have q_X3 : W16.cell? ⟨W1.heap.size, 3, none⟩ = some (.int .i64 x.comp) := H56.out.cell 3
        have q_X4 : W16.cell? ⟨W1.heap.size, 4, none⟩ = some (.int .i64 x.slope) := H56.out.cell 4
        have q_rl := H58.out.lt
        have q_r0 : W16.cell? ⟨W8.heap.size, 0, none⟩ = some (.int .i64 r.frm) := H58.out.cell 0
        have q_r1 : W16.cell? ⟨W8.heap.size, 1, none⟩ = some (.int .i64 r.to_) := H58.out.cell 1
        have q_r2 : W16.cell? ⟨W8.heap.size, 2, none⟩ = some (.int .i64 r.tape) := H58.out.cell 2
        have q_r3 : W16.cell? ⟨W8.heap.size, 3, none⟩ = some (.int .i64 r.comp) := H58.out.cell 3
        have q_r4 : W16.cell? ⟨W8.heap.size, 4, none⟩ = some (.int .i64 r.slope) := H58.out.cell 4
        go_wp2_with fail
        clear q_Xl q_X0 q_X1 q_X2 q_X3 q_X4 q_rl q_r0 q_r1 q_r2 q_r3 q_r4
        refine (lgi.doAgree_impl x r 0 0 _).mono ?_
        rintro e W17 ⟨rfl, b⟩
        rw [HAG.out]
        have H61 := Lib.hid (show St w A n zs W17 from H55.out.step b)
        have H62 := Lib.hid (show Blk W17 (W1.heap.size) 41 #[.int .i64 x.frm, .int .i64 x.to_, .int .i64 x.tape, .int .i64 x.comp, .int .i64 x.slope] from H56.out.below b H56.out.lt)
        have H63 := Lib.hid (show Blk W17 (W8.heap.size) 41 #[.int .i64 r.frm, .int .i64 r.to_, .int .i64 r.tape, .int .i64 r.comp, .int .i64 r.slope] from H58.out.below b H58.out.lt)
        clear b H55 H56 H58
        clear H62
        clear H63
        go_wp2_with fail
        go_meet
        case rel => exact H61.out
  case rest =>
    as_aux_lemma =>
      have SA := Lib.hid hcut
      clear hcut
      go_wp2_with fail
      refine (lgd.legText_draw A n cap zs _ (Lib.hid SA.out.2.1)).mono ?_
      rintro e W18 ⟨y, rfl, b⟩
      have H64 := Lib.hid (show St w A n zs W18 from SA.out.step b)
      clear b SA
      obtain ⟨tx, tok, hT, hts, htl⟩ := text_form y
      have HT := Lib.hid hT
      have HTL := Lib.hid htl
      obtain ⟨p, pok, hP, -⟩ := parse_form tx
      have HP := Lib.hid hP
      have HPV := Lib.hid (show plV (p, pok) = .tuple #[.agg #[.int .i64 p.frm, .int .i64 p.to_, .int .i64 p.tape, .int .i64 p.comp, .int .i64 p.slope], .bool pok] from rfl)
      clear hT htl hP
      go_upto_region 22 with fail
      obtain ⟨W19, HW⟩ : ∃ W19, Hid (W18.alloc (.cells #[.int .i64 y.frm, .int .i64 y.to_, .int .i64 y.tape, .int .i64 y.comp, .int .i64 y.slope] 41) = W19) := ⟨_, Lib.hid rfl⟩
      have H65 := Lib.hid (show St w A n zs W19 by rw [← HW.out]; exact (H64.out.alloc _))
      have H66 := Lib.hid (show Blk W19 (W18.heap.size) 41 #[.int .i64 y.frm, .int .i64 y.to_, .int .i64 y.tape, .int .i64 y.comp, .int .i64 y.slope] by rw [← HW.out]; exact Blk.new _ _ _)
      rw [HW.out]
      clear HW H64
      have q_yl := H66.out.lt
      have q_y0 : W19.cell? ⟨W18.heap.size, 0, none⟩ = some (.int .i64 y.frm) := H66.out.cell 0
      have q_y1 : W19.cell? ⟨W18.heap.size, 1, none⟩ = some (.int .i64 y.to_) := H66.out.cell 1
      have q_y2 : W19.cell? ⟨W18.heap.size, 2, none⟩ = some (.int .i64 y.tape) := H66.out.cell 2
      have q_y3 : W19.cell? ⟨W18.heap.size, 3, none⟩ = some (.int .i64 y.comp) := H66.out.cell 3
      have q_y4 : W19.cell? ⟨W18.heap.size, 4, none⟩ = some (.int .i64 y.slope) := H66.out.cell 4
      go_wp2_with fail
      clear q_yl q_y0 q_y1 q_y2 q_y3 q_y4
      refine (lgi.legText_impl y _ (Lib.hid H65.out.2.2.2.1)).mono ?_
      rintro e W20 ⟨rfl, b⟩
      rw [HT.out]
      have H67 := Lib.hid (show St w A n zs W20 from H65.out.step b)
      have H68 := Lib.hid (show Blk W20 (W18.heap.size) 41 #[.int .i64 y.frm, .int .i64 y.to_, .int .i64 y.tape, .int .i64 y.comp, .int .i64 y.slope] from H66.out.below b H66.out.lt)
      clear b H65 H66
      go_wp2_with fail
      refine (lgz.parse_impl tx (p, pok) _ (by omega) HP (Lib.hid H67.out.2.2.2)).mono ?_
      rintro e W21 ⟨rfl, b⟩
      rw [HPV.out]
      have H69 := Lib.hid (show St w A n zs W21 from H67.out.step b)
      have H70 := Lib.hid (show Blk W21 (W18.heap.size) 41 #[.int .i64 y.frm, .int .i64 y.to_, .int .i64 y.tape, .int .i64 y.comp, .int .i64 y.slope] from H68.out.below b H68.out.lt)
      clear b H67 H68
      go_upto_region 24 with fail
      obtain ⟨W22, HW⟩ : ∃ W22, Hid (W21.alloc (.cells #[.int .i64 p.frm, .int .i64 p.to_, .int .i64 p.tape, .int .i64 p.comp, .int .i64 p.slope] 41) = W22) := ⟨_, Lib.hid rfl⟩
      have H71 := Lib.hid (show St w A n zs W22 by rw [← HW.out]; exact (H69.out.alloc _))
      have H72 := Lib.hid (show Blk W22 (W18.heap.size) 41 #[.int .i64 y.frm, .int .i64 y.to_, .int .i64 y.tape, .int .i64 y.comp, .int .i64 y.slope] by rw [← HW.out]; exact (H70.out.alloc _))
      have H73 := Lib.hid (show Blk W22 (W21.heap.size) 41 #[.int .i64 p.frm, .int .i64 p.to_, .int .i64 p.tape, .int .i64 p.comp, .int .i64 p.slope] by rw [← HW.out]; exact Blk.new _ _ _)
      rw [HW.out]
      clear HW H69 H70
      have q_yl := H72.out.lt
      have q_y0 : W22.cell? ⟨W18.heap.size, 0, none⟩ = some (.int .i64 y.frm) := H72.out.cell 0
      have q_y1 : W22.cell? ⟨W18.heap.size, 1, none⟩ = some (.int .i64 y.to_) := H72.out.cell 1
      have q_y2 : W22.cell? ⟨W18.heap.size, 2, none⟩ = some (.int .i64 y.tape) := H72.out.cell 2
      have q_y3 : W22.cell? ⟨W18.heap.size, 3, none⟩ = some (.int .i64 y.comp) := H72.out.cell 3
      have q_y4 : W22.cell? ⟨W18.heap.size, 4, none⟩ = some (.int .i64 y.slope) := H72.out.cell 4
      go_wp2_with fail
      clear q_yl q_y0 q_y1 q_y2 q_y3 q_y4
      refine (lg.legText_model y _).mono ?_
      rintro e W23 ⟨rfl, b⟩
      rw [HT.out]
      have H74 := Lib.hid (show St w A n zs W23 from H71.out.step b)
      have H75 := Lib.hid (show Blk W23 (W18.heap.size) 41 #[.int .i64 y.frm, .int .i64 y.to_, .int .i64 y.tape, .int .i64 y.comp, .int .i64 y.slope] from H72.out.below b H72.out.lt)
      have H76 := Lib.hid (show Blk W23 (W21.heap.size) 41 #[.int .i64 p.frm, .int .i64 p.to_, .int .i64 p.tape, .int .i64 p.comp, .int .i64 p.slope] from H73.out.below b H73.out.lt)
      clear b H71 H72 H73
      clear HT HPV
      go_upto_region 25 with fail
      go_cut [213] (fun v wx => v = .bool false ∧ St w A n zs wx)
      case first => as_aux_lemma =>
        cases tok
        · go_wp2_with fail
          go_meet
          case rel => exact ⟨rfl, H74.out⟩
        · obtain ⟨rfl, rfl⟩ := parse_of HP.out (HTL.out rfl)
          have q_pl := H76.out.lt
          have q_p0 : W23.cell? ⟨W21.heap.size, 0, none⟩ = some (.int .i64 p.frm) := H76.out.cell 0
          have q_p1 : W23.cell? ⟨W21.heap.size, 1, none⟩ = some (.int .i64 p.to_) := H76.out.cell 1
          have q_p2 : W23.cell? ⟨W21.heap.size, 2, none⟩ = some (.int .i64 p.tape) := H76.out.cell 2
          have q_p3 : W23.cell? ⟨W21.heap.size, 3, none⟩ = some (.int .i64 p.comp) := H76.out.cell 3
          have q_p4 : W23.cell? ⟨W21.heap.size, 4, none⟩ = some (.int .i64 p.slope) := H76.out.cell 4
          have q_yl := H75.out.lt
          have q_y0 : W23.cell? ⟨W18.heap.size, 0, none⟩ = some (.int .i64 p.frm) := H75.out.cell 0
          have q_y1 : W23.cell? ⟨W18.heap.size, 1, none⟩ = some (.int .i64 p.to_) := H75.out.cell 1
          have q_y2 : W23.cell? ⟨W18.heap.size, 2, none⟩ = some (.int .i64 p.tape) := H75.out.cell 2
          have q_y3 : W23.cell? ⟨W18.heap.size, 3, none⟩ = some (.int .i64 p.comp) := H75.out.cell 3
          have q_y4 : W23.cell? ⟨W18.heap.size, 4, none⟩ = some (.int .i64 p.slope) := H75.out.cell 4
          go_wp2_with fail
          clear q_pl q_p0 q_p1 q_p2 q_p3 q_p4 q_yl q_y0 q_y1 q_y2 q_y3 q_y4
          go_meet
          case rel => exact ⟨rfl, H74.out⟩
      case rest => as_aux_lemma =>
        obtain ⟨rfl, hcut⟩ := hcut
        have SB := Lib.hid hcut
        clear hcut HTL HP H74 H75 H76
        go_wp2_with fail
        refine (lgd.parseLeg_draw A n cap zs _ (Lib.hid SB.out.2.1)).mono ?_
        rintro e W24 ⟨z, rfl, hz, b⟩
        have H77 := Lib.hid (show St w A n zs W24 from SB.out.step b)
        clear b SB
        obtain ⟨q, qok, hQ, hql⟩ := parse_form z
        have HQ := Lib.hid hQ
        have HQV := Lib.hid (show plV (q, qok) = .tuple #[.agg #[.int .i64 q.frm, .int .i64 q.to_, .int .i64 q.tape, .int .i64 q.comp, .int .i64 q.slope], .bool qok] from rfl)
        obtain ⟨u, uok, hU, hus, -⟩ := text_form q
        have HU := Lib.hid hU
        have HUZ : Hid (qok = true → u = z ∧ uok = true) := Lib.hid (fun h => text_one (hql h) hU)
        clear hQ hql hU
        go_wp2_with fail
        refine (lgz.parse_impl z (q, qok) _ (by omega) HQ (Lib.hid H77.out.2.2.2)).mono ?_
        rintro e W25 ⟨rfl, b⟩
        rw [HQV.out]
        have H78 := Lib.hid (show St w A n zs W25 from H77.out.step b)
        clear b H77
        go_upto_region 29 with fail
        obtain ⟨W26, HW⟩ : ∃ W26, Hid (W25.alloc (.cells #[.int .i64 q.frm, .int .i64 q.to_, .int .i64 q.tape, .int .i64 q.comp, .int .i64 q.slope] 41) = W26) := ⟨_, Lib.hid rfl⟩
        have H79 := Lib.hid (show St w A n zs W26 by rw [← HW.out]; exact (H78.out.alloc _))
        have H80 := Lib.hid (show Blk W26 (W25.heap.size) 41 #[.int .i64 q.frm, .int .i64 q.to_, .int .i64 q.tape, .int .i64 q.comp, .int .i64 q.slope] by rw [← HW.out]; exact Blk.new _ _ _)
        rw [HW.out]
        clear HW H78
        have q_ql := H80.out.lt
        have q_q0 : W26.cell? ⟨W25.heap.size, 0, none⟩ = some (.int .i64 q.frm) := H80.out.cell 0
        have q_q1 : W26.cell? ⟨W25.heap.size, 1, none⟩ = some (.int .i64 q.to_) := H80.out.cell 1
        have q_q2 : W26.cell? ⟨W25.heap.size, 2, none⟩ = some (.int .i64 q.tape) := H80.out.cell 2
        have q_q3 : W26.cell? ⟨W25.heap.size, 3, none⟩ = some (.int .i64 q.comp) := H80.out.cell 3
        have q_q4 : W26.cell? ⟨W25.heap.size, 4, none⟩ = some (.int .i64 q.slope) := H80.out.cell 4
        go_wp2_with fail
        clear q_ql q_q0 q_q1 q_q2 q_q3 q_q4
        refine (lgi.legText_impl q _ (Lib.hid H79.out.2.2.2.1)).mono ?_
        rintro e W27 ⟨rfl, b⟩
        rw [HU.out]
        have H81 := Lib.hid (show St w A n zs W27 from H79.out.step b)
        have H82 := Lib.hid (show Blk W27 (W25.heap.size) 41 #[.int .i64 q.frm, .int .i64 q.to_, .int .i64 q.tape, .int .i64 q.comp, .int .i64 q.slope] from H80.out.below b H80.out.lt)
        clear b H79 H80
        go_wp2_with fail
        refine (lgy.parse_model z (q, qok) _ (by omega) HQ).mono ?_
        rintro e W28 ⟨rfl, b⟩
        rw [HQV.out]
        have H83 := Lib.hid (show St w A n zs W28 from H81.out.step b)
        have H84 := Lib.hid (show Blk W28 (W25.heap.size) 41 #[.int .i64 q.frm, .int .i64 q.to_, .int .i64 q.tape, .int .i64 q.comp, .int .i64 q.slope] from H82.out.below b H82.out.lt)
        clear b H81 H82
        clear HU HQV HQ
        go_upto_region 31 with fail
        obtain ⟨W29, HW⟩ : ∃ W29, Hid (W28.alloc (.cells #[.int .i64 q.frm, .int .i64 q.to_, .int .i64 q.tape, .int .i64 q.comp, .int .i64 q.slope] 41) = W29) := ⟨_, Lib.hid rfl⟩
        have H85 := Lib.hid (show St w A n zs W29 by rw [← HW.out]; exact (H83.out.alloc _))
        have H86 := Lib.hid (show Blk W29 (W25.heap.size) 41 #[.int .i64 q.frm, .int .i64 q.to_, .int .i64 q.tape, .int .i64 q.comp, .int .i64 q.slope] by rw [← HW.out]; exact (H84.out.alloc _))
        have H87 := Lib.hid (show Blk W29 (W28.heap.size) 41 #[.int .i64 q.frm, .int .i64 q.to_, .int .i64 q.tape, .int .i64 q.comp, .int .i64 q.slope] by rw [← HW.out]; exact Blk.new _ _ _)
        rw [HW.out]
        clear HW H83 H84
        go_cut [250] (fun v wx => v = .bool false ∧ St w A n zs wx)
        case first => as_aux_lemma =>
          cases qok
          · skip
            have q_ql := H86.out.lt
            have q_q0 : W29.cell? ⟨W25.heap.size, 0, none⟩ = some (.int .i64 q.frm) := H86.out.cell 0
            have q_q1 : W29.cell? ⟨W25.heap.size, 1, none⟩ = some (.int .i64 q.to_) := H86.out.cell 1
            have q_q2 : W29.cell? ⟨W25.heap.size, 2, none⟩ = some (.int .i64 q.tape) := H86.out.cell 2
            have q_q3 : W29.cell? ⟨W25.heap.size, 3, none⟩ = some (.int .i64 q.comp) := H86.out.cell 3
            have q_q4 : W29.cell? ⟨W25.heap.size, 4, none⟩ = some (.int .i64 q.slope) := H86.out.cell 4
            have q_q2l := H87.out.lt
            have q_q20 : W29.cell? ⟨W28.heap.size, 0, none⟩ = some (.int .i64 q.frm) := H87.out.cell 0
            have q_q21 : W29.cell? ⟨W28.heap.size, 1, none⟩ = some (.int .i64 q.to_) := H87.out.cell 1
            have q_q22 : W29.cell? ⟨W28.heap.size, 2, none⟩ = some (.int .i64 q.tape) := H87.out.cell 2
            have q_q23 : W29.cell? ⟨W28.heap.size, 3, none⟩ = some (.int .i64 q.comp) := H87.out.cell 3
            have q_q24 : W29.cell? ⟨W28.heap.size, 4, none⟩ = some (.int .i64 q.slope) := H87.out.cell 4
            go_wp2_with fail
            clear q_ql q_q0 q_q1 q_q2 q_q3 q_q4 q_q2l q_q20 q_q21 q_q22 q_q23 q_q24
            go_meet
            case rel => exact ⟨rfl, H85.out⟩
          · obtain ⟨rfl, rfl⟩ := HUZ.out rfl
            have q_ql := H86.out.lt
            have q_q0 : W29.cell? ⟨W25.heap.size, 0, none⟩ = some (.int .i64 q.frm) := H86.out.cell 0
            have q_q1 : W29.cell? ⟨W25.heap.size, 1, none⟩ = some (.int .i64 q.to_) := H86.out.cell 1
            have q_q2 : W29.cell? ⟨W25.heap.size, 2, none⟩ = some (.int .i64 q.tape) := H86.out.cell 2
            have q_q3 : W29.cell? ⟨W25.heap.size, 3, none⟩ = some (.int .i64 q.comp) := H86.out.cell 3
            have q_q4 : W29.cell? ⟨W25.heap.size, 4, none⟩ = some (.int .i64 q.slope) := H86.out.cell 4
            have q_q2l := H87.out.lt
            have q_q20 : W29.cell? ⟨W28.heap.size, 0, none⟩ = some (.int .i64 q.frm) := H87.out.cell 0
            have q_q21 : W29.cell? ⟨W28.heap.size, 1, none⟩ = some (.int .i64 q.to_) := H87.out.cell 1
            have q_q22 : W29.cell? ⟨W28.heap.size, 2, none⟩ = some (.int .i64 q.tape) := H87.out.cell 2
            have q_q23 : W29.cell? ⟨W28.heap.size, 3, none⟩ = some (.int .i64 q.comp) := H87.out.cell 3
            have q_q24 : W29.cell? ⟨W28.heap.size, 4, none⟩ = some (.int .i64 q.slope) := H87.out.cell 4
            go_wp2_with fail
            clear q_ql q_q0 q_q1 q_q2 q_q3 q_q4 q_q2l q_q20 q_q21 q_q22 q_q23 q_q24
            go_meet
            case rel => exact ⟨rfl, H85.out⟩
        case rest => as_aux_lemma =>
          obtain ⟨rfl, hcut⟩ := hcut
          have SC := Lib.hid hcut
          clear hcut HUZ H85 H86 H87
          go_wp2_with fail
          refine (lgd.doAgree_draw A n cap zs _ (Lib.hid SC.out.2.1)).mono ?_
          rintro e W30 ⟨ga, gb, gd, gq, rfl, ⟨d0, d1⟩, ⟨q0, q1⟩, b⟩
          have H88 := Lib.hid (show St w A n zs W30 from SC.out.step b)
          clear b SC
          obtain ⟨g, aok, hG, hre⟩ := agree_form ga gb gd gq
          have HG := Lib.hid hG
          have HRE := Lib.hid hre
          clear hG hre
          go_upto_region 34 with fail
          obtain ⟨W31, HW⟩ : ∃ W31, Hid ((W30.alloc (.cells #[.int .i64 ga.frm, .int .i64 ga.to_, .int .i64 ga.tape, .int .i64 ga.comp, .int .i64 ga.slope] 41)).alloc (.cells #[.int .i64 gb.frm, .int .i64 gb.to_, .int .i64 gb.tape, .int .i64 gb.comp, .int .i64 gb.slope] 41) = W31) := ⟨_, Lib.hid rfl⟩
          have H89 := Lib.hid (show St w A n zs W31 by rw [← HW.out]; exact ((H88.out.alloc _).alloc _))
          have H90 := Lib.hid (show Blk W31 (W30.heap.size) 41 #[.int .i64 ga.frm, .int .i64 ga.to_, .int .i64 ga.tape, .int .i64 ga.comp, .int .i64 ga.slope] by rw [← HW.out]; exact ((Blk.new _ _ _).alloc _))
          have H91 := Lib.hid (show Blk W31 (W30.heap.size + 1) 41 #[.int .i64 gb.frm, .int .i64 gb.to_, .int .i64 gb.tape, .int .i64 gb.comp, .int .i64 gb.slope] by rw [← HW.out]; exact (by have h := Blk.new (W30.alloc (.cells #[.int .i64 ga.frm, .int .i64 ga.to_, .int .i64 ga.tape, .int .i64 ga.comp, .int .i64 ga.slope] 41)) 41 #[.int .i64 gb.frm, .int .i64 gb.to_, .int .i64 gb.tape, .int .i64 gb.comp, .int .i64 gb.slope]; simpa using h))
          rw [HW.out]
          clear HW H88
          have q_gal := H90.out.lt
          have q_ga0 : W31.cell? ⟨W30.heap.size, 0, none⟩ = some (.int .i64 ga.frm) := H90.out.cell 0
          have q_ga1 : W31.cell? ⟨W30.heap.size, 1, none⟩ = some (.int .i64 ga.to_) := H90.out.cell 1
          have q_ga2 : W31.cell? ⟨W30.heap.size, 2, none⟩ = some (.int .i64 ga.tape) := H90.out.cell 2
          have q_ga3 : W31.cell? ⟨W30.heap.size, 3, none⟩ = some (.int .i64 ga.comp) := H90.out.cell 3
          have q_ga4 : W31.cell? ⟨W30.heap.size, 4, none⟩ = some (.int .i64 ga.slope) := H90.out.cell 4
          have q_gbl := H91.out.lt
          have q_gb0 : W31.cell? ⟨W30.heap.size + 1, 0, none⟩ = some (.int .i64 gb.frm) := H91.out.cell 0
          have q_gb1 : W31.cell? ⟨W30.heap.size + 1, 1, none⟩ = some (.int .i64 gb.to_) := H91.out.cell 1
          have q_gb2 : W31.cell? ⟨W30.heap.size + 1, 2, none⟩ = some (.int .i64 gb.tape) := H91.out.cell 2
          have q_gb3 : W31.cell? ⟨W30.heap.size + 1, 3, none⟩ = some (.int .i64 gb.comp) := H91.out.cell 3
          have q_gb4 : W31.cell? ⟨W30.heap.size + 1, 4, none⟩ = some (.int .i64 gb.slope) := H91.out.cell 4
          go_wp2_with fail
          clear q_gal q_ga0 q_ga1 q_ga2 q_ga3 q_ga4 q_gbl q_gb0 q_gb1 q_gb2 q_gb3 q_gb4
          refine (lgi.doAgree_impl ga gb gd gq _).mono ?_
          rintro e W32 ⟨rfl, b⟩
          rw [HG.out]
          have H92 := Lib.hid (show St w A n zs W32 from H89.out.step b)
          have H93 := Lib.hid (show Blk W32 (W30.heap.size) 41 #[.int .i64 ga.frm, .int .i64 ga.to_, .int .i64 ga.tape, .int .i64 ga.comp, .int .i64 ga.slope] from H90.out.below b H90.out.lt)
          have H94 := Lib.hid (show Blk W32 (W30.heap.size + 1) 41 #[.int .i64 gb.frm, .int .i64 gb.to_, .int .i64 gb.tape, .int .i64 gb.comp, .int .i64 gb.slope] from H91.out.below b H91.out.lt)
          clear b H89 H90 H91
          go_upto_region 35 with fail
          have q_gal := H93.out.lt
          have q_ga0 : W32.cell? ⟨W30.heap.size, 0, none⟩ = some (.int .i64 ga.frm) := H93.out.cell 0
          have q_ga1 : W32.cell? ⟨W30.heap.size, 1, none⟩ = some (.int .i64 ga.to_) := H93.out.cell 1
          have q_ga2 : W32.cell? ⟨W30.heap.size, 2, none⟩ = some (.int .i64 ga.tape) := H93.out.cell 2
          have q_ga3 : W32.cell? ⟨W30.heap.size, 3, none⟩ = some (.int .i64 ga.comp) := H93.out.cell 3
          have q_ga4 : W32.cell? ⟨W30.heap.size, 4, none⟩ = some (.int .i64 ga.slope) := H93.out.cell 4
          have q_gbl := H94.out.lt
          have q_gb0 : W32.cell? ⟨W30.heap.size + 1, 0, none⟩ = some (.int .i64 gb.frm) := H94.out.cell 0
          have q_gb1 : W32.cell? ⟨W30.heap.size + 1, 1, none⟩ = some (.int .i64 gb.to_) := H94.out.cell 1
          have q_gb2 : W32.cell? ⟨W30.heap.size + 1, 2, none⟩ = some (.int .i64 gb.tape) := H94.out.cell 2
          have q_gb3 : W32.cell? ⟨W30.heap.size + 1, 3, none⟩ = some (.int .i64 gb.comp) := H94.out.cell 3
          have q_gb4 : W32.cell? ⟨W30.heap.size + 1, 4, none⟩ = some (.int .i64 gb.slope) := H94.out.cell 4
          go_wp2_with fail
          clear q_gal q_ga0 q_ga1 q_ga2 q_ga3 q_ga4 q_gbl q_gb0 q_gb1 q_gb2 q_gb3 q_gb4
          refine (lg.doAgree_model ga gb gd gq _).mono ?_
          rintro e W33 ⟨rfl, b⟩
          rw [HG.out]
          have H95 := Lib.hid (show St w A n zs W33 from H92.out.step b)
          have H96 := Lib.hid (show Blk W33 (W30.heap.size) 41 #[.int .i64 ga.frm, .int .i64 ga.to_, .int .i64 ga.tape, .int .i64 ga.comp, .int .i64 ga.slope] from H93.out.below b H93.out.lt)
          have H97 := Lib.hid (show Blk W33 (W30.heap.size + 1) 41 #[.int .i64 gb.frm, .int .i64 gb.to_, .int .i64 gb.tape, .int .i64 gb.comp, .int .i64 gb.slope] from H94.out.below b H94.out.lt)
          clear b H92 H93 H94
          clear HG
          cases aok
          · skip
            go_wp2_with fail
            go_ret
            exact ⟨rfl, H95.out.1⟩
          · obtain ⟨hG2, g', hG3, hM⟩ := HRE.out rfl
            have HG2 := Lib.hid hG2
            have HG3 := Lib.hid hG3
            have HM := Lib.hid hM
            clear hG2 hG3 hM HRE
            have q_gal := H96.out.lt
            have q_ga0 : W33.cell? ⟨W30.heap.size, 0, none⟩ = some (.int .i64 ga.frm) := H96.out.cell 0
            have q_ga1 : W33.cell? ⟨W30.heap.size, 1, none⟩ = some (.int .i64 ga.to_) := H96.out.cell 1
            have q_ga2 : W33.cell? ⟨W30.heap.size, 2, none⟩ = some (.int .i64 ga.tape) := H96.out.cell 2
            have q_ga3 : W33.cell? ⟨W30.heap.size, 3, none⟩ = some (.int .i64 ga.comp) := H96.out.cell 3
            have q_ga4 : W33.cell? ⟨W30.heap.size, 4, none⟩ = some (.int .i64 ga.slope) := H96.out.cell 4
            have q_gbl := H97.out.lt
            have q_gb0 : W33.cell? ⟨W30.heap.size + 1, 0, none⟩ = some (.int .i64 gb.frm) := H97.out.cell 0
            have q_gb1 : W33.cell? ⟨W30.heap.size + 1, 1, none⟩ = some (.int .i64 gb.to_) := H97.out.cell 1
            have q_gb2 : W33.cell? ⟨W30.heap.size + 1, 2, none⟩ = some (.int .i64 gb.tape) := H97.out.cell 2
            have q_gb3 : W33.cell? ⟨W30.heap.size + 1, 3, none⟩ = some (.int .i64 gb.comp) := H97.out.cell 3
            have q_gb4 : W33.cell? ⟨W30.heap.size + 1, 4, none⟩ = some (.int .i64 gb.slope) := H97.out.cell 4
            go_wp2_with fail
            clear q_gal q_ga0 q_ga1 q_ga2 q_ga3 q_ga4 q_gbl q_gb0 q_gb1 q_gb2 q_gb3 q_gb4
            refine (lgi.doAgree_impl gb ga gd gq _).mono ?_
            rintro e W34 ⟨rfl, b⟩
            rw [HG2.out]
            have H98 := Lib.hid (show St w A n zs W34 from H95.out.step b)
            have H99 := Lib.hid (show Blk W34 (W30.heap.size) 41 #[.int .i64 ga.frm, .int .i64 ga.to_, .int .i64 ga.tape, .int .i64 ga.comp, .int .i64 ga.slope] from H96.out.below b H96.out.lt)
            have H100 := Lib.hid (show Blk W34 (W30.heap.size + 1) 41 #[.int .i64 gb.frm, .int .i64 gb.to_, .int .i64 gb.tape, .int .i64 gb.comp, .int .i64 gb.slope] from H97.out.below b H97.out.lt)
            clear b H95 H96 H97
            go_upto_region 40 with fail
            have q_gal := H99.out.lt
            have q_ga0 : W34.cell? ⟨W30.heap.size, 0, none⟩ = some (.int .i64 ga.frm) := H99.out.cell 0
            have q_ga1 : W34.cell? ⟨W30.heap.size, 1, none⟩ = some (.int .i64 ga.to_) := H99.out.cell 1
            have q_ga2 : W34.cell? ⟨W30.heap.size, 2, none⟩ = some (.int .i64 ga.tape) := H99.out.cell 2
            have q_ga3 : W34.cell? ⟨W30.heap.size, 3, none⟩ = some (.int .i64 ga.comp) := H99.out.cell 3
            have q_ga4 : W34.cell? ⟨W30.heap.size, 4, none⟩ = some (.int .i64 ga.slope) := H99.out.cell 4
            have q_gbl := H100.out.lt
            have q_gb0 : W34.cell? ⟨W30.heap.size + 1, 0, none⟩ = some (.int .i64 gb.frm) := H100.out.cell 0
            have q_gb1 : W34.cell? ⟨W30.heap.size + 1, 1, none⟩ = some (.int .i64 gb.to_) := H100.out.cell 1
            have q_gb2 : W34.cell? ⟨W30.heap.size + 1, 2, none⟩ = some (.int .i64 gb.tape) := H100.out.cell 2
            have q_gb3 : W34.cell? ⟨W30.heap.size + 1, 3, none⟩ = some (.int .i64 gb.comp) := H100.out.cell 3
            have q_gb4 : W34.cell? ⟨W30.heap.size + 1, 4, none⟩ = some (.int .i64 gb.slope) := H100.out.cell 4
            go_wp2_with fail
            clear q_gal q_ga0 q_ga1 q_ga2 q_ga3 q_ga4 q_gbl q_gb0 q_gb1 q_gb2 q_gb3 q_gb4
            refine (lgi.doAgree_impl ga gb (gd + 1) (gq + 1) _).mono ?_
            rintro e W35 ⟨rfl, b⟩
            rw [HG3.out]
            have H101 := Lib.hid (show St w A n zs W35 from H98.out.step b)
            have H102 := Lib.hid (show Blk W35 (W30.heap.size) 41 #[.int .i64 ga.frm, .int .i64 ga.to_, .int .i64 ga.tape, .int .i64 ga.comp, .int .i64 ga.slope] from H99.out.below b H99.out.lt)
            have H103 := Lib.hid (show Blk W35 (W30.heap.size + 1) 41 #[.int .i64 gb.frm, .int .i64 gb.to_, .int .i64 gb.tape, .int .i64 gb.comp, .int .i64 gb.slope] from H100.out.below b H100.out.lt)
            clear b H98 H99 H100
            cases g
            · go_wp2_with fail
              go_ret
              exact ⟨rfl, H101.out.1⟩
            · obtain rfl := HM.out rfl
              go_wp2_with fail
              go_ret
              exact ⟨rfl, H101.out.1⟩
#print axioms walk
end Go.Proofs.YtiojgmojnnbpiaaDoor.lgw
