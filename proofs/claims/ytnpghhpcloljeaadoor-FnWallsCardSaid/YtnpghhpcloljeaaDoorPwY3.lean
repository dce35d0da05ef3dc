/-
  The walls of a leg, of the program.
  Conditions: the passages lie in one block, at most 2000000 of them.
-/
import Derived.Test.YtnpghhpcloljeaaDoorPwY1i
import Derived.Test.YtnpghhpcloljeaaDoorLgM
import Derived.BigQuiet
import Derived.Deep.QuietTactic
import Derived.Deep.Cut
import Derived.Deep.DeepCutAuto
import Derived.RegionTactic
import Derived.Deep.RegionWith
import Derived.OwnWalk
import Derived.Deep.RegionHeld3
namespace Go.Proofs.YtnpghhpcloljeaaDoor.pw
open Go.RowKit
open reads base ty rowi win lg lgi
set_option linter.unusedVariables false
set_option linter.unusedSimpArgs false

set_option maxHeartbeats 16000000 in
set_option maxRecDepth 100000 in
theorem walls_impl (A : Option Addr) (n cap : Nat) (ts : List Pg) (x : Lg) (w : World) (hn : n ≤ 2000000) (hts : Hid (PgAt w w.heap.size A n ts)) (hT : Hid (win.Tab w)) :
    Calls Tryd.prog 9 #[.slice A n cap, .agg #[.int .i64 x.frm, .int .i64 x.to_, .int .i64 x.tape, .int .i64 x.comp, .int .i64 x.slope]] w (APost (ansWa ts x) w) := by
  have hL : Hid (ts.length = n) := Lib.hid hts.out.1
  obtain ⟨G, HG⟩ : ∃ G, Hid (goodPg ts = G) := ⟨_, Lib.hid rfl⟩
  obtain ⟨G2, HG2⟩ : ∃ G, Hid (okLg x = G) := ⟨_, Lib.hid rfl⟩
  obtain ⟨u1, HU1⟩ : ∃ G, Hid (hasP ts x.frm = G) := ⟨_, Lib.hid rfl⟩
  obtain ⟨u2, HU2⟩ : ∃ G, Hid (hasP ts x.to_ = G) := ⟨_, Lib.hid rfl⟩
  have HOK := Lib.hid (show waOk ts x = (G && G2 && u1 && u2) by unfold waOk; rw [HG.out, HG2.out, HU1.out, HU2.out])
  have HA0 := Lib.hid (show ∀ b, waOk ts x = b → b = false → ansWa ts x = ansWl wl0 false from fun b h1 h2 => by subst h2; unfold ansWa waV; rw [h1]; rfl)
  have HB0 := Lib.hid (show BW w w from Below.refl _ _)
  have HTT := Lib.hid hT.out
  go_enter Tryd.func9, Tryd.ntmps9
  go_wp2_with fail
  obtain ⟨W1, HW⟩ : ∃ W1, Hid ((w.alloc (.cells #[.int .i64 x.frm, .int .i64 x.to_, .int .i64 x.tape, .int .i64 x.comp, .int .i64 x.slope] 33)).alloc (.cells #[.int .i64 0, .int .i64 0, .int .i64 0, .int .i64 0, .int .i64 0, .int .i64 0, .int .i64 0, .int .i64 0, .int .i64 0, .int .i64 0, .int .i64 0, .int .i64 0] 28) = W1) := ⟨_, Lib.hid rfl⟩
  have H1 := Lib.hid (show BW w W1 by rw [← HW.out]; exact ((HB0.out.alloc _).alloc _))
  have H2 := Lib.hid (show win.Tab W1 by rw [← HW.out]; exact ((hT.out.alloc _).alloc _))
  have H3 := Lib.hid (show Blk W1 (w.heap.size) 33 #[.int .i64 x.frm, .int .i64 x.to_, .int .i64 x.tape, .int .i64 x.comp, .int .i64 x.slope] by rw [← HW.out]; exact ((Blk.new _ _ _).alloc _))
  have H4 := Lib.hid (show Blk W1 (w.heap.size + 1) 28 #[.int .i64 0, .int .i64 0, .int .i64 0, .int .i64 0, .int .i64 0, .int .i64 0, .int .i64 0, .int .i64 0, .int .i64 0, .int .i64 0, .int .i64 0, .int .i64 0] by rw [← HW.out]; exact (by have h := Blk.new (w.alloc (.cells #[.int .i64 x.frm, .int .i64 x.to_, .int .i64 x.tape, .int .i64 x.comp, .int .i64 x.slope] 33)) 28 #[.int .i64 0, .int .i64 0, .int .i64 0, .int .i64 0, .int .i64 0, .int .i64 0, .int .i64 0, .int .i64 0, .int .i64 0, .int .i64 0, .int .i64 0, .int .i64 0]; simpa using h))
  rw [HW.out]
  clear HW HB0 hT
  refine (arePassages_is A n cap ts G HG _ hn (Lib.hid (hts.out.step (show Below w.heap.size w _ from H1.out)))).mono ?_
  rintro e W2 ⟨rfl, b⟩
  have H5 := Lib.hid (show BW w W2 from H1.out.step b)
  have H6 := Lib.hid (show win.Tab W2 from H2.out.below b)
  have H7 := Lib.hid (show Blk W2 (w.heap.size) 33 #[.int .i64 x.frm, .int .i64 x.to_, .int .i64 x.tape, .int .i64 x.comp, .int .i64 x.slope] from H3.out.below b H3.out.lt)
  have H8 := Lib.hid (show Blk W2 (w.heap.size + 1) 28 #[.int .i64 0, .int .i64 0, .int .i64 0, .int .i64 0, .int .i64 0, .int .i64 0, .int .i64 0, .int .i64 0, .int .i64 0, .int .i64 0, .int .i64 0, .int .i64 0] from H4.out.below b H4.out.lt)
  clear b H1 H2 H3 H4
  cases G
  · have HA := Lib.hid (HA0.out _ HOK.out rfl)
    have z0 := H8.out.cell 0
    have f0 := H8.out.frozen 0
    have z1 := H8.out.cell 1
    have f1 := H8.out.frozen 1
    have z2 := H8.out.cell 2
    have f2 := H8.out.frozen 2
    have z3 := H8.out.cell 3
    have f3 := H8.out.frozen 3
    have z4 := H8.out.cell 4
    have f4 := H8.out.frozen 4
    have z5 := H8.out.cell 5
    have f5 := H8.out.frozen 5
    have z6 := H8.out.cell 6
    have f6 := H8.out.frozen 6
    have z7 := H8.out.cell 7
    have f7 := H8.out.frozen 7
    have z8 := H8.out.cell 8
    have f8 := H8.out.frozen 8
    have z9 := H8.out.cell 9
    have f9 := H8.out.frozen 9
    have z10 := H8.out.cell 10
    have f10 := H8.out.frozen 10
    have z11 := H8.out.cell 11
    have f11 := H8.out.frozen 11
    have zl := H8.out.lt
    simp at z0 z1 z2 z3 z4 z5 z6 z7 z8 z9 z10 z11
    go_wp2_with fail
    refine bodyPost_ret (v := .tuple #[.agg #[.int .i64 0, .int .i64 0, .int .i64 0, .int .i64 0, .int .i64 0, .int .i64 0, .int .i64 0, .int .i64 0, .int .i64 0, .int .i64 0, .int .i64 0, .int .i64 0], .bool false]) (by simp [results, Tryd.results9, go_sem, *]) rfl ⟨by rw [HA.out]; rfl, ?_⟩
    exact (show Below w.heap.size w _ from ((((((((((((H5.out.far (R := w.heap.size + 1) (by omega) 0 _).far (R := w.heap.size + 1) (by omega) 1 _).far (R := w.heap.size + 1) (by omega) 2 _).far (R := w.heap.size + 1) (by omega) 3 _).far (R := w.heap.size + 1) (by omega) 4 _).far (R := w.heap.size + 1) (by omega) 5 _).far (R := w.heap.size + 1) (by omega) 6 _).far (R := w.heap.size + 1) (by omega) 7 _).far (R := w.heap.size + 1) (by omega) 8 _).far (R := w.heap.size + 1) (by omega) 9 _).far (R := w.heap.size + 1) (by omega) 10 _).far (R := w.heap.size + 1) (by omega) 11 _))
  have q_legl := H7.out.lt
  have q_leg0 : W2.cell? ⟨w.heap.size, 0, none⟩ = some (.int .i64 x.frm) := H7.out.cell 0
  have q_leg1 : W2.cell? ⟨w.heap.size, 1, none⟩ = some (.int .i64 x.to_) := H7.out.cell 1
  have q_leg2 : W2.cell? ⟨w.heap.size, 2, none⟩ = some (.int .i64 x.tape) := H7.out.cell 2
  have q_leg3 : W2.cell? ⟨w.heap.size, 3, none⟩ = some (.int .i64 x.comp) := H7.out.cell 3
  have q_leg4 : W2.cell? ⟨w.heap.size, 4, none⟩ = some (.int .i64 x.slope) := H7.out.cell 4
  go_wp2_with fail
  clear q_legl q_leg0 q_leg1 q_leg2 q_leg3 q_leg4
  refine (isLeg_is x G2 HG2 _).mono ?_
  rintro e W3 ⟨rfl, b⟩
  have H9 := Lib.hid (show BW w W3 from H5.out.step b)
  have H10 := Lib.hid (show win.Tab W3 from H6.out.below b)
  have H11 := Lib.hid (show Blk W3 (w.heap.size) 33 #[.int .i64 x.frm, .int .i64 x.to_, .int .i64 x.tape, .int .i64 x.comp, .int .i64 x.slope] from H7.out.below b H7.out.lt)
  have H12 := Lib.hid (show Blk W3 (w.heap.size + 1) 28 #[.int .i64 0, .int .i64 0, .int .i64 0, .int .i64 0, .int .i64 0, .int .i64 0, .int .i64 0, .int .i64 0, .int .i64 0, .int .i64 0, .int .i64 0, .int .i64 0] from H8.out.below b H8.out.lt)
  clear b H5 H6 H7 H8
  cases G2
  · have HA := Lib.hid (HA0.out _ HOK.out rfl)
    have z0 := H12.out.cell 0
    have f0 := H12.out.frozen 0
    have z1 := H12.out.cell 1
    have f1 := H12.out.frozen 1
    have z2 := H12.out.cell 2
    have f2 := H12.out.frozen 2
    have z3 := H12.out.cell 3
    have f3 := H12.out.frozen 3
    have z4 := H12.out.cell 4
    have f4 := H12.out.frozen 4
    have z5 := H12.out.cell 5
    have f5 := H12.out.frozen 5
    have z6 := H12.out.cell 6
    have f6 := H12.out.frozen 6
    have z7 := H12.out.cell 7
    have f7 := H12.out.frozen 7
    have z8 := H12.out.cell 8
    have f8 := H12.out.frozen 8
    have z9 := H12.out.cell 9
    have f9 := H12.out.frozen 9
    have z10 := H12.out.cell 10
    have f10 := H12.out.frozen 10
    have z11 := H12.out.cell 11
    have f11 := H12.out.frozen 11
    have zl := H12.out.lt
    simp at z0 z1 z2 z3 z4 z5 z6 z7 z8 z9 z10 z11
    go_wp2_with fail
    refine bodyPost_ret (v := .tuple #[.agg #[.int .i64 0, .int .i64 0, .int .i64 0, .int .i64 0, .int .i64 0, .int .i64 0, .int .i64 0, .int .i64 0, .int .i64 0, .int .i64 0, .int .i64 0, .int .i64 0], .bool false]) (by simp [results, Tryd.results9, go_sem, *]) rfl ⟨by rw [HA.out]; rfl, ?_⟩
    exact (show Below w.heap.size w _ from ((((((((((((H9.out.far (R := w.heap.size + 1) (by omega) 0 _).far (R := w.heap.size + 1) (by omega) 1 _).far (R := w.heap.size + 1) (by omega) 2 _).far (R := w.heap.size + 1) (by omega) 3 _).far (R := w.heap.size + 1) (by omega) 4 _).far (R := w.heap.size + 1) (by omega) 5 _).far (R := w.heap.size + 1) (by omega) 6 _).far (R := w.heap.size + 1) (by omega) 7 _).far (R := w.heap.size + 1) (by omega) 8 _).far (R := w.heap.size + 1) (by omega) 9 _).far (R := w.heap.size + 1) (by omega) 10 _).far (R := w.heap.size + 1) (by omega) 11 _))
  obtain ⟨xa, xb, xn, ⟨xt, xt2⟩, ⟨xc0, xc1⟩, xs⟩ := okLg_lim HG2.out
  obtain ⟨p, HPP⟩ : ∃ p, Hid (pgZ ts x.frm = p) := ⟨_, Lib.hid rfl⟩
  obtain ⟨q, HQQ⟩ : ∃ p, Hid (pgZ ts x.to_ = p) := ⟨_, Lib.hid rfl⟩
  have HOP := Lib.hid (show okPg p = true by rw [← HPP.out]; exact pgZ_ok HG.out _)
  have HOQ := Lib.hid (show okPg q = true by rw [← HQQ.out]; exact pgZ_ok HG.out _)
  have q_legl := H11.out.lt
  have q_leg0 : W3.cell? ⟨w.heap.size, 0, none⟩ = some (.int .i64 x.frm) := H11.out.cell 0
  have q_leg1 : W3.cell? ⟨w.heap.size, 1, none⟩ = some (.int .i64 x.to_) := H11.out.cell 1
  have q_leg2 : W3.cell? ⟨w.heap.size, 2, none⟩ = some (.int .i64 x.tape) := H11.out.cell 2
  have q_leg3 : W3.cell? ⟨w.heap.size, 3, none⟩ = some (.int .i64 x.comp) := H11.out.cell 3
  have q_leg4 : W3.cell? ⟨w.heap.size, 4, none⟩ = some (.int .i64 x.slope) := H11.out.cell 4
  go_wp2_with fail
  clear q_legl q_leg0 q_leg1 q_leg2 q_leg3 q_leg4
  refine (passageAt_any A n cap ts x.frm p u1 _ hn (Lib.hid (hts.out.step (show Below w.heap.size w _ from H9.out))) HG HPP (Lib.hid (show onSt ts x.frm = u1 by rw [on_has HG.out]; exact HU1.out))).mono ?_
  rintro e W4 ⟨rfl, b⟩
  have H13 := Lib.hid (show BW w W4 from H9.out.step b)
  have H14 := Lib.hid (show win.Tab W4 from H10.out.below b)
  have H15 := Lib.hid (show Blk W4 (w.heap.size) 33 #[.int .i64 x.frm, .int .i64 x.to_, .int .i64 x.tape, .int .i64 x.comp, .int .i64 x.slope] from H11.out.below b H11.out.lt)
  have H16 := Lib.hid (show Blk W4 (w.heap.size + 1) 28 #[.int .i64 0, .int .i64 0, .int .i64 0, .int .i64 0, .int .i64 0, .int .i64 0, .int .i64 0, .int .i64 0, .int .i64 0, .int .i64 0, .int .i64 0, .int .i64 0] from H12.out.below b H12.out.lt)
  clear b H9 H10 H11 H12
  go_upto_region 4 with fail
  have hPR := H16.out.lt
  obtain ⟨W5, HW⟩ : ∃ W5, Hid (W4.alloc (.cells #[.int .i64 p.st, .int .i64 p.lf, .int .i64 p.rt, .int .i64 p.ab, .int .i64 p.be] 43) = W5) := ⟨_, Lib.hid rfl⟩
  have H17 := Lib.hid (show BW w W5 by rw [← HW.out]; exact (H13.out.alloc _))
  have H18 := Lib.hid (show win.Tab W5 by rw [← HW.out]; exact (H14.out.alloc _))
  have H19 := Lib.hid (show Blk W5 (w.heap.size) 33 #[.int .i64 x.frm, .int .i64 x.to_, .int .i64 x.tape, .int .i64 x.comp, .int .i64 x.slope] by rw [← HW.out]; exact (H15.out.alloc _))
  have H20 := Lib.hid (show Blk W5 (w.heap.size + 1) 28 #[.int .i64 0, .int .i64 0, .int .i64 0, .int .i64 0, .int .i64 0, .int .i64 0, .int .i64 0, .int .i64 0, .int .i64 0, .int .i64 0, .int .i64 0, .int .i64 0] by rw [← HW.out]; exact (H16.out.alloc _))
  have H21 := Lib.hid (show Blk W5 (W4.heap.size) 43 #[.int .i64 p.st, .int .i64 p.lf, .int .i64 p.rt, .int .i64 p.ab, .int .i64 p.be] by rw [← HW.out]; exact Blk.new _ _ _)
  rw [HW.out]
  clear HW H13 H14 H15 H16
  obtain ⟨P, HPN⟩ : ∃ X, Hid (W4.heap.size = X) := ⟨_, Lib.hid rfl⟩
  rw [HPN.out] at H21 hPR
  try simp only [HPN.out]
  clear HPN
  have q_legl := H19.out.lt
  have q_leg0 : W5.cell? ⟨w.heap.size, 0, none⟩ = some (.int .i64 x.frm) := H19.out.cell 0
  have q_leg1 : W5.cell? ⟨w.heap.size, 1, none⟩ = some (.int .i64 x.to_) := H19.out.cell 1
  have q_leg2 : W5.cell? ⟨w.heap.size, 2, none⟩ = some (.int .i64 x.tape) := H19.out.cell 2
  have q_leg3 : W5.cell? ⟨w.heap.size, 3, none⟩ = some (.int .i64 x.comp) := H19.out.cell 3
  have q_leg4 : W5.cell? ⟨w.heap.size, 4, none⟩ = some (.int .i64 x.slope) := H19.out.cell 4
  go_wp2_with fail
  clear q_legl q_leg0 q_leg1 q_leg2 q_leg3 q_leg4
  refine (passageAt_any A n cap ts x.to_ q u2 _ hn (Lib.hid (hts.out.step (show Below w.heap.size w _ from H17.out))) HG HQQ (Lib.hid (show onSt ts x.to_ = u2 by rw [on_has HG.out]; exact HU2.out))).mono ?_
  rintro e W6 ⟨rfl, b⟩
  have H22 := Lib.hid (show BW w W6 from H17.out.step b)
  have H23 := Lib.hid (show win.Tab W6 from H18.out.below b)
  have H24 := Lib.hid (show Blk W6 (w.heap.size) 33 #[.int .i64 x.frm, .int .i64 x.to_, .int .i64 x.tape, .int .i64 x.comp, .int .i64 x.slope] from H19.out.below b H19.out.lt)
  have H25 := Lib.hid (show Blk W6 (w.heap.size + 1) 28 #[.int .i64 0, .int .i64 0, .int .i64 0, .int .i64 0, .int .i64 0, .int .i64 0, .int .i64 0, .int .i64 0, .int .i64 0, .int .i64 0, .int .i64 0, .int .i64 0] from H20.out.below b H20.out.lt)
  have H26 := Lib.hid (show Blk W6 (P) 43 #[.int .i64 p.st, .int .i64 p.lf, .int .i64 p.rt, .int .i64 p.ab, .int .i64 p.be] from H21.out.below b H21.out.lt)
  clear b H17 H18 H19 H20 H21
  go_upto_region 5 with fail
  have hQR := H25.out.lt
  obtain ⟨W7, HW⟩ : ∃ W7, Hid (W6.alloc (.cells #[.int .i64 q.st, .int .i64 q.lf, .int .i64 q.rt, .int .i64 q.ab, .int .i64 q.be] 43) = W7) := ⟨_, Lib.hid rfl⟩
  have H27 := Lib.hid (show BW w W7 by rw [← HW.out]; exact (H22.out.alloc _))
  have H28 := Lib.hid (show win.Tab W7 by rw [← HW.out]; exact (H23.out.alloc _))
  have H29 := Lib.hid (show Blk W7 (w.heap.size) 33 #[.int .i64 x.frm, .int .i64 x.to_, .int .i64 x.tape, .int .i64 x.comp, .int .i64 x.slope] by rw [← HW.out]; exact (H24.out.alloc _))
  have H30 := Lib.hid (show Blk W7 (w.heap.size + 1) 28 #[.int .i64 0, .int .i64 0, .int .i64 0, .int .i64 0, .int .i64 0, .int .i64 0, .int .i64 0, .int .i64 0, .int .i64 0, .int .i64 0, .int .i64 0, .int .i64 0] by rw [← HW.out]; exact (H25.out.alloc _))
  have H31 := Lib.hid (show Blk W7 (P) 43 #[.int .i64 p.st, .int .i64 p.lf, .int .i64 p.rt, .int .i64 p.ab, .int .i64 p.be] by rw [← HW.out]; exact (H26.out.alloc _))
  have H32 := Lib.hid (show Blk W7 (W6.heap.size) 43 #[.int .i64 q.st, .int .i64 q.lf, .int .i64 q.rt, .int .i64 q.ab, .int .i64 q.be] by rw [← HW.out]; exact Blk.new _ _ _)
  rw [HW.out]
  clear HW H22 H23 H24 H25 H26
  obtain ⟨Q, HQN⟩ : ∃ X, Hid (W6.heap.size = X) := ⟨_, Lib.hid rfl⟩
  rw [HQN.out] at H32 hQR
  try simp only [HQN.out]
  clear HQN
  cases u1
  · have HA := Lib.hid (HA0.out _ HOK.out (by simp))
    have z0 := H30.out.cell 0
    have f0 := H30.out.frozen 0
    have z1 := H30.out.cell 1
    have f1 := H30.out.frozen 1
    have z2 := H30.out.cell 2
    have f2 := H30.out.frozen 2
    have z3 := H30.out.cell 3
    have f3 := H30.out.frozen 3
    have z4 := H30.out.cell 4
    have f4 := H30.out.frozen 4
    have z5 := H30.out.cell 5
    have f5 := H30.out.frozen 5
    have z6 := H30.out.cell 6
    have f6 := H30.out.frozen 6
    have z7 := H30.out.cell 7
    have f7 := H30.out.frozen 7
    have z8 := H30.out.cell 8
    have f8 := H30.out.frozen 8
    have z9 := H30.out.cell 9
    have f9 := H30.out.frozen 9
    have z10 := H30.out.cell 10
    have f10 := H30.out.frozen 10
    have z11 := H30.out.cell 11
    have f11 := H30.out.frozen 11
    have zl := H30.out.lt
    simp at z0 z1 z2 z3 z4 z5 z6 z7 z8 z9 z10 z11
    go_wp2_with fail
    refine bodyPost_ret (v := .tuple #[.agg #[.int .i64 0, .int .i64 0, .int .i64 0, .int .i64 0, .int .i64 0, .int .i64 0, .int .i64 0, .int .i64 0, .int .i64 0, .int .i64 0, .int .i64 0, .int .i64 0], .bool false]) (by simp [results, Tryd.results9, go_sem, *]) rfl ⟨by rw [HA.out]; rfl, ?_⟩
    exact (show Below w.heap.size w _ from ((((((((((((H27.out.far (R := w.heap.size + 1) (by omega) 0 _).far (R := w.heap.size + 1) (by omega) 1 _).far (R := w.heap.size + 1) (by omega) 2 _).far (R := w.heap.size + 1) (by omega) 3 _).far (R := w.heap.size + 1) (by omega) 4 _).far (R := w.heap.size + 1) (by omega) 5 _).far (R := w.heap.size + 1) (by omega) 6 _).far (R := w.heap.size + 1) (by omega) 7 _).far (R := w.heap.size + 1) (by omega) 8 _).far (R := w.heap.size + 1) (by omega) 9 _).far (R := w.heap.size + 1) (by omega) 10 _).far (R := w.heap.size + 1) (by omega) 11 _))
  cases u2
  · have HA := Lib.hid (HA0.out _ HOK.out (by simp))
    have z0 := H30.out.cell 0
    have f0 := H30.out.frozen 0
    have z1 := H30.out.cell 1
    have f1 := H30.out.frozen 1
    have z2 := H30.out.cell 2
    have f2 := H30.out.frozen 2
    have z3 := H30.out.cell 3
    have f3 := H30.out.frozen 3
    have z4 := H30.out.cell 4
    have f4 := H30.out.frozen 4
    have z5 := H30.out.cell 5
    have f5 := H30.out.frozen 5
    have z6 := H30.out.cell 6
    have f6 := H30.out.frozen 6
    have z7 := H30.out.cell 7
    have f7 := H30.out.frozen 7
    have z8 := H30.out.cell 8
    have f8 := H30.out.frozen 8
    have z9 := H30.out.cell 9
    have f9 := H30.out.frozen 9
    have z10 := H30.out.cell 10
    have f10 := H30.out.frozen 10
    have z11 := H30.out.cell 11
    have f11 := H30.out.frozen 11
    have zl := H30.out.lt
    simp at z0 z1 z2 z3 z4 z5 z6 z7 z8 z9 z10 z11
    go_wp2_with fail
    refine bodyPost_ret (v := .tuple #[.agg #[.int .i64 0, .int .i64 0, .int .i64 0, .int .i64 0, .int .i64 0, .int .i64 0, .int .i64 0, .int .i64 0, .int .i64 0, .int .i64 0, .int .i64 0, .int .i64 0], .bool false]) (by simp [results, Tryd.results9, go_sem, *]) rfl ⟨by rw [HA.out]; rfl, ?_⟩
    exact (show Below w.heap.size w _ from ((((((((((((H27.out.far (R := w.heap.size + 1) (by omega) 0 _).far (R := w.heap.size + 1) (by omega) 1 _).far (R := w.heap.size + 1) (by omega) 2 _).far (R := w.heap.size + 1) (by omega) 3 _).far (R := w.heap.size + 1) (by omega) 4 _).far (R := w.heap.size + 1) (by omega) 5 _).far (R := w.heap.size + 1) (by omega) 6 _).far (R := w.heap.size + 1) (by omega) 7 _).far (R := w.heap.size + 1) (by omega) 8 _).far (R := w.heap.size + 1) (by omega) 9 _).far (R := w.heap.size + 1) (by omega) 10 _).far (R := w.heap.size + 1) (by omega) 11 _))
  obtain ⟨s, HS⟩ : ∃ s, Hid (shf x = s) := ⟨_, Lib.hid rfl⟩
  obtain ⟨s0, Hs0⟩ : ∃ s, Hid (walS p.lf (x.comp - 90) = s) := ⟨_, Lib.hid rfl⟩
  obtain ⟨s1, Hs1⟩ : ∃ s, Hid (walS p.rt (x.comp + 90) = s) := ⟨_, Lib.hid rfl⟩
  obtain ⟨t2, Ht2⟩ : ∃ s, Hid (walS q.lf (x.comp - 90) = s) := ⟨_, Lib.hid rfl⟩
  obtain ⟨t3, Ht3⟩ : ∃ s, Hid (walS q.rt (x.comp + 90) = s) := ⟨_, Lib.hid rfl⟩
  obtain ⟨s2, Hs2⟩ : ∃ c, Hid (add3 s t2 = c) := ⟨_, Lib.hid rfl⟩
  obtain ⟨s3, Hs3⟩ : ∃ c, Hid (add3 s t3 = c) := ⟨_, Lib.hid rfl⟩
  obtain ⟨-, ⟨p0, p1⟩, ⟨p2, p3⟩, -⟩ := okPg_lim HOP.out
  obtain ⟨-, ⟨q0, q1⟩, ⟨q2, q3⟩, -⟩ := okPg_lim HOQ.out
  have hsb := shf_bd HG2.out
  rw [HS.out] at hsb
  obtain ⟨sb0, sb1, sb2⟩ := hsb
  have hb2 := walS_lim q0 q1 (x.comp - 90)
  rw [Ht2.out] at hb2
  obtain ⟨c20, c21, c22⟩ := hb2
  have hb3 := walS_lim q2 q3 (x.comp + 90)
  rw [Ht3.out] at hb3
  obtain ⟨c30, c31, c32⟩ := hb3
  have HBS := Lib.hid sb0
  have HBS1 := Lib.hid sb1
  have HBS2 := Lib.hid sb2
  have HC20 := Lib.hid c20
  have HC21 := Lib.hid c21
  have HC22 := Lib.hid c22
  have HC30 := Lib.hid c30
  have HC31 := Lib.hid c31
  have HC32 := Lib.hid c32
  clear sb0 sb1 sb2 c20 c21 c22 c30 c31 c32
  have hwa : IntKind.i64.wrap (x.comp - 90) = x.comp - 90 := IntWalk.i64_in _ (by omega)
  have hwb : IntKind.i64.wrap (x.comp + 90) = x.comp + 90 := IntWalk.i64_in _ (by omega)
  have HA := Lib.hid (show ansWa ts x = .tuple #[.agg #[.int .i64 s0.east, .int .i64 s0.north, .int .i64 s0.up, .int .i64 s1.east, .int .i64 s1.north, .int .i64 s1.up, .int .i64 s2.east, .int .i64 s2.north, .int .i64 s2.up, .int .i64 s3.east, .int .i64 s3.north, .int .i64 s3.up], .bool true] by unfold ansWa waV; rw [HOK.out]; show ansWl (walls (pgZ ts x.frm) (pgZ ts x.to_) x) true = _; unfold ansWl walls; rw [HPP.out, HQQ.out, HS.out, Hs0.out, Hs1.out, Ht2.out, Ht3.out, Hs2.out, Hs3.out])
  have q_legl := H29.out.lt
  have q_leg0 : W7.cell? ⟨w.heap.size, 0, none⟩ = some (.int .i64 x.frm) := H29.out.cell 0
  have q_leg1 : W7.cell? ⟨w.heap.size, 1, none⟩ = some (.int .i64 x.to_) := H29.out.cell 1
  have q_leg2 : W7.cell? ⟨w.heap.size, 2, none⟩ = some (.int .i64 x.tape) := H29.out.cell 2
  have q_leg3 : W7.cell? ⟨w.heap.size, 3, none⟩ = some (.int .i64 x.comp) := H29.out.cell 3
  have q_leg4 : W7.cell? ⟨w.heap.size, 4, none⟩ = some (.int .i64 x.slope) := H29.out.cell 4
  go_wp2_with fail
  clear q_legl q_leg0 q_leg1 q_leg2 q_leg3 q_leg4
  refine (along_is x s HS _ HG2 (H28)).mono ?_
  rintro e W8 ⟨rfl, b⟩
  have H33 := Lib.hid (show BW w W8 from H27.out.step b)
  have H34 := Lib.hid (show win.Tab W8 from H28.out.below b)
  have H35 := Lib.hid (show Blk W8 (w.heap.size) 33 #[.int .i64 x.frm, .int .i64 x.to_, .int .i64 x.tape, .int .i64 x.comp, .int .i64 x.slope] from H29.out.below b H29.out.lt)
  have H36 := Lib.hid (show Blk W8 (w.heap.size + 1) 28 #[.int .i64 0, .int .i64 0, .int .i64 0, .int .i64 0, .int .i64 0, .int .i64 0, .int .i64 0, .int .i64 0, .int .i64 0, .int .i64 0, .int .i64 0, .int .i64 0] from H30.out.below b H30.out.lt)
  have H37 := Lib.hid (show Blk W8 (P) 43 #[.int .i64 p.st, .int .i64 p.lf, .int .i64 p.rt, .int .i64 p.ab, .int .i64 p.be] from H31.out.below b H31.out.lt)
  have H38 := Lib.hid (show Blk W8 (Q) 43 #[.int .i64 q.st, .int .i64 q.lf, .int .i64 q.rt, .int .i64 q.ab, .int .i64 q.be] from H32.out.below b H32.out.lt)
  clear b H27 H28 H29 H30 H31 H32
  go_upto_region 8 with fail
  have hXR := H36.out.lt
  obtain ⟨W9, HW⟩ : ∃ W9, Hid (W8.alloc (.cells #[.int .i64 s.east, .int .i64 s.north, .int .i64 s.up] 27) = W9) := ⟨_, Lib.hid rfl⟩
  have H39 := Lib.hid (show BW w W9 by rw [← HW.out]; exact (H33.out.alloc _))
  have H40 := Lib.hid (show win.Tab W9 by rw [← HW.out]; exact (H34.out.alloc _))
  have H41 := Lib.hid (show Blk W9 (w.heap.size) 33 #[.int .i64 x.frm, .int .i64 x.to_, .int .i64 x.tape, .int .i64 x.comp, .int .i64 x.slope] by rw [← HW.out]; exact (H35.out.alloc _))
  have H42 := Lib.hid (show Blk W9 (w.heap.size + 1) 28 #[.int .i64 0, .int .i64 0, .int .i64 0, .int .i64 0, .int .i64 0, .int .i64 0, .int .i64 0, .int .i64 0, .int .i64 0, .int .i64 0, .int .i64 0, .int .i64 0] by rw [← HW.out]; exact (H36.out.alloc _))
  have H43 := Lib.hid (show Blk W9 (P) 43 #[.int .i64 p.st, .int .i64 p.lf, .int .i64 p.rt, .int .i64 p.ab, .int .i64 p.be] by rw [← HW.out]; exact (H37.out.alloc _))
  have H44 := Lib.hid (show Blk W9 (Q) 43 #[.int .i64 q.st, .int .i64 q.lf, .int .i64 q.rt, .int .i64 q.ab, .int .i64 q.be] by rw [← HW.out]; exact (H38.out.alloc _))
  have H45 := Lib.hid (show Blk W9 (W8.heap.size) 27 #[.int .i64 s.east, .int .i64 s.north, .int .i64 s.up] by rw [← HW.out]; exact Blk.new _ _ _)
  rw [HW.out]
  clear HW H33 H34 H35 H36 H37 H38
  obtain ⟨X, HXN⟩ : ∃ X, Hid (W8.heap.size = X) := ⟨_, Lib.hid rfl⟩
  rw [HXN.out] at H45 hXR
  try simp only [HXN.out]
  clear HXN
  have HRq0 := Lib.hid (show Blk W9.drew (w.heap.size + 1) 28 #[.int .i64 0, .int .i64 0, .int .i64 0, .int .i64 0, .int .i64 0, .int .i64 0, .int .i64 0, .int .i64 0, .int .i64 0, .int .i64 0, .int .i64 0, .int .i64 0] from H42.out.drew)
  refine wp_region_held_drew (S := (fun v : World => v.cell? ⟨P, 1, none⟩ = some (.int .i64 p.lf) ∧ v.cell? ⟨P, 2, none⟩ = some (.int .i64 p.rt) ∧ v.cell? ⟨Q, 1, none⟩ = some (.int .i64 q.lf) ∧ v.cell? ⟨Q, 2, none⟩ = some (.int .i64 q.rt) ∧ v.cell? ⟨X, 0, none⟩ = some (.int .i64 s.east) ∧ v.cell? ⟨X, 1, none⟩ = some (.int .i64 s.north) ∧ v.cell? ⟨X, 2, none⟩ = some (.int .i64 s.up) ∧ v.cell? ⟨w.heap.size, 3, none⟩ = some (.int .i64 x.comp) ∧ (w.heap.size < v.heap.size ∧ P < v.heap.size ∧ Q < v.heap.size ∧ X < v.heap.size) ∧ NQ w x P p Q q X s v)) (by kernel_rfl) ?_ (fun hHeld => ?_)
  · exact qw_mk ((⟨H39.out.step (drewN_below _ 1), H41.out.drew, H43.out.drew, H44.out.drew, H45.out.drew⟩ : NQ w x P p Q q X s _))
  refine' wpAnyH_take (i := 0) (v := ?vr3_0) rfl (by kernel_rfl) (by kernel_rfl) (by kernel_rfl) (fun _ _ _ h => h) (Or.inl ⟨by rfl, ?hyr3_0⟩) (by assumption) ?restr3_0
  case hyr3_0 => (intro w hSw; (try dsimp only at hSw); go_simp; try (with_reducible rfl))
  simp only [Act.put, List.getElem_toArray, List.getElem_cons_succ, List.getElem_cons_zero, List.setIfInBounds_toArray, List.set_cons_zero, List.set_cons_succ]
  refine' wpAnyH_take (i := 1) (v := ?vr3_1) rfl (by kernel_rfl) (by kernel_rfl) (by kernel_rfl) (fun _ _ _ h => h) (Or.inl ⟨by rfl, ?hyr3_1⟩) (by assumption) ?restr3_1
  case hyr3_1 => (intro w hSw; (try dsimp only at hSw); go_simp; try (with_reducible rfl))
  simp only [Act.put, List.getElem_toArray, List.getElem_cons_succ, List.getElem_cons_zero, List.setIfInBounds_toArray, List.set_cons_zero, List.set_cons_succ]
  refine' wpAnyH_take (i := 2) (v := ?vr3_2) rfl (by kernel_rfl) (by kernel_rfl) (by kernel_rfl) (fun _ _ _ h => h) (Or.inl ⟨by rfl, ?hyr3_2⟩) (by assumption) ?restr3_2
  case hyr3_2 => (intro w hSw; (try dsimp only at hSw); go_simp; try (with_reducible rfl))
  simp only [Act.put, List.getElem_toArray, List.getElem_cons_succ, List.getElem_cons_zero, List.setIfInBounds_toArray, List.set_cons_zero, List.set_cons_succ]
  refine' wpAnyH_take (i := 3) (v := ?vr3_3) rfl (by kernel_rfl) (by kernel_rfl) (by kernel_rfl) (fun _ _ _ h => h) (Or.inl ⟨by rfl, ?hyr3_3⟩) (by assumption) ?restr3_3
  case hyr3_3 => (intro w hSw; (try dsimp only at hSw); go_simp; try (with_reducible rfl))
  simp only [Act.put, List.getElem_toArray, List.getElem_cons_succ, List.getElem_cons_zero, List.setIfInBounds_toArray, List.set_cons_zero, List.set_cons_succ]
  refine' wpAnyH_take (i := 4) (v := ?vr3_4) rfl (by kernel_rfl) (by kernel_rfl) (by kernel_rfl) (fun _ _ _ h => h) (Or.inl ⟨by rfl, ?hyr3_4⟩) (by assumption) ?restr3_4
  case hyr3_4 => (intro w hSw; (try dsimp only at hSw); go_simp; try (with_reducible rfl))
  simp only [Act.put, List.getElem_toArray, List.getElem_cons_succ, List.getElem_cons_zero, List.setIfInBounds_toArray, List.set_cons_zero, List.set_cons_succ]
  refine' wpAnyH_take (i := 6) (v := ?vr3_6) rfl (by kernel_rfl) (by kernel_rfl) (by kernel_rfl) (fun _ _ _ h => h) (Or.inl ⟨by rfl, ?hyr3_6⟩) (by assumption) ?restr3_6
  case hyr3_6 => (intro w hSw; (try dsimp only at hSw); go_simp; try (with_reducible rfl))
  simp only [Act.put, List.getElem_toArray, List.getElem_cons_succ, List.getElem_cons_zero, List.setIfInBounds_toArray, List.set_cons_zero, List.set_cons_succ]
  refine' wpAnyH_take (i := 7) (v := ?vr3_7) rfl (by kernel_rfl) (by kernel_rfl) (by kernel_rfl) (fun _ _ _ h => h) (Or.inl ⟨by rfl, ?hyr3_7⟩) (by assumption) ?restr3_7
  case hyr3_7 => (intro w hSw; (try dsimp only at hSw); go_simp; try (with_reducible rfl))
  simp only [Act.put, List.getElem_toArray, List.getElem_cons_succ, List.getElem_cons_zero, List.setIfInBounds_toArray, List.set_cons_zero, List.set_cons_succ]
  refine' wpAnyH_take (i := 8) (v := ?vr3_8) rfl (by kernel_rfl) (by kernel_rfl) (by kernel_rfl) (fun _ _ _ h => h) (Or.inl ⟨by rfl, ?hyr3_8⟩) (by assumption) ?restr3_8
  case hyr3_8 => (intro w hSw; (try dsimp only at hSw); go_simp; try (with_reducible rfl))
  simp only [Act.put, List.getElem_toArray, List.getElem_cons_succ, List.getElem_cons_zero, List.setIfInBounds_toArray, List.set_cons_zero, List.set_cons_succ]
  refine' wpAnyH_take (i := 9) (v := ?vr3_9) rfl (by kernel_rfl) (by kernel_rfl) (by kernel_rfl) (fun _ _ _ h => h) (Or.inl ⟨by rfl, ?hyr3_9⟩) (by assumption) ?restr3_9
  case hyr3_9 => (intro w hSw; (try dsimp only at hSw); go_simp; try (with_reducible rfl))
  simp only [Act.put, List.getElem_toArray, List.getElem_cons_succ, List.getElem_cons_zero, List.setIfInBounds_toArray, List.set_cons_zero, List.set_cons_succ]
  refine' wpAnyH_take (i := 10) (v := ?vr3_10) rfl (by kernel_rfl) (by kernel_rfl) (by kernel_rfl) (fun _ _ _ h => h) (Or.inl ⟨by rfl, ?hyr3_10⟩) (by assumption) ?restr3_10
  case hyr3_10 => (intro w hSw; (try dsimp only at hSw); go_simp; try (with_reducible rfl))
  simp only [Act.put, List.getElem_toArray, List.getElem_cons_succ, List.getElem_cons_zero, List.setIfInBounds_toArray, List.set_cons_zero, List.set_cons_succ]
  refine' wpAnyH_take (i := 12) (v := ?vr3_12) rfl (by kernel_rfl) (by kernel_rfl) (by kernel_rfl) (fun _ _ _ h => h) (Or.inl ⟨by rfl, ?hyr3_12⟩) (by assumption) ?restr3_12
  case hyr3_12 => (intro w hSw; (try dsimp only at hSw); go_simp; try (with_reducible rfl))
  simp only [Act.put, List.getElem_toArray, List.getElem_cons_succ, List.getElem_cons_zero, List.setIfInBounds_toArray, List.set_cons_zero, List.set_cons_succ]
  refine' wpAnyH_take (i := 13) (v := ?vr3_13) rfl (by kernel_rfl) (by kernel_rfl) (by kernel_rfl) (fun _ _ _ h => h) (Or.inl ⟨by rfl, ?hyr3_13⟩) (by assumption) ?restr3_13
  case hyr3_13 => (intro w hSw; (try dsimp only at hSw); go_simp; try (with_reducible rfl))
  simp only [Act.put, List.getElem_toArray, List.getElem_cons_succ, List.getElem_cons_zero, List.setIfInBounds_toArray, List.set_cons_zero, List.set_cons_succ]
  refine' wpAnyH_take (i := 14) (v := ?vr3_14) rfl (by kernel_rfl) (by kernel_rfl) (by kernel_rfl) (fun _ _ _ h => h) (Or.inl ⟨by rfl, ?hyr3_14⟩) (by assumption) ?restr3_14
  case hyr3_14 => (intro w hSw; (try dsimp only at hSw); go_simp; try (with_reducible rfl))
  simp only [Act.put, List.getElem_toArray, List.getElem_cons_succ, List.getElem_cons_zero, List.setIfInBounds_toArray, List.set_cons_zero, List.set_cons_succ]
  refine' wpAnyH_take (i := 15) (v := ?vr3_15) rfl (by kernel_rfl) (by kernel_rfl) (by kernel_rfl) (fun _ _ _ h => h) (Or.inl ⟨by rfl, ?hyr3_15⟩) (by assumption) ?restr3_15
  case hyr3_15 => (intro w hSw; (try dsimp only at hSw); go_simp; try (with_reducible rfl))
  simp only [Act.put, List.getElem_toArray, List.getElem_cons_succ, List.getElem_cons_zero, List.setIfInBounds_toArray, List.set_cons_zero, List.set_cons_succ]
  refine' wpAnyH_take (i := 16) (v := ?vr3_16) rfl (by kernel_rfl) (by kernel_rfl) (by kernel_rfl) (fun _ _ _ h => h) (Or.inl ⟨by rfl, ?hyr3_16⟩) (by assumption) ?restr3_16
  case hyr3_16 => (intro w hSw; (try dsimp only at hSw); go_simp; try (with_reducible rfl))
  simp only [Act.put, List.getElem_toArray, List.getElem_cons_succ, List.getElem_cons_zero, List.setIfInBounds_toArray, List.set_cons_zero, List.set_cons_succ]
  refine' wpAnyH_take (i := 17) (v := ?vr3_17) rfl (by kernel_rfl) (by kernel_rfl) (by kernel_rfl) (fun _ _ _ h => h) (Or.inl ⟨by rfl, ?hyr3_17⟩) (by assumption) ?restr3_17
  case hyr3_17 => (intro w hSw; (try dsimp only at hSw); go_simp; try (with_reducible rfl))
  simp only [Act.put, List.getElem_toArray, List.getElem_cons_succ, List.getElem_cons_zero, List.setIfInBounds_toArray, List.set_cons_zero, List.set_cons_succ]
  refine' wpAnyH_take (i := 20) (v := ?vr3_20) rfl (by kernel_rfl) (by kernel_rfl) (by kernel_rfl) (fun _ _ _ h => h) (Or.inl ⟨by rfl, ?hyr3_20⟩) (by assumption) ?restr3_20
  case hyr3_20 => (intro w hSw; (try dsimp only at hSw); go_simp; try (with_reducible rfl))
  simp only [Act.put, List.getElem_toArray, List.getElem_cons_succ, List.getElem_cons_zero, List.setIfInBounds_toArray, List.set_cons_zero, List.set_cons_succ]
  refine' wpAnyH_take (i := 21) (v := ?vr3_21) rfl (by kernel_rfl) (by kernel_rfl) (by kernel_rfl) (fun _ _ _ h => h) (Or.inl ⟨by rfl, ?hyr3_21⟩) (by assumption) ?restr3_21
  case hyr3_21 => (intro w hSw; (try dsimp only at hSw); go_simp; try (with_reducible rfl))
  simp only [Act.put, List.getElem_toArray, List.getElem_cons_succ, List.getElem_cons_zero, List.setIfInBounds_toArray, List.set_cons_zero, List.set_cons_succ]
  refine' wpAnyH_take (i := 22) (v := ?vr3_22) rfl (by kernel_rfl) (by kernel_rfl) (by kernel_rfl) (fun _ _ _ h => h) (Or.inl ⟨by rfl, ?hyr3_22⟩) (by assumption) ?restr3_22
  case hyr3_22 => (intro w hSw; (try dsimp only at hSw); go_simp; try (with_reducible rfl))
  simp only [Act.put, List.getElem_toArray, List.getElem_cons_succ, List.getElem_cons_zero, List.setIfInBounds_toArray, List.set_cons_zero, List.set_cons_succ]
  refine' wpAnyH_take (i := 23) (v := ?vr3_23) rfl (by kernel_rfl) (by kernel_rfl) (by kernel_rfl) (fun _ _ _ h => h) (Or.inl ⟨by rfl, ?hyr3_23⟩) (by assumption) ?restr3_23
  case hyr3_23 => (intro w hSw; (try dsimp only at hSw); go_simp; try (with_reducible rfl))
  simp only [Act.put, List.getElem_toArray, List.getElem_cons_succ, List.getElem_cons_zero, List.setIfInBounds_toArray, List.set_cons_zero, List.set_cons_succ]
  refine' wpAnyH_take (i := 24) (v := ?vr3_24) rfl (by kernel_rfl) (by kernel_rfl) (by kernel_rfl) (fun _ _ _ h => h) (Or.inl ⟨by rfl, ?hyr3_24⟩) (by assumption) ?restr3_24
  case hyr3_24 => (intro w hSw; (try dsimp only at hSw); go_simp; try (with_reducible rfl))
  simp only [Act.put, List.getElem_toArray, List.getElem_cons_succ, List.getElem_cons_zero, List.setIfInBounds_toArray, List.set_cons_zero, List.set_cons_succ]
  refine' wpAnyH_take (i := 25) (v := ?vr3_25) rfl (by kernel_rfl) (by kernel_rfl) (by kernel_rfl) (fun _ _ _ h => h) (Or.inl ⟨by rfl, ?hyr3_25⟩) (by assumption) ?restr3_25
  case hyr3_25 => (intro w hSw; (try dsimp only at hSw); go_simp; try (with_reducible rfl))
  simp only [Act.put, List.getElem_toArray, List.getElem_cons_succ, List.getElem_cons_zero, List.setIfInBounds_toArray, List.set_cons_zero, List.set_cons_succ]
  refine wpAnyH_ready (rs := [5]) (by kernel_rfl) (by simp) ?_
  refine AllReadyH.cons rfl (fun K hK => ?_) AllReadyH.nil
  go_simp
  refine (level_is p.lf (x.comp - 90) s0 _ Hs0 p0 p1 (by omega) (by omega) (Lib.hid (HTT.out.below (show Below w.heap.size w _ from hHeld.2.2.2.2.2.2.2.2.2.1)))).mono ?_
  rintro e v1 ⟨rfl, b1⟩
  have HRq1 := Lib.hid (HRq0.out.below b1 HRq0.out.lt)
  refine hK.out _ _ (qw_mk (hHeld.2.2.2.2.2.2.2.2.2.step b1)) (fun hHeld1 => ?_)
  clear hK K hHeld
  have hHeld := hHeld1
  clear hHeld1
  try simp only [Act.put, List.getElem_toArray, List.getElem_cons_succ, List.getElem_cons_zero, List.setIfInBounds_toArray, List.set_cons_zero, List.set_cons_succ]
  refine wpAnyH_ready (rs := [11]) (by kernel_rfl) (by simp) ?_
  refine AllReadyH.cons rfl (fun K hK => ?_) AllReadyH.nil
  go_simp
  refine (level_is p.rt (x.comp + 90) s1 _ Hs1 p2 p3 (by omega) (by omega) (Lib.hid (HTT.out.below (show Below w.heap.size w _ from hHeld.2.2.2.2.2.2.2.2.2.1)))).mono ?_
  rintro e v2 ⟨rfl, b1⟩
  have HRq2 := Lib.hid (HRq1.out.below b1 HRq1.out.lt)
  refine hK.out _ _ (qw_mk (hHeld.2.2.2.2.2.2.2.2.2.step b1)) (fun hHeld1 => ?_)
  clear hK K hHeld
  have hHeld := hHeld1
  clear hHeld1
  try simp only [Act.put, List.getElem_toArray, List.getElem_cons_succ, List.getElem_cons_zero, List.setIfInBounds_toArray, List.set_cons_zero, List.set_cons_succ]
  refine wpAnyH_ready (rs := [18]) (by kernel_rfl) (by simp) ?_
  refine AllReadyH.cons rfl (fun K hK => ?_) AllReadyH.nil
  go_simp
  refine (level_is q.lf (x.comp - 90) t2 _ Ht2 q0 q1 (by omega) (by omega) (Lib.hid (HTT.out.below (show Below w.heap.size w _ from hHeld.2.2.2.2.2.2.2.2.2.1)))).mono ?_
  rintro e v3 ⟨rfl, b1⟩
  have HRq3 := Lib.hid (HRq2.out.below b1 HRq2.out.lt)
  refine hK.out _ _ (qw_mk (hHeld.2.2.2.2.2.2.2.2.2.step b1)) (fun hHeld1 => ?_)
  clear hK K hHeld
  have hHeld := hHeld1
  clear hHeld1
  try simp only [Act.put, List.getElem_toArray, List.getElem_cons_succ, List.getElem_cons_zero, List.setIfInBounds_toArray, List.set_cons_zero, List.set_cons_succ]
  refine wpAnyH_ready (rs := [19]) (by kernel_rfl) (by simp) ?_
  refine AllReadyH.cons rfl (fun K hK => ?_) AllReadyH.nil
  go_simp
  refine (sum_is s t2 s2 Hs2 500 _ (by decide) (by decide) HBS.out HBS1.out HBS2.out HC20.out HC21.out HC22.out).mono ?_
  rintro e v4 ⟨rfl, b1⟩
  have HRq4 := Lib.hid (HRq3.out.below b1 HRq3.out.lt)
  refine hK.out _ _ (qw_mk (hHeld.2.2.2.2.2.2.2.2.2.step b1)) (fun hHeld1 => ?_)
  clear hK K hHeld
  have hHeld := hHeld1
  clear hHeld1
  try simp only [Act.put, List.getElem_toArray, List.getElem_cons_succ, List.getElem_cons_zero, List.setIfInBounds_toArray, List.set_cons_zero, List.set_cons_succ]
  refine wpAnyH_ready (rs := [26]) (by kernel_rfl) (by simp) ?_
  refine AllReadyH.cons rfl (fun K hK => ?_) AllReadyH.nil
  go_simp
  refine (level_is q.rt (x.comp + 90) t3 _ Ht3 q2 q3 (by omega) (by omega) (Lib.hid (HTT.out.below (show Below w.heap.size w _ from hHeld.2.2.2.2.2.2.2.2.2.1)))).mono ?_
  rintro e v5 ⟨rfl, b1⟩
  have HRq5 := Lib.hid (HRq4.out.below b1 HRq4.out.lt)
  refine hK.out _ _ (qw_mk (hHeld.2.2.2.2.2.2.2.2.2.step b1)) (fun hHeld1 => ?_)
  clear hK K hHeld
  have hHeld := hHeld1
  clear hHeld1
  try simp only [Act.put, List.getElem_toArray, List.getElem_cons_succ, List.getElem_cons_zero, List.setIfInBounds_toArray, List.set_cons_zero, List.set_cons_succ]
  refine wpAnyH_ready (rs := [27]) (by kernel_rfl) (by simp) ?_
  refine AllReadyH.cons rfl (fun K hK => ?_) AllReadyH.nil
  go_simp
  refine (sum_is s t3 s3 Hs3 500 _ (by decide) (by decide) HBS.out HBS1.out HBS2.out HC30.out HC31.out HC32.out).mono ?_
  rintro e v6 ⟨rfl, b1⟩
  have HRq6 := Lib.hid (HRq5.out.below b1 HRq5.out.lt)
  refine hK.out _ _ (qw_mk (hHeld.2.2.2.2.2.2.2.2.2.step b1)) (fun hHeld1 => ?_)
  clear hK K hHeld
  have hHeld := hHeld1
  clear hHeld1
  try simp only [Act.put, List.getElem_toArray, List.getElem_cons_succ, List.getElem_cons_zero, List.setIfInBounds_toArray, List.set_cons_zero, List.set_cons_succ]
  refine' wpAnyH_take (i := 28) (v := ?vr3_28) rfl (by kernel_rfl) (by kernel_rfl) (by kernel_rfl) (fun _ _ _ h => h) (Or.inl ⟨by rfl, ?hyr3_28⟩) (by assumption) ?restr3_28
  case hyr3_28 => (intro w hSw; (try dsimp only at hSw); go_simp; try (with_reducible rfl))
  simp only [Act.put, List.getElem_toArray, List.getElem_cons_succ, List.getElem_cons_zero, List.setIfInBounds_toArray, List.set_cons_zero, List.set_cons_succ]
  have z0 := HRq6.out.cell 0
  have z1 := HRq6.out.cell 1
  have z2 := HRq6.out.cell 2
  have z3 := HRq6.out.cell 3
  have z4 := HRq6.out.cell 4
  have z5 := HRq6.out.cell 5
  have z6 := HRq6.out.cell 6
  have z7 := HRq6.out.cell 7
  have z8 := HRq6.out.cell 8
  have z9 := HRq6.out.cell 9
  have z10 := HRq6.out.cell 10
  have z11 := HRq6.out.cell 11
  have f0 := HRq6.out.frozen 0
  have f1 := HRq6.out.frozen 1
  have f2 := HRq6.out.frozen 2
  have f3 := HRq6.out.frozen 3
  have f4 := HRq6.out.frozen 4
  have f5 := HRq6.out.frozen 5
  have f6 := HRq6.out.frozen 6
  have f7 := HRq6.out.frozen 7
  have f8 := HRq6.out.frozen 8
  have f9 := HRq6.out.frozen 9
  have f10 := HRq6.out.frozen 10
  have f11 := HRq6.out.frozen 11
  have zl := HRq6.out.lt
  simp at z0 z1 z2 z3 z4 z5 z6 z7 z8 z9 z10 z11
  have HRF := Lib.hid (blk_put HRq6.out (.int .i64 s0.east) (.int .i64 s0.north) (.int .i64 s0.up) (.int .i64 s1.east) (.int .i64 s1.north) (.int .i64 s1.up) (.int .i64 s2.east) (.int .i64 s2.north) (.int .i64 s2.up) (.int .i64 s3.east) (.int .i64 s3.north) (.int .i64 s3.up))
  refine wpAnyH_ready (rs := [29]) (by kernel_rfl) (by simp) ?_
  refine AllReadyH.cons rfl (fun K hK => ?_) AllReadyH.nil
  go_simp
  refine hK.out _ _ (qw_mk (nq_put hHeld.2.2.2.2.2.2.2.2.2 (by omega) (by omega) (by omega) (by omega) _ _ _ _ _ _ _ _ _ _ _ _)) (fun hHeld1 => ?_)
  clear hK K hHeld
  have hHeld := hHeld1
  clear hHeld1
  try simp only [Act.put, List.getElem_toArray, List.getElem_cons_succ, List.getElem_cons_zero, List.setIfInBounds_toArray, List.set_cons_zero, List.set_cons_succ]
  refine' wpAnyH_take (i := 30) (v := ?vr3_30) rfl (by kernel_rfl) (by kernel_rfl) (by kernel_rfl) (fun _ _ _ h => h) (Or.inl ⟨by rfl, ?hyr3_30⟩) (by assumption) ?restr3_30
  case hyr3_30 => (intro w hSw; (try dsimp only at hSw); go_simp; try (with_reducible rfl))
  simp only [Act.put, List.getElem_toArray, List.getElem_cons_succ, List.getElem_cons_zero, List.setIfInBounds_toArray, List.set_cons_zero, List.set_cons_succ]
  refine wpAnyH_done (by kernel_rfl) ?_ _
  clear z0 f0 z1 f1 z2 f2 z3 f3 z4 f4 z5 f5 z6 f6 z7 f7 z8 f8 z9 f9 z10 f10 z11 f11 zl
  obtain ⟨U, HUN⟩ : ∃ W, Hid (((((((((((((v6.setCell ⟨w.heap.size + 1, 0, none⟩ (.int .i64 s0.east)).setCell ⟨w.heap.size + 1, 1, none⟩ (.int .i64 s0.north)).setCell ⟨w.heap.size + 1, 2, none⟩ (.int .i64 s0.up)).setCell ⟨w.heap.size + 1, 3, none⟩ (.int .i64 s1.east)).setCell ⟨w.heap.size + 1, 4, none⟩ (.int .i64 s1.north)).setCell ⟨w.heap.size + 1, 5, none⟩ (.int .i64 s1.up)).setCell ⟨w.heap.size + 1, 6, none⟩ (.int .i64 s2.east)).setCell ⟨w.heap.size + 1, 7, none⟩ (.int .i64 s2.north)).setCell ⟨w.heap.size + 1, 8, none⟩ (.int .i64 s2.up)).setCell ⟨w.heap.size + 1, 9, none⟩ (.int .i64 s3.east)).setCell ⟨w.heap.size + 1, 10, none⟩ (.int .i64 s3.north)).setCell ⟨w.heap.size + 1, 11, none⟩ (.int .i64 s3.up)) = W) := ⟨_, Lib.hid rfl⟩
  rw [HUN.out] at HRF hHeld
  try rw [HUN.out]
  clear HUN
  have HBF := Lib.hid (show Below w.heap.size w U from hHeld.2.2.2.2.2.2.2.2.2.1)
  clear hHeld
  have z0 := HRF.out.cell 0
  have z1 := HRF.out.cell 1
  have z2 := HRF.out.cell 2
  have z3 := HRF.out.cell 3
  have z4 := HRF.out.cell 4
  have z5 := HRF.out.cell 5
  have z6 := HRF.out.cell 6
  have z7 := HRF.out.cell 7
  have z8 := HRF.out.cell 8
  have z9 := HRF.out.cell 9
  have z10 := HRF.out.cell 10
  have z11 := HRF.out.cell 11
  have zl := HRF.out.lt
  simp at z0 z1 z2 z3 z4 z5 z6 z7 z8 z9 z10 z11
  go_wp2_with fail
  refine bodyPost_ret (v := .tuple #[.agg #[.int .i64 s0.east, .int .i64 s0.north, .int .i64 s0.up, .int .i64 s1.east, .int .i64 s1.north, .int .i64 s1.up, .int .i64 s2.east, .int .i64 s2.north, .int .i64 s2.up, .int .i64 s3.east, .int .i64 s3.north, .int .i64 s3.up], .bool true]) (by simp [results, Tryd.results9, go_sem, *]) rfl ⟨by rw [HA.out], HBF.out⟩
end Go.Proofs.YtnpghhpcloljeaaDoor.pw
