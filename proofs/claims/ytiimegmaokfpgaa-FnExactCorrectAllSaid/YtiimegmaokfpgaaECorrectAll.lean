/-
  FnExactCorrectAll holds: at every argument CorrectAll answers as its model answers, its answer owns its memory, and the arguments read behind the call as they read before it.
  Conditions: none of our own.
-/
import Derived.Test.YtiimegmaokfpgaaVaF
import Derived.Test.YtiimegmaokfpgaaVaL
import Derived.Test.YtiimegmaokfpgaaTyDpM
import Derived.Test.YtiimegmaokfpgaaTyIn
import Derived.Test.YtiimegmaokfpgaaEnd
import Derived.Test.YtiimegmaokfpgaaRows
import Derived.WalkKit
import Derived.ProofKit
import Derived.OpenShut
import Derived.Carry
namespace Go.Proofs.Ytiimegmaokfpgaa.fnExactCorrectAll
open Go.ChangeShapes Go.WideShapes Go.ChangeAt Go.RowKit
open Go.ChangeMaps (open_string shut_string)
open reads base ty va rowi
set_option linter.unusedVariables false
set_option linter.unusedSimpArgs false

theorem own : ownKnob Try.prog.godebug = none := by kernel_rfl
def LawPost (w : World) (e : Ending) (w' : World) : Prop := e = .returned (.bool true) ∧ Below w.heap.size w w'
theorem row_below {w w' : World} {base size n : Nat} {e : TypeId} {v : Value} {xs : List Value} (h : w.ownsRow base e size v n xs) (hb : Below w.heap.size w w') : w'.ownsRow base e size v n xs := h.kept (row := none) ⟨hb.os, hb.tape, hb.output, hb.size, fun j hj _ => hb.block j hj⟩ (by cases v.ownBlock <;> simp)
set_option maxHeartbeats 8000000 in
set_option maxRecDepth 100000 in
theorem walk (A0 : Option Addr) (n0 c0 : Nat) (t0 : List Dp) (A1 : Option Addr) (n1 c1 : Nat) (t1 : List Int) (A2 : Option Addr) (n2 c2 : Nat) (t2 : List Int) (w : World) (hm0 : n0 ≤ maxLen) (HA0 : Hid (ty.ArgDp w w.heap.size A0 n0 t0)) (hm1 : n1 ≤ maxLen) (HA1 : Hid (ty.ArgIn w w.heap.size A1 n1 t1)) (hm2 : n2 ≤ maxLen) (HA2 : Hid (ty.ArgIn w w.heap.size A2 n2 t2)) : Calls Try.prog 9 #[.slice A0 n0 c0, .slice A1 n1 c1, .slice A2 n2 c2] w (LawPost w) := by
  by_cases big1 : 1048576 < n1
  · unfold maxLen at hm0 hm1 hm2
    have hb1 : decide ((1048576 : Int) < (n1 : Int)) = true := by simp; omega
    have hb1' : decide (1048576 < n1) = true := by simpa using big1
    go_enter Try.func9, Try.ntmps9
    go_wp2_with fail
    go_ret
    exact ⟨rfl, Below.refl _ _⟩
  have hb1 : decide ((1048576 : Int) < (n1 : Int)) = false := by simp; omega
  have hb1' : decide (1048576 < n1) = false := by simpa using big1
  have hn1 : n1 ≤ 1048576 := by omega
  clear big1
  by_cases big2 : 1048576 < n2
  · unfold maxLen at hm0 hm1 hm2
    have hb2 : decide ((1048576 : Int) < (n2 : Int)) = true := by simp; omega
    have hb2' : decide (1048576 < n2) = true := by simpa using big2
    go_enter Try.func9, Try.ntmps9
    go_wp2_with fail
    go_ret
    exact ⟨rfl, Below.refl _ _⟩
  have hb2 : decide ((1048576 : Int) < (n2 : Int)) = false := by simp; omega
  have hb2' : decide (1048576 < n2) = false := by simpa using big2
  have hn2 : n2 ≤ 1048576 := by omega
  clear big2
  by_cases big0 : 1048576 < n0
  · unfold maxLen at hm0 hm1 hm2
    go_enter Try.func9, Try.ntmps9
    go_wp2_with fail
    refine (ty.sz_decPoint A0 n0 c0 (1048576) _ (by unfold maxLen; omega) (by omega) (by omega)).mono ?_
    rintro e w' ⟨rfl, rfl⟩
    rw [if_pos (by omega)]
    go_wp2_with fail
    go_ret
    exact ⟨rfl, Below.refl _ _⟩
  unfold maxLen at hm0 hm1 hm2
  have hn0 : n0 ≤ 1048576 := by omega
  go_enter Try.func9, Try.ntmps9
  go_wp2_with fail
  refine (ty.sz_decPoint A0 n0 c0 (1048576) _ (by unfold maxLen; omega) (by omega) (by omega)).mono ?_
  rintro e w' ⟨rfl, rfl⟩
  rw [if_neg (by omega)]
  clear big0
  have hrl0 : (crV t0 t1 t2).length ≤ 2000000 := by have := crV_len t0 t1 t2; omega
  obtain ⟨N0, HN0⟩ : ∃ N, Hid ((crV t0 t1 t2).length = N) := ⟨_, Lib.hid rfl⟩
  rw [HN0.out] at hrl0
  have HBr := Lib.hid (Below.refl w.heap.size w)
  have hz0 : w.heap.size ≤ w.heap.size := HBr.out.size
  go_wp2_with fail
  have HArg := Lib.hid (ty.more_decPoint (HA0.out.below HBr.out) HBr.out.size)
  refine (ty.to_decPointS A0 n0 c0 t0 w hn0 HArg).mono ?_
  rintro e W1 ⟨rfl, ⟨cs_p0, hk, hf⟩, b⟩
  have HF_p0 := Lib.hid hf
  clear hf HArg
  have hz_W1 : w.heap.size ≤ W1.heap.size := b.size
  have H1 := Lib.hid (HBr.out.trans (b.mono HBr.out.size))
  clear b HBr
  have H2 := Lib.hid hk
  clear hk
  have hlt_p0 := H2.out.lt
  go_wp2_with fail
  have HArg := Lib.hid (ty.more_int (HA1.out.below H1.out) H1.out.size)
  refine (ty.to_intS A1 n1 c1 t1 W1 hn1 HArg).mono ?_
  rintro e W2 ⟨rfl, ⟨cs_p1, hk, hf⟩, b⟩
  have HF_p1 := Lib.hid hf
  clear hf HArg
  have hz_W2 : W1.heap.size ≤ W2.heap.size := b.size
  have H3 := Lib.hid (H1.out.trans (b.mono H1.out.size))
  have H4 := Lib.hid (show Blk W2 w.heap.size 42 cs_p0 from H2.out.below b H2.out.lt)
  clear b H1 H2
  have H5 := Lib.hid hk
  clear hk
  have hlt_p1 := H5.out.lt
  go_wp2_with fail
  have HArg := Lib.hid (ty.more_int (HA2.out.below H3.out) H3.out.size)
  refine (ty.to_intS A2 n2 c2 t2 W2 hn2 HArg).mono ?_
  rintro e W3 ⟨rfl, ⟨cs_p2, hk, hf⟩, b⟩
  have HF_p2 := Lib.hid hf
  clear hf HArg
  have hz_W3 : W2.heap.size ≤ W3.heap.size := b.size
  have H6 := Lib.hid (H3.out.trans (b.mono H3.out.size))
  have H7 := Lib.hid (show Blk W3 w.heap.size 42 cs_p0 from H4.out.below b H4.out.lt)
  have H8 := Lib.hid (show Blk W3 W1.heap.size 3 cs_p1 from H5.out.below b H5.out.lt)
  clear b H3 H4 H5
  have H9 := Lib.hid hk
  clear hk
  have hlt_p2 := H9.out.lt
  go_wp2_with fail
  have HL0 := Lib.hid ((ty.FillDp.at_ HF_p0.out HA0.out.1 H7.out).more (by exact H7.out.lt))
  have HL1 := Lib.hid ((ty.FillIn.at_ HF_p1.out HA1.out.1 H8.out).more (by exact H8.out.lt))
  have HL2 := Lib.hid ((ty.FillIn.at_ HF_p2.out HA2.out.1 H9.out).more (by exact H9.out.lt))
  refine (correctAll_model _ n0 _ t0 _ n1 _ t1 _ n2 _ t2 _ (by omega) (by omega) (by omega) HL0 HL1 HL2).mono ?_
  rintro e W4 ⟨vw0, rfl, ho0, b⟩
  rw [HN0.out] at ho0
  obtain ⟨Aw0, cw0, rfl⟩ := ints.own_slice ho0
  have HO_w0 := Lib.hid (show W4.ownsRow W3.heap.size 3 1 (.slice Aw0 N0 cw0) N0 (ints.intsV (crV t0 t1 t2)) from ho0)
  have HU_w0 := Lib.hid (show ∀ g, (Value.slice Aw0 N0 cw0).ownBlock = some g → W3.heap.size ≤ g ∧ g < W4.heap.size from fun g e => ho0.lt g e)
  clear ho0
  clear HL0 HL1 HL2
  have hz_W4 : W3.heap.size ≤ W4.heap.size := b.size
  have H10 := Lib.hid (H6.out.trans (b.mono H6.out.size))
  have H11 := Lib.hid (show Blk W4 w.heap.size 42 cs_p0 from H7.out.below b H7.out.lt)
  have H12 := Lib.hid (show Blk W4 W1.heap.size 3 cs_p1 from H8.out.below b H8.out.lt)
  have H13 := Lib.hid (show Blk W4 W2.heap.size 3 cs_p2 from H9.out.below b H9.out.lt)
  clear b H6 H7 H8 H9
  go_wp2_with fail
  have HArg := Lib.hid (ty.more_decPoint (HA0.out.below H10.out) H10.out.size)
  refine (ty.to_decPointS A0 n0 c0 t0 W4 hn0 HArg).mono ?_
  rintro e W5 ⟨rfl, ⟨cs_x0, hk, hf⟩, b⟩
  have HF_x0 := Lib.hid hf
  clear hf HArg
  have hz_W5 : W4.heap.size ≤ W5.heap.size := b.size
  have H14 := Lib.hid (row_below HO_w0.out b)
  clear HO_w0
  have H15 := Lib.hid (H10.out.trans (b.mono H10.out.size))
  clear b H10
  have H16 := Lib.hid hk
  clear hk
  have hlt_x0 := H16.out.lt
  go_wp2_with fail
  have HArg := Lib.hid (ty.more_int (HA1.out.below H15.out) H15.out.size)
  refine (ty.to_intS A1 n1 c1 t1 W5 hn1 HArg).mono ?_
  rintro e W6 ⟨rfl, ⟨cs_x1, hk, hf⟩, b⟩
  have HF_x1 := Lib.hid hf
  clear hf HArg
  have hz_W6 : W5.heap.size ≤ W6.heap.size := b.size
  have H17 := Lib.hid (row_below H14.out b)
  clear H14
  have H18 := Lib.hid (H15.out.trans (b.mono H15.out.size))
  have H19 := Lib.hid (show Blk W6 W4.heap.size 42 cs_x0 from H16.out.below b H16.out.lt)
  clear b H15 H16
  have H20 := Lib.hid hk
  clear hk
  have hlt_x1 := H20.out.lt
  go_wp2_with fail
  have HArg := Lib.hid (ty.more_int (HA2.out.below H18.out) H18.out.size)
  refine (ty.to_intS A2 n2 c2 t2 W6 hn2 HArg).mono ?_
  rintro e W7 ⟨rfl, ⟨cs_x2, hk, hf⟩, b⟩
  have HF_x2 := Lib.hid hf
  clear hf HArg
  have hz_W7 : W6.heap.size ≤ W7.heap.size := b.size
  have H21 := Lib.hid (row_below H17.out b)
  clear H17
  have H22 := Lib.hid (H18.out.trans (b.mono H18.out.size))
  have H23 := Lib.hid (show Blk W7 W4.heap.size 42 cs_x0 from H19.out.below b H19.out.lt)
  have H24 := Lib.hid (show Blk W7 W5.heap.size 3 cs_x1 from H20.out.below b H20.out.lt)
  clear b H18 H19 H20
  have H25 := Lib.hid hk
  clear hk
  have hlt_x2 := H25.out.lt
  go_wp2_with fail
  have HL0 := Lib.hid ((ty.FillDp.at_ HF_x0.out HA0.out.1 H23.out).more (by exact H23.out.lt))
  have HL1 := Lib.hid ((ty.FillIn.at_ HF_x1.out HA1.out.1 H24.out).more (by exact H24.out.lt))
  have HL2 := Lib.hid ((ty.FillIn.at_ HF_x2.out HA2.out.1 H25.out).more (by exact H25.out.lt))
  refine (correctAll_impl _ n0 _ t0 _ n1 _ t1 _ n2 _ t2 _ (by omega) (by omega) (by omega) HL0 HL1 HL2).mono ?_
  rintro e W8 ⟨vg0, rfl, ho0, b⟩
  rw [HN0.out] at ho0
  obtain ⟨Ag0, cg0, rfl⟩ := ints.own_slice ho0
  have HO_g0 := Lib.hid (show W8.ownsRow W7.heap.size 3 1 (.slice Ag0 N0 cg0) N0 (ints.intsV (crV t0 t1 t2)) from ho0)
  have HU_g0 := Lib.hid (show ∀ g, (Value.slice Ag0 N0 cg0).ownBlock = some g → W7.heap.size ≤ g ∧ g < W8.heap.size from fun g e => ho0.lt g e)
  clear ho0
  clear HL0 HL1 HL2
  have hz_W8 : W7.heap.size ≤ W8.heap.size := b.size
  have H26 := Lib.hid (row_below H21.out b)
  clear H21
  have H27 := Lib.hid (H22.out.trans (b.mono H22.out.size))
  have H28 := Lib.hid (show Blk W8 W4.heap.size 42 cs_x0 from H23.out.below b H23.out.lt)
  have H29 := Lib.hid (show Blk W8 W5.heap.size 3 cs_x1 from H24.out.below b H24.out.lt)
  have H30 := Lib.hid (show Blk W8 W6.heap.size 3 cs_x2 from H25.out.below b H25.out.lt)
  clear b H22 H23 H24 H25
  go_wp2_with fail
  refine (ints.eq_any Ag0 Aw0 N0 cg0 cw0 (crV t0 t1 t2) _ hrl0 (Lib.hid (ints.IL.of_own HO_g0.out)) (Lib.hid (ints.IL.of_own H26.out))).mono ?_
  rintro e W9 ⟨rfl, m, hm⟩
  have b : Below W8.heap.size W8 W9 := by rw [hm]; exact ends.below_drewN (Below.refl _ _) m
  clear hm
  have hz_W9 : W8.heap.size ≤ W9.heap.size := b.size
  have H31 := Lib.hid (row_below H26.out b)
  clear H26
  have H32 := Lib.hid (row_below HO_g0.out b)
  clear HO_g0
  have H33 := Lib.hid (H27.out.trans (b.mono H27.out.size))
  have H34 := Lib.hid (show Blk W9 W4.heap.size 42 cs_x0 from H28.out.below b H28.out.lt)
  have H35 := Lib.hid (show Blk W9 W5.heap.size 3 cs_x1 from H29.out.below b H29.out.lt)
  have H36 := Lib.hid (show Blk W9 W6.heap.size 3 cs_x2 from H30.out.below b H30.out.lt)
  clear b H27 H28 H29 H30
  go_wp2_with fail
  have HArg := Lib.hid (ty.more_decPoint (HA0.out.below H33.out) H33.out.size)
  refine (ty.to_decPointS A0 n0 c0 t0 W9 hn0 HArg).mono ?_
  rintro e W10 ⟨rfl, ⟨cs_z0, hk, hf⟩, b⟩
  have HF_z0 := Lib.hid hf
  clear hf HArg
  have hz_W10 : W9.heap.size ≤ W10.heap.size := b.size
  have H37 := Lib.hid (row_below H31.out b)
  clear H31
  have H38 := Lib.hid (row_below H32.out b)
  clear H32
  have H39 := Lib.hid (H33.out.trans (b.mono H33.out.size))
  have H40 := Lib.hid (show Blk W10 W4.heap.size 42 cs_x0 from H34.out.below b H34.out.lt)
  have H41 := Lib.hid (show Blk W10 W5.heap.size 3 cs_x1 from H35.out.below b H35.out.lt)
  have H42 := Lib.hid (show Blk W10 W6.heap.size 3 cs_x2 from H36.out.below b H36.out.lt)
  clear b H33 H34 H35 H36
  have H43 := Lib.hid hk
  clear hk
  have hlt_z0 := H43.out.lt
  go_wp2_with fail
  have HLx := Lib.hid ((ty.FillDp.at_ HF_x0.out HA0.out.1 H40.out).more (by exact H40.out.lt))
  have HLz := Lib.hid ((ty.FillDp.at_ HF_z0.out HA0.out.1 H43.out).more (by exact H43.out.lt))
  refine (ty.eq_decPointS _ _ n0 _ _ t0 _ (by omega) HLx HLz).mono ?_
  rintro e W11 ⟨rfl, b⟩
  clear HLx HLz
  have hz_W11 : W10.heap.size ≤ W11.heap.size := b.size
  have H44 := Lib.hid (row_below H37.out b)
  clear H37
  have H45 := Lib.hid (row_below H38.out b)
  clear H38
  have H46 := Lib.hid (H39.out.trans (b.mono H39.out.size))
  have H47 := Lib.hid (show Blk W11 W4.heap.size 42 cs_x0 from H40.out.below b H40.out.lt)
  have H48 := Lib.hid (show Blk W11 W5.heap.size 3 cs_x1 from H41.out.below b H41.out.lt)
  have H49 := Lib.hid (show Blk W11 W6.heap.size 3 cs_x2 from H42.out.below b H42.out.lt)
  have H50 := Lib.hid (show Blk W11 W9.heap.size 42 cs_z0 from H43.out.below b H43.out.lt)
  clear b H39 H40 H41 H42 H43
  go_wp2_with fail
  have HArg := Lib.hid (ty.more_int (HA1.out.below H46.out) H46.out.size)
  refine (ty.to_intS A1 n1 c1 t1 W11 hn1 HArg).mono ?_
  rintro e W12 ⟨rfl, ⟨cs_z1, hk, hf⟩, b⟩
  have HF_z1 := Lib.hid hf
  clear hf HArg
  have hz_W12 : W11.heap.size ≤ W12.heap.size := b.size
  have H51 := Lib.hid (row_below H44.out b)
  clear H44
  have H52 := Lib.hid (row_below H45.out b)
  clear H45
  have H53 := Lib.hid (H46.out.trans (b.mono H46.out.size))
  have H54 := Lib.hid (show Blk W12 W4.heap.size 42 cs_x0 from H47.out.below b H47.out.lt)
  have H55 := Lib.hid (show Blk W12 W5.heap.size 3 cs_x1 from H48.out.below b H48.out.lt)
  have H56 := Lib.hid (show Blk W12 W6.heap.size 3 cs_x2 from H49.out.below b H49.out.lt)
  clear b H46 H47 H48 H49
  have H57 := Lib.hid hk
  clear hk
  have hlt_z1 := H57.out.lt
  go_wp2_with fail
  have HLx := Lib.hid ((ty.FillIn.at_ HF_x1.out HA1.out.1 H55.out).more (by exact H55.out.lt))
  have HLz := Lib.hid ((ty.FillIn.at_ HF_z1.out HA1.out.1 H57.out).more (by exact H57.out.lt))
  refine (ty.eq_intS _ _ n1 _ _ t1 _ (by omega) HLx HLz).mono ?_
  rintro e W13 ⟨rfl, b⟩
  clear HLx HLz
  have hz_W13 : W12.heap.size ≤ W13.heap.size := b.size
  have H58 := Lib.hid (row_below H51.out b)
  clear H51
  have H59 := Lib.hid (row_below H52.out b)
  clear H52
  have H60 := Lib.hid (H53.out.trans (b.mono H53.out.size))
  have H61 := Lib.hid (show Blk W13 W4.heap.size 42 cs_x0 from H54.out.below b H54.out.lt)
  have H62 := Lib.hid (show Blk W13 W5.heap.size 3 cs_x1 from H55.out.below b H55.out.lt)
  have H63 := Lib.hid (show Blk W13 W6.heap.size 3 cs_x2 from H56.out.below b H56.out.lt)
  have H64 := Lib.hid (show Blk W13 W11.heap.size 3 cs_z1 from H57.out.below b H57.out.lt)
  clear b H53 H54 H55 H56 H57
  go_wp2_with fail
  have HArg := Lib.hid (ty.more_int (HA2.out.below H60.out) H60.out.size)
  refine (ty.to_intS A2 n2 c2 t2 W13 hn2 HArg).mono ?_
  rintro e W14 ⟨rfl, ⟨cs_z2, hk, hf⟩, b⟩
  have HF_z2 := Lib.hid hf
  clear hf HArg
  have hz_W14 : W13.heap.size ≤ W14.heap.size := b.size
  have H65 := Lib.hid (row_below H58.out b)
  clear H58
  have H66 := Lib.hid (row_below H59.out b)
  clear H59
  have H67 := Lib.hid (H60.out.trans (b.mono H60.out.size))
  have H68 := Lib.hid (show Blk W14 W4.heap.size 42 cs_x0 from H61.out.below b H61.out.lt)
  have H69 := Lib.hid (show Blk W14 W5.heap.size 3 cs_x1 from H62.out.below b H62.out.lt)
  have H70 := Lib.hid (show Blk W14 W6.heap.size 3 cs_x2 from H63.out.below b H63.out.lt)
  clear b H60 H61 H62 H63
  have H71 := Lib.hid hk
  clear hk
  have hlt_z2 := H71.out.lt
  go_wp2_with fail
  have HLx := Lib.hid ((ty.FillIn.at_ HF_x2.out HA2.out.1 H70.out).more (by exact H70.out.lt))
  have HLz := Lib.hid ((ty.FillIn.at_ HF_z2.out HA2.out.1 H71.out).more (by exact H71.out.lt))
  refine (ty.eq_intS _ _ n2 _ _ t2 _ (by omega) HLx HLz).mono ?_
  rintro e W15 ⟨rfl, b⟩
  clear HLx HLz
  have hz_W15 : W14.heap.size ≤ W15.heap.size := b.size
  have H72 := Lib.hid (row_below H65.out b)
  clear H65
  have H73 := Lib.hid (row_below H66.out b)
  clear H66
  have H74 := Lib.hid (H67.out.trans (b.mono H67.out.size))
  have H75 := Lib.hid (show Blk W15 W4.heap.size 42 cs_x0 from H68.out.below b H68.out.lt)
  have H76 := Lib.hid (show Blk W15 W5.heap.size 3 cs_x1 from H69.out.below b H69.out.lt)
  have H77 := Lib.hid (show Blk W15 W6.heap.size 3 cs_x2 from H70.out.below b H70.out.lt)
  have H78 := Lib.hid (show Blk W15 W13.heap.size 3 cs_z2 from H71.out.below b H71.out.lt)
  clear b H67 H68 H69 H70 H71
  go_wp2_with fail
  have HRM := Lib.hid (base.row_blk (base := 0) H75.out (Nat.zero_le _) (by unfold maxLen; omega) HF_x0.out.1)
  refine (ty.mark_decPointS 0 n0 _ _ (1) _ (by omega) (by omega) (by omega) HRM).mono ?_
  rintro e W16 ⟨rfl, -, hgr0⟩
  have hgr : W15.grownBy W16 (some W4.heap.size) := hgr0
  clear hgr0 HRM
  have hz_W16 : W15.heap.size ≤ W16.heap.size := hgr.size
  have H79 := Lib.hid (H74.out.grown hgr H74.out.size (fun g' e => by injection e with e; omega))
  have H80 := Lib.hid (show Blk W16 W5.heap.size 3 cs_x1 from H76.out.grown hgr (by intro e; injection e with e; omega))
  have H81 := Lib.hid (show Blk W16 W6.heap.size 3 cs_x2 from H77.out.grown hgr (by intro e; injection e with e; omega))
  have H82 := Lib.hid (H72.out.kept hgr (.inr (fun e => by have := HU_w0.out _ e; omega)))
  have H83 := Lib.hid (H73.out.kept hgr (.inr (fun e => by have := HU_g0.out _ e; omega)))
  clear hgr H74 H76 H77 H72 H73
  go_wp2_with fail
  have HRM := Lib.hid (ty.fill_row (base := 0) H80.out (Nat.zero_le _) (by unfold maxLen; omega) HF_x1.out HA1.out.1)
  refine (ints.mark_any 0 n1 _ t1 (1 + 2 * (n0 : Int)) _ (by omega) (by omega) (by omega) HRM).mono ?_
  rintro e W17 ⟨rfl, -, hgr0⟩
  have hgr : W16.grownBy W17 (some W5.heap.size) := hgr0
  clear hgr0 HRM
  have hz_W17 : W16.heap.size ≤ W17.heap.size := hgr.size
  have H84 := Lib.hid (H79.out.grown hgr H79.out.size (fun g' e => by injection e with e; omega))
  have H85 := Lib.hid (show Blk W17 W6.heap.size 3 cs_x2 from H81.out.grown hgr (by intro e; injection e with e; omega))
  have H86 := Lib.hid (H82.out.kept hgr (.inr (fun e => by have := HU_w0.out _ e; omega)))
  have H87 := Lib.hid (H83.out.kept hgr (.inr (fun e => by have := HU_g0.out _ e; omega)))
  clear hgr H79 H81 H82 H83
  go_wp2_with fail
  have HRM := Lib.hid (ty.fill_row (base := 0) H85.out (Nat.zero_le _) (by unfold maxLen; omega) HF_x2.out HA2.out.1)
  refine (ints.mark_any 0 n2 _ t2 (1 + 2 * (n0 : Int) + (n1 : Int)) _ (by omega) (by omega) (by omega) HRM).mono ?_
  rintro e W18 ⟨rfl, -, hgr0⟩
  have hgr : W17.grownBy W18 (some W6.heap.size) := hgr0
  clear hgr0 HRM
  have hz_W18 : W17.heap.size ≤ W18.heap.size := hgr.size
  have H88 := Lib.hid (H84.out.grown hgr H84.out.size (fun g' e => by injection e with e; omega))
  have H89 := Lib.hid (H86.out.kept hgr (.inr (fun e => by have := HU_w0.out _ e; omega)))
  have H90 := Lib.hid (H87.out.kept hgr (.inr (fun e => by have := HU_g0.out _ e; omega)))
  clear hgr H84 H86 H87
  go_wp2_with fail
  refine (ints.eq_any Ag0 Aw0 N0 cg0 cw0 (crV t0 t1 t2) _ hrl0 (Lib.hid (ints.IL.of_own H90.out)) (Lib.hid (ints.IL.of_own H89.out))).mono ?_
  rintro e W19 ⟨rfl, m, hm⟩
  have b : Below W18.heap.size W18 W19 := by rw [hm]; exact ends.below_drewN (Below.refl _ _) m
  clear hm
  have hz_W19 : W18.heap.size ≤ W19.heap.size := b.size
  have H91 := Lib.hid (row_below H89.out b)
  clear H89
  have H92 := Lib.hid (row_below H90.out b)
  clear H90
  have H93 := Lib.hid (H88.out.trans (b.mono H88.out.size))
  clear b H88
  go_wp2_with fail
  refine (ints.mark_any _ N0 _ (crV t0 t1 t2) (1) _ hrl0 (by omega) (by omega) H92).mono ?_
  rintro e W20 ⟨rfl, ho, hgr⟩
  have HM0 := Lib.hid ho
  clear ho
  have hz_W20 : W19.heap.size ≤ W20.heap.size := hgr.size
  have H94 := Lib.hid (H93.out.grown hgr H93.out.size (fun g e => by have := (HU_g0.out g e).1; omega))
  have H95 := Lib.hid (H91.out.kept hgr (by
      cases q : (Value.slice Aw0 N0 cw0).ownBlock with
      | none => exact .inl rfl
      | some g => exact .inr (fun e => by have h1 := HU_w0.out g q; have h2 := HU_g0.out g e.symm; omega)))
  clear hgr H93 H91
  go_wp2_with fail
  refine (ints.held_any Ag0 N0 cg0 (1) _ hrl0 (by omega) (by omega) (Lib.hid (ints.IL.of_own HM0.out))).mono ?_
  rintro e w' ⟨rfl, rfl⟩
  go_wp2_with fail
  have HArg := Lib.hid (ty.more_decPoint (HA0.out.below H94.out) H94.out.size)
  refine (ty.to_decPointS A0 n0 c0 t0 W20 hn0 HArg).mono ?_
  rintro e W21 ⟨rfl, ⟨cs_y0, hk, hf⟩, b⟩
  have HF_y0 := Lib.hid hf
  clear hf HArg
  have hz_W21 : W20.heap.size ≤ W21.heap.size := b.size
  have H96 := Lib.hid (row_below H95.out b)
  clear H95
  have H97 := Lib.hid (row_below HM0.out b)
  clear HM0
  have H98 := Lib.hid (H94.out.trans (b.mono H94.out.size))
  clear b H94
  have H99 := Lib.hid hk
  clear hk
  have hlt_y0 := H99.out.lt
  go_wp2_with fail
  have HArg := Lib.hid (ty.more_int (HA1.out.below H98.out) H98.out.size)
  refine (ty.to_intS A1 n1 c1 t1 W21 hn1 HArg).mono ?_
  rintro e W22 ⟨rfl, ⟨cs_y1, hk, hf⟩, b⟩
  have HF_y1 := Lib.hid hf
  clear hf HArg
  have hz_W22 : W21.heap.size ≤ W22.heap.size := b.size
  have H100 := Lib.hid (row_below H96.out b)
  clear H96
  have H101 := Lib.hid (row_below H97.out b)
  clear H97
  have H102 := Lib.hid (H98.out.trans (b.mono H98.out.size))
  have H103 := Lib.hid (show Blk W22 W20.heap.size 42 cs_y0 from H99.out.below b H99.out.lt)
  clear b H98 H99
  have H104 := Lib.hid hk
  clear hk
  have hlt_y1 := H104.out.lt
  go_wp2_with fail
  have HArg := Lib.hid (ty.more_int (HA2.out.below H102.out) H102.out.size)
  refine (ty.to_intS A2 n2 c2 t2 W22 hn2 HArg).mono ?_
  rintro e W23 ⟨rfl, ⟨cs_y2, hk, hf⟩, b⟩
  have HF_y2 := Lib.hid hf
  clear hf HArg
  have hz_W23 : W22.heap.size ≤ W23.heap.size := b.size
  have H105 := Lib.hid (row_below H100.out b)
  clear H100
  have H106 := Lib.hid (row_below H101.out b)
  clear H101
  have H107 := Lib.hid (H102.out.trans (b.mono H102.out.size))
  have H108 := Lib.hid (show Blk W23 W20.heap.size 42 cs_y0 from H103.out.below b H103.out.lt)
  have H109 := Lib.hid (show Blk W23 W21.heap.size 3 cs_y1 from H104.out.below b H104.out.lt)
  clear b H102 H103 H104
  have H110 := Lib.hid hk
  clear hk
  have hlt_y2 := H110.out.lt
  go_wp2_with fail
  have HL0 := Lib.hid ((ty.FillDp.at_ HF_y0.out HA0.out.1 H108.out).more (by exact H108.out.lt))
  have HL1 := Lib.hid ((ty.FillIn.at_ HF_y1.out HA1.out.1 H109.out).more (by exact H109.out.lt))
  have HL2 := Lib.hid ((ty.FillIn.at_ HF_y2.out HA2.out.1 H110.out).more (by exact H110.out.lt))
  refine (correctAll_impl _ n0 _ t0 _ n1 _ t1 _ n2 _ t2 _ (by omega) (by omega) (by omega) HL0 HL1 HL2).mono ?_
  rintro e W24 ⟨vh0, rfl, ho0, b⟩
  rw [HN0.out] at ho0
  obtain ⟨Ah0, ch0, rfl⟩ := ints.own_slice ho0
  have HO_h0 := Lib.hid (show W24.ownsRow W23.heap.size 3 1 (.slice Ah0 N0 ch0) N0 (ints.intsV (crV t0 t1 t2)) from ho0)
  have HU_h0 := Lib.hid (show ∀ g, (Value.slice Ah0 N0 ch0).ownBlock = some g → W23.heap.size ≤ g ∧ g < W24.heap.size from fun g e => ho0.lt g e)
  clear ho0
  clear HL0 HL1 HL2
  have hz_W24 : W23.heap.size ≤ W24.heap.size := b.size
  have H111 := Lib.hid (row_below H105.out b)
  clear H105
  have H112 := Lib.hid (row_below H106.out b)
  clear H106
  have H113 := Lib.hid (H107.out.trans (b.mono H107.out.size))
  have H114 := Lib.hid (show Blk W24 W20.heap.size 42 cs_y0 from H108.out.below b H108.out.lt)
  have H115 := Lib.hid (show Blk W24 W21.heap.size 3 cs_y1 from H109.out.below b H109.out.lt)
  have H116 := Lib.hid (show Blk W24 W22.heap.size 3 cs_y2 from H110.out.below b H110.out.lt)
  clear b H107 H108 H109 H110
  go_wp2_with fail
  refine (ints.eq_any Ah0 Aw0 N0 ch0 cw0 (crV t0 t1 t2) _ hrl0 (Lib.hid (ints.IL.of_own HO_h0.out)) (Lib.hid (ints.IL.of_own H111.out))).mono ?_
  rintro e W25 ⟨rfl, m, hm⟩
  have b : Below W24.heap.size W24 W25 := by rw [hm]; exact ends.below_drewN (Below.refl _ _) m
  clear hm
  have hz_W25 : W24.heap.size ≤ W25.heap.size := b.size
  have H117 := Lib.hid (row_below H111.out b)
  clear H111
  have H118 := Lib.hid (row_below H112.out b)
  clear H112
  have H119 := Lib.hid (row_below HO_h0.out b)
  clear HO_h0
  have H120 := Lib.hid (H113.out.trans (b.mono H113.out.size))
  have H121 := Lib.hid (show Blk W25 W20.heap.size 42 cs_y0 from H114.out.below b H114.out.lt)
  have H122 := Lib.hid (show Blk W25 W21.heap.size 3 cs_y1 from H115.out.below b H115.out.lt)
  have H123 := Lib.hid (show Blk W25 W22.heap.size 3 cs_y2 from H116.out.below b H116.out.lt)
  clear b H113 H114 H115 H116
  go_wp2_with fail
  refine (ints.held_any Ag0 N0 cg0 (1) _ hrl0 (by omega) (by omega) (Lib.hid (ints.IL.of_own H118.out))).mono ?_
  rintro e w' ⟨rfl, rfl⟩
  go_wp2_with fail
  go_ret
  exact ⟨rfl, H120.out⟩

theorem laidOut : laidOutB Try.prog = true := by kernel_rfl
set_option maxRecDepth 100000 in
theorem lifted (os : Os) (started : os.Started) (H : Type) (enc : TypeId × Value → H) :
    ReturnsInHanded {} Try.checked os 9 .any (Rows.fnExactCorrectAllSpec.pre6 enc Try.prog Try.f9 Rows.fnExactCorrectAllRow.domain false) (Rows.fnExactCorrectAllSpec.post enc Try.prog Try.f9 false true false false) := by
  refine returnsInHanded_of_change (C := Try.checked) own started (by kernel_rfl) Try.func9
    (ChangeSpec.witness6 (enc := enc) (C := Try.checked) false ⟨#[], #[.slice none 0 0, .slice none 0 0, .slice none 0 0], []⟩ 8 (by kernel_rfl) (by kernel_rfl) (by kernel_rfl) (by kernel_rfl)) ?_
  intro W base args ds gs before hval0 hW hcnd _
  have hval : ∀ (j : Nat) t v, Try.f9.params[j]? = some t → args[j]? = some v → Value.okWide Try.prog W .any base t v := hval0
  have hW' := hW
  obtain ⟨p, q, hA0, hV, rfl, hfz, hnd⟩ := hW
  have hA : DataW.TrodAll enc Try.prog W 0 (fun _ => true) true Try.f9.params.toList args.toList ds p := hA0
  rw [Try.params9] at hA hval
  obtain ⟨v0, vs0, d0, ds0, p0, q0, hargs, rfl, rfl, h0, r0⟩ := trodAll_cons hA
  obtain ⟨v1, vs1, d1, ds1, p1, q1, rfl, rfl, rfl, h1, r1⟩ := trodAll_cons r0
  obtain ⟨v2, vs2, d2, ds2, p2, q2, rfl, rfl, rfl, h2, r2⟩ := trodAll_cons r1
  obtain ⟨rfl, rfl, rfl⟩ := trodAll_nil r2
  obtain rfl : args = #[v0, v1, v2] := by cases args; simp_all
  obtain ⟨rfl, rfl⟩ := trodVars_none hV
  have k0 := h0
  have lt0 : ∀ x ∈ p0, x.block < W.heap.size := by obtain ⟨m, hm⟩ := k0; exact DataW.trod_lt m _ _ _ hm
  obtain ⟨A0, n0, c0, t0, rfl, HA0, hm0⟩ := ty.open_decPointS (hval 0 50 v0 rfl rfl) h0
  have k1 := h1
  have lt1 : ∀ x ∈ p1, x.block < W.heap.size := by obtain ⟨m, hm⟩ := k1; exact DataW.trod_lt m _ _ _ hm
  obtain ⟨A1, n1, c1, t1, rfl, HA1, hm1⟩ := ty.open_intS (hval 1 32 v1 rfl rfl) h1
  have k2 := h2
  have lt2 : ∀ x ∈ p2, x.block < W.heap.size := by obtain ⟨m, hm⟩ := k2; exact DataW.trod_lt m _ _ _ hm
  obtain ⟨A2, n2, c2, t2, rfl, HA2, hm2⟩ := ty.open_intS (hval 2 32 v2 rfl rfl) h2
  clear hA0 hval0
  refine (walk A0 n0 c0 t0 A1 n1 c1 t1 A2 n2 c2 t2 W hm0 (Lib.hid HA0) hm1 (Lib.hid HA1) hm2 (Lib.hid HA2)).mono fun e W' ⟨he, bel⟩ => ?_
  subst he
  exact ⟨_, rfl, _, _, _, [], _, [], hW', trodAll_mk1 (shut_bool Try.underlying4 _), (trodAll_cons_mk (Below.trod laidOut (by kernel_rfl) (of_decide_eq_true (by kernel_rfl)) k0 bel lt0) (trodAll_cons_mk (Below.trod laidOut (by kernel_rfl) (of_decide_eq_true (by kernel_rfl)) k1 bel lt1) (trodAll_cons_mk (Below.trod laidOut (by kernel_rfl) (of_decide_eq_true (by kernel_rfl)) k2 bel lt2) trodAll_mk0))), rfl, bel.frame _, fun h => by cases h⟩

theorem over : Rows.fnExactCorrectAllRow.holds Try.pinned (OpenSpec.ofChange Rows.fnExactCorrectAllSpec) :=
  OpenClaim.holds_of_wide 9 Try.f9 rfl rfl rfl rfl rfl rfl rfl ⟨rfl, rfl, rfl, rfl, rfl⟩ rfl rfl rfl rfl rfl (by kernel_rfl) Try.func9 (by kernel_rfl)
    (of_decide_eq_true (by kernel_rfl)) (by unfold Func.isWrapper; first | (rw [if_pos (by decide +kernel)]; kernel_rfl) | (rw [if_neg (by decide +kernel)]; exact ⟨rfl, rfl⟩))
    (fun os started H enc _ => lifted os started H enc)

theorem proved : Rows.FnExactCorrectAllSaid := over
#print axioms proved
end Go.Proofs.Ytiimegmaokfpgaa.fnExactCorrectAll
