/-
  FnExactMergePassages holds: at every argument MergePassages answers as its model answers, its answer owns its memory, and the arguments read behind the call as they read before it.
  Conditions: none of our own.
-/
import Derived.Test.YtnpghhpcloljeaaPwM
import Derived.Test.YtnpghhpcloljeaaPwN
import Derived.Test.YtnpghhpcloljeaaTyPgM
import Derived.Test.YtnpghhpcloljeaaEnd
import Derived.Test.YtnpghhpcloljeaaRows
import Derived.WalkKit
import Derived.ProofKit
import Derived.OpenShut
import Derived.Carry
namespace Go.Proofs.Ytnpghhpcloljeaa.fnExactMergePassages
open Go.ChangeShapes Go.WideShapes Go.ChangeAt Go.RowKit
open Go.ChangeMaps (open_string shut_string)
open reads base ty lg pw rowi
set_option linter.unusedVariables false
set_option linter.unusedSimpArgs false

theorem own : ownKnob Try.prog.godebug = none := by kernel_rfl
def LawPost (w : World) (e : Ending) (w' : World) : Prop := e = .returned (.bool true) ∧ Below w.heap.size w w'
theorem row_below {w w' : World} {base size n : Nat} {e : TypeId} {v : Value} {xs : List Value} (h : w.ownsRow base e size v n xs) (hb : Below w.heap.size w w') : w'.ownsRow base e size v n xs := h.kept (row := none) ⟨hb.os, hb.tape, hb.output, hb.size, fun j hj _ => hb.block j hj⟩ (by cases v.ownBlock <;> simp)
set_option maxHeartbeats 8000000 in
set_option maxRecDepth 100000 in
theorem walk (A0 : Option Addr) (n0 c0 : Nat) (t0 : List Pg) (A1 : Option Addr) (n1 c1 : Nat) (t1 : List Pg) (w : World) (hm0 : n0 ≤ maxLen) (HA0 : Hid (ty.ArgPg w w.heap.size A0 n0 t0)) (hm1 : n1 ≤ maxLen) (HA1 : Hid (ty.ArgPg w w.heap.size A1 n1 t1)) : Calls Try.prog 8 #[.slice A0 n0 c0, .slice A1 n1 c1] w (LawPost w) := by
  by_cases big0 : 1048576 < n0
  · unfold maxLen at hm0 hm1
    go_enter Try.func8, Try.ntmps8
    go_wp2_with fail
    refine (ty.sz_passage A0 n0 c0 (1048576) _ (by unfold maxLen; omega) (by omega) (by omega)).mono ?_
    rintro e w' ⟨rfl, rfl⟩
    rw [if_pos (by omega)]
    go_wp2_with fail
    go_ret
    exact ⟨rfl, Below.refl _ _⟩
  by_cases big1 : 1048576 - (n0 : Int) < n1
  · unfold maxLen at hm0 hm1
    go_enter Try.func8, Try.ntmps8
    go_wp2_with fail
    refine (ty.sz_passage A0 n0 c0 (1048576) _ (by unfold maxLen; omega) (by omega) (by omega)).mono ?_
    rintro e w' ⟨rfl, rfl⟩
    rw [if_neg (by omega)]
    go_wp2_with fail
    refine (ty.sz_passage A1 n1 c1 (1048576 - (n0 : Int)) _ (by unfold maxLen; omega) (by omega) (by omega)).mono ?_
    rintro e w' ⟨rfl, rfl⟩
    rw [if_pos (by omega)]
    go_wp2_with fail
    go_ret
    exact ⟨rfl, Below.refl _ _⟩
  unfold maxLen at hm0 hm1
  have hn0 : n0 ≤ 1048576 := by omega
  have hn1 : n1 ≤ 1048576 := by omega
  go_enter Try.func8, Try.ntmps8
  go_wp2_with fail
  refine (ty.sz_passage A0 n0 c0 (1048576) _ (by unfold maxLen; omega) (by omega) (by omega)).mono ?_
  rintro e w' ⟨rfl, rfl⟩
  rw [if_neg (by omega)]
  go_wp2_with fail
  refine (ty.sz_passage A1 n1 c1 (1048576 - (n0 : Int)) _ (by unfold maxLen; omega) (by omega) (by omega)).mono ?_
  rintro e w' ⟨rfl, rfl⟩
  rw [if_neg (by omega)]
  have hleft : ¬ (1048576 - (n0 : Int) - (n1 : Int)) < 0 := by omega
  clear big0 big1
  have hrl0 : (mgV t0 t1).length ≤ 2000000 := by have := mgV_len t0 t1; omega
  obtain ⟨N0, HN0⟩ : ∃ N, Hid ((mgV t0 t1).length = N) := ⟨_, Lib.hid rfl⟩
  rw [HN0.out] at hrl0
  have HBr := Lib.hid (Below.refl w.heap.size w)
  have hz0 : w.heap.size ≤ w.heap.size := HBr.out.size
  go_wp2_with fail
  have HArg := Lib.hid (ty.more_passage (HA0.out.below HBr.out) HBr.out.size)
  refine (ty.to_passageS A0 n0 c0 t0 w hn0 HArg).mono ?_
  rintro e W1 ⟨rfl, ⟨cs_p0, hk, hf⟩, b⟩
  have HF_p0 := Lib.hid hf
  clear hf HArg
  have hz_W1 : w.heap.size ≤ W1.heap.size := b.size
  have H1 := Lib.hid (HBr.out.trans (b.mono HBr.out.size))
  clear b HBr
  have H2 := Lib.hid hk
  clear hk
  have hlt_p0 := H2.out.lt
  go_wp2_with fail
  have HArg := Lib.hid (ty.more_passage (HA1.out.below H1.out) H1.out.size)
  refine (ty.to_passageS A1 n1 c1 t1 W1 hn1 HArg).mono ?_
  rintro e W2 ⟨rfl, ⟨cs_p1, hk, hf⟩, b⟩
  have HF_p1 := Lib.hid hf
  clear hf HArg
  have hz_W2 : W1.heap.size ≤ W2.heap.size := b.size
  have H3 := Lib.hid (H1.out.trans (b.mono H1.out.size))
  have H4 := Lib.hid (show Blk W2 w.heap.size 53 cs_p0 from H2.out.below b H2.out.lt)
  clear b H1 H2
  have H5 := Lib.hid hk
  clear hk
  have hlt_p1 := H5.out.lt
  go_wp2_with fail
  have HL0 := Lib.hid ((ty.FillPg.at_ HF_p0.out HA0.out.1 H4.out).more (by exact H4.out.lt))
  have HL1 := Lib.hid ((ty.FillPg.at_ HF_p1.out HA1.out.1 H5.out).more (by exact H5.out.lt))
  refine (merge_model _ n0 _ t0 _ n1 _ t1 _ (by omega) HL0 (by omega) HL1).mono ?_
  rintro e W3 ⟨vw0, rfl, ho0, b⟩
  rw [HN0.out] at ho0
  obtain ⟨Aw0, cw0, rfl⟩ := base.row_slice ho0
  have HO_w0 := Lib.hid (show W3.ownsRow W2.heap.size 53 5 (.slice Aw0 N0 cw0) N0 (ty.flatPg (mgV t0 t1)) from ho0)
  have HU_w0 := Lib.hid (show ∀ g, (Value.slice Aw0 N0 cw0).ownBlock = some g → W2.heap.size ≤ g ∧ g < W3.heap.size from fun g e => ho0.lt g e)
  clear ho0
  clear HL0 HL1
  have hz_W3 : W2.heap.size ≤ W3.heap.size := b.size
  have H6 := Lib.hid (H3.out.trans (b.mono H3.out.size))
  have H7 := Lib.hid (show Blk W3 w.heap.size 53 cs_p0 from H4.out.below b H4.out.lt)
  have H8 := Lib.hid (show Blk W3 W1.heap.size 53 cs_p1 from H5.out.below b H5.out.lt)
  clear b H3 H4 H5
  go_wp2_with fail
  have HArg := Lib.hid (ty.more_passage (HA0.out.below H6.out) H6.out.size)
  refine (ty.to_passageS A0 n0 c0 t0 W3 hn0 HArg).mono ?_
  rintro e W4 ⟨rfl, ⟨cs_x0, hk, hf⟩, b⟩
  have HF_x0 := Lib.hid hf
  clear hf HArg
  have hz_W4 : W3.heap.size ≤ W4.heap.size := b.size
  have H9 := Lib.hid (row_below HO_w0.out b)
  clear HO_w0
  have H10 := Lib.hid (H6.out.trans (b.mono H6.out.size))
  clear b H6
  have H11 := Lib.hid hk
  clear hk
  have hlt_x0 := H11.out.lt
  go_wp2_with fail
  have HArg := Lib.hid (ty.more_passage (HA1.out.below H10.out) H10.out.size)
  refine (ty.to_passageS A1 n1 c1 t1 W4 hn1 HArg).mono ?_
  rintro e W5 ⟨rfl, ⟨cs_x1, hk, hf⟩, b⟩
  have HF_x1 := Lib.hid hf
  clear hf HArg
  have hz_W5 : W4.heap.size ≤ W5.heap.size := b.size
  have H12 := Lib.hid (row_below H9.out b)
  clear H9
  have H13 := Lib.hid (H10.out.trans (b.mono H10.out.size))
  have H14 := Lib.hid (show Blk W5 W3.heap.size 53 cs_x0 from H11.out.below b H11.out.lt)
  clear b H10 H11
  have H15 := Lib.hid hk
  clear hk
  have hlt_x1 := H15.out.lt
  go_wp2_with fail
  have HL0 := Lib.hid ((ty.FillPg.at_ HF_x0.out HA0.out.1 H14.out).more (by exact H14.out.lt))
  have HL1 := Lib.hid ((ty.FillPg.at_ HF_x1.out HA1.out.1 H15.out).more (by exact H15.out.lt))
  refine (merge_impl _ n0 _ t0 _ n1 _ t1 _ (by omega) HL0 (by omega) HL1).mono ?_
  rintro e W6 ⟨vg0, rfl, ho0, b⟩
  rw [HN0.out] at ho0
  obtain ⟨Ag0, cg0, rfl⟩ := base.row_slice ho0
  have HO_g0 := Lib.hid (show W6.ownsRow W5.heap.size 53 5 (.slice Ag0 N0 cg0) N0 (ty.flatPg (mgV t0 t1)) from ho0)
  have HU_g0 := Lib.hid (show ∀ g, (Value.slice Ag0 N0 cg0).ownBlock = some g → W5.heap.size ≤ g ∧ g < W6.heap.size from fun g e => ho0.lt g e)
  clear ho0
  clear HL0 HL1
  have hz_W6 : W5.heap.size ≤ W6.heap.size := b.size
  have H16 := Lib.hid (row_below H12.out b)
  clear H12
  have H17 := Lib.hid (H13.out.trans (b.mono H13.out.size))
  have H18 := Lib.hid (show Blk W6 W3.heap.size 53 cs_x0 from H14.out.below b H14.out.lt)
  have H19 := Lib.hid (show Blk W6 W4.heap.size 53 cs_x1 from H15.out.below b H15.out.lt)
  clear b H13 H14 H15
  go_wp2_with fail
  refine (ty.eq_passageS Ag0 Aw0 N0 cg0 cw0 (mgV t0 t1) _ hrl0 (Lib.hid (ty.own_Pg HN0.out HO_g0.out)) (Lib.hid (ty.own_Pg HN0.out H16.out))).mono ?_
  rintro e W7 ⟨rfl, b⟩
  have hz_W7 : W6.heap.size ≤ W7.heap.size := b.size
  have H20 := Lib.hid (row_below H16.out b)
  clear H16
  have H21 := Lib.hid (row_below HO_g0.out b)
  clear HO_g0
  have H22 := Lib.hid (H17.out.trans (b.mono H17.out.size))
  have H23 := Lib.hid (show Blk W7 W3.heap.size 53 cs_x0 from H18.out.below b H18.out.lt)
  have H24 := Lib.hid (show Blk W7 W4.heap.size 53 cs_x1 from H19.out.below b H19.out.lt)
  clear b H17 H18 H19
  go_wp2_with fail
  have HArg := Lib.hid (ty.more_passage (HA0.out.below H22.out) H22.out.size)
  refine (ty.to_passageS A0 n0 c0 t0 W7 hn0 HArg).mono ?_
  rintro e W8 ⟨rfl, ⟨cs_z0, hk, hf⟩, b⟩
  have HF_z0 := Lib.hid hf
  clear hf HArg
  have hz_W8 : W7.heap.size ≤ W8.heap.size := b.size
  have H25 := Lib.hid (row_below H20.out b)
  clear H20
  have H26 := Lib.hid (row_below H21.out b)
  clear H21
  have H27 := Lib.hid (H22.out.trans (b.mono H22.out.size))
  have H28 := Lib.hid (show Blk W8 W3.heap.size 53 cs_x0 from H23.out.below b H23.out.lt)
  have H29 := Lib.hid (show Blk W8 W4.heap.size 53 cs_x1 from H24.out.below b H24.out.lt)
  clear b H22 H23 H24
  have H30 := Lib.hid hk
  clear hk
  have hlt_z0 := H30.out.lt
  go_wp2_with fail
  have HLx := Lib.hid ((ty.FillPg.at_ HF_x0.out HA0.out.1 H28.out).more (by exact H28.out.lt))
  have HLz := Lib.hid ((ty.FillPg.at_ HF_z0.out HA0.out.1 H30.out).more (by exact H30.out.lt))
  refine (ty.eq_passageS _ _ n0 _ _ t0 _ (by omega) HLx HLz).mono ?_
  rintro e W9 ⟨rfl, b⟩
  clear HLx HLz
  have hz_W9 : W8.heap.size ≤ W9.heap.size := b.size
  have H31 := Lib.hid (row_below H25.out b)
  clear H25
  have H32 := Lib.hid (row_below H26.out b)
  clear H26
  have H33 := Lib.hid (H27.out.trans (b.mono H27.out.size))
  have H34 := Lib.hid (show Blk W9 W3.heap.size 53 cs_x0 from H28.out.below b H28.out.lt)
  have H35 := Lib.hid (show Blk W9 W4.heap.size 53 cs_x1 from H29.out.below b H29.out.lt)
  have H36 := Lib.hid (show Blk W9 W7.heap.size 53 cs_z0 from H30.out.below b H30.out.lt)
  clear b H27 H28 H29 H30
  go_wp2_with fail
  have HArg := Lib.hid (ty.more_passage (HA1.out.below H33.out) H33.out.size)
  refine (ty.to_passageS A1 n1 c1 t1 W9 hn1 HArg).mono ?_
  rintro e W10 ⟨rfl, ⟨cs_z1, hk, hf⟩, b⟩
  have HF_z1 := Lib.hid hf
  clear hf HArg
  have hz_W10 : W9.heap.size ≤ W10.heap.size := b.size
  have H37 := Lib.hid (row_below H31.out b)
  clear H31
  have H38 := Lib.hid (row_below H32.out b)
  clear H32
  have H39 := Lib.hid (H33.out.trans (b.mono H33.out.size))
  have H40 := Lib.hid (show Blk W10 W3.heap.size 53 cs_x0 from H34.out.below b H34.out.lt)
  have H41 := Lib.hid (show Blk W10 W4.heap.size 53 cs_x1 from H35.out.below b H35.out.lt)
  clear b H33 H34 H35
  have H42 := Lib.hid hk
  clear hk
  have hlt_z1 := H42.out.lt
  go_wp2_with fail
  have HLx := Lib.hid ((ty.FillPg.at_ HF_x1.out HA1.out.1 H41.out).more (by exact H41.out.lt))
  have HLz := Lib.hid ((ty.FillPg.at_ HF_z1.out HA1.out.1 H42.out).more (by exact H42.out.lt))
  refine (ty.eq_passageS _ _ n1 _ _ t1 _ (by omega) HLx HLz).mono ?_
  rintro e W11 ⟨rfl, b⟩
  clear HLx HLz
  have hz_W11 : W10.heap.size ≤ W11.heap.size := b.size
  have H43 := Lib.hid (row_below H37.out b)
  clear H37
  have H44 := Lib.hid (row_below H38.out b)
  clear H38
  have H45 := Lib.hid (H39.out.trans (b.mono H39.out.size))
  have H46 := Lib.hid (show Blk W11 W3.heap.size 53 cs_x0 from H40.out.below b H40.out.lt)
  have H47 := Lib.hid (show Blk W11 W4.heap.size 53 cs_x1 from H41.out.below b H41.out.lt)
  have H48 := Lib.hid (show Blk W11 W9.heap.size 53 cs_z1 from H42.out.below b H42.out.lt)
  clear b H39 H40 H41 H42
  go_wp2_with fail
  have HRM := Lib.hid (base.row_blk (base := 0) H46.out (Nat.zero_le _) (by unfold maxLen; omega) HF_x0.out.1)
  refine (ty.mark_passageS 0 n0 _ _ (1) _ (by omega) (by omega) (by omega) HRM).mono ?_
  rintro e W12 ⟨rfl, -, hgr0⟩
  have hgr : W11.grownBy W12 (some W3.heap.size) := hgr0
  clear hgr0 HRM
  have hz_W12 : W11.heap.size ≤ W12.heap.size := hgr.size
  have H49 := Lib.hid (H45.out.grown hgr H45.out.size (fun g' e => by injection e with e; omega))
  have H50 := Lib.hid (show Blk W12 W4.heap.size 53 cs_x1 from H47.out.grown hgr (by intro e; injection e with e; omega))
  have H51 := Lib.hid (H43.out.kept hgr (.inr (fun e => by have := HU_w0.out _ e; omega)))
  have H52 := Lib.hid (H44.out.kept hgr (.inr (fun e => by have := HU_g0.out _ e; omega)))
  clear hgr H45 H47 H43 H44
  go_wp2_with fail
  have HRM := Lib.hid (base.row_blk (base := 0) H50.out (Nat.zero_le _) (by unfold maxLen; omega) HF_x1.out.1)
  refine (ty.mark_passageS 0 n1 _ _ (1 + 5 * (n0 : Int)) _ (by omega) (by omega) (by omega) HRM).mono ?_
  rintro e W13 ⟨rfl, -, hgr0⟩
  have hgr : W12.grownBy W13 (some W4.heap.size) := hgr0
  clear hgr0 HRM
  have hz_W13 : W12.heap.size ≤ W13.heap.size := hgr.size
  have H53 := Lib.hid (H49.out.grown hgr H49.out.size (fun g' e => by injection e with e; omega))
  have H54 := Lib.hid (H51.out.kept hgr (.inr (fun e => by have := HU_w0.out _ e; omega)))
  have H55 := Lib.hid (H52.out.kept hgr (.inr (fun e => by have := HU_g0.out _ e; omega)))
  clear hgr H49 H51 H52
  go_wp2_with fail
  refine (ty.eq_passageS Ag0 Aw0 N0 cg0 cw0 (mgV t0 t1) _ hrl0 (Lib.hid (ty.own_Pg HN0.out H55.out)) (Lib.hid (ty.own_Pg HN0.out H54.out))).mono ?_
  rintro e W14 ⟨rfl, b⟩
  have hz_W14 : W13.heap.size ≤ W14.heap.size := b.size
  have H56 := Lib.hid (row_below H54.out b)
  clear H54
  have H57 := Lib.hid (row_below H55.out b)
  clear H55
  have H58 := Lib.hid (H53.out.trans (b.mono H53.out.size))
  clear b H53
  go_wp2_with fail
  refine (ty.mark_passageS _ N0 _ _ (1) _ hrl0 (by omega) (by omega) H57).mono ?_
  rintro e W15 ⟨rfl, ho, hgr⟩
  have HM0 := Lib.hid ho
  clear ho
  have hz_W15 : W14.heap.size ≤ W15.heap.size := hgr.size
  have H59 := Lib.hid (H58.out.grown hgr H58.out.size (fun g e => by have := (HU_g0.out g e).1; omega))
  have H60 := Lib.hid (H56.out.kept hgr (by
      cases q : (Value.slice Aw0 N0 cw0).ownBlock with
      | none => exact .inl rfl
      | some g => exact .inr (fun e => by have h1 := HU_w0.out g q; have h2 := HU_g0.out g e.symm; omega)))
  clear hgr H58 H56
  go_wp2_with fail
  refine (ty.held_passageS _ Ag0 N0 cg0 (1) _ hrl0 (by omega) (by omega) HM0).mono ?_
  rintro e w' ⟨rfl, rfl⟩
  go_wp2_with fail
  have HArg := Lib.hid (ty.more_passage (HA0.out.below H59.out) H59.out.size)
  refine (ty.to_passageS A0 n0 c0 t0 W15 hn0 HArg).mono ?_
  rintro e W16 ⟨rfl, ⟨cs_y0, hk, hf⟩, b⟩
  have HF_y0 := Lib.hid hf
  clear hf HArg
  have hz_W16 : W15.heap.size ≤ W16.heap.size := b.size
  have H61 := Lib.hid (row_below H60.out b)
  clear H60
  have H62 := Lib.hid (row_below HM0.out b)
  clear HM0
  have H63 := Lib.hid (H59.out.trans (b.mono H59.out.size))
  clear b H59
  have H64 := Lib.hid hk
  clear hk
  have hlt_y0 := H64.out.lt
  go_wp2_with fail
  have HArg := Lib.hid (ty.more_passage (HA1.out.below H63.out) H63.out.size)
  refine (ty.to_passageS A1 n1 c1 t1 W16 hn1 HArg).mono ?_
  rintro e W17 ⟨rfl, ⟨cs_y1, hk, hf⟩, b⟩
  have HF_y1 := Lib.hid hf
  clear hf HArg
  have hz_W17 : W16.heap.size ≤ W17.heap.size := b.size
  have H65 := Lib.hid (row_below H61.out b)
  clear H61
  have H66 := Lib.hid (row_below H62.out b)
  clear H62
  have H67 := Lib.hid (H63.out.trans (b.mono H63.out.size))
  have H68 := Lib.hid (show Blk W17 W15.heap.size 53 cs_y0 from H64.out.below b H64.out.lt)
  clear b H63 H64
  have H69 := Lib.hid hk
  clear hk
  have hlt_y1 := H69.out.lt
  go_wp2_with fail
  have HL0 := Lib.hid ((ty.FillPg.at_ HF_y0.out HA0.out.1 H68.out).more (by exact H68.out.lt))
  have HL1 := Lib.hid ((ty.FillPg.at_ HF_y1.out HA1.out.1 H69.out).more (by exact H69.out.lt))
  refine (merge_impl _ n0 _ t0 _ n1 _ t1 _ (by omega) HL0 (by omega) HL1).mono ?_
  rintro e W18 ⟨vh0, rfl, ho0, b⟩
  rw [HN0.out] at ho0
  obtain ⟨Ah0, ch0, rfl⟩ := base.row_slice ho0
  have HO_h0 := Lib.hid (show W18.ownsRow W17.heap.size 53 5 (.slice Ah0 N0 ch0) N0 (ty.flatPg (mgV t0 t1)) from ho0)
  have HU_h0 := Lib.hid (show ∀ g, (Value.slice Ah0 N0 ch0).ownBlock = some g → W17.heap.size ≤ g ∧ g < W18.heap.size from fun g e => ho0.lt g e)
  clear ho0
  clear HL0 HL1
  have hz_W18 : W17.heap.size ≤ W18.heap.size := b.size
  have H70 := Lib.hid (row_below H65.out b)
  clear H65
  have H71 := Lib.hid (row_below H66.out b)
  clear H66
  have H72 := Lib.hid (H67.out.trans (b.mono H67.out.size))
  have H73 := Lib.hid (show Blk W18 W15.heap.size 53 cs_y0 from H68.out.below b H68.out.lt)
  have H74 := Lib.hid (show Blk W18 W16.heap.size 53 cs_y1 from H69.out.below b H69.out.lt)
  clear b H67 H68 H69
  go_wp2_with fail
  refine (ty.eq_passageS Ah0 Aw0 N0 ch0 cw0 (mgV t0 t1) _ hrl0 (Lib.hid (ty.own_Pg HN0.out HO_h0.out)) (Lib.hid (ty.own_Pg HN0.out H70.out))).mono ?_
  rintro e W19 ⟨rfl, b⟩
  have hz_W19 : W18.heap.size ≤ W19.heap.size := b.size
  have H75 := Lib.hid (row_below H70.out b)
  clear H70
  have H76 := Lib.hid (row_below H71.out b)
  clear H71
  have H77 := Lib.hid (row_below HO_h0.out b)
  clear HO_h0
  have H78 := Lib.hid (H72.out.trans (b.mono H72.out.size))
  have H79 := Lib.hid (show Blk W19 W15.heap.size 53 cs_y0 from H73.out.below b H73.out.lt)
  have H80 := Lib.hid (show Blk W19 W16.heap.size 53 cs_y1 from H74.out.below b H74.out.lt)
  clear b H72 H73 H74
  go_wp2_with fail
  refine (ty.held_passageS _ Ag0 N0 cg0 (1) _ hrl0 (by omega) (by omega) H76).mono ?_
  rintro e w' ⟨rfl, rfl⟩
  go_wp2_with fail
  go_ret
  exact ⟨rfl, H78.out⟩

theorem laidOut : laidOutB Try.prog = true := by kernel_rfl
set_option maxRecDepth 100000 in
theorem lifted (os : Os) (started : os.Started) (H : Type) (enc : TypeId × Value → H) :
    ReturnsInHanded {} Try.checked os 8 .any (Rows.fnExactMergePassagesSpec.pre6 enc Try.prog Try.f8 Rows.fnExactMergePassagesRow.domain false) (Rows.fnExactMergePassagesSpec.post enc Try.prog Try.f8 false true false false) := by
  refine returnsInHanded_of_change (C := Try.checked) own started (by kernel_rfl) Try.func8
    (ChangeSpec.witness6 (enc := enc) (C := Try.checked) false ⟨#[], #[.slice none 0 0, .slice none 0 0], []⟩ 8 (by kernel_rfl) (by kernel_rfl) (by kernel_rfl) (by kernel_rfl)) ?_
  intro W base args ds gs before hval0 hW hcnd _
  have hval : ∀ (j : Nat) t v, Try.f8.params[j]? = some t → args[j]? = some v → Value.okWide Try.prog W .any base t v := hval0
  have hW' := hW
  obtain ⟨p, q, hA0, hV, rfl, hfz, hnd⟩ := hW
  have hA : DataW.TrodAll enc Try.prog W 0 (fun _ => true) true Try.f8.params.toList args.toList ds p := hA0
  rw [Try.params8] at hA hval
  obtain ⟨v0, vs0, d0, ds0, p0, q0, hargs, rfl, rfl, h0, r0⟩ := trodAll_cons hA
  obtain ⟨v1, vs1, d1, ds1, p1, q1, rfl, rfl, rfl, h1, r1⟩ := trodAll_cons r0
  obtain ⟨rfl, rfl, rfl⟩ := trodAll_nil r1
  obtain rfl : args = #[v0, v1] := by cases args; simp_all
  obtain ⟨rfl, rfl⟩ := trodVars_none hV
  have k0 := h0
  have lt0 : ∀ x ∈ p0, x.block < W.heap.size := by obtain ⟨m, hm⟩ := k0; exact DataW.trod_lt m _ _ _ hm
  obtain ⟨A0, n0, c0, t0, rfl, HA0, hm0⟩ := ty.open_passageS (hval 0 22 v0 rfl rfl) h0
  have k1 := h1
  have lt1 : ∀ x ∈ p1, x.block < W.heap.size := by obtain ⟨m, hm⟩ := k1; exact DataW.trod_lt m _ _ _ hm
  obtain ⟨A1, n1, c1, t1, rfl, HA1, hm1⟩ := ty.open_passageS (hval 1 22 v1 rfl rfl) h1
  clear hA0 hval0
  refine (walk A0 n0 c0 t0 A1 n1 c1 t1 W hm0 (Lib.hid HA0) hm1 (Lib.hid HA1)).mono fun e W' ⟨he, bel⟩ => ?_
  subst he
  exact ⟨_, rfl, _, _, _, [], _, [], hW', trodAll_mk1 (shut_bool Try.underlying4 _), (trodAll_cons_mk (Below.trod laidOut (by kernel_rfl) (of_decide_eq_true (by kernel_rfl)) k0 bel lt0) (trodAll_cons_mk (Below.trod laidOut (by kernel_rfl) (of_decide_eq_true (by kernel_rfl)) k1 bel lt1) trodAll_mk0)), rfl, bel.frame _, fun h => by cases h⟩

theorem over : Rows.fnExactMergePassagesRow.holds Try.pinned (OpenSpec.ofChange Rows.fnExactMergePassagesSpec) :=
  OpenClaim.holds_of_wide 8 Try.f8 rfl rfl rfl rfl rfl rfl rfl ⟨rfl, rfl, rfl, rfl, rfl⟩ rfl rfl rfl rfl rfl (by kernel_rfl) Try.func8 (by kernel_rfl)
    (of_decide_eq_true (by kernel_rfl)) (by unfold Func.isWrapper; first | (rw [if_pos (by decide +kernel)]; kernel_rfl) | (rw [if_neg (by decide +kernel)]; exact ⟨rfl, rfl⟩))
    (fun os started H enc _ => lifted os started H enc)

theorem proved : Rows.FnExactMergePassagesSaid := over
#print axioms proved
end Go.Proofs.Ytnpghhpcloljeaa.fnExactMergePassages
