/-
  FnExactFittingStations holds: at every argument FittingStations answers as its model answers, its answer owns its memory, and the arguments read behind the call as they read before it.
  Conditions: none of our own.
-/
import Derived.Test.YtnpghhpcloljeaaPwK
import Derived.Test.YtnpghhpcloljeaaPwS
import Derived.Test.YtnpghhpcloljeaaTyPgM
import Derived.Test.YtnpghhpcloljeaaInts
import Derived.Test.YtnpghhpcloljeaaEnd
import Derived.Test.YtnpghhpcloljeaaRows
import Derived.WalkKit
import Derived.ProofKit
import Derived.OpenShut
import Derived.Carry
namespace Go.Proofs.Ytnpghhpcloljeaa.fnExactFittingStations
open Go.ChangeShapes Go.WideShapes Go.ChangeAt Go.RowKit
open Go.ChangeMaps (open_string shut_string)
open reads base ty lg pw rowi
set_option linter.unusedVariables false
set_option linter.unusedSimpArgs false

theorem own : ownKnob Try.prog.godebug = none := by kernel_rfl
def LawPost (w : World) (e : Ending) (w' : World) : Prop := e = .returned (.bool true) ∧ Below w.heap.size w w'
theorem row_below {w w' : World} {base size n : Nat} {e : TypeId} {v : Value} {xs : List Value} (h : w.ownsRow base e size v n xs) (hb : Below w.heap.size w w') : w'.ownsRow base e size v n xs := h.kept (row := none) ⟨hb.os, hb.tape, hb.output, hb.size, fun j hj _ => hb.block j hj⟩ (by cases v.ownBlock <;> simp)
set_option maxHeartbeats 8000000 in
set_option maxRecDepth 100000 in
theorem walk (A0 : Option Addr) (n0 c0 : Nat) (t0 : List Pg) (x1 : Int) (x2 : Int) (w : World) (hm0 : n0 ≤ maxLen) (HA0 : Hid (ty.ArgPg w w.heap.size A0 n0 t0)) : Calls Try.prog 7 #[.slice A0 n0 c0, .int .i64 x1, .int .i64 x2] w (LawPost w) := by
  by_cases big0 : 1048576 < n0
  · unfold maxLen at hm0
    go_enter Try.func7, Try.ntmps7
    go_wp2_with fail
    refine (ty.sz_passage A0 n0 c0 (1048576) _ (by unfold maxLen; omega) (by omega) (by omega)).mono ?_
    rintro e w' ⟨rfl, rfl⟩
    rw [if_pos (by omega)]
    go_wp2_with fail
    go_ret
    exact ⟨rfl, Below.refl _ _⟩
  unfold maxLen at hm0
  have hn0 : n0 ≤ 1048576 := by omega
  go_enter Try.func7, Try.ntmps7
  go_wp2_with fail
  refine (ty.sz_passage A0 n0 c0 (1048576) _ (by unfold maxLen; omega) (by omega) (by omega)).mono ?_
  rintro e w' ⟨rfl, rfl⟩
  rw [if_neg (by omega)]
  clear big0
  have hrl0 : (ftV x1 x2 t0).length ≤ 2000000 := by have := ftV_len x1 x2 t0; omega
  obtain ⟨N0, HN0⟩ : ∃ N, Hid ((ftV x1 x2 t0).length = N) := ⟨_, Lib.hid rfl⟩
  rw [HN0.out] at hrl0
  have HBr := Lib.hid (Below.refl w.heap.size w)
  have hz0 : w.heap.size ≤ w.heap.size := HBr.out.size
  go_wp2_with fail
  have HArg := Lib.hid (ty.more_passage (HA0.out.below HBr.out) HBr.out.size)
  refine (ty.to_passageS A0 n0 c0 t0 w hn0 HArg).mono ?_
  rintro e W1 ⟨rfl, ⟨cs_p0, hk, hf⟩, b⟩
  have HF_p0 := Lib.hid hf
  clear hf HArg
  have hz_W1 : w.heap.size ≤ W1.heap.size := b.size
  have H1 := Lib.hid (HBr.out.trans (b.mono HBr.out.size))
  clear b HBr
  have H2 := Lib.hid hk
  clear hk
  have hlt_p0 := H2.out.lt
  go_wp2_with fail
  have HL0 := Lib.hid ((ty.FillPg.at_ HF_p0.out HA0.out.1 H2.out).more (by exact H2.out.lt))
  refine (fitting_model _ n0 _ t0 x1 x2 _ (by omega) HL0).mono ?_
  rintro e W2 ⟨vw0, rfl, ho0, b⟩
  rw [HN0.out] at ho0
  obtain ⟨Aw0, cw0, rfl⟩ := ints.own_slice ho0
  have HO_w0 := Lib.hid (show W2.ownsRow W1.heap.size 3 1 (.slice Aw0 N0 cw0) N0 (ints.intsV (ftV x1 x2 t0)) from ho0)
  have HU_w0 := Lib.hid (show ∀ g, (Value.slice Aw0 N0 cw0).ownBlock = some g → W1.heap.size ≤ g ∧ g < W2.heap.size from fun g e => ho0.lt g e)
  clear ho0
  clear HL0
  have hz_W2 : W1.heap.size ≤ W2.heap.size := b.size
  have H3 := Lib.hid (H1.out.trans (b.mono H1.out.size))
  have H4 := Lib.hid (show Blk W2 w.heap.size 53 cs_p0 from H2.out.below b H2.out.lt)
  clear b H1 H2
  go_wp2_with fail
  have HArg := Lib.hid (ty.more_passage (HA0.out.below H3.out) H3.out.size)
  refine (ty.to_passageS A0 n0 c0 t0 W2 hn0 HArg).mono ?_
  rintro e W3 ⟨rfl, ⟨cs_x0, hk, hf⟩, b⟩
  have HF_x0 := Lib.hid hf
  clear hf HArg
  have hz_W3 : W2.heap.size ≤ W3.heap.size := b.size
  have H5 := Lib.hid (row_below HO_w0.out b)
  clear HO_w0
  have H6 := Lib.hid (H3.out.trans (b.mono H3.out.size))
  clear b H3
  have H7 := Lib.hid hk
  clear hk
  have hlt_x0 := H7.out.lt
  go_wp2_with fail
  have HL0 := Lib.hid ((ty.FillPg.at_ HF_x0.out HA0.out.1 H7.out).more (by exact H7.out.lt))
  refine (fitting_impl _ n0 _ t0 x1 x2 _ (by omega) HL0).mono ?_
  rintro e W4 ⟨vg0, rfl, ho0, b⟩
  rw [HN0.out] at ho0
  obtain ⟨Ag0, cg0, rfl⟩ := ints.own_slice ho0
  have HO_g0 := Lib.hid (show W4.ownsRow W3.heap.size 3 1 (.slice Ag0 N0 cg0) N0 (ints.intsV (ftV x1 x2 t0)) from ho0)
  have HU_g0 := Lib.hid (show ∀ g, (Value.slice Ag0 N0 cg0).ownBlock = some g → W3.heap.size ≤ g ∧ g < W4.heap.size from fun g e => ho0.lt g e)
  clear ho0
  clear HL0
  have hz_W4 : W3.heap.size ≤ W4.heap.size := b.size
  have H8 := Lib.hid (row_below H5.out b)
  clear H5
  have H9 := Lib.hid (H6.out.trans (b.mono H6.out.size))
  have H10 := Lib.hid (show Blk W4 W2.heap.size 53 cs_x0 from H7.out.below b H7.out.lt)
  clear b H6 H7
  go_wp2_with fail
  refine (ints.eq_any Ag0 Aw0 N0 cg0 cw0 (ftV x1 x2 t0) _ hrl0 (Lib.hid (ints.IL.of_own HO_g0.out)) (Lib.hid (ints.IL.of_own H8.out))).mono ?_
  rintro e W5 ⟨rfl, m, hm⟩
  have b : Below W4.heap.size W4 W5 := by rw [hm]; exact ends.below_drewN (Below.refl _ _) m
  clear hm
  have hz_W5 : W4.heap.size ≤ W5.heap.size := b.size
  have H11 := Lib.hid (row_below H8.out b)
  clear H8
  have H12 := Lib.hid (row_below HO_g0.out b)
  clear HO_g0
  have H13 := Lib.hid (H9.out.trans (b.mono H9.out.size))
  have H14 := Lib.hid (show Blk W5 W2.heap.size 53 cs_x0 from H10.out.below b H10.out.lt)
  clear b H9 H10
  go_wp2_with fail
  have HArg := Lib.hid (ty.more_passage (HA0.out.below H13.out) H13.out.size)
  refine (ty.to_passageS A0 n0 c0 t0 W5 hn0 HArg).mono ?_
  rintro e W6 ⟨rfl, ⟨cs_z0, hk, hf⟩, b⟩
  have HF_z0 := Lib.hid hf
  clear hf HArg
  have hz_W6 : W5.heap.size ≤ W6.heap.size := b.size
  have H15 := Lib.hid (row_below H11.out b)
  clear H11
  have H16 := Lib.hid (row_below H12.out b)
  clear H12
  have H17 := Lib.hid (H13.out.trans (b.mono H13.out.size))
  have H18 := Lib.hid (show Blk W6 W2.heap.size 53 cs_x0 from H14.out.below b H14.out.lt)
  clear b H13 H14
  have H19 := Lib.hid hk
  clear hk
  have hlt_z0 := H19.out.lt
  go_wp2_with fail
  have HLx := Lib.hid ((ty.FillPg.at_ HF_x0.out HA0.out.1 H18.out).more (by exact H18.out.lt))
  have HLz := Lib.hid ((ty.FillPg.at_ HF_z0.out HA0.out.1 H19.out).more (by exact H19.out.lt))
  refine (ty.eq_passageS _ _ n0 _ _ t0 _ (by omega) HLx HLz).mono ?_
  rintro e W7 ⟨rfl, b⟩
  clear HLx HLz
  have hz_W7 : W6.heap.size ≤ W7.heap.size := b.size
  have H20 := Lib.hid (row_below H15.out b)
  clear H15
  have H21 := Lib.hid (row_below H16.out b)
  clear H16
  have H22 := Lib.hid (H17.out.trans (b.mono H17.out.size))
  have H23 := Lib.hid (show Blk W7 W2.heap.size 53 cs_x0 from H18.out.below b H18.out.lt)
  have H24 := Lib.hid (show Blk W7 W5.heap.size 53 cs_z0 from H19.out.below b H19.out.lt)
  clear b H17 H18 H19
  go_wp2_with fail
  have HRM := Lib.hid (base.row_blk (base := 0) H23.out (Nat.zero_le _) (by unfold maxLen; omega) HF_x0.out.1)
  refine (ty.mark_passageS 0 n0 _ _ (1) _ (by omega) (by omega) (by omega) HRM).mono ?_
  rintro e W8 ⟨rfl, -, hgr0⟩
  have hgr : W7.grownBy W8 (some W2.heap.size) := hgr0
  clear hgr0 HRM
  have hz_W8 : W7.heap.size ≤ W8.heap.size := hgr.size
  have H25 := Lib.hid (H22.out.grown hgr H22.out.size (fun g' e => by injection e with e; omega))
  have H26 := Lib.hid (H20.out.kept hgr (.inr (fun e => by have := HU_w0.out _ e; omega)))
  have H27 := Lib.hid (H21.out.kept hgr (.inr (fun e => by have := HU_g0.out _ e; omega)))
  clear hgr H22 H20 H21
  go_wp2_with fail
  refine (ints.eq_any Ag0 Aw0 N0 cg0 cw0 (ftV x1 x2 t0) _ hrl0 (Lib.hid (ints.IL.of_own H27.out)) (Lib.hid (ints.IL.of_own H26.out))).mono ?_
  rintro e W9 ⟨rfl, m, hm⟩
  have b : Below W8.heap.size W8 W9 := by rw [hm]; exact ends.below_drewN (Below.refl _ _) m
  clear hm
  have hz_W9 : W8.heap.size ≤ W9.heap.size := b.size
  have H28 := Lib.hid (row_below H26.out b)
  clear H26
  have H29 := Lib.hid (row_below H27.out b)
  clear H27
  have H30 := Lib.hid (H25.out.trans (b.mono H25.out.size))
  clear b H25
  go_wp2_with fail
  refine (ints.mark_any _ N0 _ (ftV x1 x2 t0) (1) _ hrl0 (by omega) (by omega) H29).mono ?_
  rintro e W10 ⟨rfl, ho, hgr⟩
  have HM0 := Lib.hid ho
  clear ho
  have hz_W10 : W9.heap.size ≤ W10.heap.size := hgr.size
  have H31 := Lib.hid (H30.out.grown hgr H30.out.size (fun g e => by have := (HU_g0.out g e).1; omega))
  have H32 := Lib.hid (H28.out.kept hgr (by
      cases q : (Value.slice Aw0 N0 cw0).ownBlock with
      | none => exact .inl rfl
      | some g => exact .inr (fun e => by have h1 := HU_w0.out g q; have h2 := HU_g0.out g e.symm; omega)))
  clear hgr H30 H28
  go_wp2_with fail
  refine (ints.held_any Ag0 N0 cg0 (1) _ hrl0 (by omega) (by omega) (Lib.hid (ints.IL.of_own HM0.out))).mono ?_
  rintro e w' ⟨rfl, rfl⟩
  go_wp2_with fail
  have HArg := Lib.hid (ty.more_passage (HA0.out.below H31.out) H31.out.size)
  refine (ty.to_passageS A0 n0 c0 t0 W10 hn0 HArg).mono ?_
  rintro e W11 ⟨rfl, ⟨cs_y0, hk, hf⟩, b⟩
  have HF_y0 := Lib.hid hf
  clear hf HArg
  have hz_W11 : W10.heap.size ≤ W11.heap.size := b.size
  have H33 := Lib.hid (row_below H32.out b)
  clear H32
  have H34 := Lib.hid (row_below HM0.out b)
  clear HM0
  have H35 := Lib.hid (H31.out.trans (b.mono H31.out.size))
  clear b H31
  have H36 := Lib.hid hk
  clear hk
  have hlt_y0 := H36.out.lt
  go_wp2_with fail
  have HL0 := Lib.hid ((ty.FillPg.at_ HF_y0.out HA0.out.1 H36.out).more (by exact H36.out.lt))
  refine (fitting_impl _ n0 _ t0 x1 x2 _ (by omega) HL0).mono ?_
  rintro e W12 ⟨vh0, rfl, ho0, b⟩
  rw [HN0.out] at ho0
  obtain ⟨Ah0, ch0, rfl⟩ := ints.own_slice ho0
  have HO_h0 := Lib.hid (show W12.ownsRow W11.heap.size 3 1 (.slice Ah0 N0 ch0) N0 (ints.intsV (ftV x1 x2 t0)) from ho0)
  have HU_h0 := Lib.hid (show ∀ g, (Value.slice Ah0 N0 ch0).ownBlock = some g → W11.heap.size ≤ g ∧ g < W12.heap.size from fun g e => ho0.lt g e)
  clear ho0
  clear HL0
  have hz_W12 : W11.heap.size ≤ W12.heap.size := b.size
  have H37 := Lib.hid (row_below H33.out b)
  clear H33
  have H38 := Lib.hid (row_below H34.out b)
  clear H34
  have H39 := Lib.hid (H35.out.trans (b.mono H35.out.size))
  have H40 := Lib.hid (show Blk W12 W10.heap.size 53 cs_y0 from H36.out.below b H36.out.lt)
  clear b H35 H36
  go_wp2_with fail
  refine (ints.eq_any Ah0 Aw0 N0 ch0 cw0 (ftV x1 x2 t0) _ hrl0 (Lib.hid (ints.IL.of_own HO_h0.out)) (Lib.hid (ints.IL.of_own H37.out))).mono ?_
  rintro e W13 ⟨rfl, m, hm⟩
  have b : Below W12.heap.size W12 W13 := by rw [hm]; exact ends.below_drewN (Below.refl _ _) m
  clear hm
  have hz_W13 : W12.heap.size ≤ W13.heap.size := b.size
  have H41 := Lib.hid (row_below H37.out b)
  clear H37
  have H42 := Lib.hid (row_below H38.out b)
  clear H38
  have H43 := Lib.hid (row_below HO_h0.out b)
  clear HO_h0
  have H44 := Lib.hid (H39.out.trans (b.mono H39.out.size))
  have H45 := Lib.hid (show Blk W13 W10.heap.size 53 cs_y0 from H40.out.below b H40.out.lt)
  clear b H39 H40
  go_wp2_with fail
  refine (ints.held_any Ag0 N0 cg0 (1) _ hrl0 (by omega) (by omega) (Lib.hid (ints.IL.of_own H42.out))).mono ?_
  rintro e w' ⟨rfl, rfl⟩
  go_wp2_with fail
  go_ret
  exact ⟨rfl, H44.out⟩

theorem laidOut : laidOutB Try.prog = true := by kernel_rfl
set_option maxRecDepth 100000 in
theorem lifted (os : Os) (started : os.Started) (H : Type) (enc : TypeId × Value → H) :
    ReturnsInHanded {} Try.checked os 7 .any (Rows.fnExactFittingStationsSpec.pre6 enc Try.prog Try.f7 Rows.fnExactFittingStationsRow.domain false) (Rows.fnExactFittingStationsSpec.post enc Try.prog Try.f7 false true false false) := by
  refine returnsInHanded_of_change (C := Try.checked) own started (by kernel_rfl) Try.func7
    (ChangeSpec.witness6 (enc := enc) (C := Try.checked) false ⟨#[], #[.slice none 0 0, .int .i64 0, .int .i64 0], []⟩ 8 (by kernel_rfl) (by kernel_rfl) (by kernel_rfl) (by kernel_rfl)) ?_
  intro W base args ds gs before hval0 hW hcnd _
  have hval : ∀ (j : Nat) t v, Try.f7.params[j]? = some t → args[j]? = some v → Value.okWide Try.prog W .any base t v := hval0
  have hW' := hW
  obtain ⟨p, q, hA0, hV, rfl, hfz, hnd⟩ := hW
  have hA : DataW.TrodAll enc Try.prog W 0 (fun _ => true) true Try.f7.params.toList args.toList ds p := hA0
  rw [Try.params7] at hA hval
  obtain ⟨v0, vs0, d0, ds0, p0, q0, hargs, rfl, rfl, h0, r0⟩ := trodAll_cons hA
  obtain ⟨v1, vs1, d1, ds1, p1, q1, rfl, rfl, rfl, h1, r1⟩ := trodAll_cons r0
  obtain ⟨v2, vs2, d2, ds2, p2, q2, rfl, rfl, rfl, h2, r2⟩ := trodAll_cons r1
  obtain ⟨rfl, rfl, rfl⟩ := trodAll_nil r2
  obtain rfl : args = #[v0, v1, v2] := by cases args; simp_all
  obtain ⟨rfl, rfl⟩ := trodVars_none hV
  have k0 := h0
  have lt0 : ∀ x ∈ p0, x.block < W.heap.size := by obtain ⟨m, hm⟩ := k0; exact DataW.trod_lt m _ _ _ hm
  obtain ⟨A0, n0, c0, t0, rfl, HA0, hm0⟩ := ty.open_passageS (hval 0 22 v0 rfl rfl) h0
  obtain ⟨x1, rfl, rfl, rfl, w1⟩ := open_int Try.underlying3 (hval 1 3 v1 rfl rfl) h1
  obtain ⟨x2, rfl, rfl, rfl, w2⟩ := open_int Try.underlying3 (hval 2 3 v2 rfl rfl) h2
  clear hA0 hval0
  refine (walk A0 n0 c0 t0 x1 x2 W hm0 (Lib.hid HA0)).mono fun e W' ⟨he, bel⟩ => ?_
  subst he
  exact ⟨_, rfl, _, _, _, [], _, [], hW', trodAll_mk1 (shut_bool Try.underlying4 _), (trodAll_cons_mk (Below.trod laidOut (by kernel_rfl) (of_decide_eq_true (by kernel_rfl)) k0 bel lt0) (trodAll_cons_mk (shut_int Try.underlying3 w1) (trodAll_cons_mk (shut_int Try.underlying3 w2) trodAll_mk0))), rfl, bel.frame _, fun h => by cases h⟩

theorem over : Rows.fnExactFittingStationsRow.holds Try.pinned (OpenSpec.ofChange Rows.fnExactFittingStationsSpec) :=
  OpenClaim.holds_of_wide 7 Try.f7 rfl rfl rfl rfl rfl rfl rfl ⟨rfl, rfl, rfl, rfl, rfl⟩ rfl rfl rfl rfl rfl (by kernel_rfl) Try.func7 (by kernel_rfl)
    (of_decide_eq_true (by kernel_rfl)) (by unfold Func.isWrapper; first | (rw [if_pos (by decide +kernel)]; kernel_rfl) | (rw [if_neg (by decide +kernel)]; exact ⟨rfl, rfl⟩))
    (fun os started H enc _ => lifted os started H enc)

theorem proved : Rows.FnExactFittingStationsSaid := over
#print axioms proved
end Go.Proofs.Ytnpghhpcloljeaa.fnExactFittingStations
