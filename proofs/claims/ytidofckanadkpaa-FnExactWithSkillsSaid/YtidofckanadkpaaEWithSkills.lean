/-
  FnExactWithSkills holds: at every argument WithSkills answers as its model answers, its answer owns its memory, and the arguments read behind the call as they read before it.
  Conditions: none of our own.
-/
import Derived.Test.YtidofckanadkpaaPiE
import Derived.Test.YtidofckanadkpaaTyPsM
import Derived.Test.YtidofckanadkpaaEnd
import Derived.Test.YtidofckanadkpaaRows
import Derived.WalkKit
import Derived.ProofKit
import Derived.OpenShut
import Derived.Carry
namespace Go.Proofs.Ytidofckanadkpaa.fnExactWithSkills
open Go.ChangeShapes Go.WideShapes Go.ChangeAt Go.RowKit
open Go.ChangeMaps (open_string shut_string)
open reads base ty rowi psp
set_option linter.unusedVariables false
set_option linter.unusedSimpArgs false

theorem own : ownKnob Try.prog.godebug = none := by kernel_rfl
def LawPost (w : World) (e : Ending) (w' : World) : Prop := e = .returned (.bool true) ∧ Below w.heap.size w w'
theorem row_below {w w' : World} {base size n : Nat} {e : TypeId} {v : Value} {xs : List Value} (h : w.ownsRow base e size v n xs) (hb : Below w.heap.size w w') : w'.ownsRow base e size v n xs := h.kept (row := none) ⟨hb.os, hb.tape, hb.output, hb.size, fun j hj _ => hb.block j hj⟩ (by cases v.ownBlock <;> simp)
set_option maxHeartbeats 8000000 in
set_option maxRecDepth 100000 in
theorem walk (A0 : Option Addr) (n0 c0 : Nat) (t0 : List Ps) (x1 : Int) (w : World) (hm0 : n0 ≤ maxLen) (HA0 : Hid (ty.ArgPs w w.heap.size A0 n0 t0)) (hzp0 : Hid (∀ t ∈ t0, ty.ZPs t)) : Calls Try.prog 8 #[.slice A0 n0 c0, .int .i64 x1] w (LawPost w) := by
  unfold maxLen at hm0
  go_enter Try.func8, Try.ntmps8
  go_wp2_with fail
  have l0 : (0 : Int) ≤ 1048576 := by decide
  have HBr := Lib.hid (Below.refl w.heap.size w)
  have HArg := Lib.hid (ty.more_person (HA0.out.below HBr.out) HBr.out.size)
  refine (ty.sz_person A0 n0 c0 t0 (1048576) _ (by unfold maxLen; omega) (by omega) (by omega) HArg hzp0).mono ?_
  rintro e W1 ⟨z0, rfl, hz0, b⟩
  clear HArg
  have H1 := Lib.hid (HBr.out.trans (b.mono HBr.out.size))
  clear b HBr
  by_cases neg0 : z0 < 0
  · have hd : decide (z0 < 0) = true := by simpa using neg0
    go_wp2_with fail
    go_ret
    exact ⟨rfl, H1.out⟩
  obtain ⟨zl0, hnz0, hZ0⟩ := hz0 (by omega)
  have hn0 : n0 ≤ 1048576 := by omega
  have HZ0 := Lib.hid (show ∀ t ∈ t0, t.name.size ≤ 1048576 from fun t ht => by have := hZ0 t ht; omega)
  have zd0 : decide (z0 < 0) = false := by simp; omega
  clear hz0 hZ0
  have hrl0 : (wsIds t0 x1).length ≤ 2000000 := by unfold wsIds; split; (have := wsN_len x1 t0 t0.length; have := HA0.out.1; omega); simp
  obtain ⟨N0, HN0⟩ : ∃ N, Hid ((wsIds t0 x1).length = N) := ⟨_, Lib.hid rfl⟩
  rw [HN0.out] at hrl0
  have hz0 : w.heap.size ≤ W1.heap.size := H1.out.size
  go_wp2_with fail
  have HArg := Lib.hid (ty.more_person (HA0.out.below H1.out) H1.out.size)
  refine (ty.to_personS A0 n0 c0 t0 W1 hn0 HArg).mono ?_
  rintro e W2 ⟨rfl, ⟨cs_p0, hk, hf⟩, b⟩
  have HF_p0 := Lib.hid hf
  clear hf HArg
  have hz_W2 : W1.heap.size ≤ W2.heap.size := b.size
  have H2 := Lib.hid (H1.out.trans (b.mono H1.out.size))
  clear b H1
  have H3 := Lib.hid hk
  clear hk
  have hlt_p0 := H3.out.lt
  go_wp2_with fail
  have HL0 := Lib.hid ((ty.FillPs.at_ HF_p0.out HA0.out.1 H3.out).more (by exact H3.out.lt))
  refine (psp.withSkills_model _ n0 _ t0 x1 _ (by omega) HZ0 HL0).mono ?_
  rintro e W3 ⟨vw0, rfl, ho0, b⟩
  rw [HN0.out] at ho0
  obtain ⟨Aw0, cw0, rfl⟩ := ints.own_slice ho0
  have HO_w0 := Lib.hid (show W3.ownsRow W2.heap.size 3 1 (.slice Aw0 N0 cw0) N0 (ints.intsV (wsIds t0 x1)) from ho0)
  have HU_w0 := Lib.hid (show ∀ g, (Value.slice Aw0 N0 cw0).ownBlock = some g → W2.heap.size ≤ g ∧ g < W3.heap.size from fun g e => ho0.lt g e)
  clear ho0
  clear HL0
  have hz_W3 : W2.heap.size ≤ W3.heap.size := b.size
  have H4 := Lib.hid (H2.out.trans (b.mono H2.out.size))
  have H5 := Lib.hid (show Blk W3 W1.heap.size 41 cs_p0 from H3.out.below b H3.out.lt)
  clear b H2 H3
  go_wp2_with fail
  have HArg := Lib.hid (ty.more_person (HA0.out.below H4.out) H4.out.size)
  refine (ty.to_personS A0 n0 c0 t0 W3 hn0 HArg).mono ?_
  rintro e W4 ⟨rfl, ⟨cs_x0, hk, hf⟩, b⟩
  have HF_x0 := Lib.hid hf
  clear hf HArg
  have hz_W4 : W3.heap.size ≤ W4.heap.size := b.size
  have H6 := Lib.hid (row_below HO_w0.out b)
  clear HO_w0
  have H7 := Lib.hid (H4.out.trans (b.mono H4.out.size))
  clear b H4
  have H8 := Lib.hid hk
  clear hk
  have hlt_x0 := H8.out.lt
  go_wp2_with fail
  have HL0 := Lib.hid ((ty.FillPs.at_ HF_x0.out HA0.out.1 H8.out).more (by exact H8.out.lt))
  refine (pi5.withSkills_is _ n0 _ t0 x1 _ _ _ (Lib.hid rfl) (Lib.hid rfl) (by omega) HZ0 HL0).mono ?_
  rintro e W5 ⟨vg0, rfl, ho0, b⟩
  rw [HN0.out] at ho0
  obtain ⟨Ag0, cg0, rfl⟩ := ints.own_slice ho0
  have HO_g0 := Lib.hid (show W5.ownsRow W4.heap.size 3 1 (.slice Ag0 N0 cg0) N0 (ints.intsV (wsIds t0 x1)) from ho0)
  have HU_g0 := Lib.hid (show ∀ g, (Value.slice Ag0 N0 cg0).ownBlock = some g → W4.heap.size ≤ g ∧ g < W5.heap.size from fun g e => ho0.lt g e)
  clear ho0
  clear HL0
  have hz_W5 : W4.heap.size ≤ W5.heap.size := b.size
  have H9 := Lib.hid (row_below H6.out b)
  clear H6
  have H10 := Lib.hid (H7.out.trans (b.mono H7.out.size))
  have H11 := Lib.hid (show Blk W5 W3.heap.size 41 cs_x0 from H8.out.below b H8.out.lt)
  clear b H7 H8
  go_wp2_with fail
  refine (ints.eq_any Ag0 Aw0 N0 cg0 cw0 (wsIds t0 x1) _ hrl0 (Lib.hid (ints.IL.of_own HO_g0.out)) (Lib.hid (ints.IL.of_own H9.out))).mono ?_
  rintro e W6 ⟨rfl, m, hm⟩
  have b : Below W5.heap.size W5 W6 := by rw [hm]; exact ends.below_drewN (Below.refl _ _) m
  clear hm
  have hz_W6 : W5.heap.size ≤ W6.heap.size := b.size
  have H12 := Lib.hid (row_below H9.out b)
  clear H9
  have H13 := Lib.hid (row_below HO_g0.out b)
  clear HO_g0
  have H14 := Lib.hid (H10.out.trans (b.mono H10.out.size))
  have H15 := Lib.hid (show Blk W6 W3.heap.size 41 cs_x0 from H11.out.below b H11.out.lt)
  clear b H10 H11
  go_wp2_with fail
  have HArg := Lib.hid (ty.more_person (HA0.out.below H14.out) H14.out.size)
  refine (ty.to_personS A0 n0 c0 t0 W6 hn0 HArg).mono ?_
  rintro e W7 ⟨rfl, ⟨cs_z0, hk, hf⟩, b⟩
  have HF_z0 := Lib.hid hf
  clear hf HArg
  have hz_W7 : W6.heap.size ≤ W7.heap.size := b.size
  have H16 := Lib.hid (row_below H12.out b)
  clear H12
  have H17 := Lib.hid (row_below H13.out b)
  clear H13
  have H18 := Lib.hid (H14.out.trans (b.mono H14.out.size))
  have H19 := Lib.hid (show Blk W7 W3.heap.size 41 cs_x0 from H15.out.below b H15.out.lt)
  clear b H14 H15
  have H20 := Lib.hid hk
  clear hk
  have hlt_z0 := H20.out.lt
  go_wp2_with fail
  have HLx := Lib.hid ((ty.FillPs.at_ HF_x0.out HA0.out.1 H19.out).more (by exact H19.out.lt))
  have HLz := Lib.hid ((ty.FillPs.at_ HF_z0.out HA0.out.1 H20.out).more (by exact H20.out.lt))
  refine (ty.eq_personS _ _ n0 _ _ t0 _ (by omega) HLx HLz).mono ?_
  rintro e W8 ⟨rfl, b⟩
  clear HLx HLz
  have hz_W8 : W7.heap.size ≤ W8.heap.size := b.size
  have H21 := Lib.hid (row_below H16.out b)
  clear H16
  have H22 := Lib.hid (row_below H17.out b)
  clear H17
  have H23 := Lib.hid (H18.out.trans (b.mono H18.out.size))
  have H24 := Lib.hid (show Blk W8 W3.heap.size 41 cs_x0 from H19.out.below b H19.out.lt)
  have H25 := Lib.hid (show Blk W8 W6.heap.size 41 cs_z0 from H20.out.below b H20.out.lt)
  clear b H18 H19 H20
  go_wp2_with fail
  have HRM := Lib.hid (base.row_blk (base := 0) H24.out (Nat.zero_le _) (by unfold maxLen; omega) HF_x0.out.1)
  refine (ty.mark_personS 0 n0 _ _ (1) _ (by omega) (by omega) (by omega) HRM).mono ?_
  rintro e W9 ⟨rfl, -, hgr0⟩
  have hgr : W8.grownBy W9 (some W3.heap.size) := hgr0
  clear hgr0 HRM
  have hz_W9 : W8.heap.size ≤ W9.heap.size := hgr.size
  have H26 := Lib.hid (H23.out.grown hgr H23.out.size (fun g' e => by injection e with e; omega))
  have H27 := Lib.hid (H21.out.kept hgr (.inr (fun e => by have := HU_w0.out _ e; omega)))
  have H28 := Lib.hid (H22.out.kept hgr (.inr (fun e => by have := HU_g0.out _ e; omega)))
  clear hgr H23 H21 H22
  go_wp2_with fail
  refine (ints.eq_any Ag0 Aw0 N0 cg0 cw0 (wsIds t0 x1) _ hrl0 (Lib.hid (ints.IL.of_own H28.out)) (Lib.hid (ints.IL.of_own H27.out))).mono ?_
  rintro e W10 ⟨rfl, m, hm⟩
  have b : Below W9.heap.size W9 W10 := by rw [hm]; exact ends.below_drewN (Below.refl _ _) m
  clear hm
  have hz_W10 : W9.heap.size ≤ W10.heap.size := b.size
  have H29 := Lib.hid (row_below H27.out b)
  clear H27
  have H30 := Lib.hid (row_below H28.out b)
  clear H28
  have H31 := Lib.hid (H26.out.trans (b.mono H26.out.size))
  clear b H26
  go_wp2_with fail
  refine (ints.mark_any _ N0 _ (wsIds t0 x1) (1) _ hrl0 (by omega) (by omega) H30).mono ?_
  rintro e W11 ⟨rfl, ho, hgr⟩
  have HM0 := Lib.hid ho
  clear ho
  have hz_W11 : W10.heap.size ≤ W11.heap.size := hgr.size
  have H32 := Lib.hid (H31.out.grown hgr H31.out.size (fun g e => by have := (HU_g0.out g e).1; omega))
  have H33 := Lib.hid (H29.out.kept hgr (by
      cases q : (Value.slice Aw0 N0 cw0).ownBlock with
      | none => exact .inl rfl
      | some g => exact .inr (fun e => by have h1 := HU_w0.out g q; have h2 := HU_g0.out g e.symm; omega)))
  clear hgr H31 H29
  go_wp2_with fail
  refine (ints.held_any Ag0 N0 cg0 (1) _ hrl0 (by omega) (by omega) (Lib.hid (ints.IL.of_own HM0.out))).mono ?_
  rintro e w' ⟨rfl, rfl⟩
  go_wp2_with fail
  have HArg := Lib.hid (ty.more_person (HA0.out.below H32.out) H32.out.size)
  refine (ty.to_personS A0 n0 c0 t0 W11 hn0 HArg).mono ?_
  rintro e W12 ⟨rfl, ⟨cs_y0, hk, hf⟩, b⟩
  have HF_y0 := Lib.hid hf
  clear hf HArg
  have hz_W12 : W11.heap.size ≤ W12.heap.size := b.size
  have H34 := Lib.hid (row_below H33.out b)
  clear H33
  have H35 := Lib.hid (row_below HM0.out b)
  clear HM0
  have H36 := Lib.hid (H32.out.trans (b.mono H32.out.size))
  clear b H32
  have H37 := Lib.hid hk
  clear hk
  have hlt_y0 := H37.out.lt
  go_wp2_with fail
  have HL0 := Lib.hid ((ty.FillPs.at_ HF_y0.out HA0.out.1 H37.out).more (by exact H37.out.lt))
  refine (pi5.withSkills_is _ n0 _ t0 x1 _ _ _ (Lib.hid rfl) (Lib.hid rfl) (by omega) HZ0 HL0).mono ?_
  rintro e W13 ⟨vh0, rfl, ho0, b⟩
  rw [HN0.out] at ho0
  obtain ⟨Ah0, ch0, rfl⟩ := ints.own_slice ho0
  have HO_h0 := Lib.hid (show W13.ownsRow W12.heap.size 3 1 (.slice Ah0 N0 ch0) N0 (ints.intsV (wsIds t0 x1)) from ho0)
  have HU_h0 := Lib.hid (show ∀ g, (Value.slice Ah0 N0 ch0).ownBlock = some g → W12.heap.size ≤ g ∧ g < W13.heap.size from fun g e => ho0.lt g e)
  clear ho0
  clear HL0
  have hz_W13 : W12.heap.size ≤ W13.heap.size := b.size
  have H38 := Lib.hid (row_below H34.out b)
  clear H34
  have H39 := Lib.hid (row_below H35.out b)
  clear H35
  have H40 := Lib.hid (H36.out.trans (b.mono H36.out.size))
  have H41 := Lib.hid (show Blk W13 W11.heap.size 41 cs_y0 from H37.out.below b H37.out.lt)
  clear b H36 H37
  go_wp2_with fail
  refine (ints.eq_any Ah0 Aw0 N0 ch0 cw0 (wsIds t0 x1) _ hrl0 (Lib.hid (ints.IL.of_own HO_h0.out)) (Lib.hid (ints.IL.of_own H38.out))).mono ?_
  rintro e W14 ⟨rfl, m, hm⟩
  have b : Below W13.heap.size W13 W14 := by rw [hm]; exact ends.below_drewN (Below.refl _ _) m
  clear hm
  have hz_W14 : W13.heap.size ≤ W14.heap.size := b.size
  have H42 := Lib.hid (row_below H38.out b)
  clear H38
  have H43 := Lib.hid (row_below H39.out b)
  clear H39
  have H44 := Lib.hid (row_below HO_h0.out b)
  clear HO_h0
  have H45 := Lib.hid (H40.out.trans (b.mono H40.out.size))
  have H46 := Lib.hid (show Blk W14 W11.heap.size 41 cs_y0 from H41.out.below b H41.out.lt)
  clear b H40 H41
  go_wp2_with fail
  refine (ints.held_any Ag0 N0 cg0 (1) _ hrl0 (by omega) (by omega) (Lib.hid (ints.IL.of_own H43.out))).mono ?_
  rintro e w' ⟨rfl, rfl⟩
  go_wp2_with fail
  go_ret
  exact ⟨rfl, H45.out⟩

theorem laidOut : laidOutB Try.prog = true := by kernel_rfl
set_option maxRecDepth 100000 in
theorem lifted (os : Os) (started : os.Started) (H : Type) (enc : TypeId × Value → H) :
    ReturnsInHanded {} Try.checked os 8 .any (Rows.fnExactWithSkillsSpec.pre6 enc Try.prog Try.f8 Rows.fnExactWithSkillsRow.domain false) (Rows.fnExactWithSkillsSpec.post enc Try.prog Try.f8 false true false false) := by
  refine returnsInHanded_of_change (C := Try.checked) own started (by kernel_rfl) Try.func8
    (ChangeSpec.witness6 (enc := enc) (C := Try.checked) false ⟨#[], #[.slice none 0 0, .int .i64 0], []⟩ 8 (by kernel_rfl) (by kernel_rfl) (by kernel_rfl) (by kernel_rfl)) ?_
  intro W base args ds gs before hval0 hW hcnd _
  have hval : ∀ (j : Nat) t v, Try.f8.params[j]? = some t → args[j]? = some v → Value.okWide Try.prog W .any base t v := hval0
  have hW' := hW
  obtain ⟨p, q, hA0, hV, rfl, hfz, hnd⟩ := hW
  have hA : DataW.TrodAll enc Try.prog W 0 (fun _ => true) true Try.f8.params.toList args.toList ds p := hA0
  rw [Try.params8] at hA hval
  obtain ⟨v0, vs0, d0, ds0, p0, q0, hargs, rfl, rfl, h0, r0⟩ := trodAll_cons hA
  obtain ⟨v1, vs1, d1, ds1, p1, q1, rfl, rfl, rfl, h1, r1⟩ := trodAll_cons r0
  obtain ⟨rfl, rfl, rfl⟩ := trodAll_nil r1
  obtain rfl : args = #[v0, v1] := by cases args; simp_all
  obtain ⟨rfl, rfl⟩ := trodVars_none hV
  have k0 := h0
  have lt0 : ∀ x ∈ p0, x.block < W.heap.size := by obtain ⟨m, hm⟩ := k0; exact DataW.trod_lt m _ _ _ hm
  obtain ⟨A0, n0, c0, t0, rfl, HA0, hm0, hzp0⟩ := ty.open_personS (hval 0 54 v0 rfl rfl) h0
  obtain ⟨x1, rfl, rfl, rfl, w1⟩ := open_int Try.underlying3 (hval 1 3 v1 rfl rfl) h1
  clear hA0 hval0
  refine (walk A0 n0 c0 t0 x1 W hm0 (Lib.hid HA0) (Lib.hid hzp0)).mono fun e W' ⟨he, bel⟩ => ?_
  subst he
  exact ⟨_, rfl, _, _, _, [], _, [], hW', trodAll_mk1 (shut_bool Try.underlying4 _), (trodAll_cons_mk (Below.trod laidOut (by kernel_rfl) (of_decide_eq_true (by kernel_rfl)) k0 bel lt0) (trodAll_cons_mk (shut_int Try.underlying3 w1) trodAll_mk0)), rfl, bel.frame _, fun h => by cases h⟩

theorem over : Rows.fnExactWithSkillsRow.holds Try.pinned (OpenSpec.ofChange Rows.fnExactWithSkillsSpec) :=
  OpenClaim.holds_of_wide 8 Try.f8 rfl rfl rfl rfl rfl rfl rfl ⟨rfl, rfl, rfl, rfl, rfl⟩ rfl rfl rfl rfl rfl (by kernel_rfl) Try.func8 (by kernel_rfl)
    (of_decide_eq_true (by kernel_rfl)) (by unfold Func.isWrapper; first | (rw [if_pos (by decide +kernel)]; kernel_rfl) | (rw [if_neg (by decide +kernel)]; exact ⟨rfl, rfl⟩))
    (fun os started H enc _ => lifted os started H enc)

theorem proved : Rows.FnExactWithSkillsSaid := over
#print axioms proved
end Go.Proofs.Ytidofckanadkpaa.fnExactWithSkills
