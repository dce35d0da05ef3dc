/-
  FnExactMissingSkills holds: at every argument MissingSkills answers as its model answers, and the arguments read behind the call as they read before it.
  Conditions: none of our own.
-/
import Derived.Test.YtidofckanadkpaaPiE
import Derived.Test.YtidofckanadkpaaEnd
import Derived.Test.YtidofckanadkpaaRows
import Derived.WalkKit
import Derived.ProofKit
import Derived.OpenShut
import Derived.Carry
namespace Go.Proofs.Ytidofckanadkpaa.fnExactMissingSkills
open Go.ChangeShapes Go.WideShapes Go.ChangeAt Go.RowKit
open Go.ChangeMaps (open_string shut_string)
open reads base ty pso
set_option linter.unusedVariables false
set_option linter.unusedSimpArgs false

theorem own : ownKnob Try.prog.godebug = none := by kernel_rfl
def LawPost (w : World) (e : Ending) (w' : World) : Prop := e = .returned (.bool true) ∧ Below w.heap.size w w'
theorem form (ts : List Ps) (xs : List Int) (q : Int) : ∃ (v0 : Int) (v1 : Bool), ansMs ts xs q = .tuple #[.int .i64 v0, .bool v1] := by
  unfold ansMs
  split
  · exact ⟨_, _, rfl⟩
  · exact ⟨_, _, rfl⟩
set_option maxHeartbeats 4000000 in
set_option maxRecDepth 100000 in
theorem walk (A0 : Option Addr) (n0 c0 : Nat) (t0 : List Ps) (A1 : Option Addr) (n1 c1 : Nat) (t1 : List Int) (x2 : Int) (w : World) (hm0 : n0 ≤ maxLen) (HA0 : Hid (ty.ArgPs w w.heap.size A0 n0 t0)) (hzp0 : Hid (∀ t ∈ t0, ty.ZPs t)) (hm1 : n1 ≤ maxLen) (HA1 : Hid (ty.ArgIn w w.heap.size A1 n1 t1)) : Calls Try.prog 13 #[.slice A0 n0 c0, .slice A1 n1 c1, .int .i64 x2] w (LawPost w) := by
  obtain ⟨v0, v1, hfm⟩ := form t0 t1 x2
  have HFm := Lib.hid hfm
  clear hfm
  by_cases big1 : 1048576 < n1
  · unfold maxLen at hm0 hm1
    have hb1 : decide ((1048576 : Int) < (n1 : Int)) = true := by simp; omega
    have hb1' : decide (1048576 < n1) = true := by simpa using big1
    go_enter Try.func13, Try.ntmps13
    go_wp2_with fail
    go_ret
    exact ⟨rfl, Below.refl _ _⟩
  have hb1 : decide ((1048576 : Int) < (n1 : Int)) = false := by simp; omega
  have hb1' : decide (1048576 < n1) = false := by simpa using big1
  have hn1 : n1 ≤ 1048576 := by omega
  clear big1
  unfold maxLen at hm0 hm1
  go_enter Try.func13, Try.ntmps13
  go_wp2_with fail
  have l0 : (0 : Int) ≤ 1048576 := by decide
  have HBr := Lib.hid (Below.refl w.heap.size w)
  have HArg := Lib.hid (ty.more_person (HA0.out.below HBr.out) HBr.out.size)
  refine (ty.sz_person A0 n0 c0 t0 (1048576) _ (by unfold maxLen; omega) (by omega) (by omega) HArg hzp0).mono ?_
  rintro e W1 ⟨z0, rfl, hz0, b⟩
  clear HArg
  have H1 := Lib.hid (HBr.out.trans (b.mono HBr.out.size))
  clear b HBr
  by_cases neg0 : z0 < 0
  · have hd : decide (z0 < 0) = true := by simpa using neg0
    go_wp2_with fail
    go_ret
    exact ⟨rfl, H1.out⟩
  obtain ⟨zl0, hnz0, hZ0⟩ := hz0 (by omega)
  have hn0 : n0 ≤ 1048576 := by omega
  have HZ0 := Lib.hid (show ∀ t ∈ t0, t.name.size ≤ 1048576 from fun t ht => by have := hZ0 t ht; omega)
  have zd0 : decide (z0 < 0) = false := by simp; omega
  clear hz0 hZ0
  go_wp2_with fail
  have HArg := Lib.hid (ty.more_person (HA0.out.below H1.out) H1.out.size)
  refine (ty.to_personS A0 n0 c0 t0 W1 hn0 HArg).mono ?_
  rintro e W2 ⟨rfl, ⟨cs_p0, hk, hf⟩, b⟩
  have HF_p0 := Lib.hid hf
  clear hf HArg
  have H2 := Lib.hid (H1.out.trans (b.mono H1.out.size))
  clear b H1
  have H3 := Lib.hid hk
  clear hk
  go_wp2_with fail
  have HArg := Lib.hid (ty.more_int (HA1.out.below H2.out) H2.out.size)
  refine (ty.to_intS A1 n1 c1 t1 W2 hn1 HArg).mono ?_
  rintro e W3 ⟨rfl, ⟨cs_p1, hk, hf⟩, b⟩
  have HF_p1 := Lib.hid hf
  clear hf HArg
  have H4 := Lib.hid (H2.out.trans (b.mono H2.out.size))
  have H5 := Lib.hid (show Blk W3 W1.heap.size 41 cs_p0 from H3.out.below b H3.out.lt)
  clear b H2 H3
  have H6 := Lib.hid hk
  clear hk
  go_wp2_with fail
  have HL0 := Lib.hid ((ty.FillPs.at_ HF_p0.out HA0.out.1 H5.out).more (by exact H5.out.lt))
  have HL1 := Lib.hid ((ty.FillIn.at_ HF_p1.out HA1.out.1 H6.out).more (by exact H6.out.lt))
  refine (pso.missing_model _ n0 _ t0 _ n1 _ t1 x2 _ (by omega) (by omega) HZ0 HL0 HL1).mono ?_
  rintro e W4 ⟨rfl, b⟩
  rw [HFm.out]
  have H7 := Lib.hid (H4.out.trans (b.mono H4.out.size))
  have H8 := Lib.hid (show Blk W4 W1.heap.size 41 cs_p0 from H5.out.below b H5.out.lt)
  have H9 := Lib.hid (show Blk W4 W2.heap.size 3 cs_p1 from H6.out.below b H6.out.lt)
  clear b H4 H5 H6
  clear HL0 HL1
  go_wp2_with fail
  have HArg := Lib.hid (ty.more_person (HA0.out.below H7.out) H7.out.size)
  refine (ty.to_personS A0 n0 c0 t0 W4 hn0 HArg).mono ?_
  rintro e W5 ⟨rfl, ⟨cs_x0, hk, hf⟩, b⟩
  have HF_x0 := Lib.hid hf
  clear hf HArg
  have H10 := Lib.hid (H7.out.trans (b.mono H7.out.size))
  clear b H7
  have H11 := Lib.hid hk
  clear hk
  go_wp2_with fail
  have HArg := Lib.hid (ty.more_int (HA1.out.below H10.out) H10.out.size)
  refine (ty.to_intS A1 n1 c1 t1 W5 hn1 HArg).mono ?_
  rintro e W6 ⟨rfl, ⟨cs_x1, hk, hf⟩, b⟩
  have HF_x1 := Lib.hid hf
  clear hf HArg
  have H12 := Lib.hid (H10.out.trans (b.mono H10.out.size))
  have H13 := Lib.hid (show Blk W6 W4.heap.size 41 cs_x0 from H11.out.below b H11.out.lt)
  clear b H10 H11
  have H14 := Lib.hid hk
  clear hk
  go_wp2_with fail
  have HL0 := Lib.hid ((ty.FillPs.at_ HF_x0.out HA0.out.1 H13.out).more (by exact H13.out.lt))
  have HL1 := Lib.hid ((ty.FillIn.at_ HF_x1.out HA1.out.1 H14.out).more (by exact H14.out.lt))
  refine (pi5.missing_is _ n0 _ t0 _ n1 _ t1 x2 _ _ (Lib.hid rfl) (by omega) (by omega) HZ0 HL0 HL1).mono ?_
  rintro e W7 ⟨rfl, b⟩
  rw [HFm.out]
  have H15 := Lib.hid (H12.out.trans (b.mono H12.out.size))
  have H16 := Lib.hid (show Blk W7 W4.heap.size 41 cs_x0 from H13.out.below b H13.out.lt)
  have H17 := Lib.hid (show Blk W7 W5.heap.size 3 cs_x1 from H14.out.below b H14.out.lt)
  clear b H12 H13 H14
  clear HL0 HL1
  go_wp2_with fail
  have HArg := Lib.hid (ty.more_person (HA0.out.below H15.out) H15.out.size)
  refine (ty.to_personS A0 n0 c0 t0 W7 hn0 HArg).mono ?_
  rintro e W8 ⟨rfl, ⟨cs_z0, hk, hf⟩, b⟩
  have HF_z0 := Lib.hid hf
  clear hf HArg
  have H18 := Lib.hid (H15.out.trans (b.mono H15.out.size))
  have H19 := Lib.hid (show Blk W8 W4.heap.size 41 cs_x0 from H16.out.below b H16.out.lt)
  have H20 := Lib.hid (show Blk W8 W5.heap.size 3 cs_x1 from H17.out.below b H17.out.lt)
  clear b H15 H16 H17
  have H21 := Lib.hid hk
  clear hk
  go_wp2_with fail
  have HLx := Lib.hid ((ty.FillPs.at_ HF_x0.out HA0.out.1 H19.out).more (by exact H19.out.lt))
  have HLz := Lib.hid ((ty.FillPs.at_ HF_z0.out HA0.out.1 H21.out).more (by exact H21.out.lt))
  refine (ty.eq_personS _ _ n0 _ _ t0 _ (by omega) HLx HLz).mono ?_
  rintro e W9 ⟨rfl, b⟩
  have H22 := Lib.hid (H18.out.trans (b.mono H18.out.size))
  have H23 := Lib.hid (show Blk W9 W4.heap.size 41 cs_x0 from H19.out.below b H19.out.lt)
  have H24 := Lib.hid (show Blk W9 W5.heap.size 3 cs_x1 from H20.out.below b H20.out.lt)
  have H25 := Lib.hid (show Blk W9 W7.heap.size 41 cs_z0 from H21.out.below b H21.out.lt)
  clear b H18 H19 H20 H21
  clear HLx HLz
  go_wp2_with fail
  have HArg := Lib.hid (ty.more_int (HA1.out.below H22.out) H22.out.size)
  refine (ty.to_intS A1 n1 c1 t1 W9 hn1 HArg).mono ?_
  rintro e W10 ⟨rfl, ⟨cs_z1, hk, hf⟩, b⟩
  have HF_z1 := Lib.hid hf
  clear hf HArg
  have H26 := Lib.hid (H22.out.trans (b.mono H22.out.size))
  have H27 := Lib.hid (show Blk W10 W4.heap.size 41 cs_x0 from H23.out.below b H23.out.lt)
  have H28 := Lib.hid (show Blk W10 W5.heap.size 3 cs_x1 from H24.out.below b H24.out.lt)
  have H29 := Lib.hid (show Blk W10 W7.heap.size 41 cs_z0 from H25.out.below b H25.out.lt)
  clear b H22 H23 H24 H25
  have H30 := Lib.hid hk
  clear hk
  go_wp2_with fail
  have HLx := Lib.hid ((ty.FillIn.at_ HF_x1.out HA1.out.1 H28.out).more (by exact H28.out.lt))
  have HLz := Lib.hid ((ty.FillIn.at_ HF_z1.out HA1.out.1 H30.out).more (by exact H30.out.lt))
  refine (ty.eq_intS _ _ n1 _ _ t1 _ (by omega) HLx HLz).mono ?_
  rintro e W11 ⟨rfl, b⟩
  have H31 := Lib.hid (H26.out.trans (b.mono H26.out.size))
  have H32 := Lib.hid (show Blk W11 W4.heap.size 41 cs_x0 from H27.out.below b H27.out.lt)
  have H33 := Lib.hid (show Blk W11 W5.heap.size 3 cs_x1 from H28.out.below b H28.out.lt)
  have H34 := Lib.hid (show Blk W11 W7.heap.size 41 cs_z0 from H29.out.below b H29.out.lt)
  have H35 := Lib.hid (show Blk W11 W9.heap.size 3 cs_z1 from H30.out.below b H30.out.lt)
  clear b H26 H27 H28 H29 H30
  clear HLx HLz
  go_wp2_with fail
  go_ret
  exact ⟨rfl, H31.out⟩

theorem laidOut : laidOutB Try.prog = true := by kernel_rfl
set_option maxRecDepth 100000 in
theorem lifted (os : Os) (started : os.Started) (H : Type) (enc : TypeId × Value → H) :
    ReturnsInHanded {} Try.checked os 13 .any (Rows.fnExactMissingSkillsSpec.pre6 enc Try.prog Try.f13 Rows.fnExactMissingSkillsRow.domain false) (Rows.fnExactMissingSkillsSpec.post enc Try.prog Try.f13 false true false false) := by
  refine returnsInHanded_of_change (C := Try.checked) own started (by kernel_rfl) Try.func13
    (ChangeSpec.witness6 (enc := enc) (C := Try.checked) false ⟨#[], #[.slice none 0 0, .slice none 0 0, .int .i64 0], []⟩ 8 (by kernel_rfl) (by kernel_rfl) (by kernel_rfl) (by kernel_rfl)) ?_
  intro W base args ds gs before hval0 hW hcnd _
  have hval : ∀ (j : Nat) t v, Try.f13.params[j]? = some t → args[j]? = some v → Value.okWide Try.prog W .any base t v := hval0
  have hW' := hW
  obtain ⟨p, q, hA0, hV, rfl, hfz, hnd⟩ := hW
  have hA : DataW.TrodAll enc Try.prog W 0 (fun _ => true) true Try.f13.params.toList args.toList ds p := hA0
  rw [Try.params13] at hA hval
  obtain ⟨v0, vs0, d0, ds0, p0, q0, hargs, rfl, rfl, h0, r0⟩ := trodAll_cons hA
  obtain ⟨v1, vs1, d1, ds1, p1, q1, rfl, rfl, rfl, h1, r1⟩ := trodAll_cons r0
  obtain ⟨v2, vs2, d2, ds2, p2, q2, rfl, rfl, rfl, h2, r2⟩ := trodAll_cons r1
  obtain ⟨rfl, rfl, rfl⟩ := trodAll_nil r2
  obtain rfl : args = #[v0, v1, v2] := by cases args; simp_all
  obtain ⟨rfl, rfl⟩ := trodVars_none hV
  have k0 := h0
  have lt0 : ∀ x ∈ p0, x.block < W.heap.size := by obtain ⟨m, hm⟩ := k0; exact DataW.trod_lt m _ _ _ hm
  obtain ⟨A0, n0, c0, t0, rfl, HA0, hm0, hzp0⟩ := ty.open_personS (hval 0 54 v0 rfl rfl) h0
  have k1 := h1
  have lt1 : ∀ x ∈ p1, x.block < W.heap.size := by obtain ⟨m, hm⟩ := k1; exact DataW.trod_lt m _ _ _ hm
  obtain ⟨A1, n1, c1, t1, rfl, HA1, hm1⟩ := ty.open_intS (hval 1 27 v1 rfl rfl) h1
  obtain ⟨x2, rfl, rfl, rfl, w2⟩ := open_int Try.underlying3 (hval 2 3 v2 rfl rfl) h2
  clear hA0 hval0
  refine (walk A0 n0 c0 t0 A1 n1 c1 t1 x2 W hm0 (Lib.hid HA0) (Lib.hid hzp0) hm1 (Lib.hid HA1)).mono fun e W' ⟨he, bel⟩ => ?_
  subst he
  exact ⟨_, rfl, _, _, _, [], _, [], hW', trodAll_mk1 (shut_bool Try.underlying4 _), (trodAll_cons_mk (Below.trod laidOut (by kernel_rfl) (of_decide_eq_true (by kernel_rfl)) k0 bel lt0) (trodAll_cons_mk (Below.trod laidOut (by kernel_rfl) (of_decide_eq_true (by kernel_rfl)) k1 bel lt1) (trodAll_cons_mk (shut_int Try.underlying3 w2) trodAll_mk0))), rfl, bel.frame _, fun h => by cases h⟩

theorem over : Rows.fnExactMissingSkillsRow.holds Try.pinned (OpenSpec.ofChange Rows.fnExactMissingSkillsSpec) :=
  OpenClaim.holds_of_wide 13 Try.f13 rfl rfl rfl rfl rfl rfl rfl ⟨rfl, rfl, rfl, rfl, rfl⟩ rfl rfl rfl rfl rfl (by kernel_rfl) Try.func13 (by kernel_rfl)
    (of_decide_eq_true (by kernel_rfl)) (by unfold Func.isWrapper; first | (rw [if_pos (by decide +kernel)]; kernel_rfl) | (rw [if_neg (by decide +kernel)]; exact ⟨rfl, rfl⟩))
    (fun os started H enc _ => lifted os started H enc)

theorem proved : Rows.FnExactMissingSkillsSaid := over
#print axioms proved
end Go.Proofs.Ytidofckanadkpaa.fnExactMissingSkills
