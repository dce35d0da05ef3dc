/-
  FnExactVolumeOf holds: at every argument VolumeOf answers as its model answers, and the arguments read behind the call as they read before it.
  Conditions: none of our own.
-/
import Derived.Test.YtnpghhpcloljeaaPwC
import Derived.Test.YtnpghhpcloljeaaPwJ
import Derived.Test.YtnpghhpcloljeaaEnd
import Derived.Test.YtnpghhpcloljeaaRows
import Derived.WalkKit
import Derived.ProofKit
import Derived.OpenShut
import Derived.Carry
namespace Go.Proofs.Ytnpghhpcloljeaa.fnExactVolumeOf
open Go.ChangeShapes Go.WideShapes Go.ChangeAt Go.RowKit
open Go.ChangeMaps (open_string shut_string)
open reads base ty lg pw
set_option linter.unusedVariables false
set_option linter.unusedSimpArgs false

theorem own : ownKnob Try.prog.godebug = none := by kernel_rfl
def LawPost (w : World) (e : Ending) (w' : World) : Prop := e = .returned (.bool true) ∧ Below w.heap.size w w'
theorem form (c : List Pg) (d : List Lg) : ∃ (v0 : Int) (v1 : Int) (ok : Bool), ansVo c d = .tuple #[.int .i64 v0, .int .i64 v1, .bool ok] := by unfold ansVo; split <;> exact ⟨_, _, _, rfl⟩
set_option maxHeartbeats 4000000 in
set_option maxRecDepth 100000 in
theorem walk (A0 : Option Addr) (n0 c0 : Nat) (t0 : List Pg) (A1 : Option Addr) (n1 c1 : Nat) (t1 : List Lg) (w : World) (hm0 : n0 ≤ maxLen) (HA0 : Hid (ty.ArgPg w w.heap.size A0 n0 t0)) (hm1 : n1 ≤ maxLen) (HA1 : Hid (ty.ArgLg w w.heap.size A1 n1 t1)) : Calls Try.prog 5 #[.slice A0 n0 c0, .slice A1 n1 c1] w (LawPost w) := by
  obtain ⟨v0, v1, v2, hfm⟩ := form t0 t1
  have HFm := Lib.hid hfm
  clear hfm
  by_cases big0 : 1048576 < n0
  · unfold maxLen at hm0 hm1
    go_enter Try.func5, Try.ntmps5
    go_wp2_with fail
    refine (ty.sz_passage A0 n0 c0 (1048576) _ (by unfold maxLen; omega) (by omega) (by omega)).mono ?_
    rintro e w' ⟨rfl, rfl⟩
    rw [if_pos (by omega)]
    go_wp2_with fail
    go_ret
    exact ⟨rfl, Below.refl _ _⟩
  by_cases big1 : 1048576 - (n0 : Int) < n1
  · unfold maxLen at hm0 hm1
    go_enter Try.func5, Try.ntmps5
    go_wp2_with fail
    refine (ty.sz_passage A0 n0 c0 (1048576) _ (by unfold maxLen; omega) (by omega) (by omega)).mono ?_
    rintro e w' ⟨rfl, rfl⟩
    rw [if_neg (by omega)]
    go_wp2_with fail
    refine (ty.sz_leg A1 n1 c1 (1048576 - (n0 : Int)) _ (by unfold maxLen; omega) (by omega) (by omega)).mono ?_
    rintro e w' ⟨rfl, rfl⟩
    rw [if_pos (by omega)]
    go_wp2_with fail
    go_ret
    exact ⟨rfl, Below.refl _ _⟩
  unfold maxLen at hm0 hm1
  have hn0 : n0 ≤ 1048576 := by omega
  have hn1 : n1 ≤ 1048576 := by omega
  go_enter Try.func5, Try.ntmps5
  go_wp2_with fail
  refine (ty.sz_passage A0 n0 c0 (1048576) _ (by unfold maxLen; omega) (by omega) (by omega)).mono ?_
  rintro e w' ⟨rfl, rfl⟩
  rw [if_neg (by omega)]
  go_wp2_with fail
  refine (ty.sz_leg A1 n1 c1 (1048576 - (n0 : Int)) _ (by unfold maxLen; omega) (by omega) (by omega)).mono ?_
  rintro e w' ⟨rfl, rfl⟩
  rw [if_neg (by omega)]
  have hleft : ¬ (1048576 - (n0 : Int) - (n1 : Int)) < 0 := by omega
  clear big0 big1
  go_wp2_with fail
  have HBr := Lib.hid (Below.refl w.heap.size w)
  have HArg := Lib.hid (ty.more_passage (HA0.out.below HBr.out) HBr.out.size)
  refine (ty.to_passageS A0 n0 c0 t0 w hn0 HArg).mono ?_
  rintro e W1 ⟨rfl, ⟨cs_p0, hk, hf⟩, b⟩
  have HF_p0 := Lib.hid hf
  clear hf HArg
  have H1 := Lib.hid (HBr.out.trans (b.mono HBr.out.size))
  clear b HBr
  have H2 := Lib.hid hk
  clear hk
  go_wp2_with fail
  have HArg := Lib.hid (ty.more_leg (HA1.out.below H1.out) H1.out.size)
  refine (ty.to_legS A1 n1 c1 t1 W1 hn1 HArg).mono ?_
  rintro e W2 ⟨rfl, ⟨cs_p1, hk, hf⟩, b⟩
  have HF_p1 := Lib.hid hf
  clear hf HArg
  have H3 := Lib.hid (H1.out.trans (b.mono H1.out.size))
  have H4 := Lib.hid (show Blk W2 w.heap.size 53 cs_p0 from H2.out.below b H2.out.lt)
  clear b H1 H2
  have H5 := Lib.hid hk
  clear hk
  go_wp2_with fail
  have HL0 := Lib.hid ((ty.FillPg.at_ HF_p0.out HA0.out.1 H4.out).more (by exact H4.out.lt))
  have HL1 := Lib.hid ((ty.FillLg.at_ HF_p1.out HA1.out.1 H5.out).more (by exact H5.out.lt))
  refine (volumeOf_model _ n0 _ t0 _ n1 _ t1 _ (by omega) HL0 (by omega) HL1).mono ?_
  rintro e W3 ⟨rfl, b⟩
  rw [HFm.out]
  have H6 := Lib.hid (H3.out.trans (b.mono H3.out.size))
  have H7 := Lib.hid (show Blk W3 w.heap.size 53 cs_p0 from H4.out.below b H4.out.lt)
  have H8 := Lib.hid (show Blk W3 W1.heap.size 74 cs_p1 from H5.out.below b H5.out.lt)
  clear b H3 H4 H5
  clear HL0 HL1
  go_wp2_with fail
  have HArg := Lib.hid (ty.more_passage (HA0.out.below H6.out) H6.out.size)
  refine (ty.to_passageS A0 n0 c0 t0 W3 hn0 HArg).mono ?_
  rintro e W4 ⟨rfl, ⟨cs_x0, hk, hf⟩, b⟩
  have HF_x0 := Lib.hid hf
  clear hf HArg
  have H9 := Lib.hid (H6.out.trans (b.mono H6.out.size))
  clear b H6
  have H10 := Lib.hid hk
  clear hk
  go_wp2_with fail
  have HArg := Lib.hid (ty.more_leg (HA1.out.below H9.out) H9.out.size)
  refine (ty.to_legS A1 n1 c1 t1 W4 hn1 HArg).mono ?_
  rintro e W5 ⟨rfl, ⟨cs_x1, hk, hf⟩, b⟩
  have HF_x1 := Lib.hid hf
  clear hf HArg
  have H11 := Lib.hid (H9.out.trans (b.mono H9.out.size))
  have H12 := Lib.hid (show Blk W5 W3.heap.size 53 cs_x0 from H10.out.below b H10.out.lt)
  clear b H9 H10
  have H13 := Lib.hid hk
  clear hk
  go_wp2_with fail
  have HL0 := Lib.hid ((ty.FillPg.at_ HF_x0.out HA0.out.1 H12.out).more (by exact H12.out.lt))
  have HL1 := Lib.hid ((ty.FillLg.at_ HF_x1.out HA1.out.1 H13.out).more (by exact H13.out.lt))
  refine (volumeOf_impl _ n0 _ t0 _ n1 _ t1 _ (by omega) HL0 (by omega) (Lib.hid (lgw.LgO.whole HL1.out))).mono ?_
  rintro e W6 ⟨rfl, b⟩
  rw [HFm.out]
  have H14 := Lib.hid (H11.out.trans (b.mono H11.out.size))
  have H15 := Lib.hid (show Blk W6 W3.heap.size 53 cs_x0 from H12.out.below b H12.out.lt)
  have H16 := Lib.hid (show Blk W6 W4.heap.size 74 cs_x1 from H13.out.below b H13.out.lt)
  clear b H11 H12 H13
  clear HL0 HL1
  go_wp2_with fail
  have HArg := Lib.hid (ty.more_passage (HA0.out.below H14.out) H14.out.size)
  refine (ty.to_passageS A0 n0 c0 t0 W6 hn0 HArg).mono ?_
  rintro e W7 ⟨rfl, ⟨cs_z0, hk, hf⟩, b⟩
  have HF_z0 := Lib.hid hf
  clear hf HArg
  have H17 := Lib.hid (H14.out.trans (b.mono H14.out.size))
  have H18 := Lib.hid (show Blk W7 W3.heap.size 53 cs_x0 from H15.out.below b H15.out.lt)
  have H19 := Lib.hid (show Blk W7 W4.heap.size 74 cs_x1 from H16.out.below b H16.out.lt)
  clear b H14 H15 H16
  have H20 := Lib.hid hk
  clear hk
  go_wp2_with fail
  have HLx := Lib.hid ((ty.FillPg.at_ HF_x0.out HA0.out.1 H18.out).more (by exact H18.out.lt))
  have HLz := Lib.hid ((ty.FillPg.at_ HF_z0.out HA0.out.1 H20.out).more (by exact H20.out.lt))
  refine (ty.eq_passageS _ _ n0 _ _ t0 _ (by omega) HLx HLz).mono ?_
  rintro e W8 ⟨rfl, b⟩
  have H21 := Lib.hid (H17.out.trans (b.mono H17.out.size))
  have H22 := Lib.hid (show Blk W8 W3.heap.size 53 cs_x0 from H18.out.below b H18.out.lt)
  have H23 := Lib.hid (show Blk W8 W4.heap.size 74 cs_x1 from H19.out.below b H19.out.lt)
  have H24 := Lib.hid (show Blk W8 W6.heap.size 53 cs_z0 from H20.out.below b H20.out.lt)
  clear b H17 H18 H19 H20
  clear HLx HLz
  go_wp2_with fail
  have HArg := Lib.hid (ty.more_leg (HA1.out.below H21.out) H21.out.size)
  refine (ty.to_legS A1 n1 c1 t1 W8 hn1 HArg).mono ?_
  rintro e W9 ⟨rfl, ⟨cs_z1, hk, hf⟩, b⟩
  have HF_z1 := Lib.hid hf
  clear hf HArg
  have H25 := Lib.hid (H21.out.trans (b.mono H21.out.size))
  have H26 := Lib.hid (show Blk W9 W3.heap.size 53 cs_x0 from H22.out.below b H22.out.lt)
  have H27 := Lib.hid (show Blk W9 W4.heap.size 74 cs_x1 from H23.out.below b H23.out.lt)
  have H28 := Lib.hid (show Blk W9 W6.heap.size 53 cs_z0 from H24.out.below b H24.out.lt)
  clear b H21 H22 H23 H24
  have H29 := Lib.hid hk
  clear hk
  go_wp2_with fail
  have HLx := Lib.hid ((ty.FillLg.at_ HF_x1.out HA1.out.1 H27.out).more (by exact H27.out.lt))
  have HLz := Lib.hid ((ty.FillLg.at_ HF_z1.out HA1.out.1 H29.out).more (by exact H29.out.lt))
  refine (ty.eq_legS _ _ n1 _ _ t1 _ (by omega) HLx HLz).mono ?_
  rintro e W10 ⟨rfl, b⟩
  have H30 := Lib.hid (H25.out.trans (b.mono H25.out.size))
  have H31 := Lib.hid (show Blk W10 W3.heap.size 53 cs_x0 from H26.out.below b H26.out.lt)
  have H32 := Lib.hid (show Blk W10 W4.heap.size 74 cs_x1 from H27.out.below b H27.out.lt)
  have H33 := Lib.hid (show Blk W10 W6.heap.size 53 cs_z0 from H28.out.below b H28.out.lt)
  have H34 := Lib.hid (show Blk W10 W8.heap.size 74 cs_z1 from H29.out.below b H29.out.lt)
  clear b H25 H26 H27 H28 H29
  clear HLx HLz
  go_wp2_with fail
  go_ret
  exact ⟨rfl, H30.out⟩

theorem laidOut : laidOutB Try.prog = true := by kernel_rfl
set_option maxRecDepth 100000 in
theorem lifted (os : Os) (started : os.Started) (H : Type) (enc : TypeId × Value → H) :
    ReturnsInHanded {} Try.checked os 5 .any (Rows.fnExactVolumeOfSpec.pre6 enc Try.prog Try.f5 Rows.fnExactVolumeOfRow.domain false) (Rows.fnExactVolumeOfSpec.post enc Try.prog Try.f5 false true false false) := by
  refine returnsInHanded_of_change (C := Try.checked) own started (by kernel_rfl) Try.func5
    (ChangeSpec.witness6 (enc := enc) (C := Try.checked) false ⟨#[], #[.slice none 0 0, .slice none 0 0], []⟩ 8 (by kernel_rfl) (by kernel_rfl) (by kernel_rfl) (by kernel_rfl)) ?_
  intro W base args ds gs before hval0 hW hcnd _
  have hval : ∀ (j : Nat) t v, Try.f5.params[j]? = some t → args[j]? = some v → Value.okWide Try.prog W .any base t v := hval0
  have hW' := hW
  obtain ⟨p, q, hA0, hV, rfl, hfz, hnd⟩ := hW
  have hA : DataW.TrodAll enc Try.prog W 0 (fun _ => true) true Try.f5.params.toList args.toList ds p := hA0
  rw [Try.params5] at hA hval
  obtain ⟨v0, vs0, d0, ds0, p0, q0, hargs, rfl, rfl, h0, r0⟩ := trodAll_cons hA
  obtain ⟨v1, vs1, d1, ds1, p1, q1, rfl, rfl, rfl, h1, r1⟩ := trodAll_cons r0
  obtain ⟨rfl, rfl, rfl⟩ := trodAll_nil r1
  obtain rfl : args = #[v0, v1] := by cases args; simp_all
  obtain ⟨rfl, rfl⟩ := trodVars_none hV
  have k0 := h0
  have lt0 : ∀ x ∈ p0, x.block < W.heap.size := by obtain ⟨m, hm⟩ := k0; exact DataW.trod_lt m _ _ _ hm
  obtain ⟨A0, n0, c0, t0, rfl, HA0, hm0⟩ := ty.open_passageS (hval 0 22 v0 rfl rfl) h0
  have k1 := h1
  have lt1 : ∀ x ∈ p1, x.block < W.heap.size := by obtain ⟨m, hm⟩ := k1; exact DataW.trod_lt m _ _ _ hm
  obtain ⟨A1, n1, c1, t1, rfl, HA1, hm1⟩ := ty.open_legS (hval 1 32 v1 rfl rfl) h1
  clear hA0 hval0
  refine (walk A0 n0 c0 t0 A1 n1 c1 t1 W hm0 (Lib.hid HA0) hm1 (Lib.hid HA1)).mono fun e W' ⟨he, bel⟩ => ?_
  subst he
  exact ⟨_, rfl, _, _, _, [], _, [], hW', trodAll_mk1 (shut_bool Try.underlying4 _), (trodAll_cons_mk (Below.trod laidOut (by kernel_rfl) (of_decide_eq_true (by kernel_rfl)) k0 bel lt0) (trodAll_cons_mk (Below.trod laidOut (by kernel_rfl) (of_decide_eq_true (by kernel_rfl)) k1 bel lt1) trodAll_mk0)), rfl, bel.frame _, fun h => by cases h⟩

theorem over : Rows.fnExactVolumeOfRow.holds Try.pinned (OpenSpec.ofChange Rows.fnExactVolumeOfSpec) :=
  OpenClaim.holds_of_wide 5 Try.f5 rfl rfl rfl rfl rfl rfl rfl ⟨rfl, rfl, rfl, rfl, rfl⟩ rfl rfl rfl rfl rfl (by kernel_rfl) Try.func5 (by kernel_rfl)
    (of_decide_eq_true (by kernel_rfl)) (by unfold Func.isWrapper; first | (rw [if_pos (by decide +kernel)]; kernel_rfl) | (rw [if_neg (by decide +kernel)]; exact ⟨rfl, rfl⟩))
    (fun os started H enc _ => lifted os started H enc)

theorem proved : Rows.FnExactVolumeOfSaid := over
#print axioms proved
end Go.Proofs.Ytnpghhpcloljeaa.fnExactVolumeOf
