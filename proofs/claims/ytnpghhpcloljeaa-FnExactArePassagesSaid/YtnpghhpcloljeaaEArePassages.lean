/-
  FnExactArePassages holds: at every argument ArePassages answers as its model answers, and the arguments read behind the call as they read before it.
  Conditions: none of our own.
-/
import Derived.Test.YtnpghhpcloljeaaPwC
import Derived.Test.YtnpghhpcloljeaaPwH
import Derived.Test.YtnpghhpcloljeaaEnd
import Derived.Test.YtnpghhpcloljeaaRows
import Derived.WalkKit
import Derived.ProofKit
import Derived.OpenShut
import Derived.Carry
namespace Go.Proofs.Ytnpghhpcloljeaa.fnExactArePassages
open Go.ChangeShapes Go.WideShapes Go.ChangeAt Go.RowKit
open Go.ChangeMaps (open_string shut_string)
open reads base ty lg pw
set_option linter.unusedVariables false
set_option linter.unusedSimpArgs false

theorem own : ownKnob Try.prog.godebug = none := by kernel_rfl
def LawPost (w : World) (e : Ending) (w' : World) : Prop := e = .returned (.bool true) ∧ Below w.heap.size w w'
set_option maxHeartbeats 4000000 in
set_option maxRecDepth 100000 in
theorem walk (A0 : Option Addr) (n0 c0 : Nat) (t0 : List Pg) (w : World) (hm0 : n0 ≤ maxLen) (HA0 : Hid (ty.ArgPg w w.heap.size A0 n0 t0)) : Calls Try.prog 3 #[.slice A0 n0 c0] w (LawPost w) := by
  by_cases big0 : 1048576 < n0
  · unfold maxLen at hm0
    go_enter Try.func3, Try.ntmps3
    go_wp2_with fail
    refine (ty.sz_passage A0 n0 c0 (1048576) _ (by unfold maxLen; omega) (by omega) (by omega)).mono ?_
    rintro e w' ⟨rfl, rfl⟩
    rw [if_pos (by omega)]
    go_wp2_with fail
    go_ret
    exact ⟨rfl, Below.refl _ _⟩
  unfold maxLen at hm0
  have hn0 : n0 ≤ 1048576 := by omega
  go_enter Try.func3, Try.ntmps3
  go_wp2_with fail
  refine (ty.sz_passage A0 n0 c0 (1048576) _ (by unfold maxLen; omega) (by omega) (by omega)).mono ?_
  rintro e w' ⟨rfl, rfl⟩
  rw [if_neg (by omega)]
  clear big0
  go_wp2_with fail
  have HBr := Lib.hid (Below.refl w.heap.size w)
  have HArg := Lib.hid (ty.more_passage (HA0.out.below HBr.out) HBr.out.size)
  refine (ty.to_passageS A0 n0 c0 t0 w hn0 HArg).mono ?_
  rintro e W1 ⟨rfl, ⟨cs_p0, hk, hf⟩, b⟩
  have HF_p0 := Lib.hid hf
  clear hf HArg
  have H1 := Lib.hid (HBr.out.trans (b.mono HBr.out.size))
  clear b HBr
  have H2 := Lib.hid hk
  clear hk
  go_wp2_with fail
  have HL0 := Lib.hid ((ty.FillPg.at_ HF_p0.out HA0.out.1 H2.out).more (by exact H2.out.lt))
  refine (arePassages_model _ n0 _ t0 _ (by omega) HL0).mono ?_
  rintro e W2 ⟨rfl, b⟩
  have H3 := Lib.hid (H1.out.trans (b.mono H1.out.size))
  have H4 := Lib.hid (show Blk W2 w.heap.size 53 cs_p0 from H2.out.below b H2.out.lt)
  clear b H1 H2
  clear HL0
  go_wp2_with fail
  have HArg := Lib.hid (ty.more_passage (HA0.out.below H3.out) H3.out.size)
  refine (ty.to_passageS A0 n0 c0 t0 W2 hn0 HArg).mono ?_
  rintro e W3 ⟨rfl, ⟨cs_x0, hk, hf⟩, b⟩
  have HF_x0 := Lib.hid hf
  clear hf HArg
  have H5 := Lib.hid (H3.out.trans (b.mono H3.out.size))
  clear b H3
  have H6 := Lib.hid hk
  clear hk
  go_wp2_with fail
  have HL0 := Lib.hid ((ty.FillPg.at_ HF_x0.out HA0.out.1 H6.out).more (by exact H6.out.lt))
  refine (arePassages_any _ n0 _ t0 _ (by omega) HL0).mono ?_
  rintro e W4 ⟨rfl, b⟩
  have H7 := Lib.hid (H5.out.trans (b.mono H5.out.size))
  have H8 := Lib.hid (show Blk W4 W2.heap.size 53 cs_x0 from H6.out.below b H6.out.lt)
  clear b H5 H6
  clear HL0
  go_wp2_with fail
  have HArg := Lib.hid (ty.more_passage (HA0.out.below H7.out) H7.out.size)
  refine (ty.to_passageS A0 n0 c0 t0 W4 hn0 HArg).mono ?_
  rintro e W5 ⟨rfl, ⟨cs_z0, hk, hf⟩, b⟩
  have HF_z0 := Lib.hid hf
  clear hf HArg
  have H9 := Lib.hid (H7.out.trans (b.mono H7.out.size))
  have H10 := Lib.hid (show Blk W5 W2.heap.size 53 cs_x0 from H8.out.below b H8.out.lt)
  clear b H7 H8
  have H11 := Lib.hid hk
  clear hk
  go_wp2_with fail
  have HLx := Lib.hid ((ty.FillPg.at_ HF_x0.out HA0.out.1 H10.out).more (by exact H10.out.lt))
  have HLz := Lib.hid ((ty.FillPg.at_ HF_z0.out HA0.out.1 H11.out).more (by exact H11.out.lt))
  refine (ty.eq_passageS _ _ n0 _ _ t0 _ (by omega) HLx HLz).mono ?_
  rintro e W6 ⟨rfl, b⟩
  have H12 := Lib.hid (H9.out.trans (b.mono H9.out.size))
  have H13 := Lib.hid (show Blk W6 W2.heap.size 53 cs_x0 from H10.out.below b H10.out.lt)
  have H14 := Lib.hid (show Blk W6 W4.heap.size 53 cs_z0 from H11.out.below b H11.out.lt)
  clear b H9 H10 H11
  clear HLx HLz
  go_wp2_with fail
  go_ret
  exact ⟨rfl, H12.out⟩

theorem laidOut : laidOutB Try.prog = true := by kernel_rfl
set_option maxRecDepth 100000 in
theorem lifted (os : Os) (started : os.Started) (H : Type) (enc : TypeId × Value → H) :
    ReturnsInHanded {} Try.checked os 3 .any (Rows.fnExactArePassagesSpec.pre6 enc Try.prog Try.f3 Rows.fnExactArePassagesRow.domain false) (Rows.fnExactArePassagesSpec.post enc Try.prog Try.f3 false true false false) := by
  refine returnsInHanded_of_change (C := Try.checked) own started (by kernel_rfl) Try.func3
    (ChangeSpec.witness6 (enc := enc) (C := Try.checked) false ⟨#[], #[.slice none 0 0], []⟩ 8 (by kernel_rfl) (by kernel_rfl) (by kernel_rfl) (by kernel_rfl)) ?_
  intro W base args ds gs before hval0 hW hcnd _
  have hval : ∀ (j : Nat) t v, Try.f3.params[j]? = some t → args[j]? = some v → Value.okWide Try.prog W .any base t v := hval0
  have hW' := hW
  obtain ⟨p, q, hA0, hV, rfl, hfz, hnd⟩ := hW
  have hA : DataW.TrodAll enc Try.prog W 0 (fun _ => true) true Try.f3.params.toList args.toList ds p := hA0
  rw [Try.params3] at hA hval
  obtain ⟨v0, vs0, d0, ds0, p0, q0, hargs, rfl, rfl, h0, r0⟩ := trodAll_cons hA
  obtain ⟨rfl, rfl, rfl⟩ := trodAll_nil r0
  obtain rfl : args = #[v0] := by cases args; simp_all
  obtain ⟨rfl, rfl⟩ := trodVars_none hV
  have k0 := h0
  have lt0 : ∀ x ∈ p0, x.block < W.heap.size := by obtain ⟨m, hm⟩ := k0; exact DataW.trod_lt m _ _ _ hm
  obtain ⟨A0, n0, c0, t0, rfl, HA0, hm0⟩ := ty.open_passageS (hval 0 22 v0 rfl rfl) h0
  clear hA0 hval0
  refine (walk A0 n0 c0 t0 W hm0 (Lib.hid HA0)).mono fun e W' ⟨he, bel⟩ => ?_
  subst he
  exact ⟨_, rfl, _, _, _, [], _, [], hW', trodAll_mk1 (shut_bool Try.underlying4 _), (trodAll_cons_mk (Below.trod laidOut (by kernel_rfl) (of_decide_eq_true (by kernel_rfl)) k0 bel lt0) trodAll_mk0), rfl, bel.frame _, fun h => by cases h⟩

theorem over : Rows.fnExactArePassagesRow.holds Try.pinned (OpenSpec.ofChange Rows.fnExactArePassagesSpec) :=
  OpenClaim.holds_of_wide 3 Try.f3 rfl rfl rfl rfl rfl rfl rfl ⟨rfl, rfl, rfl, rfl, rfl⟩ rfl rfl rfl rfl rfl (by kernel_rfl) Try.func3 (by kernel_rfl)
    (of_decide_eq_true (by kernel_rfl)) (by unfold Func.isWrapper; first | (rw [if_pos (by decide +kernel)]; kernel_rfl) | (rw [if_neg (by decide +kernel)]; exact ⟨rfl, rfl⟩))
    (fun os started H enc _ => lifted os started H enc)

theorem proved : Rows.FnExactArePassagesSaid := over
#print axioms proved
end Go.Proofs.Ytnpghhpcloljeaa.fnExactArePassages
