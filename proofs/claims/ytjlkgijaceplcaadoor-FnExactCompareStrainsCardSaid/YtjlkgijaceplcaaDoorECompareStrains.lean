/-
  FnExactCompareStrains holds: at every argument CompareStrains answers as its model answers, and the arguments read behind the call as they read before it.
  Conditions: none of our own.
-/
import Derived.Test.YtjlkgijaceplcaaDoorBlA
import Derived.Test.YtjlkgijaceplcaaDoorSinC
import Derived.WalkKit
import Derived.ProofKit
import Derived.OpenShut
import Derived.Carry
namespace Go.Proofs.YtjlkgijaceplcaaDoor.fnExactCompareStrains
open Go.ChangeShapes Go.WideShapes Go.ChangeAt Go.RowKit
open Go.ChangeMaps (open_string shut_string)
open reads base ty lg nt ml dt pg ph bl sn win sinc
set_option linter.unusedVariables false
set_option linter.unusedSimpArgs false

theorem form (a b : List Lg) : ∃ (v0 : Int) (ok : Bool), ansCs a b = .tuple #[.int .i64 v0, .bool ok] := by unfold ansCs; split <;> exact ⟨_, _, rfl⟩
set_option maxHeartbeats 4000000 in
set_option maxRecDepth 100000 in
theorem walk (A0 : Option Addr) (n0 c0 : Nat) (t0 : List Lg) (A1 : Option Addr) (n1 c1 : Nat) (t1 : List Lg) (w : World) (hm0 : n0 ≤ maxLen) (HA0 : Hid (ty.ArgLg w w.heap.size A0 n0 t0)) (hm1 : n1 ≤ maxLen) (HA1 : Hid (ty.ArgLg w w.heap.size A1 n1 t1)) (hT : Hid (Tab w)) : Calls Tryd.prog 9 #[.slice A0 n0 c0, .slice A1 n1 c1] w (LawPost w) := by
  obtain ⟨v0, v1, hfm⟩ := form t0 t1
  have HFm := Lib.hid hfm
  clear hfm
  by_cases big0 : 1048576 < n0
  · unfold maxLen at hm0 hm1
    go_enter Tryd.func9, Tryd.ntmps9
    go_wp2_with fail
    refine (ty.sz_leg A0 n0 c0 (1048576) _ (by unfold maxLen; omega) (by omega) (by omega)).mono ?_
    rintro e w' ⟨rfl, rfl⟩
    rw [if_pos (by omega)]
    go_wp2_with fail
    go_ret
    exact ⟨rfl, Below.refl _ _⟩
  by_cases big1 : 1048576 - (n0 : Int) < n1
  · unfold maxLen at hm0 hm1
    go_enter Tryd.func9, Tryd.ntmps9
    go_wp2_with fail
    refine (ty.sz_leg A0 n0 c0 (1048576) _ (by unfold maxLen; omega) (by omega) (by omega)).mono ?_
    rintro e w' ⟨rfl, rfl⟩
    rw [if_neg (by omega)]
    go_wp2_with fail
    refine (ty.sz_leg A1 n1 c1 (1048576 - (n0 : Int)) _ (by unfold maxLen; omega) (by omega) (by omega)).mono ?_
    rintro e w' ⟨rfl, rfl⟩
    rw [if_pos (by omega)]
    go_wp2_with fail
    go_ret
    exact ⟨rfl, Below.refl _ _⟩
  unfold maxLen at hm0 hm1
  have hn0 : n0 ≤ 1048576 := by omega
  have hn1 : n1 ≤ 1048576 := by omega
  go_enter Tryd.func9, Tryd.ntmps9
  go_wp2_with fail
  refine (ty.sz_leg A0 n0 c0 (1048576) _ (by unfold maxLen; omega) (by omega) (by omega)).mono ?_
  rintro e w' ⟨rfl, rfl⟩
  rw [if_neg (by omega)]
  go_wp2_with fail
  refine (ty.sz_leg A1 n1 c1 (1048576 - (n0 : Int)) _ (by unfold maxLen; omega) (by omega) (by omega)).mono ?_
  rintro e w' ⟨rfl, rfl⟩
  rw [if_neg (by omega)]
  have hleft : ¬ (1048576 - (n0 : Int) - (n1 : Int)) < 0 := by omega
  clear big0 big1
  go_wp2_with fail
  have HBr := Lib.hid (Below.refl w.heap.size w)
  have HArg := Lib.hid (ty.more_leg (HA0.out.below HBr.out) HBr.out.size)
  refine (ty.to_legS A0 n0 c0 t0 w hn0 HArg).mono ?_
  rintro e W1 ⟨rfl, ⟨cs_p0, hk, hf⟩, b⟩
  have HF_p0 := Lib.hid hf
  clear hf HArg
  have H1 := Lib.hid (HBr.out.trans (b.mono HBr.out.size))
  clear b HBr
  have H2 := Lib.hid hk
  clear hk
  go_wp2_with fail
  have HArg := Lib.hid (ty.more_leg (HA1.out.below H1.out) H1.out.size)
  refine (ty.to_legS A1 n1 c1 t1 W1 hn1 HArg).mono ?_
  rintro e W2 ⟨rfl, ⟨cs_p1, hk, hf⟩, b⟩
  have HF_p1 := Lib.hid hf
  clear hf HArg
  have H3 := Lib.hid (H1.out.trans (b.mono H1.out.size))
  have H4 := Lib.hid (show Blk W2 w.heap.size 54 cs_p0 from H2.out.below b H2.out.lt)
  clear b H1 H2
  have H5 := Lib.hid hk
  clear hk
  go_wp2_with fail
  have HL0 := Lib.hid ((ty.FillLg.at_ HF_p0.out HA0.out.1 H4.out).more (by exact H4.out.lt))
  have HL1 := Lib.hid ((ty.FillLg.at_ HF_p1.out HA1.out.1 H5.out).more (by exact H5.out.lt))
  have HTab := Lib.hid (hT.out.below H3.out)
  refine (bl.compareStrains_model _ n0 _ t0 _ n1 _ t1 _ (by omega) (by omega) HL0 HL1).mono ?_
  rintro e W3 ⟨rfl, b⟩
  rw [HFm.out]
  have H6 := Lib.hid (H3.out.trans (b.mono H3.out.size))
  have H7 := Lib.hid (show Blk W3 w.heap.size 54 cs_p0 from H4.out.below b H4.out.lt)
  have H8 := Lib.hid (show Blk W3 W1.heap.size 54 cs_p1 from H5.out.below b H5.out.lt)
  clear b H3 H4 H5
  clear HL0 HL1
  clear HTab
  go_wp2_with fail
  have HArg := Lib.hid (ty.more_leg (HA0.out.below H6.out) H6.out.size)
  refine (ty.to_legS A0 n0 c0 t0 W3 hn0 HArg).mono ?_
  rintro e W4 ⟨rfl, ⟨cs_x0, hk, hf⟩, b⟩
  have HF_x0 := Lib.hid hf
  clear hf HArg
  have H9 := Lib.hid (H6.out.trans (b.mono H6.out.size))
  clear b H6
  have H10 := Lib.hid hk
  clear hk
  go_wp2_with fail
  have HArg := Lib.hid (ty.more_leg (HA1.out.below H9.out) H9.out.size)
  refine (ty.to_legS A1 n1 c1 t1 W4 hn1 HArg).mono ?_
  rintro e W5 ⟨rfl, ⟨cs_x1, hk, hf⟩, b⟩
  have HF_x1 := Lib.hid hf
  clear hf HArg
  have H11 := Lib.hid (H9.out.trans (b.mono H9.out.size))
  have H12 := Lib.hid (show Blk W5 W3.heap.size 54 cs_x0 from H10.out.below b H10.out.lt)
  clear b H9 H10
  have H13 := Lib.hid hk
  clear hk
  go_wp2_with fail
  have HL0 := Lib.hid ((ty.FillLg.at_ HF_x0.out HA0.out.1 H12.out).more (by exact H12.out.lt))
  have HL1 := Lib.hid ((ty.FillLg.at_ HF_x1.out HA1.out.1 H13.out).more (by exact H13.out.lt))
  have HTab := Lib.hid (hT.out.below H11.out)
  refine (bl.compareStrains_impl _ n0 _ t0 _ n1 _ t1 _ (by omega) (by omega) HL0 HL1 HTab).mono ?_
  rintro e W6 ⟨rfl, b⟩
  rw [HFm.out]
  have H14 := Lib.hid (H11.out.trans (b.mono H11.out.size))
  have H15 := Lib.hid (show Blk W6 W3.heap.size 54 cs_x0 from H12.out.below b H12.out.lt)
  have H16 := Lib.hid (show Blk W6 W4.heap.size 54 cs_x1 from H13.out.below b H13.out.lt)
  clear b H11 H12 H13
  clear HL0 HL1
  clear HTab
  go_wp2_with fail
  have HArg := Lib.hid (ty.more_leg (HA0.out.below H14.out) H14.out.size)
  refine (ty.to_legS A0 n0 c0 t0 W6 hn0 HArg).mono ?_
  rintro e W7 ⟨rfl, ⟨cs_z0, hk, hf⟩, b⟩
  have HF_z0 := Lib.hid hf
  clear hf HArg
  have H17 := Lib.hid (H14.out.trans (b.mono H14.out.size))
  have H18 := Lib.hid (show Blk W7 W3.heap.size 54 cs_x0 from H15.out.below b H15.out.lt)
  have H19 := Lib.hid (show Blk W7 W4.heap.size 54 cs_x1 from H16.out.below b H16.out.lt)
  clear b H14 H15 H16
  have H20 := Lib.hid hk
  clear hk
  go_wp2_with fail
  have HLx := Lib.hid ((ty.FillLg.at_ HF_x0.out HA0.out.1 H18.out).more (by exact H18.out.lt))
  have HLz := Lib.hid ((ty.FillLg.at_ HF_z0.out HA0.out.1 H20.out).more (by exact H20.out.lt))
  refine (ty.eq_legS _ _ n0 _ _ t0 _ (by omega) HLx HLz).mono ?_
  rintro e W8 ⟨rfl, b⟩
  have H21 := Lib.hid (H17.out.trans (b.mono H17.out.size))
  have H22 := Lib.hid (show Blk W8 W3.heap.size 54 cs_x0 from H18.out.below b H18.out.lt)
  have H23 := Lib.hid (show Blk W8 W4.heap.size 54 cs_x1 from H19.out.below b H19.out.lt)
  have H24 := Lib.hid (show Blk W8 W6.heap.size 54 cs_z0 from H20.out.below b H20.out.lt)
  clear b H17 H18 H19 H20
  clear HLx HLz
  go_wp2_with fail
  have HArg := Lib.hid (ty.more_leg (HA1.out.below H21.out) H21.out.size)
  refine (ty.to_legS A1 n1 c1 t1 W8 hn1 HArg).mono ?_
  rintro e W9 ⟨rfl, ⟨cs_z1, hk, hf⟩, b⟩
  have HF_z1 := Lib.hid hf
  clear hf HArg
  have H25 := Lib.hid (H21.out.trans (b.mono H21.out.size))
  have H26 := Lib.hid (show Blk W9 W3.heap.size 54 cs_x0 from H22.out.below b H22.out.lt)
  have H27 := Lib.hid (show Blk W9 W4.heap.size 54 cs_x1 from H23.out.below b H23.out.lt)
  have H28 := Lib.hid (show Blk W9 W6.heap.size 54 cs_z0 from H24.out.below b H24.out.lt)
  clear b H21 H22 H23 H24
  have H29 := Lib.hid hk
  clear hk
  go_wp2_with fail
  have HLx := Lib.hid ((ty.FillLg.at_ HF_x1.out HA1.out.1 H27.out).more (by exact H27.out.lt))
  have HLz := Lib.hid ((ty.FillLg.at_ HF_z1.out HA1.out.1 H29.out).more (by exact H29.out.lt))
  refine (ty.eq_legS _ _ n1 _ _ t1 _ (by omega) HLx HLz).mono ?_
  rintro e W10 ⟨rfl, b⟩
  have H30 := Lib.hid (H25.out.trans (b.mono H25.out.size))
  have H31 := Lib.hid (show Blk W10 W3.heap.size 54 cs_x0 from H26.out.below b H26.out.lt)
  have H32 := Lib.hid (show Blk W10 W4.heap.size 54 cs_x1 from H27.out.below b H27.out.lt)
  have H33 := Lib.hid (show Blk W10 W6.heap.size 54 cs_z0 from H28.out.below b H28.out.lt)
  have H34 := Lib.hid (show Blk W10 W8.heap.size 54 cs_z1 from H29.out.below b H29.out.lt)
  clear b H25 H26 H27 H28 H29
  clear HLx HLz
  go_wp2_with fail
  go_ret
  exact ⟨rfl, H30.out⟩

theorem laidOut : laidOutB Tryd.prog = true := by kernel_rfl
set_option maxRecDepth 100000 in
theorem contract (H : Type) (enc : TypeId × Value → H) (W : World) (base : Nat) (args : Array Value) (ds gs : List (DataW H)) (before : List MemPlace)
    (hval : ∀ (j : Nat) t v, Tryd.f9.params[j]? = some t → args[j]? = some v → Value.okWide Tryd.prog W .any base t v)
    (hW : DataW.Whole enc Tryd.prog Tryd.f9.params.toList Rows.fnExactCompareStrainsSpec.vars false W args.toList ds gs before) (hL : laidMetH Tryd.prog Rows.fnExactCompareStrainsRow.laid W) :
    Calls Tryd.prog 9 args W fun e W' => ∃ v, e = .returned v ∧ Rows.fnExactCompareStrainsSpec.post enc Tryd.prog Tryd.f9 false true false false W args v W' := by
  have hT : Tab W := given (row := Rows.fnExactCompareStrainsRow) (by kernel_rfl) hL
  have hW' := hW
  obtain ⟨p, q, hA0, hV0, rfl, hfz, hnd⟩ := hW
  have hA : DataW.TrodAll enc Tryd.prog W 0 (fun _ => true) true Tryd.f9.params.toList args.toList ds p := hA0
  have hV : DataW.TrodVars enc Tryd.prog W (fun _ => true) ["loop.example/g00933/impl.sines"] gs q := hV0
  rw [Tryd.params9] at hA hval
  obtain ⟨v0, vs0, d0, ds0, p0, q0, hargs, rfl, rfl, h0, r0⟩ := trodAll_cons hA
  obtain ⟨v1, vs1, d1, ds1, p1, q1, rfl, rfl, rfl, h1, r1⟩ := trodAll_cons r0
  obtain ⟨rfl, rfl, rfl⟩ := trodAll_nil r1
  obtain rfl : args = #[v0, v1] := by cases args; simp_all
  obtain ⟨rfl, rfl⟩ := var_open hT hV
  have k0 := h0
  have lt0 : ∀ x ∈ p0, x.block < W.heap.size := by obtain ⟨m, hm⟩ := k0; exact DataW.trod_lt m _ _ _ hm
  obtain ⟨A0, n0, c0, t0, rfl, HA0, hm0⟩ := ty.open_legS (hval 0 22 v0 rfl rfl) h0
  have k1 := h1
  have lt1 : ∀ x ∈ p1, x.block < W.heap.size := by obtain ⟨m, hm⟩ := k1; exact DataW.trod_lt m _ _ _ hm
  obtain ⟨A1, n1, c1, t1, rfl, HA1, hm1⟩ := ty.open_legS (hval 1 22 v1 rfl rfl) h1
  clear hA0 hV0
  refine (walk A0 n0 c0 t0 A1 n1 c1 t1 W hm0 (Lib.hid HA0) hm1 (Lib.hid HA1) (Lib.hid hT)).mono fun e W' ⟨he, bel⟩ => ?_
  subst he
  exact ⟨_, rfl, _, _, _, [], _, tabP, hW', trodAll_mk1 (shut_bool Tryd.underlying4 _), (trodAll_cons_mk (Below.trod laidOut (by kernel_rfl) (of_decide_eq_true (by kernel_rfl)) k0 bel lt0) (trodAll_cons_mk (Below.trod laidOut (by kernel_rfl) (of_decide_eq_true (by kernel_rfl)) k1 bel lt1) trodAll_mk0)), var_shut (hT.below bel) _, bel.frame _, fun h => by cases h⟩

theorem laid_met (os : Os) : laidMet Tryd.prog Rows.fnExactCompareStrainsRow.laid ((World.doorLaid Tryd.prog 2000 os).forCall (fun _ _ => 0) ⟨#[], #[.slice none 0 0, .slice none 0 0], []⟩).memory :=
  laidMet_of_run' 8 (by kernel_rfl) (by kernel_rfl)
theorem readsIt (os : Os) {H : Type} (enc : TypeId × Value → H) : ∃ ds places, DataW.whole enc Tryd.prog ((World.doorLaid Tryd.prog 2000 os).forCall (fun _ _ => 0) ⟨#[], #[.slice none 0 0, .slice none 0 0], []⟩).memory Tryd.f9.params.toList Rows.fnExactCompareStrainsSpec.vars false (#[.slice none 0 0, .slice none 0 0] : Array Value).toList 8 = some (ds, [tabH], places) :=
  ⟨[.nil, .nil], tabP, by kernel_rfl⟩

set_option maxRecDepth 100000 in
theorem lifted (os : Os) (started : os.Started) (H : Type) (enc : TypeId × Value → H) (F : Stop.Interp) :
    ReturnsInHanded {} Tryd.checked os 9 .any ((OpenSpec.ofChange Rows.fnExactCompareStrainsSpec).preRow enc Tryd.prog Tryd.f9 Rows.fnExactCompareStrainsRow.domain false Rows.fnExactCompareStrainsRow.laid) (((OpenSpec.ofChange Rows.fnExactCompareStrainsSpec).at F).post enc Tryd.prog Tryd.f9 false true false false) := by
  obtain ⟨d, places, hx⟩ := readsIt os enc
  refine returnsInHanded_of_row (C := Tryd.checked) (s := OpenSpec.ofChange Rows.fnExactCompareStrainsSpec) own started (by kernel_rfl) Tryd.func9
    (witness_row_at (enc := enc) (C := Tryd.checked) false (World.doorLaid Tryd.prog 2000 os) #[.slice none 0 0, .slice none 0 0] rfl (by kernel_rfl) (by kernel_rfl) (by kernel_rfl)
      (OpenSpec.preRow_of_cond 8 hx (by kernel_rfl) (fun k hk => by cases hk) (by kernel_rfl) (laid_met os))) ?_
  intro W base args ds gs before hval hW _ _ _ hL _ _
  exact contract H enc W base args ds gs before hval hW hL

theorem said : Rows.FnExactCompareStrainsSaid :=
  OpenClaim.holds_of_cond 9 Tryd.f9 rfl rfl rfl rfl rfl rfl rfl ⟨rfl, rfl, rfl, rfl, rfl⟩ rfl rfl rfl rfl rfl (by kernel_rfl) Tryd.func9 (by kernel_rfl)
    (of_decide_eq_true (by kernel_rfl)) (by unfold Func.isWrapper; first | (rw [if_pos (by decide +kernel)]; kernel_rfl) | (rw [if_neg (by decide +kernel)]; exact ⟨rfl, rfl⟩))
    (fun os started H enc _ F => by rw [OpenClaim.pre_eq_preRow]; exact lifted os started H enc F)

theorem plain (f : FuncId) (fn : Func) (hf : Tryd.pinned.checked.prog.funcNamed "loop.example/g00933/laws.FnExactCompareStrains" = some f) (hfn : Tryd.pinned.checked.prog.funcs[f]? = some fn) :
    false = Tryd.pinned.checked.prog.looks [] ∧ ∀ (j : Nat) t, fn.params[j]? = some t → Tryd.pinned.checked.prog.wantsStandIn t = false := by
  obtain rfl : f = 9 := Option.some.inj ((show Tryd.prog.funcNamed "loop.example/g00933/laws.FnExactCompareStrains" = some 9 by kernel_rfl).symm.trans hf) |>.symm
  obtain rfl : fn = Tryd.f9 := (Option.some.inj (Tryd.func9.symm.trans hfn)).symm
  refine ⟨by kernel_rfl, fun j t ht => ?_⟩
  rw [Tryd.params9] at ht
  obtain rfl : t = 22 := by simpa using Array.mem_of_getElem? ht
  exact (show Tryd.prog.wantsStandIn 22 = false by kernel_rfl)

theorem proved : Rows.FnExactCompareStrainsCardSaid :=
  Claim7.holds_tied_plain_at .later [] _ _ _ _ said (fun _ h => by cases h) (by kernel_rfl) (fun _ h => by cases h) fnExactCompareStrains_row_tie rfl ⟨rfl, rfl⟩ (by kernel_rfl) rfl plain (by kernel_rfl)
#print axioms proved
end Go.Proofs.YtjlkgijaceplcaaDoor.fnExactCompareStrains
