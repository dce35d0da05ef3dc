/-
  FnExactBestFix holds: at every argument BestFix answers as its model answers, and the arguments read behind the call as they read before it.
  Conditions: none of our own.
-/
import Derived.Test.YtjlkgijaceplcaaDoorBxD
import Derived.Test.YtjlkgijaceplcaaDoorBxE
import Derived.Test.YtjlkgijaceplcaaDoorSinC
import Derived.WalkKit
import Derived.ProofKit
import Derived.OpenShut
import Derived.Carry
namespace Go.Proofs.YtjlkgijaceplcaaDoor.fnExactBestFix
open Go.ChangeShapes Go.WideShapes Go.ChangeAt Go.RowKit
open Go.ChangeMaps (open_string shut_string)
open reads base ty lg nt ml dt pg ph bl sn win sinc
set_option linter.unusedVariables false
set_option linter.unusedSimpArgs false

theorem form (c : List Lg) : ∃ (v0 v1 : Int) (ok : Bool), ansBf c = .tuple #[.int .i64 v0, .int .i64 v1, .bool ok] := ⟨_, _, _, rfl⟩
set_option maxHeartbeats 4000000 in
set_option maxRecDepth 100000 in
theorem walk (A0 : Option Addr) (n0 c0 : Nat) (t0 : List Lg) (w : World) (hm0 : n0 ≤ maxLen) (HA0 : Hid (ty.ArgLg w w.heap.size A0 n0 t0)) (hT : Hid (Tab w)) : Calls Tryd.prog 8 #[.slice A0 n0 c0] w (LawPost w) := by
  obtain ⟨v0, v1, v2, hfm⟩ := form t0
  have HFm := Lib.hid hfm
  clear hfm
  by_cases big0 : 1048576 < n0
  · unfold maxLen at hm0
    go_enter Tryd.func8, Tryd.ntmps8
    go_wp2_with fail
    refine (ty.sz_leg A0 n0 c0 (1048576) _ (by unfold maxLen; omega) (by omega) (by omega)).mono ?_
    rintro e w' ⟨rfl, rfl⟩
    rw [if_pos (by omega)]
    go_wp2_with fail
    go_ret
    exact ⟨rfl, Below.refl _ _⟩
  unfold maxLen at hm0
  have hn0 : n0 ≤ 1048576 := by omega
  go_enter Tryd.func8, Tryd.ntmps8
  go_wp2_with fail
  refine (ty.sz_leg A0 n0 c0 (1048576) _ (by unfold maxLen; omega) (by omega) (by omega)).mono ?_
  rintro e w' ⟨rfl, rfl⟩
  rw [if_neg (by omega)]
  clear big0
  go_wp2_with fail
  have HBr := Lib.hid (Below.refl w.heap.size w)
  have HArg := Lib.hid (ty.more_leg (HA0.out.below HBr.out) HBr.out.size)
  refine (ty.to_legS A0 n0 c0 t0 w hn0 HArg).mono ?_
  rintro e W1 ⟨rfl, ⟨cs_p0, hk, hf⟩, b⟩
  have HF_p0 := Lib.hid hf
  clear hf HArg
  have H1 := Lib.hid (HBr.out.trans (b.mono HBr.out.size))
  clear b HBr
  have H2 := Lib.hid hk
  clear hk
  go_wp2_with fail
  have HL0 := Lib.hid ((ty.FillLg.at_ HF_p0.out HA0.out.1 H2.out).more (by exact H2.out.lt))
  have HTab := Lib.hid (hT.out.below H1.out)
  refine (bl.bestFix_model _ n0 _ t0 _ (by omega) HL0).mono ?_
  rintro e W2 ⟨rfl, b⟩
  rw [HFm.out]
  have H3 := Lib.hid (H1.out.trans (b.mono H1.out.size))
  have H4 := Lib.hid (show Blk W2 w.heap.size 54 cs_p0 from H2.out.below b H2.out.lt)
  clear b H1 H2
  clear HL0
  clear HTab
  go_wp2_with fail
  have HArg := Lib.hid (ty.more_leg (HA0.out.below H3.out) H3.out.size)
  refine (ty.to_legS A0 n0 c0 t0 W2 hn0 HArg).mono ?_
  rintro e W3 ⟨rfl, ⟨cs_x0, hk, hf⟩, b⟩
  have HF_x0 := Lib.hid hf
  clear hf HArg
  have H5 := Lib.hid (H3.out.trans (b.mono H3.out.size))
  clear b H3
  have H6 := Lib.hid hk
  clear hk
  go_wp2_with fail
  have HL0 := Lib.hid ((ty.FillLg.at_ HF_x0.out HA0.out.1 H6.out).more (by exact H6.out.lt))
  have HTab := Lib.hid (hT.out.below H5.out)
  refine (bl.bestFix_impl _ n0 _ t0 _ (by omega) HL0 HTab).mono ?_
  rintro e W4 ⟨rfl, b⟩
  rw [HFm.out]
  have H7 := Lib.hid (H5.out.trans (b.mono H5.out.size))
  have H8 := Lib.hid (show Blk W4 W2.heap.size 54 cs_x0 from H6.out.below b H6.out.lt)
  clear b H5 H6
  clear HL0
  clear HTab
  go_wp2_with fail
  have HArg := Lib.hid (ty.more_leg (HA0.out.below H7.out) H7.out.size)
  refine (ty.to_legS A0 n0 c0 t0 W4 hn0 HArg).mono ?_
  rintro e W5 ⟨rfl, ⟨cs_z0, hk, hf⟩, b⟩
  have HF_z0 := Lib.hid hf
  clear hf HArg
  have H9 := Lib.hid (H7.out.trans (b.mono H7.out.size))
  have H10 := Lib.hid (show Blk W5 W2.heap.size 54 cs_x0 from H8.out.below b H8.out.lt)
  clear b H7 H8
  have H11 := Lib.hid hk
  clear hk
  go_wp2_with fail
  have HLx := Lib.hid ((ty.FillLg.at_ HF_x0.out HA0.out.1 H10.out).more (by exact H10.out.lt))
  have HLz := Lib.hid ((ty.FillLg.at_ HF_z0.out HA0.out.1 H11.out).more (by exact H11.out.lt))
  refine (ty.eq_legS _ _ n0 _ _ t0 _ (by omega) HLx HLz).mono ?_
  rintro e W6 ⟨rfl, b⟩
  have H12 := Lib.hid (H9.out.trans (b.mono H9.out.size))
  have H13 := Lib.hid (show Blk W6 W2.heap.size 54 cs_x0 from H10.out.below b H10.out.lt)
  have H14 := Lib.hid (show Blk W6 W4.heap.size 54 cs_z0 from H11.out.below b H11.out.lt)
  clear b H9 H10 H11
  clear HLx HLz
  go_wp2_with fail
  go_ret
  exact ⟨rfl, H12.out⟩

theorem laidOut : laidOutB Tryd.prog = true := by kernel_rfl
set_option maxRecDepth 100000 in
theorem contract (H : Type) (enc : TypeId × Value → H) (W : World) (base : Nat) (args : Array Value) (ds gs : List (DataW H)) (before : List MemPlace)
    (hval : ∀ (j : Nat) t v, Tryd.f8.params[j]? = some t → args[j]? = some v → Value.okWide Tryd.prog W .any base t v)
    (hW : DataW.Whole enc Tryd.prog Tryd.f8.params.toList Rows.fnExactBestFixSpec.vars false W args.toList ds gs before) (hL : laidMetH Tryd.prog Rows.fnExactBestFixRow.laid W) :
    Calls Tryd.prog 8 args W fun e W' => ∃ v, e = .returned v ∧ Rows.fnExactBestFixSpec.post enc Tryd.prog Tryd.f8 false true false false W args v W' := by
  have hT : Tab W := given (row := Rows.fnExactBestFixRow) (by kernel_rfl) hL
  have hW' := hW
  obtain ⟨p, q, hA0, hV0, rfl, hfz, hnd⟩ := hW
  have hA : DataW.TrodAll enc Tryd.prog W 0 (fun _ => true) true Tryd.f8.params.toList args.toList ds p := hA0
  have hV : DataW.TrodVars enc Tryd.prog W (fun _ => true) ["loop.example/g00933/impl.sines"] gs q := hV0
  rw [Tryd.params8] at hA hval
  obtain ⟨v0, vs0, d0, ds0, p0, q0, hargs, rfl, rfl, h0, r0⟩ := trodAll_cons hA
  obtain ⟨rfl, rfl, rfl⟩ := trodAll_nil r0
  obtain rfl : args = #[v0] := by cases args; simp_all
  obtain ⟨rfl, rfl⟩ := var_open hT hV
  have k0 := h0
  have lt0 : ∀ x ∈ p0, x.block < W.heap.size := by obtain ⟨m, hm⟩ := k0; exact DataW.trod_lt m _ _ _ hm
  obtain ⟨A0, n0, c0, t0, rfl, HA0, hm0⟩ := ty.open_legS (hval 0 22 v0 rfl rfl) h0
  clear hA0 hV0
  refine (walk A0 n0 c0 t0 W hm0 (Lib.hid HA0) (Lib.hid hT)).mono fun e W' ⟨he, bel⟩ => ?_
  subst he
  exact ⟨_, rfl, _, _, _, [], _, tabP, hW', trodAll_mk1 (shut_bool Tryd.underlying4 _), (trodAll_cons_mk (Below.trod laidOut (by kernel_rfl) (of_decide_eq_true (by kernel_rfl)) k0 bel lt0) trodAll_mk0), var_shut (hT.below bel) _, bel.frame _, fun h => by cases h⟩

theorem laid_met (os : Os) : laidMet Tryd.prog Rows.fnExactBestFixRow.laid ((World.doorLaid Tryd.prog 2000 os).forCall (fun _ _ => 0) ⟨#[], #[.slice none 0 0], []⟩).memory :=
  laidMet_of_run' 8 (by kernel_rfl) (by kernel_rfl)
theorem readsIt (os : Os) {H : Type} (enc : TypeId × Value → H) : ∃ ds places, DataW.whole enc Tryd.prog ((World.doorLaid Tryd.prog 2000 os).forCall (fun _ _ => 0) ⟨#[], #[.slice none 0 0], []⟩).memory Tryd.f8.params.toList Rows.fnExactBestFixSpec.vars false (#[.slice none 0 0] : Array Value).toList 8 = some (ds, [tabH], places) :=
  ⟨[.nil], tabP, by kernel_rfl⟩

set_option maxRecDepth 100000 in
theorem lifted (os : Os) (started : os.Started) (H : Type) (enc : TypeId × Value → H) (F : Stop.Interp) :
    ReturnsInHanded {} Tryd.checked os 8 .any ((OpenSpec.ofChange Rows.fnExactBestFixSpec).preRow enc Tryd.prog Tryd.f8 Rows.fnExactBestFixRow.domain false Rows.fnExactBestFixRow.laid) (((OpenSpec.ofChange Rows.fnExactBestFixSpec).at F).post enc Tryd.prog Tryd.f8 false true false false) := by
  obtain ⟨d, places, hx⟩ := readsIt os enc
  refine returnsInHanded_of_row (C := Tryd.checked) (s := OpenSpec.ofChange Rows.fnExactBestFixSpec) own started (by kernel_rfl) Tryd.func8
    (witness_row_at (enc := enc) (C := Tryd.checked) false (World.doorLaid Tryd.prog 2000 os) #[.slice none 0 0] rfl (by kernel_rfl) (by kernel_rfl) (by kernel_rfl)
      (OpenSpec.preRow_of_cond 8 hx (by kernel_rfl) (fun k hk => by cases hk) (by kernel_rfl) (laid_met os))) ?_
  intro W base args ds gs before hval hW _ _ _ hL _ _
  exact contract H enc W base args ds gs before hval hW hL

theorem said : Rows.FnExactBestFixSaid :=
  OpenClaim.holds_of_cond 8 Tryd.f8 rfl rfl rfl rfl rfl rfl rfl ⟨rfl, rfl, rfl, rfl, rfl⟩ rfl rfl rfl rfl rfl (by kernel_rfl) Tryd.func8 (by kernel_rfl)
    (of_decide_eq_true (by kernel_rfl)) (by unfold Func.isWrapper; first | (rw [if_pos (by decide +kernel)]; kernel_rfl) | (rw [if_neg (by decide +kernel)]; exact ⟨rfl, rfl⟩))
    (fun os started H enc _ F => by rw [OpenClaim.pre_eq_preRow]; exact lifted os started H enc F)

theorem plain (f : FuncId) (fn : Func) (hf : Tryd.pinned.checked.prog.funcNamed "loop.example/g00933/laws.FnExactBestFix" = some f) (hfn : Tryd.pinned.checked.prog.funcs[f]? = some fn) :
    false = Tryd.pinned.checked.prog.looks [] ∧ ∀ (j : Nat) t, fn.params[j]? = some t → Tryd.pinned.checked.prog.wantsStandIn t = false := by
  obtain rfl : f = 8 := Option.some.inj ((show Tryd.prog.funcNamed "loop.example/g00933/laws.FnExactBestFix" = some 8 by kernel_rfl).symm.trans hf) |>.symm
  obtain rfl : fn = Tryd.f8 := (Option.some.inj (Tryd.func8.symm.trans hfn)).symm
  refine ⟨by kernel_rfl, fun j t ht => ?_⟩
  rw [Tryd.params8] at ht
  obtain rfl : t = 22 := by simpa using Array.mem_of_getElem? ht
  exact (show Tryd.prog.wantsStandIn 22 = false by kernel_rfl)

theorem proved : Rows.FnExactBestFixCardSaid :=
  Claim7.holds_tied_plain_at .later [] _ _ _ _ said (fun _ h => by cases h) (by kernel_rfl) (fun _ h => by cases h) fnExactBestFix_row_tie rfl ⟨rfl, rfl⟩ (by kernel_rfl) rfl plain (by kernel_rfl)
#print axioms proved
end Go.Proofs.YtjlkgijaceplcaaDoor.fnExactBestFix
