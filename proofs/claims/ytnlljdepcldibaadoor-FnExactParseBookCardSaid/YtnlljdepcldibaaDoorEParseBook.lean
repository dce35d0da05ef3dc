/-
  FnExactParseBook holds: at every argument ParseBook answers as its model answers, its answer owns its memory, and the arguments read behind the call as they read before it.
  Conditions: none of our own.
-/
import Derived.Test.YtnlljdepcldibaaDoorEtG
import Derived.Test.YtnlljdepcldibaaDoorTyEnM
import Derived.Test.YtnlljdepcldibaaDoorParC0
import Derived.WalkKit
import Derived.ProofKit
import Derived.OpenShut
import Derived.Carry
namespace Go.Proofs.YtnlljdepcldibaaDoor.fnExactParseBook
open Go.ChangeShapes Go.WideShapes Go.ChangeAt Go.RowKit
open Go.ChangeMaps (open_string shut_string)
open reads base ty en pow pcrd
set_option linter.unusedVariables false
set_option linter.unusedSimpArgs false

theorem row_below {w w' : World} {base size n : Nat} {e : TypeId} {v : Value} {xs : List Value} (h : w.ownsRow base e size v n xs) (hb : Below w.heap.size w w') : w'.ownsRow base e size v n xs := h.kept (row := none) ⟨hb.os, hb.tape, hb.output, hb.size, fun j hj _ => hb.block j hj⟩ (by cases v.ownBlock <;> simp)
set_option maxHeartbeats 8000000 in
set_option maxRecDepth 100000 in
theorem walk (x0 : ByteArray) (w : World) (hs0 : x0.size ≤ maxLen) (hT : Hid (VarsP w)) : Calls Tryd.prog 6 #[.string x0] w (LawPost w) := by
  unfold maxLen at hs0
  by_cases big : 1048576 < x0.size
  · have hb : decide ((1048576 : Int) < (x0.size : Int)) = true := by simp; omega
    have hb2 : decide (1048576 < x0.size) = true := by simpa using big
    go_enter Tryd.func6, Tryd.ntmps6
    go_wp2_with fail
    go_ret
    exact ⟨rfl, Below.refl _ _⟩
  have hb : decide ((1048576 : Int) < (x0.size : Int)) = false := by simp; omega
  have hb2 : decide (1048576 < x0.size) = false := by simpa using big
  have hs : x0.size ≤ 1048576 := by omega
  clear big
  obtain ⟨⟨xs, ln, ok⟩, hr⟩ := ent.pb_ex x0
  have HR := Lib.hid hr
  have hx12 : xs.length ≤ 12 := by
    obtain ⟨f, -, hsc⟩ := hr
    have h := ent.scan_len f (iterc.pcs 10 x0.data.toList) 0 [] (Nat.le_refl _) (by decide)
    rw [hsc] at h; exact h
  clear hr
  go_enter Tryd.func6, Tryd.ntmps6
  go_wp2_with fail
  have hrl0 : (xs).length ≤ 2000000 := by omega
  obtain ⟨N0, HN0⟩ : ∃ N, Hid ((xs).length = N) := ⟨_, Lib.hid rfl⟩
  rw [HN0.out] at hrl0
  have HBr := Lib.hid (Below.refl w.heap.size w)
  have hz0 : w.heap.size ≤ w.heap.size := HBr.out.size
  have HTab := Lib.hid (hT.out.below HBr.out)
  refine (ent.parseBook_model x0 (xs, ln, ok) _ hs HR).mono ?_
  rintro e W1 ⟨vw0, rfl, ho0, b⟩
  rw [HN0.out] at ho0
  obtain ⟨Aw0, cw0, rfl⟩ := base.row_slice ho0
  have HO_w0 := Lib.hid (show W1.ownsRow w.heap.size 26 6 (.slice Aw0 N0 cw0) N0 (ty.flatEn (xs)) from ho0)
  have HU_w0 := Lib.hid (show ∀ g, (Value.slice Aw0 N0 cw0).ownBlock = some g → w.heap.size ≤ g ∧ g < W1.heap.size from fun g e => ho0.lt g e)
  clear ho0
  clear HTab
  have hz_W1 : w.heap.size ≤ W1.heap.size := b.size
  have H1 := Lib.hid (HBr.out.trans (b.mono HBr.out.size))
  clear b HBr
  go_wp2_with fail
  have HTab := Lib.hid (hT.out.below H1.out)
  refine (ent.parseBook_impl x0 (xs, ln, ok) _ hs HR HTab).mono ?_
  rintro e W2 ⟨vg0, rfl, ho0, b⟩
  rw [HN0.out] at ho0
  obtain ⟨Ag0, cg0, rfl⟩ := base.row_slice ho0
  have HO_g0 := Lib.hid (show W2.ownsRow W1.heap.size 26 6 (.slice Ag0 N0 cg0) N0 (ty.flatEn (xs)) from ho0)
  have HU_g0 := Lib.hid (show ∀ g, (Value.slice Ag0 N0 cg0).ownBlock = some g → W1.heap.size ≤ g ∧ g < W2.heap.size from fun g e => ho0.lt g e)
  clear ho0
  clear HTab
  have hz_W2 : W1.heap.size ≤ W2.heap.size := b.size
  have H2 := Lib.hid (row_below HO_w0.out b)
  clear HO_w0
  have H3 := Lib.hid (H1.out.trans (b.mono H1.out.size))
  clear b H1
  go_wp2_with fail
  refine (ty.eq_entryS Ag0 Aw0 N0 cg0 cw0 (xs) _ hrl0 (Lib.hid (ty.own_En HN0.out HO_g0.out)) (Lib.hid (ty.own_En HN0.out H2.out))).mono ?_
  rintro e W3 ⟨rfl, b⟩
  have hz_W3 : W2.heap.size ≤ W3.heap.size := b.size
  have H4 := Lib.hid (row_below H2.out b)
  clear H2
  have H5 := Lib.hid (row_below HO_g0.out b)
  clear HO_g0
  have H6 := Lib.hid (H3.out.trans (b.mono H3.out.size))
  clear b H3
  go_wp2_with fail
  refine (ty.mark_entryS _ N0 _ _ (1) _ hrl0 (by omega) (by omega) H5).mono ?_
  rintro e W4 ⟨rfl, ho, hgr⟩
  have HM0 := Lib.hid ho
  clear ho
  have hz_W4 : W3.heap.size ≤ W4.heap.size := hgr.size
  have H7 := Lib.hid (H6.out.grown hgr H6.out.size (fun g e => by have := (HU_g0.out g e).1; omega))
  have H8 := Lib.hid (H4.out.kept hgr (by
      cases q : (Value.slice Aw0 N0 cw0).ownBlock with
      | none => exact .inl rfl
      | some g => exact .inr (fun e => by have h1 := HU_w0.out g q; have h2 := HU_g0.out g e.symm; omega)))
  clear hgr H6 H4
  go_wp2_with fail
  refine (ty.held_entryS _ Ag0 N0 cg0 (1) _ hrl0 (by omega) (by omega) HM0).mono ?_
  rintro e w' ⟨rfl, rfl⟩
  go_wp2_with fail
  have HTab := Lib.hid (hT.out.below H7.out)
  refine (ent.parseBook_impl x0 (xs, ln, ok) _ hs HR HTab).mono ?_
  rintro e W5 ⟨vh0, rfl, ho0, b⟩
  rw [HN0.out] at ho0
  obtain ⟨Ah0, ch0, rfl⟩ := base.row_slice ho0
  have HO_h0 := Lib.hid (show W5.ownsRow W4.heap.size 26 6 (.slice Ah0 N0 ch0) N0 (ty.flatEn (xs)) from ho0)
  have HU_h0 := Lib.hid (show ∀ g, (Value.slice Ah0 N0 ch0).ownBlock = some g → W4.heap.size ≤ g ∧ g < W5.heap.size from fun g e => ho0.lt g e)
  clear ho0
  clear HTab
  have hz_W5 : W4.heap.size ≤ W5.heap.size := b.size
  have H9 := Lib.hid (row_below H8.out b)
  clear H8
  have H10 := Lib.hid (row_below HM0.out b)
  clear HM0
  have H11 := Lib.hid (H7.out.trans (b.mono H7.out.size))
  clear b H7
  go_wp2_with fail
  refine (ty.eq_entryS Ah0 Aw0 N0 ch0 cw0 (xs) _ hrl0 (Lib.hid (ty.own_En HN0.out HO_h0.out)) (Lib.hid (ty.own_En HN0.out H9.out))).mono ?_
  rintro e W6 ⟨rfl, b⟩
  have hz_W6 : W5.heap.size ≤ W6.heap.size := b.size
  have H12 := Lib.hid (row_below H9.out b)
  clear H9
  have H13 := Lib.hid (row_below H10.out b)
  clear H10
  have H14 := Lib.hid (row_below HO_h0.out b)
  clear HO_h0
  have H15 := Lib.hid (H11.out.trans (b.mono H11.out.size))
  clear b H11
  go_wp2_with fail
  refine (ty.held_entryS _ Ag0 N0 cg0 (1) _ hrl0 (by omega) (by omega) H13).mono ?_
  rintro e w' ⟨rfl, rfl⟩
  go_wp2_with fail
  go_ret
  exact ⟨rfl, H15.out⟩

theorem laidOut : laidOutB Tryd.prog = true := by kernel_rfl
set_option maxRecDepth 100000 in
theorem contract (H : Type) (enc : TypeId × Value → H) (W : World) (base : Nat) (args : Array Value) (ds gs : List (DataW H)) (before : List MemPlace)
    (hval : ∀ (j : Nat) t v, Tryd.f6.params[j]? = some t → args[j]? = some v → Value.okWide Tryd.prog W .any base t v)
    (hW : DataW.Whole enc Tryd.prog Tryd.f6.params.toList Rows.fnExactParseBookSpec.vars false W args.toList ds gs before) (hL : laidMetH Tryd.prog Rows.fnExactParseBookRow.laid W) :
    Calls Tryd.prog 6 args W fun e W' => ∃ v, e = .returned v ∧ Rows.fnExactParseBookSpec.post enc Tryd.prog Tryd.f6 false true false false W args v W' := by
  have hT : VarsP W := givenV (row := Rows.fnExactParseBookRow) (by kernel_rfl) (by kernel_rfl) (by kernel_rfl) hL
  have hW' := hW
  obtain ⟨p, q, hA0, hV0, rfl, hfz, hnd⟩ := hW
  have hA : DataW.TrodAll enc Tryd.prog W 0 (fun _ => true) true Tryd.f6.params.toList args.toList ds p := hA0
  have hV : DataW.TrodVars enc Tryd.prog W (fun _ => true) [] gs q := hV0
  rw [Tryd.params6] at hA hval
  obtain ⟨v0, vs0, d0, ds0, p0, q0, hargs, rfl, rfl, h0, r0⟩ := trodAll_cons hA
  obtain ⟨rfl, rfl, rfl⟩ := trodAll_nil r0
  obtain rfl : args = #[v0] := by cases args; simp_all
  obtain ⟨rfl, rfl⟩ := nv_open hT hV
  obtain ⟨x0, rfl, rfl, rfl, w0⟩ := open_string Tryd.underlying9 (hval 0 9 v0 rfl rfl) h0
  clear hA0 hV0
  refine (walk x0 W w0 (Lib.hid hT)).mono fun e W' ⟨he, bel⟩ => ?_
  subst he
  exact ⟨_, rfl, _, _, _, [], _, [], hW', trodAll_mk1 (shut_bool Tryd.underlying4 _), (trodAll_cons_mk (shut_string Tryd.underlying9 w0) trodAll_mk0), nv_shut (hT.below bel) _, bel.frame _, fun h => by cases h⟩

theorem laid_met (os : Os) : laidMet Tryd.prog Rows.fnExactParseBookRow.laid ((World.doorLaid Tryd.prog 2000 os).forCall (fun _ _ => 0) ⟨#[], #[.string ByteArray.empty], []⟩).memory :=
  laidMet_of_run' 8 (by kernel_rfl) (by kernel_rfl)
theorem readsIt (os : Os) {H : Type} (enc : TypeId × Value → H) : ∃ ds places, DataW.whole enc Tryd.prog ((World.doorLaid Tryd.prog 2000 os).forCall (fun _ _ => 0) ⟨#[], #[.string ByteArray.empty], []⟩).memory Tryd.f6.params.toList Rows.fnExactParseBookSpec.vars false (#[.string ByteArray.empty] : Array Value).toList 8 = some (ds, [], places) :=
  ⟨[.lit (.string [])], [], by kernel_rfl⟩

set_option maxRecDepth 100000 in
theorem lifted (os : Os) (started : os.Started) (H : Type) (enc : TypeId × Value → H) (F : Stop.Interp) :
    ReturnsInHanded {} Tryd.checked os 6 .any ((OpenSpec.ofChange Rows.fnExactParseBookSpec).preRow enc Tryd.prog Tryd.f6 Rows.fnExactParseBookRow.domain false Rows.fnExactParseBookRow.laid) (((OpenSpec.ofChange Rows.fnExactParseBookSpec).at F).post enc Tryd.prog Tryd.f6 false true false false) := by
  obtain ⟨d, places, hx⟩ := readsIt os enc
  refine returnsInHanded_of_row (C := Tryd.checked) (s := OpenSpec.ofChange Rows.fnExactParseBookSpec) own started (by kernel_rfl) Tryd.func6
    (witness_row_at (enc := enc) (C := Tryd.checked) false (World.doorLaid Tryd.prog 2000 os) #[.string ByteArray.empty] rfl (by kernel_rfl) (by kernel_rfl) (by kernel_rfl)
      (OpenSpec.preRow_of_cond 8 hx (by kernel_rfl) (fun k hk => by cases hk) (by kernel_rfl) (laid_met os))) ?_
  intro W base args ds gs before hval hW _ _ _ hL _ _
  exact contract H enc W base args ds gs before hval hW hL

theorem said : Rows.FnExactParseBookSaid :=
  OpenClaim.holds_of_cond 6 Tryd.f6 rfl rfl rfl rfl rfl rfl rfl ⟨rfl, rfl, rfl, rfl, rfl⟩ rfl rfl rfl rfl rfl (by kernel_rfl) Tryd.func6 (by kernel_rfl)
    (of_decide_eq_true (by kernel_rfl)) (by unfold Func.isWrapper; first | (rw [if_pos (by decide +kernel)]; kernel_rfl) | (rw [if_neg (by decide +kernel)]; exact ⟨rfl, rfl⟩))
    (fun os started H enc _ F => by rw [OpenClaim.pre_eq_preRow]; exact lifted os started H enc F)

theorem plain (f : FuncId) (fn : Func) (hf : Tryd.pinned.checked.prog.funcNamed "loop.example/g00933/laws.FnExactParseBook" = some f) (hfn : Tryd.pinned.checked.prog.funcs[f]? = some fn) :
    true = Tryd.pinned.checked.prog.looks [] ∧ ∀ (j : Nat) t, fn.params[j]? = some t → Tryd.pinned.checked.prog.wantsStandIn t = false := by
  obtain rfl : f = 6 := Option.some.inj ((show Tryd.prog.funcNamed "loop.example/g00933/laws.FnExactParseBook" = some 6 by kernel_rfl).symm.trans hf) |>.symm
  obtain rfl : fn = Tryd.f6 := (Option.some.inj (Tryd.func6.symm.trans hfn)).symm
  refine ⟨by kernel_rfl, fun j t ht => ?_⟩
  rw [Tryd.params6] at ht
  obtain rfl : t = 9 := by simpa using Array.mem_of_getElem? ht
  exact (show Tryd.prog.wantsStandIn 9 = false by kernel_rfl)

theorem proved : Rows.FnExactParseBookCardSaid :=
  Claim7.holds_tied_plain_at .later [] _ _ _ _ said (fun _ h => by cases h) (by kernel_rfl) (fun _ h => by cases h) fnExactParseBook_row_tie rfl ⟨rfl, rfl⟩ (by kernel_rfl) rfl plain (by kernel_rfl)
#print axioms proved
end Go.Proofs.YtnlljdepcldibaaDoor.fnExactParseBook
