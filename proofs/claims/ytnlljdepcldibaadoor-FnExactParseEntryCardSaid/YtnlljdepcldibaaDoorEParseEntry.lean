/-
  FnExactParseEntry holds: at every text ParseEntry answers as its model answers, and the argument reads behind the call as it read before it; the variables that strconv reads are tied to the program's text by the card.
  Conditions: none of our own.
-/
import Derived.Test.YtnlljdepcldibaaDoorEtH
import Derived.Test.YtnlljdepcldibaaDoorParC0
import Derived.WalkKit
import Derived.ProofKit
import Derived.OpenShut
import Derived.Carry
namespace Go.Proofs.YtnlljdepcldibaaDoor.fnExactParseEntry
open Go.ChangeShapes Go.WideShapes Go.ChangeAt Go.RowKit
open Go.ChangeMaps (open_string shut_string)
open reads base ty pow pcrd ent
set_option linter.unusedVariables false
set_option linter.unusedSimpArgs false

set_option maxHeartbeats 4000000 in
set_option maxRecDepth 100000 in
theorem walk (x0 : ByteArray) (w : World) (hs0 : x0.size ≤ maxLen) (hT : Hid (VarsP w)) : Calls Tryd.prog 4 #[.string x0] w (LawPost w) := by
  unfold maxLen at hs0
  by_cases big : 1048576 < x0.size
  · have hb : decide ((1048576 : Int) < (x0.size : Int)) = true := by simp; omega
    have hb2 : decide (1048576 < x0.size) = true := by simpa using big
    go_enter Tryd.func4, Tryd.ntmps4
    go_wp2_with fail
    go_ret
    exact ⟨rfl, Below.refl _ _⟩
  have hb : decide ((1048576 : Int) < (x0.size : Int)) = false := by simp; omega
  have hb2 : decide (1048576 < x0.size) = false := by simpa using big
  have hs : x0.size ≤ 1048576 := by omega
  clear big
  obtain ⟨⟨x, ok⟩, hr⟩ := pt_ex x0
  have HR := Lib.hid hr
  clear hr
  go_enter Tryd.func4, Tryd.ntmps4
  go_wp2_with fail
  refine (parseEntry_model x0 (x, ok) _ hs HR).mono ?_
  rintro e w1 ⟨rfl, b⟩
  rw [ptV_mk]
  have HB1 := Lib.hid (b.alloc b.size (.cells #[.int .i64 x.frm, .int .i64 x.to_, .int .i64 x.tape, .int .i64 x.comp, .int .i64 x.slope, .bool x.back] 26))
  have HT1 := Lib.hid ((hT.out.below b).below ((Below.refl _ _).alloc (Nat.le_refl _) (.cells #[.int .i64 x.frm, .int .i64 x.to_, .int .i64 x.tape, .int .i64 x.comp, .int .i64 x.slope, .bool x.back] 26)))
  have HX1 := Lib.hid (Blk.new w1 26 #[.int .i64 x.frm, .int .i64 x.to_, .int .i64 x.tape, .int .i64 x.comp, .int .i64 x.slope, .bool x.back])
  clear b
  go_wp2_with fail
  obtain ⟨X, HX⟩ : ∃ X, Hid (w1.heap.size = X) := ⟨_, Lib.hid rfl⟩
  obtain ⟨W1, HW1⟩ : ∃ W, Hid (w1.alloc (.cells #[.int .i64 x.frm, .int .i64 x.to_, .int .i64 x.tape, .int .i64 x.comp, .int .i64 x.slope, .bool x.back] 26) = W) := ⟨_, Lib.hid rfl⟩
  rw [HW1.out] at HB1 HT1
  rw [HW1.out, HX.out] at HX1
  rw [HW1.out, HX.out]
  clear HW1 HX
  refine (parseE_impl x0 (x, ok) _ hs HR HT1).mono ?_
  rintro e w2 ⟨rfl, b⟩
  rw [ptV_mk]
  have HB2 := Lib.hid ((HB1.out.trans (b.mono HB1.out.size)).alloc (Nat.le_trans HB1.out.size b.size) (.cells #[.int .i64 x.frm, .int .i64 x.to_, .int .i64 x.tape, .int .i64 x.comp, .int .i64 x.slope, .bool x.back] 26))
  have hxl := (HX1.out.below b HX1.out.lt).lt
  have HX2 := Lib.hid ((HX1.out.below b HX1.out.lt).alloc (.cells #[.int .i64 x.frm, .int .i64 x.to_, .int .i64 x.tape, .int .i64 x.comp, .int .i64 x.slope, .bool x.back] 26))
  have HY2 := Lib.hid (Blk.new w2 26 #[.int .i64 x.frm, .int .i64 x.to_, .int .i64 x.tape, .int .i64 x.comp, .int .i64 x.slope, .bool x.back])
  clear b HB1 HX1 HT1
  go_upto_region 5 with fail
  obtain ⟨Y, HY⟩ : ∃ Y, Hid (w2.heap.size = Y) := ⟨_, Lib.hid rfl⟩
  obtain ⟨W2, HW2⟩ : ∃ W, Hid (w2.alloc (.cells #[.int .i64 x.frm, .int .i64 x.to_, .int .i64 x.tape, .int .i64 x.comp, .int .i64 x.slope, .bool x.back] 26) = W) := ⟨_, Lib.hid rfl⟩
  rw [HW2.out] at HB2 HX2
  rw [HW2.out, HY.out] at HY2
  rw [HY.out] at hxl
  rw [HW2.out, HY.out]
  clear HW2 HY
  obtain ⟨x0', x1, x2, x3, x4, x5, xl⟩ := (⟨HX2.out.cell 0, HX2.out.cell 1, HX2.out.cell 2, HX2.out.cell 3, HX2.out.cell 4, HX2.out.cell 5, HX2.out.lt⟩ : W2.cell? ⟨X, 0, none⟩ = some (.int .i64 x.frm) ∧ W2.cell? ⟨X, 1, none⟩ = some (.int .i64 x.to_) ∧ W2.cell? ⟨X, 2, none⟩ = some (.int .i64 x.tape) ∧ W2.cell? ⟨X, 3, none⟩ = some (.int .i64 x.comp) ∧ W2.cell? ⟨X, 4, none⟩ = some (.int .i64 x.slope) ∧ W2.cell? ⟨X, 5, none⟩ = some (.bool x.back) ∧ X < W2.heap.size)
  obtain ⟨y0, y1, y2, y3, y4, y5, yl⟩ := (⟨HY2.out.cell 0, HY2.out.cell 1, HY2.out.cell 2, HY2.out.cell 3, HY2.out.cell 4, HY2.out.cell 5, HY2.out.lt⟩ : W2.cell? ⟨Y, 0, none⟩ = some (.int .i64 x.frm) ∧ W2.cell? ⟨Y, 1, none⟩ = some (.int .i64 x.to_) ∧ W2.cell? ⟨Y, 2, none⟩ = some (.int .i64 x.tape) ∧ W2.cell? ⟨Y, 3, none⟩ = some (.int .i64 x.comp) ∧ W2.cell? ⟨Y, 4, none⟩ = some (.int .i64 x.slope) ∧ W2.cell? ⟨Y, 5, none⟩ = some (.bool x.back) ∧ Y < W2.heap.size)
  go_wp2_with fail
  refine (eq_entry x _).mono ?_
  rintro e w4 ⟨rfl, b⟩
  have HB4 := Lib.hid (HB2.out.trans (b.mono HB2.out.size))
  clear b
  go_wp2_with fail
  go_ret
  exact ⟨rfl, HB4.out⟩


theorem laidOut : laidOutB Tryd.prog = true := by kernel_rfl
set_option maxRecDepth 100000 in
theorem contract (H : Type) (enc : TypeId × Value → H) (W : World) (base : Nat) (args : Array Value) (ds gs : List (DataW H)) (before : List MemPlace)
    (hval : ∀ (j : Nat) t v, Tryd.f4.params[j]? = some t → args[j]? = some v → Value.okWide Tryd.prog W .any base t v)
    (hW : DataW.Whole enc Tryd.prog Tryd.f4.params.toList Rows.fnExactParseEntrySpec.vars false W args.toList ds gs before) (hL : laidMetH Tryd.prog Rows.fnExactParseEntryRow.laid W) :
    Calls Tryd.prog 4 args W fun e W' => ∃ v, e = .returned v ∧ Rows.fnExactParseEntrySpec.post enc Tryd.prog Tryd.f4 false true false false W args v W' := by
  have hT : VarsP W := givenV (row := Rows.fnExactParseEntryRow) (by kernel_rfl) (by kernel_rfl) (by kernel_rfl) hL
  have hW' := hW
  obtain ⟨p, q, hA0, hV0, rfl, hfz, hnd⟩ := hW
  have hA : DataW.TrodAll enc Tryd.prog W 0 (fun _ => true) true Tryd.f4.params.toList args.toList ds p := hA0
  have hV : DataW.TrodVars enc Tryd.prog W (fun _ => true) [] gs q := hV0
  rw [Tryd.params4] at hA hval
  obtain ⟨v0, vs0, d0, ds0, p0, q0, hargs, rfl, rfl, h0, r0⟩ := trodAll_cons hA
  obtain ⟨rfl, rfl, rfl⟩ := trodAll_nil r0
  obtain rfl : args = #[v0] := by cases args; simp_all
  obtain ⟨rfl, rfl⟩ := nv_open hT hV
  obtain ⟨x0, rfl, rfl, rfl, w0⟩ := open_string Tryd.underlying9 (hval 0 9 v0 rfl rfl) h0
  clear hA0 hV0
  refine (walk x0 W w0 (Lib.hid hT)).mono fun e W' ⟨he, bel⟩ => ?_
  subst he
  exact ⟨_, rfl, _, _, _, [], _, [], hW', trodAll_mk1 (shut_bool Tryd.underlying4 _), (trodAll_cons_mk (shut_string Tryd.underlying9 w0) trodAll_mk0), nv_shut (hT.below bel) _, bel.frame _, fun h => by cases h⟩

theorem laid_met (os : Os) : laidMet Tryd.prog Rows.fnExactParseEntryRow.laid ((World.doorLaid Tryd.prog 2000 os).forCall (fun _ _ => 0) ⟨#[], #[.string ByteArray.empty], []⟩).memory :=
  laidMet_of_run' 8 (by kernel_rfl) (by kernel_rfl)
theorem readsIt (os : Os) {H : Type} (enc : TypeId × Value → H) : ∃ ds places, DataW.whole enc Tryd.prog ((World.doorLaid Tryd.prog 2000 os).forCall (fun _ _ => 0) ⟨#[], #[.string ByteArray.empty], []⟩).memory Tryd.f4.params.toList Rows.fnExactParseEntrySpec.vars false (#[.string ByteArray.empty] : Array Value).toList 8 = some (ds, [], places) :=
  ⟨[.lit (.string [])], [], by kernel_rfl⟩

set_option maxRecDepth 100000 in
theorem lifted (os : Os) (started : os.Started) (H : Type) (enc : TypeId × Value → H) (F : Stop.Interp) :
    ReturnsInHanded {} Tryd.checked os 4 .any ((OpenSpec.ofChange Rows.fnExactParseEntrySpec).preRow enc Tryd.prog Tryd.f4 Rows.fnExactParseEntryRow.domain false Rows.fnExactParseEntryRow.laid) (((OpenSpec.ofChange Rows.fnExactParseEntrySpec).at F).post enc Tryd.prog Tryd.f4 false true false false) := by
  obtain ⟨d, places, hx⟩ := readsIt os enc
  refine returnsInHanded_of_row (C := Tryd.checked) (s := OpenSpec.ofChange Rows.fnExactParseEntrySpec) own started (by kernel_rfl) Tryd.func4
    (witness_row_at (enc := enc) (C := Tryd.checked) false (World.doorLaid Tryd.prog 2000 os) #[.string ByteArray.empty] rfl (by kernel_rfl) (by kernel_rfl) (by kernel_rfl)
      (OpenSpec.preRow_of_cond 8 hx (by kernel_rfl) (fun k hk => by cases hk) (by kernel_rfl) (laid_met os))) ?_
  intro W base args ds gs before hval hW _ _ _ hL _ _
  exact contract H enc W base args ds gs before hval hW hL

theorem said : Rows.FnExactParseEntrySaid :=
  OpenClaim.holds_of_cond 4 Tryd.f4 rfl rfl rfl rfl rfl rfl rfl ⟨rfl, rfl, rfl, rfl, rfl⟩ rfl rfl rfl rfl rfl (by kernel_rfl) Tryd.func4 (by kernel_rfl)
    (of_decide_eq_true (by kernel_rfl)) (by unfold Func.isWrapper; first | (rw [if_pos (by decide +kernel)]; kernel_rfl) | (rw [if_neg (by decide +kernel)]; exact ⟨rfl, rfl⟩))
    (fun os started H enc _ F => by rw [OpenClaim.pre_eq_preRow]; exact lifted os started H enc F)

theorem plain (f : FuncId) (fn : Func) (hf : Tryd.pinned.checked.prog.funcNamed "loop.example/g00933/laws.FnExactParseEntry" = some f) (hfn : Tryd.pinned.checked.prog.funcs[f]? = some fn) :
    true = Tryd.pinned.checked.prog.looks [] ∧ ∀ (j : Nat) t, fn.params[j]? = some t → Tryd.pinned.checked.prog.wantsStandIn t = false := by
  obtain rfl : f = 4 := Option.some.inj ((show Tryd.prog.funcNamed "loop.example/g00933/laws.FnExactParseEntry" = some 4 by kernel_rfl).symm.trans hf) |>.symm
  obtain rfl : fn = Tryd.f4 := (Option.some.inj (Tryd.func4.symm.trans hfn)).symm
  refine ⟨by kernel_rfl, fun j t ht => ?_⟩
  rw [Tryd.params4] at ht
  obtain rfl : t = 9 := by simpa using Array.mem_of_getElem? ht
  exact (show Tryd.prog.wantsStandIn 9 = false by kernel_rfl)

theorem proved : Rows.FnExactParseEntryCardSaid :=
  Claim7.holds_tied_plain_at .later [] _ _ _ _ said (fun _ h => by cases h) (by kernel_rfl) (fun _ h => by cases h) fnExactParseEntry_row_tie rfl ⟨rfl, rfl⟩ (by kernel_rfl) rfl plain (by kernel_rfl)
#print axioms proved
end Go.Proofs.YtnlljdepcldibaaDoor.fnExactParseEntry
