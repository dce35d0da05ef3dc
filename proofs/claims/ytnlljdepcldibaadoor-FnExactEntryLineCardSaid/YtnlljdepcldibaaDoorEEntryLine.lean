/-
  FnExactEntryLine holds: at every argument EntryLine answers as its model answers, and the arguments read behind the call as they read before it.
  Conditions: none of our own.
-/
import Derived.Test.YtnlljdepcldibaaDoorEtB
import Derived.Test.YtnlljdepcldibaaDoorPow
import Derived.WalkKit
import Derived.ProofKit
import Derived.OpenShut
import Derived.Carry
namespace Go.Proofs.YtnlljdepcldibaaDoor.fnExactEntryLine
open Go.ChangeShapes Go.WideShapes Go.ChangeAt Go.RowKit
open Go.ChangeMaps (open_string shut_string)
open reads base ty en ent pow
set_option linter.unusedVariables false
set_option linter.unusedSimpArgs false

theorem form (x : En) : ∃ (v0 : ByteArray) (v1 : Bool), ansLn x = .tuple #[.string v0, .bool v1] := by
  unfold ansLn
  split
  · exact ⟨_, _, rfl⟩
  · exact ⟨_, _, rfl⟩
set_option maxHeartbeats 4000000 in
set_option maxRecDepth 100000 in
theorem walk (x0 : En) (w : World) (hT : Hid (TabP w)) : Calls Tryd.prog 3 #[.agg #[.int .i64 x0.frm, .int .i64 x0.to_, .int .i64 x0.tape, .int .i64 x0.comp, .int .i64 x0.slope, .bool x0.back]] w (LawPost w) := by
  obtain ⟨v0, v1, hfm⟩ := form x0
  have HFm := Lib.hid hfm
  clear hfm
  go_enter Tryd.func3, Tryd.ntmps3
  go_wp2_with fail
  obtain ⟨W1, HW1⟩ : ∃ W1, Hid (w.alloc (.cells #[.int .i64 x0.frm, .int .i64 x0.to_, .int .i64 x0.tape, .int .i64 x0.comp, .int .i64 x0.slope, .bool x0.back] 23) = W1) := ⟨_, Lib.hid rfl⟩
  have H1 := Lib.hid (show Blk W1 (w.heap.size) 23 #[.int .i64 x0.frm, .int .i64 x0.to_, .int .i64 x0.tape, .int .i64 x0.comp, .int .i64 x0.slope, .bool x0.back] by rw [← HW1.out]; exact (Blk.new _ _ _))
  have H2 := Lib.hid (show Below w.heap.size w W1 by rw [← HW1.out]; exact (Below.refl w.heap.size w).alloc (Nat.le_refl _) _)
  rw [HW1.out]
  clear HW1
  refine (ty.to_entry x0 _).mono ?_
  rintro e W2 ⟨rfl, b⟩
  have H3 := Lib.hid (H2.out.trans (b.mono H2.out.size))
  have H4 := Lib.hid (show Blk W2 (w.heap.size) 23 #[.int .i64 x0.frm, .int .i64 x0.to_, .int .i64 x0.tape, .int .i64 x0.comp, .int .i64 x0.slope, .bool x0.back] from H1.out.below b H1.out.lt)
  clear b H2 H1
  go_wp2_with fail
  have HTab := Lib.hid (hT.out.below H3.out)
  refine (ent.entryLine_model x0 _).mono ?_
  rintro e W3 ⟨rfl, b⟩
  rw [HFm.out]
  have H5 := Lib.hid (H3.out.trans (b.mono H3.out.size))
  have H6 := Lib.hid (show Blk W3 (w.heap.size) 23 #[.int .i64 x0.frm, .int .i64 x0.to_, .int .i64 x0.tape, .int .i64 x0.comp, .int .i64 x0.slope, .bool x0.back] from H4.out.below b H4.out.lt)
  clear b H3 H4
  clear HTab
  have q_x0l := H6.out.lt
  have q_x00 : W3.cell? ⟨w.heap.size, 0, none⟩ = some (.int .i64 x0.frm) := H6.out.cell 0
  have q_x01 : W3.cell? ⟨w.heap.size, 1, none⟩ = some (.int .i64 x0.to_) := H6.out.cell 1
  have q_x02 : W3.cell? ⟨w.heap.size, 2, none⟩ = some (.int .i64 x0.tape) := H6.out.cell 2
  have q_x03 : W3.cell? ⟨w.heap.size, 3, none⟩ = some (.int .i64 x0.comp) := H6.out.cell 3
  have q_x04 : W3.cell? ⟨w.heap.size, 4, none⟩ = some (.int .i64 x0.slope) := H6.out.cell 4
  have q_x05 : W3.cell? ⟨w.heap.size, 5, none⟩ = some (.bool x0.back) := H6.out.cell 5
  go_wp2_with fail
  clear q_x0l q_x00 q_x01 q_x02 q_x03 q_x04 q_x05
  refine (ty.to_entry x0 _).mono ?_
  rintro e W4 ⟨rfl, b⟩
  have H7 := Lib.hid (H5.out.trans (b.mono H5.out.size))
  have H8 := Lib.hid (show Blk W4 (w.heap.size) 23 #[.int .i64 x0.frm, .int .i64 x0.to_, .int .i64 x0.tape, .int .i64 x0.comp, .int .i64 x0.slope, .bool x0.back] from H6.out.below b H6.out.lt)
  clear b H5 H6
  go_wp2_with fail
  have HTab := Lib.hid (hT.out.below H7.out)
  refine (ent.entryLine_impl x0 _ HTab).mono ?_
  rintro e W5 ⟨rfl, b⟩
  rw [HFm.out]
  have H9 := Lib.hid (H7.out.trans (b.mono H7.out.size))
  have H10 := Lib.hid (show Blk W5 (w.heap.size) 23 #[.int .i64 x0.frm, .int .i64 x0.to_, .int .i64 x0.tape, .int .i64 x0.comp, .int .i64 x0.slope, .bool x0.back] from H8.out.below b H8.out.lt)
  clear b H7 H8
  clear HTab
  go_wp2_with fail
  go_ret
  exact ⟨rfl, H9.out⟩

theorem laidOut : laidOutB Tryd.prog = true := by kernel_rfl
set_option maxRecDepth 100000 in
theorem contract (H : Type) (enc : TypeId × Value → H) (W : World) (base : Nat) (args : Array Value) (ds gs : List (DataW H)) (before : List MemPlace)
    (hval : ∀ (j : Nat) t v, Tryd.f3.params[j]? = some t → args[j]? = some v → Value.okWide Tryd.prog W .any base t v)
    (hW : DataW.Whole enc Tryd.prog Tryd.f3.params.toList Rows.fnExactEntryLineSpec.vars false W args.toList ds gs before) (hL : laidMetH Tryd.prog Rows.fnExactEntryLineRow.laid W) :
    Calls Tryd.prog 3 args W fun e W' => ∃ v, e = .returned v ∧ Rows.fnExactEntryLineSpec.post enc Tryd.prog Tryd.f3 false true false false W args v W' := by
  have hT : TabP W := given10 (row := Rows.fnExactEntryLineRow) (by kernel_rfl) hL
  have hW' := hW
  obtain ⟨p, q, hA0, hV0, rfl, hfz, hnd⟩ := hW
  have hA : DataW.TrodAll enc Tryd.prog W 0 (fun _ => true) true Tryd.f3.params.toList args.toList ds p := hA0
  have hV : DataW.TrodVars enc Tryd.prog W (fun _ => true) [] gs q := hV0
  rw [Tryd.params3] at hA hval
  obtain ⟨v0, vs0, d0, ds0, p0, q0, hargs, rfl, rfl, h0, r0⟩ := trodAll_cons hA
  obtain ⟨rfl, rfl, rfl⟩ := trodAll_nil r0
  obtain rfl : args = #[v0] := by cases args; simp_all
  obtain ⟨rfl, rfl⟩ := none_open hT hV
  have k0 := h0
  have lt0 : ∀ x ∈ p0, x.block < W.heap.size := by obtain ⟨m, hm⟩ := k0; exact DataW.trod_lt m _ _ _ hm
  obtain ⟨x0, rfl⟩ := ty.open_entry (hval 0 23 v0 rfl rfl) h0
  clear hA0 hV0
  refine (walk x0 W  (Lib.hid hT)).mono fun e W' ⟨he, bel⟩ => ?_
  subst he
  exact ⟨_, rfl, _, _, _, [], _, [], hW', trodAll_mk1 (shut_bool Tryd.underlying4 _), (trodAll_cons_mk (Below.trod laidOut (by kernel_rfl) (of_decide_eq_true (by kernel_rfl)) k0 bel lt0) trodAll_mk0), none_shut (hT.below bel) _, bel.frame _, fun h => by cases h⟩

theorem laid_met (os : Os) : laidMet Tryd.prog Rows.fnExactEntryLineRow.laid ((World.doorLaid Tryd.prog 2000 os).forCall (fun _ _ => 0) ⟨#[], #[.agg #[.int .i64 0, .int .i64 0, .int .i64 0, .int .i64 0, .int .i64 0, .bool false]], []⟩).memory :=
  laidMet_of_run' 8 (by kernel_rfl) (by kernel_rfl)
theorem readsIt (os : Os) {H : Type} (enc : TypeId × Value → H) : ∃ ds places, DataW.whole enc Tryd.prog ((World.doorLaid Tryd.prog 2000 os).forCall (fun _ _ => 0) ⟨#[], #[.agg #[.int .i64 0, .int .i64 0, .int .i64 0, .int .i64 0, .int .i64 0, .bool false]], []⟩).memory Tryd.f3.params.toList Rows.fnExactEntryLineSpec.vars false (#[.agg #[.int .i64 0, .int .i64 0, .int .i64 0, .int .i64 0, .int .i64 0, .bool false]] : Array Value).toList 8 = some (ds, [], places) :=
  ⟨[.agg [.lit (.int .i64 0), .lit (.int .i64 0), .lit (.int .i64 0), .lit (.int .i64 0), .lit (.int .i64 0), .lit (.bool false)]], [], by kernel_rfl⟩

set_option maxRecDepth 100000 in
theorem lifted (os : Os) (started : os.Started) (H : Type) (enc : TypeId × Value → H) (F : Stop.Interp) :
    ReturnsInHanded {} Tryd.checked os 3 .any ((OpenSpec.ofChange Rows.fnExactEntryLineSpec).preRow enc Tryd.prog Tryd.f3 Rows.fnExactEntryLineRow.domain false Rows.fnExactEntryLineRow.laid) (((OpenSpec.ofChange Rows.fnExactEntryLineSpec).at F).post enc Tryd.prog Tryd.f3 false true false false) := by
  obtain ⟨d, places, hx⟩ := readsIt os enc
  refine returnsInHanded_of_row (C := Tryd.checked) (s := OpenSpec.ofChange Rows.fnExactEntryLineSpec) own started (by kernel_rfl) Tryd.func3
    (witness_row_at (enc := enc) (C := Tryd.checked) false (World.doorLaid Tryd.prog 2000 os) #[.agg #[.int .i64 0, .int .i64 0, .int .i64 0, .int .i64 0, .int .i64 0, .bool false]] rfl (by kernel_rfl) (by kernel_rfl) (by kernel_rfl)
      (OpenSpec.preRow_of_cond 8 hx (by kernel_rfl) (fun k hk => by cases hk) (by kernel_rfl) (laid_met os))) ?_
  intro W base args ds gs before hval hW _ _ _ hL _ _
  exact contract H enc W base args ds gs before hval hW hL

theorem said : Rows.FnExactEntryLineSaid :=
  OpenClaim.holds_of_cond 3 Tryd.f3 rfl rfl rfl rfl rfl rfl rfl ⟨rfl, rfl, rfl, rfl, rfl⟩ rfl rfl rfl rfl rfl (by kernel_rfl) Tryd.func3 (by kernel_rfl)
    (of_decide_eq_true (by kernel_rfl)) (by unfold Func.isWrapper; first | (rw [if_pos (by decide +kernel)]; kernel_rfl) | (rw [if_neg (by decide +kernel)]; exact ⟨rfl, rfl⟩))
    (fun os started H enc _ F => by rw [OpenClaim.pre_eq_preRow]; exact lifted os started H enc F)

theorem plain (f : FuncId) (fn : Func) (hf : Tryd.pinned.checked.prog.funcNamed "loop.example/g00933/laws.FnExactEntryLine" = some f) (hfn : Tryd.pinned.checked.prog.funcs[f]? = some fn) :
    true = Tryd.pinned.checked.prog.looks [] ∧ ∀ (j : Nat) t, fn.params[j]? = some t → Tryd.pinned.checked.prog.wantsStandIn t = false := by
  obtain rfl : f = 3 := Option.some.inj ((show Tryd.prog.funcNamed "loop.example/g00933/laws.FnExactEntryLine" = some 3 by kernel_rfl).symm.trans hf) |>.symm
  obtain rfl : fn = Tryd.f3 := (Option.some.inj (Tryd.func3.symm.trans hfn)).symm
  refine ⟨by kernel_rfl, fun j t ht => ?_⟩
  rw [Tryd.params3] at ht
  obtain rfl : t = 23 := by simpa using Array.mem_of_getElem? ht
  exact (show Tryd.prog.wantsStandIn 23 = false by kernel_rfl)

theorem proved : Rows.FnExactEntryLineCardSaid :=
  Claim7.holds_tied_plain_at .later [] _ _ _ _ said (fun _ h => by cases h) (by kernel_rfl) (fun _ h => by cases h) fnExactEntryLine_row_tie rfl ⟨rfl, rfl⟩ (by kernel_rfl) rfl plain (by kernel_rfl)
#print axioms proved
end Go.Proofs.YtnlljdepcldibaaDoor.fnExactEntryLine
