/-
  FnExactIsEntry holds: at every argument IsEntry answers as its model answers, and the arguments read behind the call as they read before it.
  Conditions: none of our own.
-/
import Derived.Test.YtnlljdepcldibaaEiA
import Derived.Test.YtnlljdepcldibaaEnd
import Derived.Test.YtnlljdepcldibaaRows
import Derived.WalkKit
import Derived.ProofKit
import Derived.OpenShut
import Derived.Carry
namespace Go.Proofs.Ytnlljdepcldibaa.fnExactIsEntry
open Go.ChangeShapes Go.WideShapes Go.ChangeAt Go.RowKit
open Go.ChangeMaps (open_string shut_string)
open reads base ty en eni
set_option linter.unusedVariables false
set_option linter.unusedSimpArgs false

theorem own : ownKnob Try.prog.godebug = none := by kernel_rfl
def LawPost (w : World) (e : Ending) (w' : World) : Prop := e = .returned (.bool true) ∧ Below w.heap.size w w'
set_option maxHeartbeats 4000000 in
set_option maxRecDepth 100000 in
theorem walk (x0 : En) (w : World)  : Calls Try.prog 3 #[.agg #[.int .i64 x0.frm, .int .i64 x0.to_, .int .i64 x0.tape, .int .i64 x0.comp, .int .i64 x0.slope, .bool x0.back]] w (LawPost w) := by
  go_enter Try.func3, Try.ntmps3
  go_wp2_with fail
  obtain ⟨W1, HW1⟩ : ∃ W1, Hid (w.alloc (.cells #[.int .i64 x0.frm, .int .i64 x0.to_, .int .i64 x0.tape, .int .i64 x0.comp, .int .i64 x0.slope, .bool x0.back] 23) = W1) := ⟨_, Lib.hid rfl⟩
  have H1 := Lib.hid (show Blk W1 (w.heap.size) 23 #[.int .i64 x0.frm, .int .i64 x0.to_, .int .i64 x0.tape, .int .i64 x0.comp, .int .i64 x0.slope, .bool x0.back] by rw [← HW1.out]; exact (Blk.new _ _ _))
  have H2 := Lib.hid (show Below w.heap.size w W1 by rw [← HW1.out]; exact (Below.refl w.heap.size w).alloc (Nat.le_refl _) _)
  rw [HW1.out]
  clear HW1
  refine (ty.to_entry x0 _).mono ?_
  rintro e W2 ⟨rfl, b⟩
  have H3 := Lib.hid (H2.out.trans (b.mono H2.out.size))
  have H4 := Lib.hid (show Blk W2 (w.heap.size) 23 #[.int .i64 x0.frm, .int .i64 x0.to_, .int .i64 x0.tape, .int .i64 x0.comp, .int .i64 x0.slope, .bool x0.back] from H1.out.below b H1.out.lt)
  clear b H2 H1
  go_wp2_with fail
  refine (isEntry_model x0 _).mono ?_
  rintro e W3 ⟨rfl, b⟩
  have H5 := Lib.hid (H3.out.trans (b.mono H3.out.size))
  have H6 := Lib.hid (show Blk W3 (w.heap.size) 23 #[.int .i64 x0.frm, .int .i64 x0.to_, .int .i64 x0.tape, .int .i64 x0.comp, .int .i64 x0.slope, .bool x0.back] from H4.out.below b H4.out.lt)
  clear b H3 H4
  have q_x0l := H6.out.lt
  have q_x00 : W3.cell? ⟨w.heap.size, 0, none⟩ = some (.int .i64 x0.frm) := H6.out.cell 0
  have q_x01 : W3.cell? ⟨w.heap.size, 1, none⟩ = some (.int .i64 x0.to_) := H6.out.cell 1
  have q_x02 : W3.cell? ⟨w.heap.size, 2, none⟩ = some (.int .i64 x0.tape) := H6.out.cell 2
  have q_x03 : W3.cell? ⟨w.heap.size, 3, none⟩ = some (.int .i64 x0.comp) := H6.out.cell 3
  have q_x04 : W3.cell? ⟨w.heap.size, 4, none⟩ = some (.int .i64 x0.slope) := H6.out.cell 4
  have q_x05 : W3.cell? ⟨w.heap.size, 5, none⟩ = some (.bool x0.back) := H6.out.cell 5
  go_wp2_with fail
  clear q_x0l q_x00 q_x01 q_x02 q_x03 q_x04 q_x05
  refine (ty.to_entry x0 _).mono ?_
  rintro e W4 ⟨rfl, b⟩
  have H7 := Lib.hid (H5.out.trans (b.mono H5.out.size))
  have H8 := Lib.hid (show Blk W4 (w.heap.size) 23 #[.int .i64 x0.frm, .int .i64 x0.to_, .int .i64 x0.tape, .int .i64 x0.comp, .int .i64 x0.slope, .bool x0.back] from H6.out.below b H6.out.lt)
  clear b H5 H6
  go_wp2_with fail
  refine (eni.isEntry_impl x0 _).mono ?_
  rintro e W5 ⟨rfl, b⟩
  have H9 := Lib.hid (H7.out.trans (b.mono H7.out.size))
  have H10 := Lib.hid (show Blk W5 (w.heap.size) 23 #[.int .i64 x0.frm, .int .i64 x0.to_, .int .i64 x0.tape, .int .i64 x0.comp, .int .i64 x0.slope, .bool x0.back] from H8.out.below b H8.out.lt)
  clear b H7 H8
  go_wp2_with fail
  go_ret
  exact ⟨rfl, H9.out⟩

theorem laidOut : laidOutB Try.prog = true := by kernel_rfl
set_option maxRecDepth 100000 in
theorem lifted (os : Os) (started : os.Started) (H : Type) (enc : TypeId × Value → H) :
    ReturnsInHanded {} Try.checked os 3 .any (Rows.fnExactIsEntrySpec.pre6 enc Try.prog Try.f3 Rows.fnExactIsEntryRow.domain false) (Rows.fnExactIsEntrySpec.post enc Try.prog Try.f3 false true false false) := by
  refine returnsInHanded_of_change (C := Try.checked) own started (by kernel_rfl) Try.func3
    (ChangeSpec.witness6 (enc := enc) (C := Try.checked) false ⟨#[], #[.agg #[.int .i64 0, .int .i64 0, .int .i64 0, .int .i64 0, .int .i64 0, .bool false]], []⟩ 8 (by kernel_rfl) (by kernel_rfl) (by kernel_rfl) (by kernel_rfl)) ?_
  intro W base args ds gs before hval0 hW hcnd _
  have hval : ∀ (j : Nat) t v, Try.f3.params[j]? = some t → args[j]? = some v → Value.okWide Try.prog W .any base t v := hval0
  have hW' := hW
  obtain ⟨p, q, hA0, hV, rfl, hfz, hnd⟩ := hW
  have hA : DataW.TrodAll enc Try.prog W 0 (fun _ => true) true Try.f3.params.toList args.toList ds p := hA0
  rw [Try.params3] at hA hval
  obtain ⟨v0, vs0, d0, ds0, p0, q0, hargs, rfl, rfl, h0, r0⟩ := trodAll_cons hA
  obtain ⟨rfl, rfl, rfl⟩ := trodAll_nil r0
  obtain rfl : args = #[v0] := by cases args; simp_all
  obtain ⟨rfl, rfl⟩ := trodVars_none hV
  have k0 := h0
  have lt0 : ∀ x ∈ p0, x.block < W.heap.size := by obtain ⟨m, hm⟩ := k0; exact DataW.trod_lt m _ _ _ hm
  obtain ⟨x0, rfl⟩ := ty.open_entry (hval 0 23 v0 rfl rfl) h0
  clear hA0 hval0
  refine (walk x0 W ).mono fun e W' ⟨he, bel⟩ => ?_
  subst he
  exact ⟨_, rfl, _, _, _, [], _, [], hW', trodAll_mk1 (shut_bool Try.underlying4 _), (trodAll_cons_mk (Below.trod laidOut (by kernel_rfl) (of_decide_eq_true (by kernel_rfl)) k0 bel lt0) trodAll_mk0), rfl, bel.frame _, fun h => by cases h⟩

theorem over : Rows.fnExactIsEntryRow.holds Try.pinned (OpenSpec.ofChange Rows.fnExactIsEntrySpec) :=
  OpenClaim.holds_of_wide 3 Try.f3 rfl rfl rfl rfl rfl rfl rfl ⟨rfl, rfl, rfl, rfl, rfl⟩ rfl rfl rfl rfl rfl (by kernel_rfl) Try.func3 (by kernel_rfl)
    (of_decide_eq_true (by kernel_rfl)) (by unfold Func.isWrapper; first | (rw [if_pos (by decide +kernel)]; kernel_rfl) | (rw [if_neg (by decide +kernel)]; exact ⟨rfl, rfl⟩))
    (fun os started H enc _ => lifted os started H enc)

theorem proved : Rows.FnExactIsEntrySaid := over
#print axioms proved
end Go.Proofs.Ytnlljdepcldibaa.fnExactIsEntry
