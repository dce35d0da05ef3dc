/-
  FnExactLegOf holds: at every argument LegOf answers as its model answers, and the arguments read behind the call as they read before it.
  Conditions: none of our own.
-/
import Derived.Test.YtnlljdepcldibaaEiA
import Derived.Test.YtnlljdepcldibaaEnd
import Derived.Test.YtnlljdepcldibaaRows
import Derived.WalkKit
import Derived.ProofKit
import Derived.OpenShut
import Derived.Carry
namespace Go.Proofs.Ytnlljdepcldibaa.fnExactLegOf
open Go.ChangeShapes Go.WideShapes Go.ChangeAt Go.RowKit
open Go.ChangeMaps (open_string shut_string)
open reads base ty en eni
set_option linter.unusedVariables false
set_option linter.unusedSimpArgs false

theorem own : ownKnob Try.prog.godebug = none := by kernel_rfl
def LawPost (w : World) (e : Ending) (w' : World) : Prop := e = .returned (.bool true) ∧ Below w.heap.size w w'
theorem form (x : En) : ∃ (v0 : Lg) (v1 : Bool), ansLegOf x = .tuple #[.agg #[.int .i64 v0.frm, .int .i64 v0.to_, .int .i64 v0.tape, .int .i64 v0.comp, .int .i64 v0.slope], .bool v1] := by
  unfold ansLegOf
  split
  · exact ⟨legEn x, true, rfl⟩
  · exact ⟨⟨0, 0, 0, 0, 0⟩, false, rfl⟩
set_option maxHeartbeats 4000000 in
set_option maxRecDepth 100000 in
theorem walk (x0 : En) (w : World)  : Calls Try.prog 4 #[.agg #[.int .i64 x0.frm, .int .i64 x0.to_, .int .i64 x0.tape, .int .i64 x0.comp, .int .i64 x0.slope, .bool x0.back]] w (LawPost w) := by
  obtain ⟨v0, v1, hfm⟩ := form x0
  have HFm := Lib.hid hfm
  clear hfm
  go_enter Try.func4, Try.ntmps4
  go_wp2_with fail
  obtain ⟨W1, HW1⟩ : ∃ W1, Hid (w.alloc (.cells #[.int .i64 x0.frm, .int .i64 x0.to_, .int .i64 x0.tape, .int .i64 x0.comp, .int .i64 x0.slope, .bool x0.back] 23) = W1) := ⟨_, Lib.hid rfl⟩
  have H1 := Lib.hid (show Blk W1 (w.heap.size) 23 #[.int .i64 x0.frm, .int .i64 x0.to_, .int .i64 x0.tape, .int .i64 x0.comp, .int .i64 x0.slope, .bool x0.back] by rw [← HW1.out]; exact (Blk.new _ _ _))
  have H2 := Lib.hid (show Below w.heap.size w W1 by rw [← HW1.out]; exact (Below.refl w.heap.size w).alloc (Nat.le_refl _) _)
  rw [HW1.out]
  clear HW1
  refine (ty.to_entry x0 _).mono ?_
  rintro e W2 ⟨rfl, b⟩
  have H3 := Lib.hid (H2.out.trans (b.mono H2.out.size))
  have H4 := Lib.hid (show Blk W2 (w.heap.size) 23 #[.int .i64 x0.frm, .int .i64 x0.to_, .int .i64 x0.tape, .int .i64 x0.comp, .int .i64 x0.slope, .bool x0.back] from H1.out.below b H1.out.lt)
  clear b H2 H1
  go_wp2_with fail
  refine (legOf_model x0 _).mono ?_
  rintro e W3 ⟨rfl, b⟩
  rw [HFm.out]
  have H5 := Lib.hid (H3.out.trans (b.mono H3.out.size))
  have H6 := Lib.hid (show Blk W3 (w.heap.size) 23 #[.int .i64 x0.frm, .int .i64 x0.to_, .int .i64 x0.tape, .int .i64 x0.comp, .int .i64 x0.slope, .bool x0.back] from H4.out.below b H4.out.lt)
  clear b H3 H4
  have q_x0l := H6.out.lt
  have q_x00 : W3.cell? ⟨w.heap.size, 0, none⟩ = some (.int .i64 x0.frm) := H6.out.cell 0
  have q_x01 : W3.cell? ⟨w.heap.size, 1, none⟩ = some (.int .i64 x0.to_) := H6.out.cell 1
  have q_x02 : W3.cell? ⟨w.heap.size, 2, none⟩ = some (.int .i64 x0.tape) := H6.out.cell 2
  have q_x03 : W3.cell? ⟨w.heap.size, 3, none⟩ = some (.int .i64 x0.comp) := H6.out.cell 3
  have q_x04 : W3.cell? ⟨w.heap.size, 4, none⟩ = some (.int .i64 x0.slope) := H6.out.cell 4
  have q_x05 : W3.cell? ⟨w.heap.size, 5, none⟩ = some (.bool x0.back) := H6.out.cell 5
  go_wp2_with fail
  clear q_x0l q_x00 q_x01 q_x02 q_x03 q_x04 q_x05
  obtain ⟨W4, HW4⟩ : ∃ W4, Hid (W3.alloc (.cells #[.int .i64 v0.frm, .int .i64 v0.to_, .int .i64 v0.tape, .int .i64 v0.comp, .int .i64 v0.slope] 29) = W4) := ⟨_, Lib.hid rfl⟩
  have H7 := Lib.hid (show Blk W4 (w.heap.size) 23 #[.int .i64 x0.frm, .int .i64 x0.to_, .int .i64 x0.tape, .int .i64 x0.comp, .int .i64 x0.slope, .bool x0.back] by rw [← HW4.out]; exact H6.out.alloc _)
  have H8 := Lib.hid (show Blk W4 (W3.heap.size) 29 #[.int .i64 v0.frm, .int .i64 v0.to_, .int .i64 v0.tape, .int .i64 v0.comp, .int .i64 v0.slope] by rw [← HW4.out]; exact (Blk.new _ _ _))
  have H9 := Lib.hid (show Below w.heap.size w W4 by rw [← HW4.out]; exact (H5.out).alloc (H5.out.size) _)
  rw [HW4.out]
  clear HW4 H6 H5
  refine (ty.to_entry x0 _).mono ?_
  rintro e W5 ⟨rfl, b⟩
  have H10 := Lib.hid (H9.out.trans (b.mono H9.out.size))
  have H11 := Lib.hid (show Blk W5 (w.heap.size) 23 #[.int .i64 x0.frm, .int .i64 x0.to_, .int .i64 x0.tape, .int .i64 x0.comp, .int .i64 x0.slope, .bool x0.back] from H7.out.below b H7.out.lt)
  have H12 := Lib.hid (show Blk W5 (W3.heap.size) 29 #[.int .i64 v0.frm, .int .i64 v0.to_, .int .i64 v0.tape, .int .i64 v0.comp, .int .i64 v0.slope] from H8.out.below b H8.out.lt)
  clear b H9 H7 H8
  go_wp2_with fail
  refine (eni.legOf_impl x0 _).mono ?_
  rintro e W6 ⟨rfl, b⟩
  rw [HFm.out]
  have H13 := Lib.hid (H10.out.trans (b.mono H10.out.size))
  have H14 := Lib.hid (show Blk W6 (w.heap.size) 23 #[.int .i64 x0.frm, .int .i64 x0.to_, .int .i64 x0.tape, .int .i64 x0.comp, .int .i64 x0.slope, .bool x0.back] from H11.out.below b H11.out.lt)
  have H15 := Lib.hid (show Blk W6 (W3.heap.size) 29 #[.int .i64 v0.frm, .int .i64 v0.to_, .int .i64 v0.tape, .int .i64 v0.comp, .int .i64 v0.slope] from H12.out.below b H12.out.lt)
  clear b H10 H11 H12
  have q_w0l := H15.out.lt
  have q_w00 : W6.cell? ⟨W3.heap.size, 0, none⟩ = some (.int .i64 v0.frm) := H15.out.cell 0
  have q_w01 : W6.cell? ⟨W3.heap.size, 1, none⟩ = some (.int .i64 v0.to_) := H15.out.cell 1
  have q_w02 : W6.cell? ⟨W3.heap.size, 2, none⟩ = some (.int .i64 v0.tape) := H15.out.cell 2
  have q_w03 : W6.cell? ⟨W3.heap.size, 3, none⟩ = some (.int .i64 v0.comp) := H15.out.cell 3
  have q_w04 : W6.cell? ⟨W3.heap.size, 4, none⟩ = some (.int .i64 v0.slope) := H15.out.cell 4
  go_wp2_with fail
  clear q_w0l q_w00 q_w01 q_w02 q_w03 q_w04
  obtain ⟨W7, HW7⟩ : ∃ W7, Hid (W6.alloc (.cells #[.int .i64 v0.frm, .int .i64 v0.to_, .int .i64 v0.tape, .int .i64 v0.comp, .int .i64 v0.slope] 29) = W7) := ⟨_, Lib.hid rfl⟩
  have H16 := Lib.hid (show Blk W7 (w.heap.size) 23 #[.int .i64 x0.frm, .int .i64 x0.to_, .int .i64 x0.tape, .int .i64 x0.comp, .int .i64 x0.slope, .bool x0.back] by rw [← HW7.out]; exact H14.out.alloc _)
  have H17 := Lib.hid (show Blk W7 (W3.heap.size) 29 #[.int .i64 v0.frm, .int .i64 v0.to_, .int .i64 v0.tape, .int .i64 v0.comp, .int .i64 v0.slope] by rw [← HW7.out]; exact H15.out.alloc _)
  have H18 := Lib.hid (show Blk W7 (W6.heap.size) 29 #[.int .i64 v0.frm, .int .i64 v0.to_, .int .i64 v0.tape, .int .i64 v0.comp, .int .i64 v0.slope] by rw [← HW7.out]; exact (Blk.new _ _ _))
  have H19 := Lib.hid (show Below w.heap.size w W7 by rw [← HW7.out]; exact (H13.out).alloc (H13.out.size) _)
  rw [HW7.out]
  clear HW7 H14 H15 H13
  refine (ty.eq_leg _ _).mono ?_
  rintro e W8 ⟨rfl, b⟩
  have H20 := Lib.hid (H19.out.trans (b.mono H19.out.size))
  have H21 := Lib.hid (show Blk W8 (w.heap.size) 23 #[.int .i64 x0.frm, .int .i64 x0.to_, .int .i64 x0.tape, .int .i64 x0.comp, .int .i64 x0.slope, .bool x0.back] from H16.out.below b H16.out.lt)
  have H22 := Lib.hid (show Blk W8 (W3.heap.size) 29 #[.int .i64 v0.frm, .int .i64 v0.to_, .int .i64 v0.tape, .int .i64 v0.comp, .int .i64 v0.slope] from H17.out.below b H17.out.lt)
  have H23 := Lib.hid (show Blk W8 (W6.heap.size) 29 #[.int .i64 v0.frm, .int .i64 v0.to_, .int .i64 v0.tape, .int .i64 v0.comp, .int .i64 v0.slope] from H18.out.below b H18.out.lt)
  clear b H19 H16 H17 H18
  go_wp2_with fail
  go_ret
  exact ⟨rfl, H20.out⟩

theorem laidOut : laidOutB Try.prog = true := by kernel_rfl
set_option maxRecDepth 100000 in
theorem lifted (os : Os) (started : os.Started) (H : Type) (enc : TypeId × Value → H) :
    ReturnsInHanded {} Try.checked os 4 .any (Rows.fnExactLegOfSpec.pre6 enc Try.prog Try.f4 Rows.fnExactLegOfRow.domain false) (Rows.fnExactLegOfSpec.post enc Try.prog Try.f4 false true false false) := by
  refine returnsInHanded_of_change (C := Try.checked) own started (by kernel_rfl) Try.func4
    (ChangeSpec.witness6 (enc := enc) (C := Try.checked) false ⟨#[], #[.agg #[.int .i64 0, .int .i64 0, .int .i64 0, .int .i64 0, .int .i64 0, .bool false]], []⟩ 8 (by kernel_rfl) (by kernel_rfl) (by kernel_rfl) (by kernel_rfl)) ?_
  intro W base args ds gs before hval0 hW hcnd _
  have hval : ∀ (j : Nat) t v, Try.f4.params[j]? = some t → args[j]? = some v → Value.okWide Try.prog W .any base t v := hval0
  have hW' := hW
  obtain ⟨p, q, hA0, hV, rfl, hfz, hnd⟩ := hW
  have hA : DataW.TrodAll enc Try.prog W 0 (fun _ => true) true Try.f4.params.toList args.toList ds p := hA0
  rw [Try.params4] at hA hval
  obtain ⟨v0, vs0, d0, ds0, p0, q0, hargs, rfl, rfl, h0, r0⟩ := trodAll_cons hA
  obtain ⟨rfl, rfl, rfl⟩ := trodAll_nil r0
  obtain rfl : args = #[v0] := by cases args; simp_all
  obtain ⟨rfl, rfl⟩ := trodVars_none hV
  have k0 := h0
  have lt0 : ∀ x ∈ p0, x.block < W.heap.size := by obtain ⟨m, hm⟩ := k0; exact DataW.trod_lt m _ _ _ hm
  obtain ⟨x0, rfl⟩ := ty.open_entry (hval 0 23 v0 rfl rfl) h0
  clear hA0 hval0
  refine (walk x0 W ).mono fun e W' ⟨he, bel⟩ => ?_
  subst he
  exact ⟨_, rfl, _, _, _, [], _, [], hW', trodAll_mk1 (shut_bool Try.underlying4 _), (trodAll_cons_mk (Below.trod laidOut (by kernel_rfl) (of_decide_eq_true (by kernel_rfl)) k0 bel lt0) trodAll_mk0), rfl, bel.frame _, fun h => by cases h⟩

theorem over : Rows.fnExactLegOfRow.holds Try.pinned (OpenSpec.ofChange Rows.fnExactLegOfSpec) :=
  OpenClaim.holds_of_wide 4 Try.f4 rfl rfl rfl rfl rfl rfl rfl ⟨rfl, rfl, rfl, rfl, rfl⟩ rfl rfl rfl rfl rfl (by kernel_rfl) Try.func4 (by kernel_rfl)
    (of_decide_eq_true (by kernel_rfl)) (by unfold Func.isWrapper; first | (rw [if_pos (by decide +kernel)]; kernel_rfl) | (rw [if_neg (by decide +kernel)]; exact ⟨rfl, rfl⟩))
    (fun os started H enc _ => lifted os started H enc)

theorem proved : Rows.FnExactLegOfSaid := over
#print axioms proved
end Go.Proofs.Ytnlljdepcldibaa.fnExactLegOf
