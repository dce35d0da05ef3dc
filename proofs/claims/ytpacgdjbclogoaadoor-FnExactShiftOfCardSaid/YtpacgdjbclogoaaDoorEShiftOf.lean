/-
  FnExactShiftOf holds: at every argument ShiftOf answers as its model answers, and the arguments read behind the call as they read before it.
  Conditions: none of our own.
-/
import Derived.Test.YtpacgdjbclogoaaDoorLgE
import Derived.Test.YtpacgdjbclogoaaDoorLgM
import Derived.Test.YtpacgdjbclogoaaDoorSinC
import Derived.WalkKit
import Derived.ProofKit
import Derived.OpenShut
import Derived.Carry
namespace Go.Proofs.YtpacgdjbclogoaaDoor.fnExactShiftOf
open Go.ChangeShapes Go.WideShapes Go.ChangeAt Go.RowKit
open Go.ChangeMaps (open_string shut_string)
open reads base ty lg sn win sinc
set_option linter.unusedVariables false
set_option linter.unusedSimpArgs false

theorem form (x : Lg) : ∃ (v0 : Sf) (ok : Bool), ansShift x = .tuple #[.agg #[.int .i64 v0.east, .int .i64 v0.north, .int .i64 v0.up], .bool ok] := by
  unfold ansShift
  split
  · exact ⟨shf x, _, rfl⟩
  · exact ⟨⟨0, 0, 0⟩, _, rfl⟩
set_option maxHeartbeats 4000000 in
set_option maxRecDepth 100000 in
theorem walk (x0 : Lg) (w : World) (hT : Hid (Tab w)) : Calls Tryd.prog 3 #[.agg #[.int .i64 x0.frm, .int .i64 x0.to_, .int .i64 x0.tape, .int .i64 x0.comp, .int .i64 x0.slope]] w (LawPost w) := by
  obtain ⟨v0, v1, hfm⟩ := form x0
  have HFm := Lib.hid hfm
  clear hfm
  go_enter Tryd.func3, Tryd.ntmps3
  go_wp2_with fail
  obtain ⟨W1, HW1⟩ : ∃ W1, Hid (w.alloc (.cells #[.int .i64 x0.frm, .int .i64 x0.to_, .int .i64 x0.tape, .int .i64 x0.comp, .int .i64 x0.slope] 23) = W1) := ⟨_, Lib.hid rfl⟩
  have H1 := Lib.hid (show Blk W1 (w.heap.size) 23 #[.int .i64 x0.frm, .int .i64 x0.to_, .int .i64 x0.tape, .int .i64 x0.comp, .int .i64 x0.slope] by rw [← HW1.out]; exact (Blk.new _ _ _))
  have H2 := Lib.hid (show Below w.heap.size w W1 by rw [← HW1.out]; exact (Below.refl w.heap.size w).alloc (Nat.le_refl _) _)
  rw [HW1.out]
  clear HW1
  refine (ty.to_leg x0 _).mono ?_
  rintro e W2 ⟨rfl, b⟩
  have H3 := Lib.hid (H2.out.trans (b.mono H2.out.size))
  have H4 := Lib.hid (show Blk W2 (w.heap.size) 23 #[.int .i64 x0.frm, .int .i64 x0.to_, .int .i64 x0.tape, .int .i64 x0.comp, .int .i64 x0.slope] from H1.out.below b H1.out.lt)
  clear b H2 H1
  go_wp2_with fail
  have HTab := Lib.hid (hT.out.below H3.out)
  refine (lg.shiftOf_model x0 _).mono ?_
  rintro e W3 ⟨rfl, b⟩
  rw [HFm.out]
  have H5 := Lib.hid (H3.out.trans (b.mono H3.out.size))
  have H6 := Lib.hid (show Blk W3 (w.heap.size) 23 #[.int .i64 x0.frm, .int .i64 x0.to_, .int .i64 x0.tape, .int .i64 x0.comp, .int .i64 x0.slope] from H4.out.below b H4.out.lt)
  clear b H3 H4
  clear HTab
  have q_x0l := H6.out.lt
  have q_x00 : W3.cell? ⟨w.heap.size, 0, none⟩ = some (.int .i64 x0.frm) := H6.out.cell 0
  have q_x01 : W3.cell? ⟨w.heap.size, 1, none⟩ = some (.int .i64 x0.to_) := H6.out.cell 1
  have q_x02 : W3.cell? ⟨w.heap.size, 2, none⟩ = some (.int .i64 x0.tape) := H6.out.cell 2
  have q_x03 : W3.cell? ⟨w.heap.size, 3, none⟩ = some (.int .i64 x0.comp) := H6.out.cell 3
  have q_x04 : W3.cell? ⟨w.heap.size, 4, none⟩ = some (.int .i64 x0.slope) := H6.out.cell 4
  go_wp2_with fail
  clear q_x0l q_x00 q_x01 q_x02 q_x03 q_x04
  obtain ⟨W4, HW4⟩ : ∃ W4, Hid (W3.alloc (.cells #[.int .i64 v0.east, .int .i64 v0.north, .int .i64 v0.up] 25) = W4) := ⟨_, Lib.hid rfl⟩
  have H7 := Lib.hid (show Blk W4 w.heap.size 23 #[.int .i64 x0.frm, .int .i64 x0.to_, .int .i64 x0.tape, .int .i64 x0.comp, .int .i64 x0.slope] by rw [← HW4.out]; exact H6.out.alloc _)
  have H8 := Lib.hid (show Blk W4 (W3.heap.size) 25 #[.int .i64 v0.east, .int .i64 v0.north, .int .i64 v0.up] by rw [← HW4.out]; exact (Blk.new _ _ _))
  have H9 := Lib.hid (show Below w.heap.size w W4 by rw [← HW4.out]; exact (H5.out).alloc (H5.out.size) _)
  rw [HW4.out]
  clear HW4 H6 H5
  refine (ty.to_leg x0 _).mono ?_
  rintro e W5 ⟨rfl, b⟩
  have H10 := Lib.hid (H9.out.trans (b.mono H9.out.size))
  have H11 := Lib.hid (show Blk W5 (w.heap.size) 23 #[.int .i64 x0.frm, .int .i64 x0.to_, .int .i64 x0.tape, .int .i64 x0.comp, .int .i64 x0.slope] from H7.out.below b H7.out.lt)
  have H12 := Lib.hid (show Blk W5 (W3.heap.size) 25 #[.int .i64 v0.east, .int .i64 v0.north, .int .i64 v0.up] from H8.out.below b H8.out.lt)
  clear b H9 H7 H8
  go_wp2_with fail
  have HTab := Lib.hid (hT.out.below H10.out)
  refine (lgi.shiftOf_impl x0 _ HTab).mono ?_
  rintro e W6 ⟨rfl, b⟩
  rw [HFm.out]
  have H13 := Lib.hid (H10.out.trans (b.mono H10.out.size))
  have H14 := Lib.hid (show Blk W6 (w.heap.size) 23 #[.int .i64 x0.frm, .int .i64 x0.to_, .int .i64 x0.tape, .int .i64 x0.comp, .int .i64 x0.slope] from H11.out.below b H11.out.lt)
  have H15 := Lib.hid (show Blk W6 (W3.heap.size) 25 #[.int .i64 v0.east, .int .i64 v0.north, .int .i64 v0.up] from H12.out.below b H12.out.lt)
  clear b H10 H11 H12
  clear HTab
  have q_w0l := H15.out.lt
  have q_w00 : W6.cell? ⟨W3.heap.size, 0, none⟩ = some (.int .i64 v0.east) := H15.out.cell 0
  have q_w01 : W6.cell? ⟨W3.heap.size, 1, none⟩ = some (.int .i64 v0.north) := H15.out.cell 1
  have q_w02 : W6.cell? ⟨W3.heap.size, 2, none⟩ = some (.int .i64 v0.up) := H15.out.cell 2
  go_wp2_with fail
  clear q_w0l q_w00 q_w01 q_w02
  obtain ⟨W7, HW7⟩ : ∃ W7, Hid (W6.alloc (.cells #[.int .i64 v0.east, .int .i64 v0.north, .int .i64 v0.up] 25) = W7) := ⟨_, Lib.hid rfl⟩
  have H16 := Lib.hid (show Blk W7 w.heap.size 23 #[.int .i64 x0.frm, .int .i64 x0.to_, .int .i64 x0.tape, .int .i64 x0.comp, .int .i64 x0.slope] by rw [← HW7.out]; exact H14.out.alloc _)
  have H17 := Lib.hid (show Blk W7 W3.heap.size 25 #[.int .i64 v0.east, .int .i64 v0.north, .int .i64 v0.up] by rw [← HW7.out]; exact H15.out.alloc _)
  have H18 := Lib.hid (show Blk W7 (W6.heap.size) 25 #[.int .i64 v0.east, .int .i64 v0.north, .int .i64 v0.up] by rw [← HW7.out]; exact (Blk.new _ _ _))
  have H19 := Lib.hid (show Below w.heap.size w W7 by rw [← HW7.out]; exact (H13.out).alloc (H13.out.size) _)
  rw [HW7.out]
  clear HW7 H14 H15 H13
  refine (ty.eq_shift _ _).mono ?_
  rintro e W8 ⟨rfl, b⟩
  have H20 := Lib.hid (H19.out.trans (b.mono H19.out.size))
  have H21 := Lib.hid (show Blk W8 (w.heap.size) 23 #[.int .i64 x0.frm, .int .i64 x0.to_, .int .i64 x0.tape, .int .i64 x0.comp, .int .i64 x0.slope] from H16.out.below b H16.out.lt)
  have H22 := Lib.hid (show Blk W8 (W3.heap.size) 25 #[.int .i64 v0.east, .int .i64 v0.north, .int .i64 v0.up] from H17.out.below b H17.out.lt)
  have H23 := Lib.hid (show Blk W8 (W6.heap.size) 25 #[.int .i64 v0.east, .int .i64 v0.north, .int .i64 v0.up] from H18.out.below b H18.out.lt)
  clear b H19 H16 H17 H18
  go_wp2_with fail
  go_ret
  exact ⟨rfl, H20.out⟩

theorem laidOut : laidOutB Tryd.prog = true := by kernel_rfl
set_option maxRecDepth 100000 in
theorem contract (H : Type) (enc : TypeId × Value → H) (W : World) (base : Nat) (args : Array Value) (ds gs : List (DataW H)) (before : List MemPlace)
    (hval : ∀ (j : Nat) t v, Tryd.f3.params[j]? = some t → args[j]? = some v → Value.okWide Tryd.prog W .any base t v)
    (hW : DataW.Whole enc Tryd.prog Tryd.f3.params.toList Rows.fnExactShiftOfSpec.vars false W args.toList ds gs before) (hL : laidMetH Tryd.prog Rows.fnExactShiftOfRow.laid W) :
    Calls Tryd.prog 3 args W fun e W' => ∃ v, e = .returned v ∧ Rows.fnExactShiftOfSpec.post enc Tryd.prog Tryd.f3 false true false false W args v W' := by
  have hT : Tab W := given (row := Rows.fnExactShiftOfRow) (by kernel_rfl) hL
  have hW' := hW
  obtain ⟨p, q, hA0, hV0, rfl, hfz, hnd⟩ := hW
  have hA : DataW.TrodAll enc Tryd.prog W 0 (fun _ => true) true Tryd.f3.params.toList args.toList ds p := hA0
  have hV : DataW.TrodVars enc Tryd.prog W (fun _ => true) ["loop.example/g00933/impl.sines"] gs q := hV0
  rw [Tryd.params3] at hA hval
  obtain ⟨v0, vs0, d0, ds0, p0, q0, hargs, rfl, rfl, h0, r0⟩ := trodAll_cons hA
  obtain ⟨rfl, rfl, rfl⟩ := trodAll_nil r0
  obtain rfl : args = #[v0] := by cases args; simp_all
  obtain ⟨rfl, rfl⟩ := var_open hT hV
  have k0 := h0
  have lt0 : ∀ x ∈ p0, x.block < W.heap.size := by obtain ⟨m, hm⟩ := k0; exact DataW.trod_lt m _ _ _ hm
  obtain ⟨x0, rfl⟩ := ty.open_leg (hval 0 23 v0 rfl rfl) h0
  clear hA0 hV0
  refine (walk x0 W  (Lib.hid hT)).mono fun e W' ⟨he, bel⟩ => ?_
  subst he
  exact ⟨_, rfl, _, _, _, [], _, tabP, hW', trodAll_mk1 (shut_bool Tryd.underlying4 _), (trodAll_cons_mk (Below.trod laidOut (by kernel_rfl) (of_decide_eq_true (by kernel_rfl)) k0 bel lt0) trodAll_mk0), var_shut (hT.below bel) _, bel.frame _, fun h => by cases h⟩

theorem laid_met (os : Os) : laidMet Tryd.prog Rows.fnExactShiftOfRow.laid ((World.doorLaid Tryd.prog 2000 os).forCall (fun _ _ => 0) ⟨#[], #[.agg #[.int .i64 0, .int .i64 0, .int .i64 0, .int .i64 0, .int .i64 0]], []⟩).memory :=
  laidMet_of_run' 8 (by kernel_rfl) (by kernel_rfl)
theorem readsIt (os : Os) {H : Type} (enc : TypeId × Value → H) : ∃ ds places, DataW.whole enc Tryd.prog ((World.doorLaid Tryd.prog 2000 os).forCall (fun _ _ => 0) ⟨#[], #[.agg #[.int .i64 0, .int .i64 0, .int .i64 0, .int .i64 0, .int .i64 0]], []⟩).memory Tryd.f3.params.toList Rows.fnExactShiftOfSpec.vars false (#[.agg #[.int .i64 0, .int .i64 0, .int .i64 0, .int .i64 0, .int .i64 0]] : Array Value).toList 8 = some (ds, [tabH], places) :=
  ⟨[.agg [.lit (.int .i64 0), .lit (.int .i64 0), .lit (.int .i64 0), .lit (.int .i64 0), .lit (.int .i64 0)]], tabP, by kernel_rfl⟩

set_option maxRecDepth 100000 in
theorem lifted (os : Os) (started : os.Started) (H : Type) (enc : TypeId × Value → H) (F : Stop.Interp) :
    ReturnsInHanded {} Tryd.checked os 3 .any ((OpenSpec.ofChange Rows.fnExactShiftOfSpec).preRow enc Tryd.prog Tryd.f3 Rows.fnExactShiftOfRow.domain false Rows.fnExactShiftOfRow.laid) (((OpenSpec.ofChange Rows.fnExactShiftOfSpec).at F).post enc Tryd.prog Tryd.f3 false true false false) := by
  obtain ⟨d, places, hx⟩ := readsIt os enc
  refine returnsInHanded_of_row (C := Tryd.checked) (s := OpenSpec.ofChange Rows.fnExactShiftOfSpec) own started (by kernel_rfl) Tryd.func3
    (witness_row_at (enc := enc) (C := Tryd.checked) false (World.doorLaid Tryd.prog 2000 os) #[.agg #[.int .i64 0, .int .i64 0, .int .i64 0, .int .i64 0, .int .i64 0]] rfl (by kernel_rfl) (by kernel_rfl) (by kernel_rfl)
      (OpenSpec.preRow_of_cond 8 hx (by kernel_rfl) (fun k hk => by cases hk) (by kernel_rfl) (laid_met os))) ?_
  intro W base args ds gs before hval hW _ _ _ hL _ _
  exact contract H enc W base args ds gs before hval hW hL

theorem said : Rows.FnExactShiftOfSaid :=
  OpenClaim.holds_of_cond 3 Tryd.f3 rfl rfl rfl rfl rfl rfl rfl ⟨rfl, rfl, rfl, rfl, rfl⟩ rfl rfl rfl rfl rfl (by kernel_rfl) Tryd.func3 (by kernel_rfl)
    (of_decide_eq_true (by kernel_rfl)) (by unfold Func.isWrapper; first | (rw [if_pos (by decide +kernel)]; kernel_rfl) | (rw [if_neg (by decide +kernel)]; exact ⟨rfl, rfl⟩))
    (fun os started H enc _ F => by rw [OpenClaim.pre_eq_preRow]; exact lifted os started H enc F)

theorem plain (f : FuncId) (fn : Func) (hf : Tryd.pinned.checked.prog.funcNamed "loop.example/g00933/laws.FnExactShiftOf" = some f) (hfn : Tryd.pinned.checked.prog.funcs[f]? = some fn) :
    true = Tryd.pinned.checked.prog.looks [] ∧ ∀ (j : Nat) t, fn.params[j]? = some t → Tryd.pinned.checked.prog.wantsStandIn t = false := by
  obtain rfl : f = 3 := Option.some.inj ((show Tryd.prog.funcNamed "loop.example/g00933/laws.FnExactShiftOf" = some 3 by kernel_rfl).symm.trans hf) |>.symm
  obtain rfl : fn = Tryd.f3 := (Option.some.inj (Tryd.func3.symm.trans hfn)).symm
  refine ⟨by kernel_rfl, fun j t ht => ?_⟩
  rw [Tryd.params3] at ht
  obtain rfl : t = 23 := by simpa using Array.mem_of_getElem? ht
  exact (show Tryd.prog.wantsStandIn 23 = false by kernel_rfl)

theorem proved : Rows.FnExactShiftOfCardSaid :=
  Claim7.holds_tied_plain_at .later [] _ _ _ _ said (fun _ h => by cases h) (by kernel_rfl) (fun _ h => by cases h) fnExactShiftOf_row_tie rfl ⟨rfl, rfl⟩ (by kernel_rfl) rfl plain (by kernel_rfl)
#print axioms proved
end Go.Proofs.YtpacgdjbclogoaaDoor.fnExactShiftOf
