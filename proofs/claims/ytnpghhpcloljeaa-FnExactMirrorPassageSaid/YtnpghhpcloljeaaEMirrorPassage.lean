/-
  FnExactMirrorPassage holds: at every argument MirrorPassage answers as its model answers, and the arguments read behind the call as they read before it.
  Conditions: none of our own.
-/
import Derived.Test.YtnpghhpcloljeaaPwP
import Derived.Test.YtnpghhpcloljeaaEnd
import Derived.Test.YtnpghhpcloljeaaRows
import Derived.WalkKit
import Derived.ProofKit
import Derived.OpenShut
import Derived.Carry
namespace Go.Proofs.Ytnpghhpcloljeaa.fnExactMirrorPassage
open Go.ChangeShapes Go.WideShapes Go.ChangeAt Go.RowKit
open Go.ChangeMaps (open_string shut_string)
open reads base ty lg pw
set_option linter.unusedVariables false
set_option linter.unusedSimpArgs false

theorem own : ownKnob Try.prog.godebug = none := by kernel_rfl
def LawPost (w : World) (e : Ending) (w' : World) : Prop := e = .returned (.bool true) ∧ Below w.heap.size w w'
theorem form (x : Pg) : ∃ (v0 : Pg) (ok : Bool), ansMi x = .tuple #[.agg #[.int .i64 v0.st, .int .i64 v0.lf, .int .i64 v0.rt, .int .i64 v0.ab, .int .i64 v0.be], .bool ok] := by
  unfold ansMi
  split
  · exact ⟨mirPg x, _, rfl⟩
  · exact ⟨⟨0, 0, 0, 0, 0⟩, _, rfl⟩
set_option maxHeartbeats 4000000 in
set_option maxRecDepth 100000 in
theorem walk (x0 : Pg) (w : World)  : Calls Try.prog 9 #[.agg #[.int .i64 x0.st, .int .i64 x0.lf, .int .i64 x0.rt, .int .i64 x0.ab, .int .i64 x0.be]] w (LawPost w) := by
  obtain ⟨v0, v1, hfm⟩ := form x0
  have HFm := Lib.hid hfm
  clear hfm
  go_enter Try.func9, Try.ntmps9
  go_wp2_with fail
  obtain ⟨W1, HW1⟩ : ∃ W1, Hid (w.alloc (.cells #[.int .i64 x0.st, .int .i64 x0.lf, .int .i64 x0.rt, .int .i64 x0.ab, .int .i64 x0.be] 52) = W1) := ⟨_, Lib.hid rfl⟩
  have H1 := Lib.hid (show Blk W1 (w.heap.size) 52 #[.int .i64 x0.st, .int .i64 x0.lf, .int .i64 x0.rt, .int .i64 x0.ab, .int .i64 x0.be] by rw [← HW1.out]; exact (Blk.new _ _ _))
  have H2 := Lib.hid (show Below w.heap.size w W1 by rw [← HW1.out]; exact (Below.refl w.heap.size w).alloc (Nat.le_refl _) _)
  rw [HW1.out]
  clear HW1
  refine (ty.to_passage x0 _).mono ?_
  rintro e W2 ⟨rfl, b⟩
  have H3 := Lib.hid (H2.out.trans (b.mono H2.out.size))
  have H4 := Lib.hid (show Blk W2 (w.heap.size) 52 #[.int .i64 x0.st, .int .i64 x0.lf, .int .i64 x0.rt, .int .i64 x0.ab, .int .i64 x0.be] from H1.out.below b H1.out.lt)
  clear b H2 H1
  go_wp2_with fail
  refine (mirror_model x0 _).mono ?_
  rintro e W3 ⟨rfl, b⟩
  rw [HFm.out]
  have H5 := Lib.hid (H3.out.trans (b.mono H3.out.size))
  have H6 := Lib.hid (show Blk W3 (w.heap.size) 52 #[.int .i64 x0.st, .int .i64 x0.lf, .int .i64 x0.rt, .int .i64 x0.ab, .int .i64 x0.be] from H4.out.below b H4.out.lt)
  clear b H3 H4
  have q_x0l := H6.out.lt
  have q_x00 : W3.cell? ⟨w.heap.size, 0, none⟩ = some (.int .i64 x0.st) := H6.out.cell 0
  have q_x01 : W3.cell? ⟨w.heap.size, 1, none⟩ = some (.int .i64 x0.lf) := H6.out.cell 1
  have q_x02 : W3.cell? ⟨w.heap.size, 2, none⟩ = some (.int .i64 x0.rt) := H6.out.cell 2
  have q_x03 : W3.cell? ⟨w.heap.size, 3, none⟩ = some (.int .i64 x0.ab) := H6.out.cell 3
  have q_x04 : W3.cell? ⟨w.heap.size, 4, none⟩ = some (.int .i64 x0.be) := H6.out.cell 4
  go_wp2_with fail
  clear q_x0l q_x00 q_x01 q_x02 q_x03 q_x04
  obtain ⟨W4, HW4⟩ : ∃ W4, Hid (W3.alloc (.cells #[.int .i64 v0.st, .int .i64 v0.lf, .int .i64 v0.rt, .int .i64 v0.ab, .int .i64 v0.be] 53) = W4) := ⟨_, Lib.hid rfl⟩
  have H7 := Lib.hid (show Blk W4 (w.heap.size) 52 #[.int .i64 x0.st, .int .i64 x0.lf, .int .i64 x0.rt, .int .i64 x0.ab, .int .i64 x0.be] by rw [← HW4.out]; exact H6.out.alloc _)
  have H8 := Lib.hid (show Blk W4 (W3.heap.size) 53 #[.int .i64 v0.st, .int .i64 v0.lf, .int .i64 v0.rt, .int .i64 v0.ab, .int .i64 v0.be] by rw [← HW4.out]; exact (Blk.new _ _ _))
  have H9 := Lib.hid (show Below w.heap.size w W4 by rw [← HW4.out]; exact (H5.out).alloc (H5.out.size) _)
  rw [HW4.out]
  clear HW4 H6 H5
  refine (ty.to_passage x0 _).mono ?_
  rintro e W5 ⟨rfl, b⟩
  have H10 := Lib.hid (H9.out.trans (b.mono H9.out.size))
  have H11 := Lib.hid (show Blk W5 (w.heap.size) 52 #[.int .i64 x0.st, .int .i64 x0.lf, .int .i64 x0.rt, .int .i64 x0.ab, .int .i64 x0.be] from H7.out.below b H7.out.lt)
  have H12 := Lib.hid (show Blk W5 (W3.heap.size) 53 #[.int .i64 v0.st, .int .i64 v0.lf, .int .i64 v0.rt, .int .i64 v0.ab, .int .i64 v0.be] from H8.out.below b H8.out.lt)
  clear b H9 H7 H8
  go_wp2_with fail
  refine (mirror_impl x0 _).mono ?_
  rintro e W6 ⟨rfl, b⟩
  rw [HFm.out]
  have H13 := Lib.hid (H10.out.trans (b.mono H10.out.size))
  have H14 := Lib.hid (show Blk W6 (w.heap.size) 52 #[.int .i64 x0.st, .int .i64 x0.lf, .int .i64 x0.rt, .int .i64 x0.ab, .int .i64 x0.be] from H11.out.below b H11.out.lt)
  have H15 := Lib.hid (show Blk W6 (W3.heap.size) 53 #[.int .i64 v0.st, .int .i64 v0.lf, .int .i64 v0.rt, .int .i64 v0.ab, .int .i64 v0.be] from H12.out.below b H12.out.lt)
  clear b H10 H11 H12
  have q_w0l := H15.out.lt
  have q_w00 : W6.cell? ⟨W3.heap.size, 0, none⟩ = some (.int .i64 v0.st) := H15.out.cell 0
  have q_w01 : W6.cell? ⟨W3.heap.size, 1, none⟩ = some (.int .i64 v0.lf) := H15.out.cell 1
  have q_w02 : W6.cell? ⟨W3.heap.size, 2, none⟩ = some (.int .i64 v0.rt) := H15.out.cell 2
  have q_w03 : W6.cell? ⟨W3.heap.size, 3, none⟩ = some (.int .i64 v0.ab) := H15.out.cell 3
  have q_w04 : W6.cell? ⟨W3.heap.size, 4, none⟩ = some (.int .i64 v0.be) := H15.out.cell 4
  go_wp2_with fail
  clear q_w0l q_w00 q_w01 q_w02 q_w03 q_w04
  obtain ⟨W7, HW7⟩ : ∃ W7, Hid (W6.alloc (.cells #[.int .i64 v0.st, .int .i64 v0.lf, .int .i64 v0.rt, .int .i64 v0.ab, .int .i64 v0.be] 53) = W7) := ⟨_, Lib.hid rfl⟩
  have H16 := Lib.hid (show Blk W7 (w.heap.size) 52 #[.int .i64 x0.st, .int .i64 x0.lf, .int .i64 x0.rt, .int .i64 x0.ab, .int .i64 x0.be] by rw [← HW7.out]; exact H14.out.alloc _)
  have H17 := Lib.hid (show Blk W7 (W3.heap.size) 53 #[.int .i64 v0.st, .int .i64 v0.lf, .int .i64 v0.rt, .int .i64 v0.ab, .int .i64 v0.be] by rw [← HW7.out]; exact H15.out.alloc _)
  have H18 := Lib.hid (show Blk W7 (W6.heap.size) 53 #[.int .i64 v0.st, .int .i64 v0.lf, .int .i64 v0.rt, .int .i64 v0.ab, .int .i64 v0.be] by rw [← HW7.out]; exact (Blk.new _ _ _))
  have H19 := Lib.hid (show Below w.heap.size w W7 by rw [← HW7.out]; exact (H13.out).alloc (H13.out.size) _)
  rw [HW7.out]
  clear HW7 H14 H15 H13
  refine (ty.eq_passage _ _).mono ?_
  rintro e W8 ⟨rfl, b⟩
  have H20 := Lib.hid (H19.out.trans (b.mono H19.out.size))
  have H21 := Lib.hid (show Blk W8 (w.heap.size) 52 #[.int .i64 x0.st, .int .i64 x0.lf, .int .i64 x0.rt, .int .i64 x0.ab, .int .i64 x0.be] from H16.out.below b H16.out.lt)
  have H22 := Lib.hid (show Blk W8 (W3.heap.size) 53 #[.int .i64 v0.st, .int .i64 v0.lf, .int .i64 v0.rt, .int .i64 v0.ab, .int .i64 v0.be] from H17.out.below b H17.out.lt)
  have H23 := Lib.hid (show Blk W8 (W6.heap.size) 53 #[.int .i64 v0.st, .int .i64 v0.lf, .int .i64 v0.rt, .int .i64 v0.ab, .int .i64 v0.be] from H18.out.below b H18.out.lt)
  clear b H19 H16 H17 H18
  go_wp2_with fail
  go_ret
  exact ⟨rfl, H20.out⟩

theorem laidOut : laidOutB Try.prog = true := by kernel_rfl
set_option maxRecDepth 100000 in
theorem lifted (os : Os) (started : os.Started) (H : Type) (enc : TypeId × Value → H) :
    ReturnsInHanded {} Try.checked os 9 .any (Rows.fnExactMirrorPassageSpec.pre6 enc Try.prog Try.f9 Rows.fnExactMirrorPassageRow.domain false) (Rows.fnExactMirrorPassageSpec.post enc Try.prog Try.f9 false true false false) := by
  refine returnsInHanded_of_change (C := Try.checked) own started (by kernel_rfl) Try.func9
    (ChangeSpec.witness6 (enc := enc) (C := Try.checked) false ⟨#[], #[.agg #[.int .i64 0, .int .i64 0, .int .i64 0, .int .i64 0, .int .i64 0]], []⟩ 8 (by kernel_rfl) (by kernel_rfl) (by kernel_rfl) (by kernel_rfl)) ?_
  intro W base args ds gs before hval0 hW hcnd _
  have hval : ∀ (j : Nat) t v, Try.f9.params[j]? = some t → args[j]? = some v → Value.okWide Try.prog W .any base t v := hval0
  have hW' := hW
  obtain ⟨p, q, hA0, hV, rfl, hfz, hnd⟩ := hW
  have hA : DataW.TrodAll enc Try.prog W 0 (fun _ => true) true Try.f9.params.toList args.toList ds p := hA0
  rw [Try.params9] at hA hval
  obtain ⟨v0, vs0, d0, ds0, p0, q0, hargs, rfl, rfl, h0, r0⟩ := trodAll_cons hA
  obtain ⟨rfl, rfl, rfl⟩ := trodAll_nil r0
  obtain rfl : args = #[v0] := by cases args; simp_all
  obtain ⟨rfl, rfl⟩ := trodVars_none hV
  have k0 := h0
  have lt0 : ∀ x ∈ p0, x.block < W.heap.size := by obtain ⟨m, hm⟩ := k0; exact DataW.trod_lt m _ _ _ hm
  obtain ⟨x0, rfl⟩ := ty.open_passage (hval 0 52 v0 rfl rfl) h0
  clear hA0 hval0
  refine (walk x0 W ).mono fun e W' ⟨he, bel⟩ => ?_
  subst he
  exact ⟨_, rfl, _, _, _, [], _, [], hW', trodAll_mk1 (shut_bool Try.underlying4 _), (trodAll_cons_mk (Below.trod laidOut (by kernel_rfl) (of_decide_eq_true (by kernel_rfl)) k0 bel lt0) trodAll_mk0), rfl, bel.frame _, fun h => by cases h⟩

theorem over : Rows.fnExactMirrorPassageRow.holds Try.pinned (OpenSpec.ofChange Rows.fnExactMirrorPassageSpec) :=
  OpenClaim.holds_of_wide 9 Try.f9 rfl rfl rfl rfl rfl rfl rfl ⟨rfl, rfl, rfl, rfl, rfl⟩ rfl rfl rfl rfl rfl (by kernel_rfl) Try.func9 (by kernel_rfl)
    (of_decide_eq_true (by kernel_rfl)) (by unfold Func.isWrapper; first | (rw [if_pos (by decide +kernel)]; kernel_rfl) | (rw [if_neg (by decide +kernel)]; exact ⟨rfl, rfl⟩))
    (fun os started H enc _ => lifted os started H enc)

theorem proved : Rows.FnExactMirrorPassageSaid := over
#print axioms proved
end Go.Proofs.Ytnpghhpcloljeaa.fnExactMirrorPassage
