/-
  FnExactFitZero holds: at every argument FitZero answers as its model answers, and the arguments read behind the call as they read before it.
  Conditions: none of our own.
-/
import Derived.Test.YtekbiapgbhaibaaTio
import Derived.Test.YtekbiapgbhaibaaTiD
import Derived.Test.YtekbiapgbhaibaaEnd
import Derived.Test.YtekbiapgbhaibaaRows
import Derived.WalkKit
import Derived.ProofKit
import Derived.OpenShut
import Derived.Carry
namespace Go.Proofs.Ytekbiapgbhaibaa.fnExactFitZero
open Go.ChangeShapes Go.WideShapes Go.ChangeAt Go.RowKit
open Go.ChangeMaps (open_string shut_string)
open reads tl tli tlo
set_option linter.unusedVariables false
set_option linter.unusedSimpArgs false

theorem own : ownKnob Try.prog.godebug = none := by kernel_rfl
def LawPost (w : World) (e : Ending) (w' : World) : Prop := e = .returned (.bool true) ∧ Below w.heap.size w w'
set_option maxHeartbeats 4000000 in
set_option maxRecDepth 100000 in
theorem walk (x0 : Tl) (A1 : Option Addr) (n1 c1 : Nat) (t1 : List Ck) (w : World) (hm1 : n1 ≤ maxLen) (HA1 : Hid (tl.ArgCk w w.heap.size A1 n1 t1)) : Calls Try.prog 10 #[.agg #[.int .i64 x0.id, .int .i64 x0.kind, .int .i64 x0.zero, .int .i64 x0.scale], .slice A1 n1 c1] w (LawPost w) := by
  obtain ⟨r, hfm⟩ : ∃ r, fitZ x0 t1 = r := ⟨_, rfl⟩
  have HFm := Lib.hid hfm
  clear hfm
  by_cases big1 : 1048576 < n1
  · unfold maxLen at hm1
    go_enter Try.func10, Try.ntmps10
    go_wp2_with fail
    obtain ⟨W1, HW1⟩ : ∃ W1, Hid (w.alloc (.cells #[.int .i64 x0.id, .int .i64 x0.kind, .int .i64 x0.zero, .int .i64 x0.scale] 51) = W1) := ⟨_, Lib.hid rfl⟩
    have H1 := Lib.hid (show Blk W1 (w.heap.size) 51 #[.int .i64 x0.id, .int .i64 x0.kind, .int .i64 x0.zero, .int .i64 x0.scale] by rw [← HW1.out]; exact (Blk.new _ _ _))
    have H2 := Lib.hid (show Below w.heap.size w W1 by rw [← HW1.out]; exact (Below.refl w.heap.size w).alloc (Nat.le_refl _) _)
    rw [HW1.out]
    clear HW1
    refine (tl.sz_check A1 n1 c1 (1048576) _ (by unfold maxLen; omega) (by omega) (by omega)).mono ?_
    rintro e w' ⟨rfl, rfl⟩
    rw [if_pos (by omega)]
    go_wp2_with fail
    go_ret
    exact ⟨rfl, H2.out⟩
  unfold maxLen at hm1
  have hn1 : n1 ≤ 1048576 := by omega
  go_enter Try.func10, Try.ntmps10
  go_wp2_with fail
  obtain ⟨W1, HW1⟩ : ∃ W1, Hid (w.alloc (.cells #[.int .i64 x0.id, .int .i64 x0.kind, .int .i64 x0.zero, .int .i64 x0.scale] 51) = W1) := ⟨_, Lib.hid rfl⟩
  have H1 := Lib.hid (show Blk W1 (w.heap.size) 51 #[.int .i64 x0.id, .int .i64 x0.kind, .int .i64 x0.zero, .int .i64 x0.scale] by rw [← HW1.out]; exact (Blk.new _ _ _))
  have H2 := Lib.hid (show Below w.heap.size w W1 by rw [← HW1.out]; exact (Below.refl w.heap.size w).alloc (Nat.le_refl _) _)
  rw [HW1.out]
  clear HW1
  refine (tl.sz_check A1 n1 c1 (1048576) _ (by unfold maxLen; omega) (by omega) (by omega)).mono ?_
  rintro e w' ⟨rfl, rfl⟩
  rw [if_neg (by omega)]
  clear big1
  have q_x0l := H1.out.lt
  have q_x00 : W1.cell? ⟨w.heap.size, 0, none⟩ = some (.int .i64 x0.id) := H1.out.cell 0
  have q_x01 : W1.cell? ⟨w.heap.size, 1, none⟩ = some (.int .i64 x0.kind) := H1.out.cell 1
  have q_x02 : W1.cell? ⟨w.heap.size, 2, none⟩ = some (.int .i64 x0.zero) := H1.out.cell 2
  have q_x03 : W1.cell? ⟨w.heap.size, 3, none⟩ = some (.int .i64 x0.scale) := H1.out.cell 3
  go_wp2_with fail
  clear q_x0l q_x00 q_x01 q_x02 q_x03
  refine (tl.to_tool x0 _).mono ?_
  rintro e W2 ⟨rfl, b⟩
  have H3 := Lib.hid (H2.out.trans (b.mono H2.out.size))
  have H4 := Lib.hid (show Blk W2 (w.heap.size) 51 #[.int .i64 x0.id, .int .i64 x0.kind, .int .i64 x0.zero, .int .i64 x0.scale] from H1.out.below b H1.out.lt)
  clear b H2 H1
  go_wp2_with fail
  have HArg := Lib.hid (tlo.more_check (HA1.out.below H3.out) H3.out.size)
  refine (tl.to_checkS A1 n1 c1 t1 W2 hn1 HArg).mono ?_
  rintro e W3 ⟨rfl, ⟨cs_p1, hk, hf⟩, b⟩
  have HF_p1 := Lib.hid hf
  clear hf HArg
  have H5 := Lib.hid (H3.out.trans (b.mono H3.out.size))
  have H6 := Lib.hid (show Blk W3 (w.heap.size) 51 #[.int .i64 x0.id, .int .i64 x0.kind, .int .i64 x0.zero, .int .i64 x0.scale] from H4.out.below b H4.out.lt)
  clear b H3 H4
  have H7 := Lib.hid hk
  clear hk
  go_wp2_with fail
  have HL1 := Lib.hid ((tl.FillCk.at_ HF_p1.out HA1.out.1 H7.out).more (by exact H7.out.lt))
  refine (tl.fitZero_model x0 _ n1 _ t1 _ (by omega) HL1).mono ?_
  rintro e W4 ⟨rfl, b⟩
  rw [HFm.out]
  have H8 := Lib.hid (H5.out.trans (b.mono H5.out.size))
  have H9 := Lib.hid (show Blk W4 (w.heap.size) 51 #[.int .i64 x0.id, .int .i64 x0.kind, .int .i64 x0.zero, .int .i64 x0.scale] from H6.out.below b H6.out.lt)
  have H10 := Lib.hid (show Blk W4 W2.heap.size 40 cs_p1 from H7.out.below b H7.out.lt)
  clear b H5 H6 H7
  clear HL1
  go_wp2_with fail
  obtain ⟨W5, HW5⟩ : ∃ W5, Hid (W4.alloc (.cells #[.int .i64 r.1.id, .int .i64 r.1.kind, .int .i64 r.1.zero, .int .i64 r.1.scale] 25) = W5) := ⟨_, Lib.hid rfl⟩
  have H11 := Lib.hid (show Blk W5 w.heap.size 51 #[.int .i64 x0.id, .int .i64 x0.kind, .int .i64 x0.zero, .int .i64 x0.scale] by rw [← HW5.out]; exact H9.out.alloc _)
  have H12 := Lib.hid (show Blk W5 (W4.heap.size) 25 #[.int .i64 r.1.id, .int .i64 r.1.kind, .int .i64 r.1.zero, .int .i64 r.1.scale] by rw [← HW5.out]; exact (Blk.new _ _ _))
  have H13 := Lib.hid (show Below w.heap.size w W5 by rw [← HW5.out]; exact (H8.out).alloc (H8.out.size) _)
  rw [HW5.out]
  clear HW5 H9 H8
  have HArg := Lib.hid (tlo.more_check (HA1.out.below H13.out) H13.out.size)
  refine (tl.to_checkS A1 n1 c1 t1 W5 hn1 HArg).mono ?_
  rintro e W6 ⟨rfl, ⟨cs_x1, hk, hf⟩, b⟩
  have HF_x1 := Lib.hid hf
  clear hf HArg
  have H14 := Lib.hid (H13.out.trans (b.mono H13.out.size))
  have H15 := Lib.hid (show Blk W6 (w.heap.size) 51 #[.int .i64 x0.id, .int .i64 x0.kind, .int .i64 x0.zero, .int .i64 x0.scale] from H11.out.below b H11.out.lt)
  have H16 := Lib.hid (show Blk W6 (W4.heap.size) 25 #[.int .i64 r.1.id, .int .i64 r.1.kind, .int .i64 r.1.zero, .int .i64 r.1.scale] from H12.out.below b H12.out.lt)
  clear b H13 H11 H12
  have H17 := Lib.hid hk
  clear hk
  have q_x0l := H15.out.lt
  have q_x00 : W6.cell? ⟨w.heap.size, 0, none⟩ = some (.int .i64 x0.id) := H15.out.cell 0
  have q_x01 : W6.cell? ⟨w.heap.size, 1, none⟩ = some (.int .i64 x0.kind) := H15.out.cell 1
  have q_x02 : W6.cell? ⟨w.heap.size, 2, none⟩ = some (.int .i64 x0.zero) := H15.out.cell 2
  have q_x03 : W6.cell? ⟨w.heap.size, 3, none⟩ = some (.int .i64 x0.scale) := H15.out.cell 3
  go_wp2_with fail
  clear q_x0l q_x00 q_x01 q_x02 q_x03
  refine (tl.to_tool x0 _).mono ?_
  rintro e W7 ⟨rfl, b⟩
  have H18 := Lib.hid (H14.out.trans (b.mono H14.out.size))
  have H19 := Lib.hid (show Blk W7 (w.heap.size) 51 #[.int .i64 x0.id, .int .i64 x0.kind, .int .i64 x0.zero, .int .i64 x0.scale] from H15.out.below b H15.out.lt)
  have H20 := Lib.hid (show Blk W7 (W4.heap.size) 25 #[.int .i64 r.1.id, .int .i64 r.1.kind, .int .i64 r.1.zero, .int .i64 r.1.scale] from H16.out.below b H16.out.lt)
  have H21 := Lib.hid (show Blk W7 W5.heap.size 40 cs_x1 from H17.out.below b H17.out.lt)
  clear b H14 H15 H16 H17
  go_wp2_with fail
  have HL1 := Lib.hid ((tl.FillCk.at_ HF_x1.out HA1.out.1 H21.out).more (by exact H21.out.lt))
  refine (tli.fitZero_impl x0 _ n1 _ t1 _ (by omega) HL1).mono ?_
  rintro e W8 ⟨rfl, b⟩
  rw [HFm.out]
  have H22 := Lib.hid (H18.out.trans (b.mono H18.out.size))
  have H23 := Lib.hid (show Blk W8 (w.heap.size) 51 #[.int .i64 x0.id, .int .i64 x0.kind, .int .i64 x0.zero, .int .i64 x0.scale] from H19.out.below b H19.out.lt)
  have H24 := Lib.hid (show Blk W8 (W4.heap.size) 25 #[.int .i64 r.1.id, .int .i64 r.1.kind, .int .i64 r.1.zero, .int .i64 r.1.scale] from H20.out.below b H20.out.lt)
  have H25 := Lib.hid (show Blk W8 W5.heap.size 40 cs_x1 from H21.out.below b H21.out.lt)
  clear b H18 H19 H20 H21
  clear HL1
  have q_w0l := H24.out.lt
  have q_w00 : W8.cell? ⟨W4.heap.size, 0, none⟩ = some (.int .i64 r.1.id) := H24.out.cell 0
  have q_w01 : W8.cell? ⟨W4.heap.size, 1, none⟩ = some (.int .i64 r.1.kind) := H24.out.cell 1
  have q_w02 : W8.cell? ⟨W4.heap.size, 2, none⟩ = some (.int .i64 r.1.zero) := H24.out.cell 2
  have q_w03 : W8.cell? ⟨W4.heap.size, 3, none⟩ = some (.int .i64 r.1.scale) := H24.out.cell 3
  go_wp2_with fail
  clear q_w0l q_w00 q_w01 q_w02 q_w03
  obtain ⟨W9, HW9⟩ : ∃ W9, Hid (W8.alloc (.cells #[.int .i64 r.1.id, .int .i64 r.1.kind, .int .i64 r.1.zero, .int .i64 r.1.scale] 25) = W9) := ⟨_, Lib.hid rfl⟩
  have H26 := Lib.hid (show Blk W9 w.heap.size 51 #[.int .i64 x0.id, .int .i64 x0.kind, .int .i64 x0.zero, .int .i64 x0.scale] by rw [← HW9.out]; exact H23.out.alloc _)
  have H27 := Lib.hid (show Blk W9 W4.heap.size 25 #[.int .i64 r.1.id, .int .i64 r.1.kind, .int .i64 r.1.zero, .int .i64 r.1.scale] by rw [← HW9.out]; exact H24.out.alloc _)
  have H28 := Lib.hid (show Blk W9 (W8.heap.size) 25 #[.int .i64 r.1.id, .int .i64 r.1.kind, .int .i64 r.1.zero, .int .i64 r.1.scale] by rw [← HW9.out]; exact (Blk.new _ _ _))
  have H29 := Lib.hid (show Below w.heap.size w W9 by rw [← HW9.out]; exact (H22.out).alloc (H22.out.size) _)
  have H30 := Lib.hid (show Blk W9 W5.heap.size 40 cs_x1 by rw [← HW9.out]; exact (H25.out).alloc _)
  rw [HW9.out]
  clear HW9 H23 H24 H22
  refine (tl.eq_tool _ _).mono ?_
  rintro e W10 ⟨rfl, b⟩
  have H31 := Lib.hid (H29.out.trans (b.mono H29.out.size))
  have H32 := Lib.hid (show Blk W10 (w.heap.size) 51 #[.int .i64 x0.id, .int .i64 x0.kind, .int .i64 x0.zero, .int .i64 x0.scale] from H26.out.below b H26.out.lt)
  have H33 := Lib.hid (show Blk W10 (W4.heap.size) 25 #[.int .i64 r.1.id, .int .i64 r.1.kind, .int .i64 r.1.zero, .int .i64 r.1.scale] from H27.out.below b H27.out.lt)
  have H34 := Lib.hid (show Blk W10 (W8.heap.size) 25 #[.int .i64 r.1.id, .int .i64 r.1.kind, .int .i64 r.1.zero, .int .i64 r.1.scale] from H28.out.below b H28.out.lt)
  have H35 := Lib.hid (show Blk W10 W5.heap.size 40 cs_x1 from H30.out.below b H30.out.lt)
  clear b H29 H26 H27 H28 H30
  go_wp2_with fail
  have HArg := Lib.hid (tlo.more_check (HA1.out.below H31.out) H31.out.size)
  refine (tl.to_checkS A1 n1 c1 t1 W10 hn1 HArg).mono ?_
  rintro e W11 ⟨rfl, ⟨cs_z1, hk, hf⟩, b⟩
  have HF_z1 := Lib.hid hf
  clear hf HArg
  have H36 := Lib.hid (H31.out.trans (b.mono H31.out.size))
  have H37 := Lib.hid (show Blk W11 (w.heap.size) 51 #[.int .i64 x0.id, .int .i64 x0.kind, .int .i64 x0.zero, .int .i64 x0.scale] from H32.out.below b H32.out.lt)
  have H38 := Lib.hid (show Blk W11 (W4.heap.size) 25 #[.int .i64 r.1.id, .int .i64 r.1.kind, .int .i64 r.1.zero, .int .i64 r.1.scale] from H33.out.below b H33.out.lt)
  have H39 := Lib.hid (show Blk W11 (W8.heap.size) 25 #[.int .i64 r.1.id, .int .i64 r.1.kind, .int .i64 r.1.zero, .int .i64 r.1.scale] from H34.out.below b H34.out.lt)
  have H40 := Lib.hid (show Blk W11 W5.heap.size 40 cs_x1 from H35.out.below b H35.out.lt)
  clear b H31 H32 H33 H34 H35
  have H41 := Lib.hid hk
  clear hk
  go_wp2_with fail
  have HLx := Lib.hid ((tl.FillCk.at_ HF_x1.out HA1.out.1 H40.out).more (by exact H40.out.lt))
  have HLz := Lib.hid ((tl.FillCk.at_ HF_z1.out HA1.out.1 H41.out).more (by exact H41.out.lt))
  refine (tl.eq_checkS _ _ n1 _ _ t1 _ (by omega) HLx HLz).mono ?_
  rintro e W12 ⟨rfl, b⟩
  have H42 := Lib.hid (H36.out.trans (b.mono H36.out.size))
  have H43 := Lib.hid (show Blk W12 (w.heap.size) 51 #[.int .i64 x0.id, .int .i64 x0.kind, .int .i64 x0.zero, .int .i64 x0.scale] from H37.out.below b H37.out.lt)
  have H44 := Lib.hid (show Blk W12 (W4.heap.size) 25 #[.int .i64 r.1.id, .int .i64 r.1.kind, .int .i64 r.1.zero, .int .i64 r.1.scale] from H38.out.below b H38.out.lt)
  have H45 := Lib.hid (show Blk W12 (W8.heap.size) 25 #[.int .i64 r.1.id, .int .i64 r.1.kind, .int .i64 r.1.zero, .int .i64 r.1.scale] from H39.out.below b H39.out.lt)
  have H46 := Lib.hid (show Blk W12 W5.heap.size 40 cs_x1 from H40.out.below b H40.out.lt)
  have H47 := Lib.hid (show Blk W12 W10.heap.size 40 cs_z1 from H41.out.below b H41.out.lt)
  clear b H36 H37 H38 H39 H40 H41
  clear HLx HLz
  go_wp2_with fail
  go_ret
  exact ⟨rfl, H42.out⟩

theorem laidOut : laidOutB Try.prog = true := by kernel_rfl
set_option maxRecDepth 100000 in
theorem lifted (os : Os) (started : os.Started) (H : Type) (enc : TypeId × Value → H) :
    ReturnsInHanded {} Try.checked os 10 .any (Rows.fnExactFitZeroSpec.pre6 enc Try.prog Try.f10 Rows.fnExactFitZeroRow.domain false) (Rows.fnExactFitZeroSpec.post enc Try.prog Try.f10 false true false false) := by
  refine returnsInHanded_of_change (C := Try.checked) own started (by kernel_rfl) Try.func10
    (ChangeSpec.witness6 (enc := enc) (C := Try.checked) false ⟨#[], #[.agg #[.int .i64 0, .int .i64 0, .int .i64 0, .int .i64 0], .slice none 0 0], []⟩ 8 (by kernel_rfl) (by kernel_rfl) (by kernel_rfl) (by kernel_rfl)) ?_
  intro W base args ds gs before hval0 hW hcnd _
  have hval : ∀ (j : Nat) t v, Try.f10.params[j]? = some t → args[j]? = some v → Value.okWide Try.prog W .any base t v := hval0
  have hW' := hW
  obtain ⟨p, q, hA0, hV, rfl, hfz, hnd⟩ := hW
  have hA : DataW.TrodAll enc Try.prog W 0 (fun _ => true) true Try.f10.params.toList args.toList ds p := hA0
  rw [Try.params10] at hA hval
  obtain ⟨v0, vs0, d0, ds0, p0, q0, hargs, rfl, rfl, h0, r0⟩ := trodAll_cons hA
  obtain ⟨v1, vs1, d1, ds1, p1, q1, rfl, rfl, rfl, h1, r1⟩ := trodAll_cons r0
  obtain ⟨rfl, rfl, rfl⟩ := trodAll_nil r1
  obtain rfl : args = #[v0, v1] := by cases args; simp_all
  obtain ⟨rfl, rfl⟩ := trodVars_none hV
  have k0 := h0
  have lt0 : ∀ x ∈ p0, x.block < W.heap.size := by obtain ⟨m, hm⟩ := k0; exact DataW.trod_lt m _ _ _ hm
  obtain ⟨x0, rfl⟩ := tlo.open_tool (hval 0 51 v0 rfl rfl) h0
  have k1 := h1
  have lt1 : ∀ x ∈ p1, x.block < W.heap.size := by obtain ⟨m, hm⟩ := k1; exact DataW.trod_lt m _ _ _ hm
  obtain ⟨A1, n1, c1, t1, rfl, HA1, hm1⟩ := tlo.open_checkS (hval 1 63 v1 rfl rfl) h1
  clear hA0 hval0
  refine (walk x0 A1 n1 c1 t1 W hm1 (Lib.hid HA1)).mono fun e W' ⟨he, bel⟩ => ?_
  subst he
  exact ⟨_, rfl, _, _, _, [], _, [], hW', trodAll_mk1 (shut_bool Try.underlying4 _), (trodAll_cons_mk (Below.trod laidOut (by kernel_rfl) (of_decide_eq_true (by kernel_rfl)) k0 bel lt0) (trodAll_cons_mk (Below.trod laidOut (by kernel_rfl) (of_decide_eq_true (by kernel_rfl)) k1 bel lt1) trodAll_mk0)), rfl, bel.frame _, fun h => by cases h⟩

theorem over : Rows.fnExactFitZeroRow.holds Try.pinned (OpenSpec.ofChange Rows.fnExactFitZeroSpec) :=
  OpenClaim.holds_of_wide 10 Try.f10 rfl rfl rfl rfl rfl rfl rfl ⟨rfl, rfl, rfl, rfl, rfl⟩ rfl rfl rfl rfl rfl (by kernel_rfl) Try.func10 (by kernel_rfl)
    (of_decide_eq_true (by kernel_rfl)) (by unfold Func.isWrapper; first | (rw [if_pos (by decide +kernel)]; kernel_rfl) | (rw [if_neg (by decide +kernel)]; exact ⟨rfl, rfl⟩))
    (fun os started H enc _ => lifted os started H enc)

theorem proved : Rows.FnExactFitZeroSaid := over
#print axioms proved
end Go.Proofs.Ytekbiapgbhaibaa.fnExactFitZero
