/-
  FnExactReadBack holds: at every argument ReadBack answers as its model answers, and the arguments read behind the call as they read before it.
  Conditions: none of our own.
-/
import Derived.Test.YtekbiapgbhaibaaTio
import Derived.Test.YtekbiapgbhaibaaTiD
import Derived.Test.YtekbiapgbhaibaaEnd
import Derived.Test.YtekbiapgbhaibaaRows
import Derived.WalkKit
import Derived.ProofKit
import Derived.OpenShut
import Derived.Carry
namespace Go.Proofs.Ytekbiapgbhaibaa.fnExactReadBack
open Go.ChangeShapes Go.WideShapes Go.ChangeAt Go.RowKit
open Go.ChangeMaps (open_string shut_string)
open reads tl tli tlo
set_option linter.unusedVariables false
set_option linter.unusedSimpArgs false

theorem own : ownKnob Try.prog.godebug = none := by kernel_rfl
def LawPost (w : World) (e : Ending) (w' : World) : Prop := e = .returned (.bool true) ∧ Below w.heap.size w w'
/-- the answer is one: the first reading is unique -/
def ansRB (x : Tl) (c : Int) (v : Value) : Prop := (rbOk x c = true ∧ ∃ r, firstHit x c r ∧ v = .tuple #[.int .i64 r, .bool true]) ∨ ((rbOk x c = false ∨ ∀ q, -90 ≤ q → q ≤ 1000 → ¬ hit x c q) ∧ v = .tuple #[.int .i64 0, .bool false])
theorem ans_one {x : Tl} {c : Int} {u v : Value} (h : ansRB x c u) (k : ansRB x c v) : u = v := by
  rcases h with ⟨a, r, f, rfl⟩ | ⟨a, rfl⟩ <;> rcases k with ⟨b, q, g, rfl⟩ | ⟨b, rfl⟩
  · rw [first_uniq f g]
  · rcases b with b | b
    · rw [a] at b; cases b
    · exact absurd f.2.2.1 (b r f.1 f.2.1)
  · rcases a with a | a
    · rw [a] at b; cases b
    · exact absurd g.2.2.1 (a q g.1 g.2.1)
  · rfl
theorem some_first {x : Tl} {c : Int} (h : ¬ ∀ q, -90 ≤ q → q ≤ 1000 → ¬ hit x c q) : ∃ r, firstHit x c r := by
  refine Classical.byContradiction fun no => h fun q q0 q1 hq => ?_
  obtain ⟨r, hr, -⟩ := first_le hq q0 q1
  exact no ⟨r, hr⟩
theorem form (x : Tl) (c : Int) : ∃ (v0 : Int) (ok : Bool), ansRB x c (.tuple #[.int .i64 v0, .bool ok]) := by
  cases hb : rbOk x c
  · exact ⟨0, false, .inr ⟨.inl hb, rfl⟩⟩
  · by_cases h : ∀ q, -90 ≤ q → q ≤ 1000 → ¬ hit x c q
    · exact ⟨0, false, .inr ⟨.inr h, rfl⟩⟩
    · obtain ⟨r, hr⟩ := some_first h
      exact ⟨r, true, .inl ⟨hb, r, hr, rfl⟩⟩
theorem RB_any {f : FuncId} {x : Tl} {c v0 : Int} {ok : Bool} {w : World} (hv : Hid (ansRB x c (.tuple #[.int .i64 v0, .bool ok]))) (h : Calls Try.prog f #[.agg #[.int .i64 x.id, .int .i64 x.kind, .int .i64 x.zero, .int .i64 x.scale], .int .i64 c] w (RBPost x c w)) :
    Calls Try.prog f #[.agg #[.int .i64 x.id, .int .i64 x.kind, .int .i64 x.zero, .int .i64 x.scale], .int .i64 c] w (APost (.tuple #[.int .i64 v0, .bool ok]) w) :=
  h.mono fun e w' hh => by
    refine ⟨?_, hh.2⟩
    rcases hh.1 with ⟨a, r, f, rfl⟩ | ⟨a, rfl⟩
    · rw [ans_one hv.out (.inl ⟨a, r, f, rfl⟩)]
    · rw [ans_one hv.out (.inr ⟨a, rfl⟩)]
set_option maxHeartbeats 4000000 in
set_option maxRecDepth 100000 in
theorem walk (x0 : Tl) (x1 : Int) (w : World)  : Calls Try.prog 13 #[.agg #[.int .i64 x0.id, .int .i64 x0.kind, .int .i64 x0.zero, .int .i64 x0.scale], .int .i64 x1] w (LawPost w) := by
  obtain ⟨v0, v1, hfm⟩ := form x0 x1
  have HFm := Lib.hid hfm
  clear hfm
  go_enter Try.func13, Try.ntmps13
  go_wp2_with fail
  obtain ⟨W1, HW1⟩ : ∃ W1, Hid (w.alloc (.cells #[.int .i64 x0.id, .int .i64 x0.kind, .int .i64 x0.zero, .int .i64 x0.scale] 51) = W1) := ⟨_, Lib.hid rfl⟩
  have H1 := Lib.hid (show Blk W1 (w.heap.size) 51 #[.int .i64 x0.id, .int .i64 x0.kind, .int .i64 x0.zero, .int .i64 x0.scale] by rw [← HW1.out]; exact (Blk.new _ _ _))
  have H2 := Lib.hid (show Below w.heap.size w W1 by rw [← HW1.out]; exact (Below.refl w.heap.size w).alloc (Nat.le_refl _) _)
  rw [HW1.out]
  clear HW1
  refine (tl.to_tool x0 _).mono ?_
  rintro e W2 ⟨rfl, b⟩
  have H3 := Lib.hid (H2.out.trans (b.mono H2.out.size))
  have H4 := Lib.hid (show Blk W2 (w.heap.size) 51 #[.int .i64 x0.id, .int .i64 x0.kind, .int .i64 x0.zero, .int .i64 x0.scale] from H1.out.below b H1.out.lt)
  clear b H2 H1
  go_wp2_with fail
  refine (RB_any HFm (readBack_model x0 x1 _)).mono ?_
  rintro e W3 ⟨rfl, b⟩
  have H5 := Lib.hid (H3.out.trans (b.mono H3.out.size))
  have H6 := Lib.hid (show Blk W3 (w.heap.size) 51 #[.int .i64 x0.id, .int .i64 x0.kind, .int .i64 x0.zero, .int .i64 x0.scale] from H4.out.below b H4.out.lt)
  clear b H3 H4
  have q_x00 : W3.cell? ⟨w.heap.size, 0, none⟩ = some (.int .i64 x0.id) := H6.out.cell 0
  have q_x01 : W3.cell? ⟨w.heap.size, 1, none⟩ = some (.int .i64 x0.kind) := H6.out.cell 1
  have q_x02 : W3.cell? ⟨w.heap.size, 2, none⟩ = some (.int .i64 x0.zero) := H6.out.cell 2
  have q_x03 : W3.cell? ⟨w.heap.size, 3, none⟩ = some (.int .i64 x0.scale) := H6.out.cell 3
  go_wp2_with fail
  clear q_x00 q_x01 q_x02 q_x03
  refine (tl.to_tool x0 _).mono ?_
  rintro e W4 ⟨rfl, b⟩
  have H7 := Lib.hid (H5.out.trans (b.mono H5.out.size))
  have H8 := Lib.hid (show Blk W4 (w.heap.size) 51 #[.int .i64 x0.id, .int .i64 x0.kind, .int .i64 x0.zero, .int .i64 x0.scale] from H6.out.below b H6.out.lt)
  clear b H5 H6
  go_wp2_with fail
  refine (RB_any HFm (readBack_impl x0 x1 _)).mono ?_
  rintro e W5 ⟨rfl, b⟩
  have H9 := Lib.hid (H7.out.trans (b.mono H7.out.size))
  have H10 := Lib.hid (show Blk W5 (w.heap.size) 51 #[.int .i64 x0.id, .int .i64 x0.kind, .int .i64 x0.zero, .int .i64 x0.scale] from H8.out.below b H8.out.lt)
  clear b H7 H8
  go_wp2_with fail
  go_ret
  exact ⟨rfl, H9.out⟩

theorem laidOut : laidOutB Try.prog = true := by kernel_rfl
set_option maxRecDepth 100000 in
theorem lifted (os : Os) (started : os.Started) (H : Type) (enc : TypeId × Value → H) :
    ReturnsInHanded {} Try.checked os 13 .any (Rows.fnExactReadBackSpec.pre6 enc Try.prog Try.f13 Rows.fnExactReadBackRow.domain false) (Rows.fnExactReadBackSpec.post enc Try.prog Try.f13 false true false false) := by
  refine returnsInHanded_of_change (C := Try.checked) own started (by kernel_rfl) Try.func13
    (ChangeSpec.witness6 (enc := enc) (C := Try.checked) false ⟨#[], #[.agg #[.int .i64 0, .int .i64 0, .int .i64 0, .int .i64 0], .int .i64 0], []⟩ 8 (by kernel_rfl) (by kernel_rfl) (by kernel_rfl) (by kernel_rfl)) ?_
  intro W base args ds gs before hval0 hW hcnd _
  have hval : ∀ (j : Nat) t v, Try.f13.params[j]? = some t → args[j]? = some v → Value.okWide Try.prog W .any base t v := hval0
  have hW' := hW
  obtain ⟨p, q, hA0, hV, rfl, hfz, hnd⟩ := hW
  have hA : DataW.TrodAll enc Try.prog W 0 (fun _ => true) true Try.f13.params.toList args.toList ds p := hA0
  rw [Try.params13] at hA hval
  obtain ⟨v0, vs0, d0, ds0, p0, q0, hargs, rfl, rfl, h0, r0⟩ := trodAll_cons hA
  obtain ⟨v1, vs1, d1, ds1, p1, q1, rfl, rfl, rfl, h1, r1⟩ := trodAll_cons r0
  obtain ⟨rfl, rfl, rfl⟩ := trodAll_nil r1
  obtain rfl : args = #[v0, v1] := by cases args; simp_all
  obtain ⟨rfl, rfl⟩ := trodVars_none hV
  have k0 := h0
  have lt0 : ∀ x ∈ p0, x.block < W.heap.size := by obtain ⟨m, hm⟩ := k0; exact DataW.trod_lt m _ _ _ hm
  obtain ⟨x0, rfl⟩ := tlo.open_tool (hval 0 51 v0 rfl rfl) h0
  obtain ⟨x1, rfl, rfl, rfl, w1⟩ := open_int Try.underlying3 (hval 1 3 v1 rfl rfl) h1
  clear hA0 hval0
  refine (walk x0 x1 W ).mono fun e W' ⟨he, bel⟩ => ?_
  subst he
  exact ⟨_, rfl, _, _, _, [], _, [], hW', trodAll_mk1 (shut_bool Try.underlying4 _), (trodAll_cons_mk (Below.trod laidOut (by kernel_rfl) (of_decide_eq_true (by kernel_rfl)) k0 bel lt0) (trodAll_cons_mk (shut_int Try.underlying3 w1) trodAll_mk0)), rfl, bel.frame _, fun h => by cases h⟩

theorem over : Rows.fnExactReadBackRow.holds Try.pinned (OpenSpec.ofChange Rows.fnExactReadBackSpec) :=
  OpenClaim.holds_of_wide 13 Try.f13 rfl rfl rfl rfl rfl rfl rfl ⟨rfl, rfl, rfl, rfl, rfl⟩ rfl rfl rfl rfl rfl (by kernel_rfl) Try.func13 (by kernel_rfl)
    (of_decide_eq_true (by kernel_rfl)) (by unfold Func.isWrapper; first | (rw [if_pos (by decide +kernel)]; kernel_rfl) | (rw [if_neg (by decide +kernel)]; exact ⟨rfl, rfl⟩))
    (fun os started H enc _ => lifted os started H enc)

theorem proved : Rows.FnExactReadBackSaid := over
#print axioms proved
end Go.Proofs.Ytekbiapgbhaibaa.fnExactReadBack
