/-
  A network as a whole: made, stored, read, one operation each (its 56 cells stay under a name).
  Conditions: none but those that a theorem names.
-/
import Derived.Test.YtgfopehceojahaaDoorNqA
import Derived.WalkKit
import Derived.OwnWalk
import Derived.ScopeJumps
namespace Go.Proofs.YtgfopehceojahaaDoor.nq
open Go.RowKit
open reads base
set_option linter.unusedVariables false
set_option linter.unusedSimpArgs false

theorem sizeNet : (Tryd.prog.info? 74).map (·.size) = some 56 := by kernel_rfl
theorem zero_size : (nv none6 off12).size = 56 := nv_size ok_none
set_option maxRecDepth 100000 in
theorem run_build_net (w : World) : (Instr.build 74 #[]).run Tryd.prog w = .ok (.agg (nv none6 off12)) w := by
  simp [Instr.build]
  kernel_rfl
set_option maxRecDepth 100000 in
theorem run_alloc_net (w : World) (v : Value) : (Instr.alloc 74 true v).run Tryd.prog w = .ok (.pointer (some ⟨w.heap.size, 0, none⟩)) (w.alloc (.cells (nv none6 off12) 74)) := by
  kernel_rfl
theorem set_row {w : World} {g : Nat} {t : TypeId} {C C' : Array Value} (hB : Blk w g t C) : Blk (w.setRow g C') g t C' ∧ w.grownBy (w.setRow g C') (some g) := by
  constructor
  · unfold Blk at hB ⊢
    simp [World.setRow, Array.getElem?_modify, hB]
  · refine ⟨rfl, rfl, rfl, by simp [World.setRow], fun i hi hne => ?_⟩
    have : ¬ g = i := fun e => hne (by rw [e])
    simp [World.setRow, Array.getElem?_modify, this]
section
variable {ops : Array Oper} {rest : List Oper} {o : Oper} {a : Act} {Q : Exit → Act → World → Prop}
theorem step_move (w : World) (hg : o.guard = none) (x : Operand) (hop : o.op = .move x) (v : Value) (hx : a.eval x = v)
    (hK : wpList Tryd.prog ops Q rest (a.put o.dst v) w) : wpList Tryd.prog ops Q (o :: rest) a w := by
  refine wpList_plain hg fun K hK' => ?_
  unfold Oper.wp execOp
  simp only [hop, hx, Sem.run_pure, Oper.upon]
  exact hK' _ _ hK
theorem step_build (w : World) (hg : o.guard = none) (hop : o.op = .build 74 #[])
    (hK : wpList Tryd.prog ops Q rest (a.put o.dst (.agg (nv none6 off12))) w) : wpList Tryd.prog ops Q (o :: rest) a w := by
  refine wpList_plain hg fun K hK' => ?_
  unfold Oper.wp execOp
  simp only [hop, List.map_toArray, List.map_nil, Array.map_empty, Sem.run_bind, run_build_net, Result.andThen, Sem.run_pure, Oper.upon]
  exact hK' _ _ hK
theorem step_alloc (w : World) (hg : o.guard = none) (hop : o.op = .alloc 74)
    (hK : wpList Tryd.prog ops Q rest (a.put o.dst (.pointer (some ⟨w.heap.size, 0, none⟩))) (w.alloc (.cells (nv none6 off12) 74))) : wpList Tryd.prog ops Q (o :: rest) a w := by
  refine wpList_plain hg fun K hK' => ?_
  unfold Oper.wp execOp
  simp only [hop, Sem.run_bind, run_alloc_net, Result.andThen, Sem.run_pure, Oper.upon]
  exact hK' _ _ hK
theorem step_store (w : World) (hg : o.guard = none) (p x : Operand) (hop : o.op = .store 74 p x) (g : Nat) (C C' : Array Value) (hp : a.eval p = .pointer (some ⟨g, 0, none⟩)) (hx : a.eval x = .agg C') (hB : Blk w g 74 C) (h0 : C.size = 56) (h1 : C'.size = 56) (h2 : C'.all (·.oneCell') = true)
    (hK : ∀ W, Blk W g 74 C' → w.grownBy W (some g) → wpList Tryd.prog ops Q rest (a.put o.dst undef) W) : wpList Tryd.prog ops Q (o :: rest) a w := by
  refine wpList_plain hg fun K hK' => ?_
  have hr := run_storeVar_row (P := Tryd.prog) w g 74 74 C C' hB (by rw [sizeNet, h1]) (by rw [h0, h1]) h2
  have hs : (Instr.storeAt 74 (.pointer (some ⟨g, 0, none⟩)) (.agg C')).run Tryd.prog w = .ok () (w.setRow g C') := by
    simp only [Instr.storeAt, Instr.sureAddr, Sem.run_bind, Sem.run_pure, Result.andThen]
    exact hr
  obtain ⟨k1, k2⟩ := set_row (C' := C') hB
  unfold Oper.wp execOp
  simp only [hop, hp, hx, Sem.run_bind, hs, Result.andThen, Sem.run_pure, Oper.upon]
  exact hK' _ _ (hK _ k1 k2)
theorem run_loadVar_net {w : World} {g : Nat} {C : Array Value} (hB : Blk w g 74 C) (h0 : C.size = 56) : (loadVar 74 ⟨g, 0, none⟩).run Tryd.prog w = .ok (.agg C) w :=
  run_loadVar_row (P := Tryd.prog) w g 74 74 C (0, 0) _ hB Tryd.underlying74 rfl (by rw [sizeNet, h0])
theorem run_load_net {w : World} {g : Nat} {C : Array Value} (hB : Blk w g 74 C) (h0 : C.size = 56) : (Instr.loadAt 74 (.pointer (some ⟨g, 0, none⟩))).run Tryd.prog w = .ok (.agg C) w := by
  have hr := run_loadVar_row (P := Tryd.prog) w g 74 74 C (0, 0) _ hB Tryd.underlying74 rfl (by rw [sizeNet, h0])
  simp only [Instr.loadAt, Instr.sureAddr, Sem.run_bind, Sem.run_pure, Result.andThen]
  exact hr
theorem step_load (w : World) (hg : o.guard = none) (p : Operand) (hop : o.op = .load 74 p) (g : Nat) (C : Array Value) (hp : a.eval p = .pointer (some ⟨g, 0, none⟩)) (hB : Blk w g 74 C) (h0 : C.size = 56)
    (hK : wpList Tryd.prog ops Q rest (a.put o.dst (.agg C)) w) : wpList Tryd.prog ops Q (o :: rest) a w := by
  refine wpList_plain hg fun K hK' => ?_
  unfold Oper.wp execOp
  simp only [hop, hp, Sem.run_bind, run_load_net hB h0, Result.andThen, Sem.run_pure, Oper.upon]
  exact hK' _ _ hK
theorem step_not (w : World) (hg : o.guard = none) (x : Operand) (ty : TypeId) (hop : o.op = .unOp .not ty x) (b : Bool) (hx : a.eval x = .bool b)
    (hK : wpList Tryd.prog ops Q rest (a.put o.dst (.bool (!b))) w) : wpList Tryd.prog ops Q (o :: rest) a w := by
  refine wpList_plain hg fun K hK' => ?_
  unfold Oper.wp execOp
  simp only [hop, hx]
  simp [go_sem]
  exact hK' _ _ hK
theorem step_loadg (w : World) (hw : Region.wanted o (yielded ops a.tmps) = true) (p : Operand) (hop : o.op = .load 74 p) (g : Nat) (C : Array Value) (hp : a.eval p = .pointer (some ⟨g, 0, none⟩)) (hB : Blk w g 74 C) (h0 : C.size = 56)
    (hK : wpList Tryd.prog ops Q rest (a.put o.dst (.agg C)) w) : wpList Tryd.prog ops Q (o :: rest) a w := by
  refine wpList_step fun K hK' => ?_
  rw [if_pos hw]
  unfold Oper.wp execOp
  simp only [hop, hp, Sem.run_bind, run_load_net hB h0, Result.andThen, Sem.run_pure, Oper.upon]
  exact hK' _ _ hK
theorem exec_load {w : World} {p : Operand} (hop : o.op = .load 74 p) {g : Nat} {C : Array Value} (hp : a.eval p = .pointer (some ⟨g, 0, none⟩)) (hB : Blk w g 74 C) (h0 : C.size = 56) : (execOp a.eval o).run Tryd.prog w = .ok (.value (.agg C)) w := by
  unfold execOp
  simp only [hop, hp, Sem.run_bind, run_load_net hB h0, Result.andThen, Sem.run_pure]
end
theorem wp_scope_twice {P : Program} {c rest : Code} {Q : Exit → Act → World → Prop} {a : Act} {w : World} (l : Nat) (J : Act → World → Prop) (μ : Act → World → Nat) (hf : findLabel c l = some (Code.skip.seq rest))
    (pass : ∀ a w, J a w → rest.wp P (Exit.jump l (fun a' w' => J a' w' ∧ μ a' w' < μ a w) Q) a w)
    (first : (∀ a w, J a w → rest.wp P (Exit.jump l J Q) a w) → c.wp P (Exit.jump l J Q) a w) : (Code.scope c).wp P Q a w :=
  wp_scope_jumps l J μ hf (first fun a w hJ => Code.wp_mono (fun e a w h => by
    cases e with
    | goto l' => exact ⟨h.1, h.2.1⟩
    | _ => exact h) (pass a w hJ)) (fun a w hJ => by
      apply wp_seq_k
      intro K hK
      apply wp_skip
      exact hK _ _ (pass a w hJ))
#print axioms step_store
#print axioms step_load
end Go.Proofs.YtgfopehceojahaaDoor.nq
