/-
  An array of 1000 ints as a whole: made, stored, read, one operation each (its cells stay under a name).
  Conditions: none but those that a theorem names.
-/
import Derived.Test.YtiimegmaokfpgaaVaA
import Derived.Test.YtiimegmaokfpgaaMtA
import Derived.WalkKit
import Derived.OwnWalk
import Derived.Laws.ResultCell
import Derived.ChangeKeysEq
namespace Go.Proofs.Ytiimegmaokfpgaa.va
open Go.RowKit
open reads base rowi mt
set_option linter.unusedVariables false
set_option linter.unusedSimpArgs false

def arr0 : Array Value := cs1 1000 (fun _ => 0)
theorem undArr : Try.prog.underlying 72 = some (.array 1000 3) := by kernel_rfl
theorem undI : Try.prog.underlying 3 = some (.int .i64) := by kernel_rfl
theorem sizeArr : (Try.prog.info? 72).map (·.size) = some 1000 := by kernel_rfl
theorem zeroArr : (Try.prog.info? 72).map (fun i => i.zero) = some (some (.agg arr0)) := by kernel_rfl
theorem arr0_size : arr0.size = 1000 := cs1_size _ _
theorem cs1_one (n : Nat) (f : Nat → Int) : (cs1 n f).all (·.oneCell') = true := by
  rw [Array.all_eq_true]
  intro i hi
  have h : i < n := by rw [cs1_size] at hi; exact hi
  have := cs1_at f h
  rw [Array.getElem?_eq_getElem hi] at this
  rw [Option.some.inj this]; rfl
theorem zero_run (w : World) : (zeroValue 72).run Try.prog w = .ok (.agg arr0) w := by
  obtain ⟨i, hi, hz⟩ : ∃ i, Try.prog.info? 72 = some i ∧ i.zero = some (.agg arr0) := by
    have h := zeroArr
    cases q : Try.prog.info? 72 with
    | none => rw [q] at h; cases h
    | some i => rw [q] at h; exact ⟨i, rfl, Option.some.inj h⟩
  simp [zeroValue, typeInfo, hi, hz]
theorem run_build_arr (w : World) : (Instr.build 72 #[]).run Try.prog w = .ok (.agg arr0) w := by
  obtain ⟨i, hi⟩ : ∃ i, Try.prog.info? 3 = some i := by
    have h : (Try.prog.info? 3).isSome = true := by kernel_rfl
    exact Option.isSome_iff_exists.1 h
  simp only [Instr.build, Sem.run_bind, zero_run, Result.andThen, run_underlying undArr]
  simp [sizeOf, typeInfo, hi, Instr.fill, Value.cells]
theorem run_alloc_arr (w : World) (v : Value) : (Instr.alloc 72 true v).run Try.prog w = .ok (.pointer (some ⟨w.heap.size, 0, none⟩)) (w.alloc (.cells arr0 72)) := by
  kernel_rfl
theorem set_row {w : World} {g : Nat} {t : TypeId} {C C' : Array Value} (hB : Blk w g t C) : Blk (w.setRow g C') g t C' ∧ w.grownBy (w.setRow g C') (some g) := by
  constructor
  · unfold Blk at hB ⊢
    simp [World.setRow, Array.getElem?_modify, hB]
  · refine ⟨rfl, rfl, rfl, by simp [World.setRow], fun i hi hne => ?_⟩
    have : ¬ g = i := fun e => hne (by rw [e])
    simp [World.setRow, Array.getElem?_modify, this]
section
variable {ops : Array Oper} {rest : List Oper} {o : Oper} {a : Act} {Q : Exit → Act → World → Prop}
theorem step_move (w : World) (hg : o.guard = none) (x : Operand) (hop : o.op = .move x) (v : Value) (hx : a.eval x = v)
    (hK : wpList Try.prog ops Q rest (a.put o.dst v) w) : wpList Try.prog ops Q (o :: rest) a w := by
  refine wpList_plain hg fun K hK' => ?_
  unfold Oper.wp execOp
  simp only [hop, hx, Sem.run_pure, Oper.upon]
  exact hK' _ _ hK
theorem step_build (w : World) (hg : o.guard = none) (hop : o.op = .build 72 #[])
    (hK : wpList Try.prog ops Q rest (a.put o.dst (.agg arr0)) w) : wpList Try.prog ops Q (o :: rest) a w := by
  refine wpList_plain hg fun K hK' => ?_
  unfold Oper.wp execOp
  simp only [hop, List.map_toArray, List.map_nil, Array.map_empty, Sem.run_bind, run_build_arr, Result.andThen, Sem.run_pure, Oper.upon]
  exact hK' _ _ hK
theorem step_alloc (w : World) (hg : o.guard = none) (hop : o.op = .alloc 72)
    (hK : wpList Try.prog ops Q rest (a.put o.dst (.pointer (some ⟨w.heap.size, 0, none⟩))) (w.alloc (.cells arr0 72))) : wpList Try.prog ops Q (o :: rest) a w := by
  refine wpList_plain hg fun K hK' => ?_
  unfold Oper.wp execOp
  simp only [hop, Sem.run_bind, run_alloc_arr, Result.andThen, Sem.run_pure, Oper.upon]
  exact hK' _ _ hK
theorem step_store (w : World) (hg : o.guard = none) (p x : Operand) (hop : o.op = .store 72 p x) (g : Nat) (C C' : Array Value) (hp : a.eval p = .pointer (some ⟨g, 0, none⟩)) (hx : a.eval x = .agg C') (hB : Blk w g 72 C) (h0 : C.size = 1000) (h1 : C'.size = 1000) (h2 : C'.all (·.oneCell') = true)
    (hK : ∀ W, Blk W g 72 C' → w.grownBy W (some g) → wpList Try.prog ops Q rest (a.put o.dst undef) W) : wpList Try.prog ops Q (o :: rest) a w := by
  refine wpList_plain hg fun K hK' => ?_
  have hr := run_storeVar_row (P := Try.prog) w g 72 72 C C' hB (by rw [sizeArr, h1]) (by rw [h0, h1]) h2
  have hs : (Instr.storeAt 72 (.pointer (some ⟨g, 0, none⟩)) (.agg C')).run Try.prog w = .ok () (w.setRow g C') := by
    simp only [Instr.storeAt, Instr.sureAddr, Sem.run_bind, Sem.run_pure, Result.andThen]
    exact hr
  obtain ⟨k1, k2⟩ := set_row (C' := C') hB
  unfold Oper.wp execOp
  simp only [hop, hp, hx, Sem.run_bind, hs, Result.andThen, Sem.run_pure, Oper.upon]
  exact hK' _ _ (hK _ k1 k2)
theorem run_loadVar_arr {w : World} {g : Nat} {C : Array Value} (hB : Blk w g 72 C) (h0 : C.size = 1000) : (loadVar 72 ⟨g, 0, none⟩).run Try.prog w = .ok (.agg C) w :=
  run_loadVar_row (P := Try.prog) w g 72 72 C (0, 0) _ hB undArr rfl (by rw [sizeArr, h0])
theorem run_load_arr {w : World} {g : Nat} {C : Array Value} (hB : Blk w g 72 C) (h0 : C.size = 1000) : (Instr.loadAt 72 (.pointer (some ⟨g, 0, none⟩))).run Try.prog w = .ok (.agg C) w := by
  have hr := run_loadVar_row (P := Try.prog) w g 72 72 C (0, 0) _ hB undArr rfl (by rw [sizeArr, h0])
  simp only [Instr.loadAt, Instr.sureAddr, Sem.run_bind, Sem.run_pure, Result.andThen]
  exact hr
theorem step_load (w : World) (hg : o.guard = none) (p : Operand) (hop : o.op = .load 72 p) (g : Nat) (C : Array Value) (hp : a.eval p = .pointer (some ⟨g, 0, none⟩)) (hB : Blk w g 72 C) (h0 : C.size = 1000)
    (hK : wpList Try.prog ops Q rest (a.put o.dst (.agg C)) w) : wpList Try.prog ops Q (o :: rest) a w := by
  refine wpList_plain hg fun K hK' => ?_
  unfold Oper.wp execOp
  simp only [hop, hp, Sem.run_bind, run_load_arr hB h0, Result.andThen, Sem.run_pure, Oper.upon]
  exact hK' _ _ hK
theorem step_not (w : World) (hg : o.guard = none) (x : Operand) (ty : TypeId) (hop : o.op = .unOp .not ty x) (b : Bool) (hx : a.eval x = .bool b)
    (hK : wpList Try.prog ops Q rest (a.put o.dst (.bool (!b))) w) : wpList Try.prog ops Q (o :: rest) a w := by
  refine wpList_plain hg fun K hK' => ?_
  unfold Oper.wp execOp
  simp only [hop, hx]
  simp [go_sem]
  exact hK' _ _ hK
theorem step_loadg (w : World) (hw : Region.wanted o (yielded ops a.tmps) = true) (p : Operand) (hop : o.op = .load 72 p) (g : Nat) (C : Array Value) (hp : a.eval p = .pointer (some ⟨g, 0, none⟩)) (hB : Blk w g 72 C) (h0 : C.size = 1000)
    (hK : wpList Try.prog ops Q rest (a.put o.dst (.agg C)) w) : wpList Try.prog ops Q (o :: rest) a w := by
  refine wpList_step fun K hK' => ?_
  rw [if_pos hw]
  unfold Oper.wp execOp
  simp only [hop, hp, Sem.run_bind, run_load_arr hB h0, Result.andThen, Sem.run_pure, Oper.upon]
  exact hK' _ _ hK
theorem exec_load {w : World} {p : Operand} (hop : o.op = .load 72 p) {g : Nat} {C : Array Value} (hp : a.eval p = .pointer (some ⟨g, 0, none⟩)) (hB : Blk w g 72 C) (h0 : C.size = 1000) : (execOp a.eval o).run Try.prog w = .ok (.value (.agg C)) w := by
  unfold execOp
  simp only [hop, hp, Sem.run_bind, run_load_arr hB h0, Result.andThen, Sem.run_pure]
end
/-! two arrays compared -/
theorem eq_int (d : Nat) (a b : Int) (w : World) : (Op.equalIn (d + 1) 3 (.int .i64 a) (.int .i64 b)).run Try.prog w = .ok (a == b) w := by
  simp [Op.equalIn, run_underlying undI]
theorem item_eq (d : Nat) (xs ys : Array Value) (j : Nat) (is : List Nat) (a b : Int) (w : World) (hx : xs[j]? = some (.int .i64 a)) (hy : ys[j]? = some (.int .i64 b)) :
    (Op.eqItems (d + 1) 3 1 xs ys (j :: is)).run Try.prog w = if (a == b) = true then (Op.eqItems (d + 1) 3 1 xs ys is).run Try.prog w else .ok false w := by
  have pk : Try.prog.plainKey 3 = true := by kernel_rfl
  simp only [Op.eqItems, Sem.run_bind, Nat.mul_one]
  rw [run_part_plain w pk hx]
  simp only [Result.andThen_ok]
  rw [run_part_plain w pk hy]
  simp only [Result.andThen_ok]
  rw [eq_int]
  simp only [Result.andThen_ok]
  cases h : (a == b) <;> simp
theorem items_eq (d : Nat) (f g : Nat → Int) (w : World) : ∀ is : List Nat, (∀ j ∈ is, j < 1000) → (Op.eqItems (d + 1) 3 1 (cs1 1000 f) (cs1 1000 g) is).run Try.prog w = .ok (is.all (fun j => f j == g j)) w
  | [], _ => by simp [Op.eqItems]
  | j :: is, h => by
    rw [item_eq d _ _ j is (f j) (g j) w (cs1_at f (h j (List.mem_cons_self ..))) (cs1_at g (h j (List.mem_cons_self ..))), items_eq d f g w is (fun i hi => h i (List.mem_cons_of_mem _ hi))]
    cases e : (f j == g j) <;> simp [e]
theorem eq_arr (f g : Nat → Int) (w : World) : (Op.equalIn 10000 72 (.agg (cs1 1000 f)) (.agg (cs1 1000 g))).run Try.prog w = .ok ((List.range 1000).all (fun j => f j == g j)) w := by
  obtain ⟨i, hi⟩ : ∃ i, Try.prog.info? 3 = some i := by
    have h : (Try.prog.info? 3).isSome = true := by kernel_rfl
    exact Option.isSome_iff_exists.1 h
  have hc : Try.prog.cellsOf 3 = 1 := by kernel_rfl
  rw [show (10000 : Nat) = 9999 + 1 from rfl, run_equalIn_array w 9999 _ _ undArr hi, hc]
  exact items_eq 9998 f g w (List.range 1000) (fun j hj => List.mem_range.1 hj)
/-- an array's item -/
theorem run_index_arr (ds : Array Value) (k : Nat) (v : Int) (w : World) (hk : k < 1000) (h : ds[k]? = some (.int .i64 v)) : (Instr.index 72 (.agg ds) (.int .i64 (k : Int))).run Try.prog w = .ok (.int .i64 v) w := by
  obtain ⟨i, hi, hs⟩ : ∃ i, Try.prog.info? 3 = some i ∧ i.size = 1 := by
    have q : (Try.prog.info? 3).map (·.size) = some 1 := by kernel_rfl
    cases e : Try.prog.info? 3 with
    | none => rw [e] at q; cases q
    | some i => rw [e] at q; exact ⟨i, rfl, Option.some.inj q⟩
  have pk : Try.prog.plainKey 3 = true := by kernel_rfl
  have hp := run_part_plain w pk h
  have hk0 : (0 : Int) ≤ (k : Int) ∧ (k : Int) < 1000 := by omega
  simp [Instr.index, asIntOf, run_underlying undArr, hk, sizeOf, typeInfo, hi, hs, hp]
end Go.Proofs.Ytiimegmaokfpgaa.va
