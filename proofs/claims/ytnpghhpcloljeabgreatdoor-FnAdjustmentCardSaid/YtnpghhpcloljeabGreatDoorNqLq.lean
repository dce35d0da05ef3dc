/-
  A network as a whole: made, stored, read, one operation each (its 56 cells stay under a name).
  The network of legs, by the program.
  Conditions: those that each theorem names.
-/
import Derived.Test.YtnpghhpcloljeabGreatDoorNqAq
import Derived.WalkKit
import Derived.OwnWalk
import Derived.ScopeJumps
import Derived.Test.YtnpghhpcloljeabGreatDoorNqD
import Derived.Test.YtnpghhpcloljeabGreatDoorNtCq
import Derived.WalkMore
namespace Go.Proofs.YtnpghhpcloljeabGreatDoor.nq
open Go.RowKit
open reads base
set_option linter.unusedVariables false
set_option linter.unusedSimpArgs false

theorem sizeNet : (Tryz.prog.info? 76).map (·.size) = some 56 := by kernel_rfl
theorem zero_size : (nv none6 off12).size = 56 := nv_size ok_none
set_option maxRecDepth 100000 in
theorem run_build_net (w : World) : (Instr.build 76 #[]).run Tryz.prog w = .ok (.agg (nv none6 off12)) w := by
  simp [Instr.build]
  kernel_rfl
set_option maxRecDepth 100000 in
theorem run_alloc_net (w : World) (v : Value) : (Instr.alloc 76 true v).run Tryz.prog w = .ok (.pointer (some ⟨w.heap.size, 0, none⟩)) (w.alloc (.cells (nv none6 off12) 76)) := by
  kernel_rfl
theorem set_row {w : World} {g : Nat} {t : TypeId} {C C' : Array Value} (hB : Blk w g t C) : Blk (w.setRow g C') g t C' ∧ w.grownBy (w.setRow g C') (some g) := by
  constructor
  · unfold Blk at hB ⊢
    simp [World.setRow, Array.getElem?_modify, hB]
  · refine ⟨rfl, rfl, rfl, by simp [World.setRow], fun i hi hne => ?_⟩
    have : ¬ g = i := fun e => hne (by rw [e])
    simp [World.setRow, Array.getElem?_modify, this]
section
variable {ops : Array Oper} {rest : List Oper} {o : Oper} {a : Act} {Q : Exit → Act → World → Prop}
theorem step_move (w : World) (hg : o.guard = none) (x : Operand) (hop : o.op = .move x) (v : Value) (hx : a.eval x = v)
    (hK : wpList Tryz.prog ops Q rest (a.put o.dst v) w) : wpList Tryz.prog ops Q (o :: rest) a w := by
  refine wpList_plain hg fun K hK' => ?_
  unfold Oper.wp execOp
  simp only [hop, hx, Sem.run_pure, Oper.upon]
  exact hK' _ _ hK
theorem step_build (w : World) (hg : o.guard = none) (hop : o.op = .build 76 #[])
    (hK : wpList Tryz.prog ops Q rest (a.put o.dst (.agg (nv none6 off12))) w) : wpList Tryz.prog ops Q (o :: rest) a w := by
  refine wpList_plain hg fun K hK' => ?_
  unfold Oper.wp execOp
  simp only [hop, List.map_toArray, List.map_nil, Array.map_empty, Sem.run_bind, run_build_net, Result.andThen, Sem.run_pure, Oper.upon]
  exact hK' _ _ hK
theorem step_alloc (w : World) (hg : o.guard = none) (hop : o.op = .alloc 76)
    (hK : wpList Tryz.prog ops Q rest (a.put o.dst (.pointer (some ⟨w.heap.size, 0, none⟩))) (w.alloc (.cells (nv none6 off12) 76))) : wpList Tryz.prog ops Q (o :: rest) a w := by
  refine wpList_plain hg fun K hK' => ?_
  unfold Oper.wp execOp
  simp only [hop, Sem.run_bind, run_alloc_net, Result.andThen, Sem.run_pure, Oper.upon]
  exact hK' _ _ hK
theorem step_store (w : World) (hg : o.guard = none) (p x : Operand) (hop : o.op = .store 76 p x) (g : Nat) (C C' : Array Value) (hp : a.eval p = .pointer (some ⟨g, 0, none⟩)) (hx : a.eval x = .agg C') (hB : Blk w g 76 C) (h0 : C.size = 56) (h1 : C'.size = 56) (h2 : C'.all (·.oneCell') = true)
    (hK : ∀ W, Blk W g 76 C' → w.grownBy W (some g) → wpList Tryz.prog ops Q rest (a.put o.dst undef) W) : wpList Tryz.prog ops Q (o :: rest) a w := by
  refine wpList_plain hg fun K hK' => ?_
  have hr := run_storeVar_row (P := Tryz.prog) w g 76 76 C C' hB (by rw [sizeNet, h1]) (by rw [h0, h1]) h2
  have hs : (Instr.storeAt 76 (.pointer (some ⟨g, 0, none⟩)) (.agg C')).run Tryz.prog w = .ok () (w.setRow g C') := by
    simp only [Instr.storeAt, Instr.sureAddr, Sem.run_bind, Sem.run_pure, Result.andThen]
    exact hr
  obtain ⟨k1, k2⟩ := set_row (C' := C') hB
  unfold Oper.wp execOp
  simp only [hop, hp, hx, Sem.run_bind, hs, Result.andThen, Sem.run_pure, Oper.upon]
  exact hK' _ _ (hK _ k1 k2)
theorem run_loadVar_net {w : World} {g : Nat} {C : Array Value} (hB : Blk w g 76 C) (h0 : C.size = 56) : (loadVar 76 ⟨g, 0, none⟩).run Tryz.prog w = .ok (.agg C) w :=
  run_loadVar_row (P := Tryz.prog) w g 76 76 C (0, 0) _ hB Tryz.underlying76 rfl (by rw [sizeNet, h0])
theorem run_load_net {w : World} {g : Nat} {C : Array Value} (hB : Blk w g 76 C) (h0 : C.size = 56) : (Instr.loadAt 76 (.pointer (some ⟨g, 0, none⟩))).run Tryz.prog w = .ok (.agg C) w := by
  have hr := run_loadVar_row (P := Tryz.prog) w g 76 76 C (0, 0) _ hB Tryz.underlying76 rfl (by rw [sizeNet, h0])
  simp only [Instr.loadAt, Instr.sureAddr, Sem.run_bind, Sem.run_pure, Result.andThen]
  exact hr
theorem step_load (w : World) (hg : o.guard = none) (p : Operand) (hop : o.op = .load 76 p) (g : Nat) (C : Array Value) (hp : a.eval p = .pointer (some ⟨g, 0, none⟩)) (hB : Blk w g 76 C) (h0 : C.size = 56)
    (hK : wpList Tryz.prog ops Q rest (a.put o.dst (.agg C)) w) : wpList Tryz.prog ops Q (o :: rest) a w := by
  refine wpList_plain hg fun K hK' => ?_
  unfold Oper.wp execOp
  simp only [hop, hp, Sem.run_bind, run_load_net hB h0, Result.andThen, Sem.run_pure, Oper.upon]
  exact hK' _ _ hK
theorem step_not (w : World) (hg : o.guard = none) (x : Operand) (ty : TypeId) (hop : o.op = .unOp .not ty x) (b : Bool) (hx : a.eval x = .bool b)
    (hK : wpList Tryz.prog ops Q rest (a.put o.dst (.bool (!b))) w) : wpList Tryz.prog ops Q (o :: rest) a w := by
  refine wpList_plain hg fun K hK' => ?_
  unfold Oper.wp execOp
  simp only [hop, hx]
  simp [go_sem]
  exact hK' _ _ hK
theorem step_loadg (w : World) (hw : Region.wanted o (yielded ops a.tmps) = true) (p : Operand) (hop : o.op = .load 76 p) (g : Nat) (C : Array Value) (hp : a.eval p = .pointer (some ⟨g, 0, none⟩)) (hB : Blk w g 76 C) (h0 : C.size = 56)
    (hK : wpList Tryz.prog ops Q rest (a.put o.dst (.agg C)) w) : wpList Tryz.prog ops Q (o :: rest) a w := by
  refine wpList_step fun K hK' => ?_
  rw [if_pos hw]
  unfold Oper.wp execOp
  simp only [hop, hp, Sem.run_bind, run_load_net hB h0, Result.andThen, Sem.run_pure, Oper.upon]
  exact hK' _ _ hK
theorem exec_load {w : World} {p : Operand} (hop : o.op = .load 76 p) {g : Nat} {C : Array Value} (hp : a.eval p = .pointer (some ⟨g, 0, none⟩)) (hB : Blk w g 76 C) (h0 : C.size = 56) : (execOp a.eval o).run Tryz.prog w = .ok (.value (.agg C)) w := by
  unfold execOp
  simp only [hop, hp, Sem.run_bind, run_load_net hB h0, Result.andThen, Sem.run_pure]
end
theorem wp_scope_twice {P : Program} {c rest : Code} {Q : Exit → Act → World → Prop} {a : Act} {w : World} (l : Nat) (J : Act → World → Prop) (μ : Act → World → Nat) (hf : findLabel c l = some (Code.skip.seq rest))
    (pass : ∀ a w, J a w → rest.wp P (Exit.jump l (fun a' w' => J a' w' ∧ μ a' w' < μ a w) Q) a w)
    (first : (∀ a w, J a w → rest.wp P (Exit.jump l J Q) a w) → c.wp P (Exit.jump l J Q) a w) : (Code.scope c).wp P Q a w :=
  wp_scope_jumps l J μ hf (first fun a w hJ => Code.wp_mono (fun e a w h => by
    cases e with
    | goto l' => exact ⟨h.1, h.2.1⟩
    | _ => exact h) (pass a w hJ)) (fun a w hJ => by
      apply wp_seq_k
      intro K hK
      apply wp_skip
      exact hK _ _ (pass a w hJ))
end Go.Proofs.YtnpghhpcloljeabGreatDoor.nq

namespace Go.Proofs.YtnpghhpcloljeabGreatDoor.nq
open Go.RowKit
open reads base ty lg lgi win hs nt rowi sn
set_option linter.unusedVariables false
set_option linter.unusedSimpArgs false

set_option maxHeartbeats 8000000 in
set_option maxRecDepth 100000 in
theorem net_bad (A : Option Addr) (n cap : Nat) (ts : List Lg) (w : World) (hn : n ≤ 2000000) (hg : Hid (goodLg ts = false)) (hts : Hid (LgAt w w.heap.size A n ts)) :
    Calls Tryz.prog 69 #[.slice A n cap] w (APost (.tuple #[.agg (nv none6 off12), .bool false]) w) := by
  go_enter Tryz.func69, Tryz.ntmps69
  go_wp2_with fail
  go_step3
  go_wp2_with fail
  refine (areLegs_is A n cap ts false _ hn (Lib.hid (hts.out.alloc _)) hg).mono ?_
  rintro e w1 ⟨rfl, b1⟩
  have HB := Lib.hid b1
  have HZ := Lib.hid (show Blk w1 w.heap.size 76 (nv none6 off12) from ((show Blk (w.alloc (.cells #[.bool false, .bool false, .bool false, .bool false, .bool false, .bool false, .bool false, .bool false, .int .i64 0, .int .i64 0, .int .i64 0, .int .i64 0, .int .i64 0, .int .i64 0, .int .i64 0, .int .i64 0, .int .i64 0, .int .i64 0, .int .i64 0, .int .i64 0, .int .i64 0, .int .i64 0, .int .i64 0, .int .i64 0, .int .i64 0, .int .i64 0, .int .i64 0, .int .i64 0, .int .i64 0, .int .i64 0, .int .i64 0, .int .i64 0, .bool false, .bool false, .bool false, .bool false, .bool false, .bool false, .bool false, .bool false, .bool false, .bool false, .bool false, .bool false, .bool false, .bool false, .bool false, .bool false, .bool false, .bool false, .bool false, .bool false, .bool false, .bool false, .bool false, .bool false] 76)) w.heap.size 76 (nv none6 off12) from Blk.new w 76 #[.bool false, .bool false, .bool false, .bool false, .bool false, .bool false, .bool false, .bool false, .int .i64 0, .int .i64 0, .int .i64 0, .int .i64 0, .int .i64 0, .int .i64 0, .int .i64 0, .int .i64 0, .int .i64 0, .int .i64 0, .int .i64 0, .int .i64 0, .int .i64 0, .int .i64 0, .int .i64 0, .int .i64 0, .int .i64 0, .int .i64 0, .int .i64 0, .int .i64 0, .int .i64 0, .int .i64 0, .int .i64 0, .int .i64 0, .bool false, .bool false, .bool false, .bool false, .bool false, .bool false, .bool false, .bool false, .bool false, .bool false, .bool false, .bool false, .bool false, .bool false, .bool false, .bool false, .bool false, .bool false, .bool false, .bool false, .bool false, .bool false, .bool false, .bool false])).below b1 (by simp))
  have HB0 := Lib.hid (show Below w.heap.size w w1 from ((Below.refl _ _).alloc (Nat.le_refl _) _).trans (b1.mono (by simp)))
  clear b1 HB
  go_upto_region 2 with fail
  refine wp_region_list ?_
  refine step_build _ rfl rfl ?_
  simp only [Act.put, List.getElem_toArray, List.getElem_cons_succ, List.getElem_cons_zero, List.setIfInBounds_toArray, List.set_cons_zero, List.set_cons_succ]
  refine step_store _ rfl _ _ rfl w.heap.size _ _ rfl rfl HZ.out zero_size zero_size nv_one ?_
  intro W hW hG
  have HB := Lib.hid (HB0.out.grown hG HB0.out.size (fun g e => by injection e with e; omega))
  have HWZ := Lib.hid hW
  clear hW hG
  simp only [Act.put, List.getElem_toArray, List.getElem_cons_succ, List.getElem_cons_zero, List.setIfInBounds_toArray, List.set_cons_zero, List.set_cons_succ]
  go_wp2_with fail
  try rw [Exit.noGoto_ret]
  refine bodyPost_ret (v := .tuple #[.agg (nv none6 off12), .bool false]) ?_ rfl ⟨rfl, HB.out⟩
  rw [results_cell_tmp rfl]
  simp [asAddr, Result.andThen, run_loadVar_net HWZ.out zero_size]

/-- the closing legs as marks -/
theorem cl_lt {ts : List Lg} {s : Net} : ∀ k, ∀ x ∈ clN ts s k, 0 ≤ x ∧ x < k
  | 0, x, h => by simp [clN] at h
  | k + 1, x, h => by
    cases e : ts[k]? with
    | none => have e1 : clN ts s (k + 1) = clN ts s k := by show (match ts[k]? with | some x => _ | none => _) = _; rw [e]
              rw [e1] at h; have := cl_lt k x h; omega
    | some y =>
      cases q : (mem s.ps y.frm && !mem s.tr (k : Int))
      · rw [clN_no e q] at h; have := cl_lt k x h; omega
      · rw [Bool.and_eq_true, Bool.not_eq_true'] at q
        rw [clN_yes e q.1 q.2] at h
        rcases List.mem_append.1 h with r | r
        · have := cl_lt k x r; omega
        · rw [List.mem_singleton.1 r]; omega
theorem cl_asc {ts : List Lg} {s : Net} : ∀ k, (clN ts s k).Pairwise (· < ·)
  | 0 => List.Pairwise.nil
  | k + 1 => by
    have ih := cl_asc (ts := ts) (s := s) k
    cases e : ts[k]? with
    | none => have e1 : clN ts s (k + 1) = clN ts s k := by show (match ts[k]? with | some x => _ | none => _) = _; rw [e]
              rw [e1]; exact ih
    | some y =>
      cases q : (mem s.ps y.frm && !mem s.tr (k : Int))
      · rw [clN_no e q]; exact ih
      · rw [Bool.and_eq_true, Bool.not_eq_true'] at q
        rw [clN_yes e q.1 q.2, List.pairwise_append]
        refine ⟨ih, by simp, fun a ha b hb => ?_⟩
        have h1 := cl_lt k a ha
        have h2 : b = k := by simpa using hb
        omega
def clM (ts : List Lg) (s : Net) (k : Nat) : List Bool := mks 12 (clN ts s k)
theorem clM_zero (ts : List Lg) (s : Net) : clM ts s 0 = off12 := mks_none 12
theorem clM_len (ts : List Lg) (s : Net) (k : Nat) : (clM ts s k).length = 12 := mks_len 12 _
theorem clM_step {ts : List Lg} {s : Net} {k : Nat} {x : Lg} (hx : ts[k]? = some x) (hk : k < 12) : clM ts s (k + 1) = (clM ts s k).set k (mem s.ps x.frm && !mem s.tr (k : Int)) := by
  unfold clM
  apply List.ext_getElem?
  intro i
  rcases Nat.lt_or_ge i 12 with hi | hi
  · rw [mks_at _ hi]
    cases q : (mem s.ps x.frm && !mem s.tr (k : Int))
    · rw [clN_no hx q]
      by_cases e : i = k
      · subst e
        rw [List.getElem?_set_self (by rw [mks_len]; exact hi)]
        cases m : mem (clN ts s i) (i : Int)
        · rfl
        · have := cl_lt i _ (mem_iff.1 m); omega
      · rw [List.getElem?_set_ne (fun h => e h.symm), mks_at _ hi]
    · rw [Bool.and_eq_true, Bool.not_eq_true'] at q
      rw [clN_yes hx q.1 q.2]
      by_cases e : i = k
      · subst e
        rw [List.getElem?_set_self (by rw [mks_len]; exact hi), mem_iff.2 (List.mem_append_right _ (List.mem_singleton.2 rfl))]
      · rw [List.getElem?_set_ne (fun h => e h.symm), mks_at _ hi]
        congr 1
        rw [Bool.eq_iff_iff, mem_iff, mem_iff, List.mem_append, List.mem_singleton]
        exact ⟨fun h => h.elim id (fun h => absurd h (by omega)), .inl⟩
  · rw [List.getElem?_eq_none (by rw [mks_len]; exact hi), List.getElem?_eq_none (by rw [List.length_set, mks_len]; exact hi)]
theorem clM_all {ts : List Lg} (hg : goodLg ts = true) (s : Net) : tru (clM ts s ts.length) 12 = clN ts s ts.length :=
  tru_all (cl_asc _) (fun x hx => by have h1 := cl_lt _ x hx; have h2 := goodLg_len hg; omega)
/-- how many stations a network in a block shows as placed -/
def asB : Value → Bool
  | .bool b => b
  | _ => false
def cnt (G : Nat) (w : World) : Nat := match w.heap[G]? with
  | some (.cells cs _ _) => (tru ((cs.toList.take 8).map asB) 8).length
  | _ => 0
theorem cnt_nv {w : World} {G : Nat} {t : TypeId} {s : Net} {cl : List Bool} (h : Blk w G t (nv s cl)) (ho : Ok s) : cnt G w = s.ps.length := by
  unfold Blk at h
  unfold cnt
  rw [h]
  show (tru ((((nv s cl).toList).take 8).map asB) 8).length = _
  have e : (((nv s cl).toList).take 8).map asB = mks 8 s.ps := by
    unfold nv nvL
    rw [List.toList_toArray, List.take_append_of_le_length (by rw [List.length_map, mks_len]; exact Nat.le_refl _), List.take_of_length_le (by rw [List.length_map, mks_len]; exact Nat.le_refl _), List.map_map]
    conv => rhs; rw [← List.map_id (mks 8 s.ps)]
    rfl
  rw [e, tru_ps ho]
/-- the answer's box, the network's box -/
def NB (w : World) (G : Nat) (s : Net) (cl : List Bool) (v : World) : Prop := Blk v w.heap.size 76 (nv none6 off12) ∧ Blk v G 76 (nv s cl) ∧ Below w.heap.size w v ∧ w.heap.size < G
section
variable {w v v' : World} {G : Nat} {s s' : Net} {cl cl' : List Bool}
theorem NB.step (h : NB w G s cl v) (hb : Below v.heap.size v v') : NB w G s cl v' := ⟨h.1.below hb h.1.lt, h.2.1.below hb h.2.1.lt, h.2.2.1.trans (hb.mono h.2.2.1.size), h.2.2.2⟩
theorem NB.grown (h : NB w G s cl v) (hB : Blk v' G 76 (nv s' cl')) (hg : v.grownBy v' (some G)) : NB w G s' cl' v' :=
  ⟨h.1.grown hg (by intro e; injection e with e; have := h.2.2.2; omega), hB, h.2.2.1.grown hg h.2.2.1.size (fun k e => by injection e with e; have := h.2.2.2; omega), h.2.2.2⟩
theorem NB.set (h : NB w G s cl v) (o : Nat) (u : Value) (e : (nv s cl).setIfInBounds o u = nv s' cl') : NB w G s' cl' (v.setCell ⟨G, o, none⟩ u) :=
  h.grown (by rw [← e]; exact h.2.1.set_ o u) (base.grown_set (grown_of (Below.refl _ _) _) o u)
end
def NPost (ts : List Lg) (w : World) (e : Ending) (w' : World) : Prop := e = .returned (.tuple #[.agg (nv (net ts) (clM ts (net ts) ts.length)), .bool true]) ∧ Below w.heap.size w w'
end Go.Proofs.YtnpghhpcloljeabGreatDoor.nq
