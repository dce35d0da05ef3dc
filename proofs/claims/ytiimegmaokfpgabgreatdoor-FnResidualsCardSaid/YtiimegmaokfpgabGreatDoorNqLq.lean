/-
  A network as a whole: made, stored, read, one operation each (its 56 cells stay under a name).
  The network of legs, by the program.
  The network of valid legs, by the program.
  The network of any legs, by the program.
  Conditions: those that each theorem names.
-/
import Derived.Test.YtiimegmaokfpgabGreatDoorNqAq
import Derived.WalkKit
import Derived.OwnWalk
import Derived.ScopeJumps
import Derived.Test.YtiimegmaokfpgabGreatDoorNtZ
import Derived.WalkMore
namespace Go.Proofs.YtiimegmaokfpgabGreatDoor.nq
open Go.RowKit
open reads base
set_option linter.unusedVariables false
set_option linter.unusedSimpArgs false

theorem sizeNet : (Tryz.prog.info? 76).map (·.size) = some 56 := by kernel_rfl
theorem zero_size : (nv none6 off12).size = 56 := nv_size ok_none
set_option maxRecDepth 100000 in
theorem run_build_net (w : World) : (Instr.build 76 #[]).run Tryz.prog w = .ok (.agg (nv none6 off12)) w := by
  simp [Instr.build]
  kernel_rfl
set_option maxRecDepth 100000 in
theorem run_alloc_net (w : World) (v : Value) : (Instr.alloc 76 true v).run Tryz.prog w = .ok (.pointer (some ⟨w.heap.size, 0, none⟩)) (w.alloc (.cells (nv none6 off12) 76)) := by
  kernel_rfl
theorem set_row {w : World} {g : Nat} {t : TypeId} {C C' : Array Value} (hB : Blk w g t C) : Blk (w.setRow g C') g t C' ∧ w.grownBy (w.setRow g C') (some g) := by
  constructor
  · unfold Blk at hB ⊢
    simp [World.setRow, Array.getElem?_modify, hB]
  · refine ⟨rfl, rfl, rfl, by simp [World.setRow], fun i hi hne => ?_⟩
    have : ¬ g = i := fun e => hne (by rw [e])
    simp [World.setRow, Array.getElem?_modify, this]
section
variable {ops : Array Oper} {rest : List Oper} {o : Oper} {a : Act} {Q : Exit → Act → World → Prop}
theorem step_move (w : World) (hg : o.guard = none) (x : Operand) (hop : o.op = .move x) (v : Value) (hx : a.eval x = v)
    (hK : wpList Tryz.prog ops Q rest (a.put o.dst v) w) : wpList Tryz.prog ops Q (o :: rest) a w := by
  refine wpList_plain hg fun K hK' => ?_
  unfold Oper.wp execOp
  simp only [hop, hx, Sem.run_pure, Oper.upon]
  exact hK' _ _ hK
theorem step_build (w : World) (hg : o.guard = none) (hop : o.op = .build 76 #[])
    (hK : wpList Tryz.prog ops Q rest (a.put o.dst (.agg (nv none6 off12))) w) : wpList Tryz.prog ops Q (o :: rest) a w := by
  refine wpList_plain hg fun K hK' => ?_
  unfold Oper.wp execOp
  simp only [hop, List.map_toArray, List.map_nil, Array.map_empty, Sem.run_bind, run_build_net, Result.andThen, Sem.run_pure, Oper.upon]
  exact hK' _ _ hK
theorem step_alloc (w : World) (hg : o.guard = none) (hop : o.op = .alloc 76)
    (hK : wpList Tryz.prog ops Q rest (a.put o.dst (.pointer (some ⟨w.heap.size, 0, none⟩))) (w.alloc (.cells (nv none6 off12) 76))) : wpList Tryz.prog ops Q (o :: rest) a w := by
  refine wpList_plain hg fun K hK' => ?_
  unfold Oper.wp execOp
  simp only [hop, Sem.run_bind, run_alloc_net, Result.andThen, Sem.run_pure, Oper.upon]
  exact hK' _ _ hK
theorem step_store (w : World) (hg : o.guard = none) (p x : Operand) (hop : o.op = .store 76 p x) (g : Nat) (C C' : Array Value) (hp : a.eval p = .pointer (some ⟨g, 0, none⟩)) (hx : a.eval x = .agg C') (hB : Blk w g 76 C) (h0 : C.size = 56) (h1 : C'.size = 56) (h2 : C'.all (·.oneCell') = true)
    (hK : ∀ W, Blk W g 76 C' → w.grownBy W (some g) → wpList Tryz.prog ops Q rest (a.put o.dst undef) W) : wpList Tryz.prog ops Q (o :: rest) a w := by
  refine wpList_plain hg fun K hK' => ?_
  have hr := run_storeVar_row (P := Tryz.prog) w g 76 76 C C' hB (by rw [sizeNet, h1]) (by rw [h0, h1]) h2
  have hs : (Instr.storeAt 76 (.pointer (some ⟨g, 0, none⟩)) (.agg C')).run Tryz.prog w = .ok () (w.setRow g C') := by
    simp only [Instr.storeAt, Instr.sureAddr, Sem.run_bind, Sem.run_pure, Result.andThen]
    exact hr
  obtain ⟨k1, k2⟩ := set_row (C' := C') hB
  unfold Oper.wp execOp
  simp only [hop, hp, hx, Sem.run_bind, hs, Result.andThen, Sem.run_pure, Oper.upon]
  exact hK' _ _ (hK _ k1 k2)
theorem run_loadVar_net {w : World} {g : Nat} {C : Array Value} (hB : Blk w g 76 C) (h0 : C.size = 56) : (loadVar 76 ⟨g, 0, none⟩).run Tryz.prog w = .ok (.agg C) w :=
  run_loadVar_row (P := Tryz.prog) w g 76 76 C (0, 0) _ hB Tryz.underlying76 rfl (by rw [sizeNet, h0])
theorem run_load_net {w : World} {g : Nat} {C : Array Value} (hB : Blk w g 76 C) (h0 : C.size = 56) : (Instr.loadAt 76 (.pointer (some ⟨g, 0, none⟩))).run Tryz.prog w = .ok (.agg C) w := by
  have hr := run_loadVar_row (P := Tryz.prog) w g 76 76 C (0, 0) _ hB Tryz.underlying76 rfl (by rw [sizeNet, h0])
  simp only [Instr.loadAt, Instr.sureAddr, Sem.run_bind, Sem.run_pure, Result.andThen]
  exact hr
theorem step_load (w : World) (hg : o.guard = none) (p : Operand) (hop : o.op = .load 76 p) (g : Nat) (C : Array Value) (hp : a.eval p = .pointer (some ⟨g, 0, none⟩)) (hB : Blk w g 76 C) (h0 : C.size = 56)
    (hK : wpList Tryz.prog ops Q rest (a.put o.dst (.agg C)) w) : wpList Tryz.prog ops Q (o :: rest) a w := by
  refine wpList_plain hg fun K hK' => ?_
  unfold Oper.wp execOp
  simp only [hop, hp, Sem.run_bind, run_load_net hB h0, Result.andThen, Sem.run_pure, Oper.upon]
  exact hK' _ _ hK
theorem step_not (w : World) (hg : o.guard = none) (x : Operand) (ty : TypeId) (hop : o.op = .unOp .not ty x) (b : Bool) (hx : a.eval x = .bool b)
    (hK : wpList Tryz.prog ops Q rest (a.put o.dst (.bool (!b))) w) : wpList Tryz.prog ops Q (o :: rest) a w := by
  refine wpList_plain hg fun K hK' => ?_
  unfold Oper.wp execOp
  simp only [hop, hx]
  simp [go_sem]
  exact hK' _ _ hK
theorem step_loadg (w : World) (hw : Region.wanted o (yielded ops a.tmps) = true) (p : Operand) (hop : o.op = .load 76 p) (g : Nat) (C : Array Value) (hp : a.eval p = .pointer (some ⟨g, 0, none⟩)) (hB : Blk w g 76 C) (h0 : C.size = 56)
    (hK : wpList Tryz.prog ops Q rest (a.put o.dst (.agg C)) w) : wpList Tryz.prog ops Q (o :: rest) a w := by
  refine wpList_step fun K hK' => ?_
  rw [if_pos hw]
  unfold Oper.wp execOp
  simp only [hop, hp, Sem.run_bind, run_load_net hB h0, Result.andThen, Sem.run_pure, Oper.upon]
  exact hK' _ _ hK
theorem exec_load {w : World} {p : Operand} (hop : o.op = .load 76 p) {g : Nat} {C : Array Value} (hp : a.eval p = .pointer (some ⟨g, 0, none⟩)) (hB : Blk w g 76 C) (h0 : C.size = 56) : (execOp a.eval o).run Tryz.prog w = .ok (.value (.agg C)) w := by
  unfold execOp
  simp only [hop, hp, Sem.run_bind, run_load_net hB h0, Result.andThen, Sem.run_pure]
end
theorem wp_scope_twice {P : Program} {c rest : Code} {Q : Exit → Act → World → Prop} {a : Act} {w : World} (l : Nat) (J : Act → World → Prop) (μ : Act → World → Nat) (hf : findLabel c l = some (Code.skip.seq rest))
    (pass : ∀ a w, J a w → rest.wp P (Exit.jump l (fun a' w' => J a' w' ∧ μ a' w' < μ a w) Q) a w)
    (first : (∀ a w, J a w → rest.wp P (Exit.jump l J Q) a w) → c.wp P (Exit.jump l J Q) a w) : (Code.scope c).wp P Q a w :=
  wp_scope_jumps l J μ hf (first fun a w hJ => Code.wp_mono (fun e a w h => by
    cases e with
    | goto l' => exact ⟨h.1, h.2.1⟩
    | _ => exact h) (pass a w hJ)) (fun a w hJ => by
      apply wp_seq_k
      intro K hK
      apply wp_skip
      exact hK _ _ (pass a w hJ))
end Go.Proofs.YtiimegmaokfpgabGreatDoor.nq

namespace Go.Proofs.YtiimegmaokfpgabGreatDoor.nq
open Go.RowKit
open reads base ty lg lgi win hs nt rowi sn
set_option linter.unusedVariables false
set_option linter.unusedSimpArgs false

set_option maxHeartbeats 8000000 in
set_option maxRecDepth 100000 in
theorem net_bad (A : Option Addr) (n cap : Nat) (ts : List Lg) (w : World) (hn : n ≤ 2000000) (hg : Hid (goodLg ts = false)) (hts : Hid (LgAt w w.heap.size A n ts)) :
    Calls Tryz.prog 69 #[.slice A n cap] w (APost (.tuple #[.agg (nv none6 off12), .bool false]) w) := by
  go_enter Tryz.func69, Tryz.ntmps69
  go_wp2_with fail
  go_step3
  go_wp2_with fail
  refine (areLegs_is A n cap ts false _ hn (Lib.hid (hts.out.alloc _)) hg).mono ?_
  rintro e w1 ⟨rfl, b1⟩
  have HB := Lib.hid b1
  have HZ := Lib.hid (show Blk w1 w.heap.size 76 (nv none6 off12) from ((show Blk (w.alloc (.cells #[.bool false, .bool false, .bool false, .bool false, .bool false, .bool false, .bool false, .bool false, .int .i64 0, .int .i64 0, .int .i64 0, .int .i64 0, .int .i64 0, .int .i64 0, .int .i64 0, .int .i64 0, .int .i64 0, .int .i64 0, .int .i64 0, .int .i64 0, .int .i64 0, .int .i64 0, .int .i64 0, .int .i64 0, .int .i64 0, .int .i64 0, .int .i64 0, .int .i64 0, .int .i64 0, .int .i64 0, .int .i64 0, .int .i64 0, .bool false, .bool false, .bool false, .bool false, .bool false, .bool false, .bool false, .bool false, .bool false, .bool false, .bool false, .bool false, .bool false, .bool false, .bool false, .bool false, .bool false, .bool false, .bool false, .bool false, .bool false, .bool false, .bool false, .bool false] 76)) w.heap.size 76 (nv none6 off12) from Blk.new w 76 #[.bool false, .bool false, .bool false, .bool false, .bool false, .bool false, .bool false, .bool false, .int .i64 0, .int .i64 0, .int .i64 0, .int .i64 0, .int .i64 0, .int .i64 0, .int .i64 0, .int .i64 0, .int .i64 0, .int .i64 0, .int .i64 0, .int .i64 0, .int .i64 0, .int .i64 0, .int .i64 0, .int .i64 0, .int .i64 0, .int .i64 0, .int .i64 0, .int .i64 0, .int .i64 0, .int .i64 0, .int .i64 0, .int .i64 0, .bool false, .bool false, .bool false, .bool false, .bool false, .bool false, .bool false, .bool false, .bool false, .bool false, .bool false, .bool false, .bool false, .bool false, .bool false, .bool false, .bool false, .bool false, .bool false, .bool false, .bool false, .bool false, .bool false, .bool false])).below b1 (by simp))
  have HB0 := Lib.hid (show Below w.heap.size w w1 from ((Below.refl _ _).alloc (Nat.le_refl _) _).trans (b1.mono (by simp)))
  clear b1 HB
  go_upto_region 2 with fail
  refine wp_region_list ?_
  refine step_build _ rfl rfl ?_
  simp only [Act.put, List.getElem_toArray, List.getElem_cons_succ, List.getElem_cons_zero, List.setIfInBounds_toArray, List.set_cons_zero, List.set_cons_succ]
  refine step_store _ rfl _ _ rfl w.heap.size _ _ rfl rfl HZ.out zero_size zero_size nv_one ?_
  intro W hW hG
  have HB := Lib.hid (HB0.out.grown hG HB0.out.size (fun g e => by injection e with e; omega))
  have HWZ := Lib.hid hW
  clear hW hG
  simp only [Act.put, List.getElem_toArray, List.getElem_cons_succ, List.getElem_cons_zero, List.setIfInBounds_toArray, List.set_cons_zero, List.set_cons_succ]
  go_wp2_with fail
  try rw [Exit.noGoto_ret]
  refine bodyPost_ret (v := .tuple #[.agg (nv none6 off12), .bool false]) ?_ rfl ⟨rfl, HB.out⟩
  rw [results_cell_tmp rfl]
  simp [asAddr, Result.andThen, run_loadVar_net HWZ.out zero_size]

/-- the closing legs as marks -/
theorem cl_lt {ts : List Lg} {s : Net} : ∀ k, ∀ x ∈ clN ts s k, 0 ≤ x ∧ x < k
  | 0, x, h => by simp [clN] at h
  | k + 1, x, h => by
    cases e : ts[k]? with
    | none => have e1 : clN ts s (k + 1) = clN ts s k := by show (match ts[k]? with | some x => _ | none => _) = _; rw [e]
              rw [e1] at h; have := cl_lt k x h; omega
    | some y =>
      cases q : (mem s.ps y.frm && !mem s.tr (k : Int))
      · rw [clN_no e q] at h; have := cl_lt k x h; omega
      · rw [Bool.and_eq_true, Bool.not_eq_true'] at q
        rw [clN_yes e q.1 q.2] at h
        rcases List.mem_append.1 h with r | r
        · have := cl_lt k x r; omega
        · rw [List.mem_singleton.1 r]; omega
theorem cl_asc {ts : List Lg} {s : Net} : ∀ k, (clN ts s k).Pairwise (· < ·)
  | 0 => List.Pairwise.nil
  | k + 1 => by
    have ih := cl_asc (ts := ts) (s := s) k
    cases e : ts[k]? with
    | none => have e1 : clN ts s (k + 1) = clN ts s k := by show (match ts[k]? with | some x => _ | none => _) = _; rw [e]
              rw [e1]; exact ih
    | some y =>
      cases q : (mem s.ps y.frm && !mem s.tr (k : Int))
      · rw [clN_no e q]; exact ih
      · rw [Bool.and_eq_true, Bool.not_eq_true'] at q
        rw [clN_yes e q.1 q.2, List.pairwise_append]
        refine ⟨ih, by simp, fun a ha b hb => ?_⟩
        have h1 := cl_lt k a ha
        have h2 : b = k := by simpa using hb
        omega
def clM (ts : List Lg) (s : Net) (k : Nat) : List Bool := mks 12 (clN ts s k)
theorem clM_zero (ts : List Lg) (s : Net) : clM ts s 0 = off12 := mks_none 12
theorem clM_len (ts : List Lg) (s : Net) (k : Nat) : (clM ts s k).length = 12 := mks_len 12 _
theorem clM_step {ts : List Lg} {s : Net} {k : Nat} {x : Lg} (hx : ts[k]? = some x) (hk : k < 12) : clM ts s (k + 1) = (clM ts s k).set k (mem s.ps x.frm && !mem s.tr (k : Int)) := by
  unfold clM
  apply List.ext_getElem?
  intro i
  rcases Nat.lt_or_ge i 12 with hi | hi
  · rw [mks_at _ hi]
    cases q : (mem s.ps x.frm && !mem s.tr (k : Int))
    · rw [clN_no hx q]
      by_cases e : i = k
      · subst e
        rw [List.getElem?_set_self (by rw [mks_len]; exact hi)]
        cases m : mem (clN ts s i) (i : Int)
        · rfl
        · have := cl_lt i _ (mem_iff.1 m); omega
      · rw [List.getElem?_set_ne (fun h => e h.symm), mks_at _ hi]
    · rw [Bool.and_eq_true, Bool.not_eq_true'] at q
      rw [clN_yes hx q.1 q.2]
      by_cases e : i = k
      · subst e
        rw [List.getElem?_set_self (by rw [mks_len]; exact hi), mem_iff.2 (List.mem_append_right _ (List.mem_singleton.2 rfl))]
      · rw [List.getElem?_set_ne (fun h => e h.symm), mks_at _ hi]
        congr 1
        rw [Bool.eq_iff_iff, mem_iff, mem_iff, List.mem_append, List.mem_singleton]
        exact ⟨fun h => h.elim id (fun h => absurd h (by omega)), .inl⟩
  · rw [List.getElem?_eq_none (by rw [mks_len]; exact hi), List.getElem?_eq_none (by rw [List.length_set, mks_len]; exact hi)]
theorem clM_all {ts : List Lg} (hg : goodLg ts = true) (s : Net) : tru (clM ts s ts.length) 12 = clN ts s ts.length :=
  tru_all (cl_asc _) (fun x hx => by have h1 := cl_lt _ x hx; have h2 := goodLg_len hg; omega)
/-- how many stations a network in a block shows as placed -/
def asB : Value → Bool
  | .bool b => b
  | _ => false
def cnt (G : Nat) (w : World) : Nat := match w.heap[G]? with
  | some (.cells cs _ _) => (tru ((cs.toList.take 8).map asB) 8).length
  | _ => 0
theorem cnt_nv {w : World} {G : Nat} {t : TypeId} {s : Net} {cl : List Bool} (h : Blk w G t (nv s cl)) (ho : Ok s) : cnt G w = s.ps.length := by
  unfold Blk at h
  unfold cnt
  rw [h]
  show (tru ((((nv s cl).toList).take 8).map asB) 8).length = _
  have e : (((nv s cl).toList).take 8).map asB = mks 8 s.ps := by
    unfold nv nvL
    rw [List.toList_toArray, List.take_append_of_le_length (by rw [List.length_map, mks_len]; exact Nat.le_refl _), List.take_of_length_le (by rw [List.length_map, mks_len]; exact Nat.le_refl _), List.map_map]
    conv => rhs; rw [← List.map_id (mks 8 s.ps)]
    rfl
  rw [e, tru_ps ho]
/-- the answer's box, the network's box -/
def NB (w : World) (G : Nat) (s : Net) (cl : List Bool) (v : World) : Prop := Blk v w.heap.size 76 (nv none6 off12) ∧ Blk v G 76 (nv s cl) ∧ Below w.heap.size w v ∧ w.heap.size < G
section
variable {w v v' : World} {G : Nat} {s s' : Net} {cl cl' : List Bool}
theorem NB.step (h : NB w G s cl v) (hb : Below v.heap.size v v') : NB w G s cl v' := ⟨h.1.below hb h.1.lt, h.2.1.below hb h.2.1.lt, h.2.2.1.trans (hb.mono h.2.2.1.size), h.2.2.2⟩
theorem NB.grown (h : NB w G s cl v) (hB : Blk v' G 76 (nv s' cl')) (hg : v.grownBy v' (some G)) : NB w G s' cl' v' :=
  ⟨h.1.grown hg (by intro e; injection e with e; have := h.2.2.2; omega), hB, h.2.2.1.grown hg h.2.2.1.size (fun k e => by injection e with e; have := h.2.2.2; omega), h.2.2.2⟩
theorem NB.set (h : NB w G s cl v) (o : Nat) (u : Value) (e : (nv s cl).setIfInBounds o u = nv s' cl') : NB w G s' cl' (v.setCell ⟨G, o, none⟩ u) :=
  h.grown (by rw [← e]; exact h.2.1.set_ o u) (base.grown_set (grown_of (Below.refl _ _) _) o u)
end
def NPost (ts : List Lg) (w : World) (e : Ending) (w' : World) : Prop := e = .returned (.tuple #[.agg (nv (net ts) (clM ts (net ts) ts.length)), .bool true]) ∧ Below w.heap.size w w'
end Go.Proofs.YtiimegmaokfpgabGreatDoor.nq

namespace Go.Proofs.YtiimegmaokfpgabGreatDoor.nq
open Go.RowKit
open reads base ty lg lgi win hs nt rowi sn
set_option linter.unusedVariables false
set_option linter.unusedSimpArgs false

def gOf : Value → Nat
  | .pointer (some a) => a.block
  | _ => 0
/-- what holds at the label -/
def JJ (A : Option Addr) (n cap : Nat) (ts : List Lg) (w : World) (a' : Act) (w' : World) : Prop :=
  ∃ (k G : Nat) (u1 u5 u6 u7 u8 u9 u10 u11 u12 u13 u14 u15 u16 u17 u18 u19 u20 u21 u22 u23 u24 u25 u26 u27 u28 u29 u30 u31 u32 u33 u34 u35 u36 u37 u38 u39 u40 u41 u42 u43 u44 u45 u46 u47 u48 u49 u50 u51 u52 u53 u54 u55 u56 u57 u58 u59 u60 u61 u62 u63 : Value), a' = { tmps := #[.slice A n cap, u1, .pointer (some ⟨w.heap.size, 0, none⟩), .bool false, .pointer (some ⟨G, 0, none⟩), u5, u6, u7, u8, u9, u10, u11, u12, u13, u14, u15, u16, u17, u18, u19, u20, u21, u22, u23, u24, u25, u26, u27, u28, u29, u30, u31, u32, u33, u34, u35, u36, u37, u38, u39, u40, u41, u42, u43, u44, u45, u46, u47, u48, u49, u50, u51, u52, u53, u54, u55, u56, u57, u58, u59, u60, u61, u62, u63], defers := [] } ∧ k ≤ 8 ∧ Hid (∀ j, j < k → doesN ts (passes ts j) ts.length = true) ∧ NB w G (passes ts k) off12 w'
set_option maxHeartbeats 64000000 in
set_option maxRecDepth 100000 in
theorem net_good (A : Option Addr) (n cap : Nat) (ts : List Lg) (w : World) (hn : n ≤ 2000000) (hg : Hid (goodLg ts = true)) (hts : Hid (LgAt w w.heap.size A n ts)) (hT : Hid (Tab w)) :
    Calls Tryz.prog 69 #[.slice A n cap] w (NPost ts w) := by
  have HL := Lib.hid hts.out.1
  have hn12 : n ≤ 12 := by rw [← HL.out]; exact goodLg_len hg.out
  go_enter Tryz.func69, Tryz.ntmps69
  go_wp2_with fail
  refine wp_scope_twice 0 (JJ A n cap ts w) (fun a' w' => 8 - cnt (gOf (a'.tmps.getD 4 undef)) w') rfl ?pass ?first
  case first => as_aux_lemma =>
    intro hp
    have HP := Lib.hid hp
    clear hp
    go_wp2_with fail
    refine (areLegs_is A n cap ts true _ hn (Lib.hid (hts.out.alloc _)) hg).mono ?_
    rintro e w1 ⟨rfl, b1⟩
    have HZ := Lib.hid (show Blk w1 w.heap.size 76 (nv none6 off12) from ((show Blk (w.alloc (.cells #[.bool false, .bool false, .bool false, .bool false, .bool false, .bool false, .bool false, .bool false, .int .i64 0, .int .i64 0, .int .i64 0, .int .i64 0, .int .i64 0, .int .i64 0, .int .i64 0, .int .i64 0, .int .i64 0, .int .i64 0, .int .i64 0, .int .i64 0, .int .i64 0, .int .i64 0, .int .i64 0, .int .i64 0, .int .i64 0, .int .i64 0, .int .i64 0, .int .i64 0, .int .i64 0, .int .i64 0, .int .i64 0, .int .i64 0, .bool false, .bool false, .bool false, .bool false, .bool false, .bool false, .bool false, .bool false, .bool false, .bool false, .bool false, .bool false, .bool false, .bool false, .bool false, .bool false, .bool false, .bool false, .bool false, .bool false, .bool false, .bool false, .bool false, .bool false] 76)) w.heap.size 76 (nv none6 off12) from Blk.new w 76 #[.bool false, .bool false, .bool false, .bool false, .bool false, .bool false, .bool false, .bool false, .int .i64 0, .int .i64 0, .int .i64 0, .int .i64 0, .int .i64 0, .int .i64 0, .int .i64 0, .int .i64 0, .int .i64 0, .int .i64 0, .int .i64 0, .int .i64 0, .int .i64 0, .int .i64 0, .int .i64 0, .int .i64 0, .int .i64 0, .int .i64 0, .int .i64 0, .int .i64 0, .int .i64 0, .int .i64 0, .int .i64 0, .int .i64 0, .bool false, .bool false, .bool false, .bool false, .bool false, .bool false, .bool false, .bool false, .bool false, .bool false, .bool false, .bool false, .bool false, .bool false, .bool false, .bool false, .bool false, .bool false, .bool false, .bool false, .bool false, .bool false, .bool false, .bool false])).below b1 (by simp))
    have HB0 := Lib.hid (show Below w.heap.size w w1 from ((Below.refl _ _).alloc (Nat.le_refl _) _).trans (b1.mono (by simp)))
    clear b1
    go_upto_region 3 with fail
    refine wp_region_list ?_
    refine step_build _ rfl rfl ?_
    simp only [Act.put, List.getElem_toArray, List.getElem_cons_succ, List.getElem_cons_zero, List.setIfInBounds_toArray, List.set_cons_zero, List.set_cons_succ]
    refine step_alloc _ rfl rfl ?_
    simp only [Act.put, List.getElem_toArray, List.getElem_cons_succ, List.getElem_cons_zero, List.setIfInBounds_toArray, List.set_cons_zero, List.set_cons_succ]
    have HN2 := Lib.hid (show NB w w1.heap.size none6 off12 (w1.alloc (.cells (nv none6 off12) 76)) from ⟨HZ.out.alloc _, Blk.new _ _ _, HB0.out.alloc HB0.out.size _, HZ.out.lt⟩)
    obtain ⟨G, HGG⟩ : ∃ G, Hid (w1.heap.size = G) := ⟨_, Lib.hid rfl⟩
    obtain ⟨W2, HW2⟩ : ∃ W, Hid (w1.alloc (.cells (nv none6 off12) 76) = W) := ⟨_, Lib.hid rfl⟩
    rw [HW2.out, HGG.out] at HN2 ⊢
    clear HW2 HGG HZ HB0
    refine step_store _ rfl _ _ rfl G _ _ rfl rfl HN2.out.2.1 zero_size zero_size nv_one ?_
    intro W3 hW hG
    have HN3 := Lib.hid (HN2.out.grown hW hG)
    clear hW hG HN2
    simp only [Act.put, List.getElem_toArray, List.getElem_cons_succ, List.getElem_cons_zero, List.setIfInBounds_toArray, List.set_cons_zero, List.set_cons_succ]
    obtain ⟨y, k0⟩ : ∃ y, W3.cell? ⟨G, 0, none⟩ = some y := ⟨_, (HN3.out.2.1.cell _).trans (nv_ps (by omega))⟩
    have f0 := HN3.out.2.1.frozen 0
    have hl := HN3.out.2.1.lt
    go_wp2_with fail
    have HN4 := Lib.hid (show NB w G nt.start off12 (W3.setCell ⟨G, 0, none⟩ (.bool true)) from HN3.out.set 0 (.bool true) (by rw [nv_set_ps (by omega)]; rfl))
    clear k0 f0 hl HN3
    go_step3
    rename_i hKK
    refine hKK _ _ ?_
    exact HP.out _ _ ⟨0, G, _, _, _, _, _, _, _, _, _, _, _, _, _, _, _, _, _, _, _, _, _, _, _, _, _, _, _, _, _, _, _, _, _, _, _, _, _, _, _, _, _, _, _, _, _, _, _, _, _, _, _, _, _, _, _, _, _, _, _, _, rfl, by omega, Lib.hid (fun j hj => by omega), HN4.out⟩
  case pass => as_aux_lemma =>
    rintro a' w' ⟨k, G, u1, u5, u6, u7, u8, u9, u10, u11, u12, u13, u14, u15, u16, u17, u18, u19, u20, u21, u22, u23, u24, u25, u26, u27, u28, u29, u30, u31, u32, u33, u34, u35, u36, u37, u38, u39, u40, u41, u42, u43, u44, u45, u46, u47, u48, u49, u50, u51, u52, u53, u54, u55, u56, u57, u58, u59, u60, u61, u62, u63, rfl, hk, HD, hN⟩
    have HN := Lib.hid hN
    clear hN
    obtain ⟨S, HS⟩ : ∃ S, Hid (passes ts k = S) := ⟨_, Lib.hid rfl⟩
    have HOS := Lib.hid (show Ok S by rw [← HS.out]; exact ok_passes hg.out k)
    rw [HS.out] at HN
    have HMU := Lib.hid (cnt_nv HN.out.2.1 HOS.out)
    go_wp2_with fail
    go_loopw [5, 19] (fun ag i wr => ∃ (j : Nat) (bb : Bool), j ≤ n ∧ i = .int .i64 (j : Nat) ∧ Hid (doesN ts S j = bb) ∧ ag = .bool bb ∧ NB w G (legsN ts S j) off12 wr) (fun _ i _ => n - (intOf i).toNat)
    case atStart => exact ⟨0, false, Nat.zero_le _, rfl, Lib.hid rfl, rfl, HN.out⟩
    case round =>
      obtain ⟨j, bb, hj, rfl, HBB, rfl, hN⟩ := hrel
      have HNR := Lib.hid hN
      clear hN HN
      obtain ⟨s, HSS⟩ : ∃ s, Hid (legsN ts S j = s) := ⟨_, Lib.hid rfl⟩
      have HOKS := Lib.hid (show Ok s by rw [← HSS.out]; exact ok_legs hg.out HOS.out j)
      rw [HSS.out] at HNR
      have HNOK := Lib.hid (show NOk s off12 from ⟨HOKS.out.1, rfl⟩)
      by_cases hlt : j < n
      · obtain ⟨x, hx⟩ := at_lt HL.out hlt
        obtain ⟨gL, rfl, hgL, e0, e1, e2, e3, e4⟩ := (hts.out.below HNR.out.2.2.1).2 j x hx
        have hok := goodLg_at hg.out hx
        obtain ⟨l1, l2, l3, -⟩ := okLg_lim hok
        obtain ⟨fr, to_, tp, cp, sl⟩ := x
        simp only [] at l1 l2 l3 e0 e1 e2 e3 e4
        obtain ⟨a, rfl⟩ : ∃ a : Nat, fr = (a : Int) := ⟨fr.toNat, by omega⟩
        obtain ⟨b, rfl⟩ : ∃ b : Nat, to_ = (b : Int) := ⟨to_.toNat, by omega⟩
        have ha8 : a < 8 := by omega
        have hb8 : b < 8 := by omega
        have hai : (a : Int) < 8 := by omega
        have hbi : (b : Int) < 8 := by omega
        have ha0 : (0 : Int) ≤ (a : Int) := by omega
        have hb0 : (0 : Int) ≤ (b : Int) := by omega
        have HX := Lib.hid hx
        have HOK := Lib.hid hok
        have hgL2 : gL < wr.heap.size := by have := HNR.out.2.2.1.size; omega
        clear hx hok l1 l2 l3
        have hji : (j : Int) < (n : Int) := by omega
        have hj0 : 0 ≤ (j : Int) := by omega
        have hj12 : (j : Int) < 12 := by omega
        have hj12n : j < 12 := by omega
        have hjd : decide (j < n) = true := by simpa using hlt
        obtain ⟨pa, hpa⟩ : ∃ t, mem s.ps (a : Int) = t := ⟨_, rfl⟩
        obtain ⟨pb, hpb⟩ : ∃ t, mem s.ps (b : Int) = t := ⟨_, rfl⟩
        have HPA := Lib.hid hpa
        have HPB := Lib.hid hpb
        clear hpa hpb
        obtain ⟨W1, HW1⟩ : ∃ W, Hid (wr.alloc (.cells #[.int .i64 (a : Int), .int .i64 (b : Int), .int .i64 tp, .int .i64 cp, .int .i64 sl] 87) = W) := ⟨_, Lib.hid rfl⟩
        have HAL := Lib.hid (show Below wr.heap.size wr W1 by rw [← HW1.out]; exact (Below.refl _ _).alloc (Nat.le_refl _) _)
        have HN1 := Lib.hid (HNR.out.step HAL.out)
        obtain ⟨X, HXX⟩ : ∃ X, Hid (wr.heap.size = X) := ⟨_, Lib.hid rfl⟩
        have HBX := Lib.hid (show Blk W1 X 87 #[.int .i64 (a : Int), .int .i64 (b : Int), .int .i64 tp, .int .i64 cp, .int .i64 sl] by rw [← HW1.out, ← HXX.out]; exact Blk.new _ _ _)
        go_upto_region 9 with fail
        try rw [HXX.out]
        try simp only [HXX.out]
        rw [HW1.out]
        clear HW1 HNR HXX HAL e0 e1 e2 e3 e4 hgL2
        have x0 := HBX.out.cell 0
        have x1 := HBX.out.cell 1
        have fa : W1.cell? ⟨G, a, none⟩ = some (.bool pa) := by rw [HN1.out.2.1.cell, nv_ps ha8, HPA.out]
        have fb : W1.cell? ⟨G, b, none⟩ = some (.bool pb) := by rw [HN1.out.2.1.cell, nv_ps hb8, HPB.out]
        have HDB := Lib.hid (show doesN ts S (j + 1) = (bb || (pa != pb)) by rw [doesN_succ HX.out, HSS.out, HBB.out, does_marks HPA.out HPB.out])
        cases pa
        · cases pb
          · have HSX := Lib.hid (show legsN ts S (j + 1) = s by rw [legsN_succ HX.out, HSS.out, leg1_no (by rw [does_marks HPA.out HPB.out]; rfl)])
            go_wp2_with fail
            go_quiet (fail)
            go_wp2_with fail
            have HN2 := Lib.hid (HN1.out.step (drewN_below W1 nq))
            go_roundw
            case rel => exact ⟨j + 1, bb, by omega, by go_num, by rw [show (bb || (false != false)) = bb by cases bb <;> rfl] at HDB; exact HDB, rfl, by rw [HSX.out]; exact HN2.out⟩
            case measure => simp [intOf]; omega
          · obtain ⟨p, HPP⟩ : ∃ p, Hid (at_ s.pl (b : Int) = p) := ⟨_, Lib.hid rfl⟩
            obtain ⟨h, HHH⟩ : ∃ h, Hid (shf ⟨(a : Int), (b : Int), tp, cp, sl⟩ = h) := ⟨_, Lib.hid rfl⟩
            obtain ⟨c, HCC⟩ : ∃ c, Hid (sub3 p h = c) := ⟨_, Lib.hid rfl⟩
            have HBP := Lib.hid (show BdS p by rw [← HPP.out]; exact bd_at HOKS.out _)
            have HSX := Lib.hid (show legsN ts S (j + 1) = ⟨s.pl.set a c, put s.ps (a : Int), put s.tr (j : Int)⟩ by
              rw [legsN_succ HX.out, HSS.out, leg1_bwd HPA.out HPB.out]
              simp only [HPP.out, HHH.out, HCC.out, Int.toNat_natCast])
            go_wp2_with fail
            go_quiet (fail)
            obtain ⟨W2, HW2⟩ : ∃ W, Hid (W1.drewN nq = W) := ⟨_, Lib.hid rfl⟩
            have HBD := Lib.hid (show Below W1.heap.size W1 W2 by rw [← HW2.out]; exact drewN_below _ _)
            have HN2 := Lib.hid (HN1.out.step HBD.out)
            have HBX2 := Lib.hid (HBX.out.below HBD.out HBX.out.lt)
            clear fa fb x0 x1
            go_upto_region 10 with fail
            rw [HW2.out]
            clear HW2 HBD HN1 HBX
            have x0 := HBX2.out.cell 0
            have x1 := HBX2.out.cell 1
            have x2 := HBX2.out.cell 2
            have x3 := HBX2.out.cell 3
            have x4 := HBX2.out.cell 4
            go_wp2_with fail
            refine (place_bwd G b a tp cp sl s off12 p h c _ HNOK HOK HPB HPA HPP HHH HCC HBP (Lib.hid HN2.out.2.1) (Lib.hid (hT.out.below HN2.out.2.2.1))).mono ?_
            rintro e W3 ⟨rfl, hW, hG⟩
            have HN3 := Lib.hid (HN2.out.grown hW hG)
            clear hW hG HN2 HBX2 x0 x1 x2 x3 x4
            have HNOK3 := Lib.hid (show NOk ⟨s.pl.set a c, put s.ps (a : Int), s.tr⟩ off12 from ⟨by rw [List.length_set]; exact HNOK.out.1, rfl⟩)
            obtain ⟨y, k0⟩ : ∃ y, W3.cell? ⟨G, 32 + j, none⟩ = some y := ⟨_, (HN3.out.2.1.cell _).trans (nv_tr HNOK3.out hj12n)⟩
            have f0 := HN3.out.2.1.frozen (32 + j)
            have hl := HN3.out.2.1.lt
            go_wp2_with fail
            have HN4 := Lib.hid (HN3.out.set (32 + j) (.bool true) (nv_set_tr HNOK3.out hj12n))
            clear HN3 k0 f0 hl
            go_roundw
            case rel => exact ⟨j + 1, true, by omega, by go_num, by rw [show (bb || (false != true)) = true by cases bb <;> rfl] at HDB; exact HDB, rfl, by rw [HSX.out]; exact HN4.out⟩
            case measure => simp [intOf]; omega
        · cases pb
          · obtain ⟨p, HPP⟩ : ∃ p, Hid (at_ s.pl (a : Int) = p) := ⟨_, Lib.hid rfl⟩
            obtain ⟨h, HHH⟩ : ∃ h, Hid (shf ⟨(a : Int), (b : Int), tp, cp, sl⟩ = h) := ⟨_, Lib.hid rfl⟩
            obtain ⟨c, HCC⟩ : ∃ c, Hid (add3 p h = c) := ⟨_, Lib.hid rfl⟩
            have HBP := Lib.hid (show BdS p by rw [← HPP.out]; exact bd_at HOKS.out _)
            have HSX := Lib.hid (show legsN ts S (j + 1) = ⟨s.pl.set b c, put s.ps (b : Int), put s.tr (j : Int)⟩ by
              rw [legsN_succ HX.out, HSS.out, leg1_fwd HPA.out HPB.out]
              simp only [HPP.out, HHH.out, HCC.out, Int.toNat_natCast])
            go_wp2_with fail
            go_quiet (fail)
            obtain ⟨W2, HW2⟩ : ∃ W, Hid (W1.drewN nq = W) := ⟨_, Lib.hid rfl⟩
            have HBD := Lib.hid (show Below W1.heap.size W1 W2 by rw [← HW2.out]; exact drewN_below _ _)
            have HN2 := Lib.hid (HN1.out.step HBD.out)
            have HBX2 := Lib.hid (HBX.out.below HBD.out HBX.out.lt)
            clear fa fb x0 x1
            go_upto_region 10 with fail
            rw [HW2.out]
            clear HW2 HBD HN1 HBX
            have x0 := HBX2.out.cell 0
            have x1 := HBX2.out.cell 1
            have x2 := HBX2.out.cell 2
            have x3 := HBX2.out.cell 3
            have x4 := HBX2.out.cell 4
            go_wp2_with fail
            refine (place_fwd G a b tp cp sl s off12 p h c _ HNOK HOK HPA HPB HPP HHH HCC HBP (Lib.hid HN2.out.2.1) (Lib.hid (hT.out.below HN2.out.2.2.1))).mono ?_
            rintro e W3 ⟨rfl, hW, hG⟩
            have HN3 := Lib.hid (HN2.out.grown hW hG)
            clear hW hG HN2 HBX2 x0 x1 x2 x3 x4
            have HNOK3 := Lib.hid (show NOk ⟨s.pl.set b c, put s.ps (b : Int), s.tr⟩ off12 from ⟨by rw [List.length_set]; exact HNOK.out.1, rfl⟩)
            obtain ⟨y, k0⟩ : ∃ y, W3.cell? ⟨G, 32 + j, none⟩ = some y := ⟨_, (HN3.out.2.1.cell _).trans (nv_tr HNOK3.out hj12n)⟩
            have f0 := HN3.out.2.1.frozen (32 + j)
            have hl := HN3.out.2.1.lt
            go_wp2_with fail
            have HN4 := Lib.hid (HN3.out.set (32 + j) (.bool true) (nv_set_tr HNOK3.out hj12n))
            clear HN3 k0 f0 hl
            go_roundw
            case rel => exact ⟨j + 1, true, by omega, by go_num, by rw [show (bb || (true != false)) = true by cases bb <;> rfl] at HDB; exact HDB, rfl, by rw [HSX.out]; exact HN4.out⟩
            case measure => simp [intOf]; omega
          · have HSX := Lib.hid (show legsN ts S (j + 1) = s by rw [legsN_succ HX.out, HSS.out, leg1_no (by rw [does_marks HPA.out HPB.out]; rfl)])
            go_wp2_with fail
            go_quiet (fail)
            go_wp2_with fail
            have HN2 := Lib.hid (HN1.out.step (drewN_below W1 nq))
            go_roundw
            case rel => exact ⟨j + 1, bb, by omega, by go_num, by rw [show (bb || (true != true)) = bb by cases bb <;> rfl] at HDB; exact HDB, rfl, by rw [HSX.out]; exact HN2.out⟩
            case measure => simp [intOf]; omega
      · have hjd : decide (j < n) = false := by simpa using hlt
        obtain rfl : j = n := by omega
        clear hlt
        cases bb
        · have HSN := Lib.hid (show s = S by rw [← HSS.out]; exact doesN_no HBB.out)
          have HNN := Lib.hid (show net ts = S by rw [← HS.out]; exact net_is (by omega) (by rw [HS.out, HL.out]; exact HBB.out))
          rw [HSN.out] at HNR
          go_wp2_with fail
          go_loopw [44] (fun i wr => ∃ (q : Nat), q ≤ j ∧ i = .int .i64 (q : Nat) ∧ NB w G S (clM ts S q) wr) (fun i _ => j - (intOf i).toNat)
          case atStart => exact ⟨0, Nat.zero_le _, rfl, by rw [clM_zero]; exact HNR.out⟩
          case round =>
            obtain ⟨q, hq, rfl, hN⟩ := hrel
            have HQ := Lib.hid hN
            clear hN HNR
            have HNOQ := Lib.hid (show NOk S (clM ts S q) from ⟨HOS.out.1, clM_len _ _ _⟩)
            by_cases hlt : q < j
            · obtain ⟨x, hx⟩ := at_lt HL.out hlt
              obtain ⟨gL, rfl, hgL, e0, e1, e2, e3, e4⟩ := (hts.out.below HQ.out.2.2.1).2 q x hx
              have HOK := Lib.hid (goodLg_at hg.out hx)
              have HCS := Lib.hid (clM_step (s := S) hx (by omega))
              have HEN := Lib.hid (show mem S.ps x.frm = mem S.ps x.to_ by have h := net_ends hg.out hx; rwa [HNN.out] at h)
              have hgL2 : gL < wr.heap.size := by have := HQ.out.2.2.1.size; omega
              clear hx
              have hji : (q : Int) < (j : Int) := by omega
              have hj0 : 0 ≤ (q : Int) := by omega
              have hj12 : (q : Int) < 12 := by omega
              have hj12n : q < 12 := by omega
              have hjd : decide (q < j) = true := by simpa using hlt
              obtain ⟨pa, hpa⟩ : ∃ t, mem S.ps x.frm = t := ⟨_, rfl⟩
              obtain ⟨pt, hpt⟩ : ∃ t, mem S.tr (q : Int) = t := ⟨_, rfl⟩
              have HPA := Lib.hid hpa
              have HPB := Lib.hid (show mem S.ps x.to_ = pa by rw [← HEN.out]; exact hpa)
              have HPT := Lib.hid hpt
              rw [HPA.out, HPT.out] at HCS
              clear hpa hpt
              obtain ⟨W1, HW1⟩ : ∃ W, Hid (wr.alloc (.cells #[.int .i64 x.frm, .int .i64 x.to_, .int .i64 x.tape, .int .i64 x.comp, .int .i64 x.slope] 87) = W) := ⟨_, Lib.hid rfl⟩
              have HAL := Lib.hid (show Below wr.heap.size wr W1 by rw [← HW1.out]; exact (Below.refl _ _).alloc (Nat.le_refl _) _)
              have HN1 := Lib.hid (HQ.out.step HAL.out)
              obtain ⟨X, HXX⟩ : ∃ X, Hid (wr.heap.size = X) := ⟨_, Lib.hid rfl⟩
              have HBX := Lib.hid (show Blk W1 X 87 #[.int .i64 x.frm, .int .i64 x.to_, .int .i64 x.tape, .int .i64 x.comp, .int .i64 x.slope] by rw [← HW1.out, ← HXX.out]; exact Blk.new _ _ _)
              go_upto_region 17 with fail
              try rw [HXX.out]
              try simp only [HXX.out]
              rw [HW1.out]
              clear HW1 HQ HXX HAL e0 e1 e2 e3 e4 hgL2
              have x0 := HBX.out.cell 0
              have x1 := HBX.out.cell 1
              have x2 := HBX.out.cell 2
              have x3 := HBX.out.cell 3
              have x4 := HBX.out.cell 4
              refine wp_region_list ?_
              refine step_move _ rfl _ rfl _ rfl ?_
              simp only [Act.put, List.getElem_toArray, List.getElem_cons_succ, List.getElem_cons_zero, List.setIfInBounds_toArray, List.set_cons_zero, List.set_cons_succ]
              refine step_load _ rfl _ rfl G _ rfl HN1.out.2.1 (nv_size HNOQ.out) ?_
              simp only [Act.put, List.getElem_toArray, List.getElem_cons_succ, List.getElem_cons_zero, List.setIfInBounds_toArray, List.set_cons_zero, List.set_cons_succ]
              go_wp2_with fail
              refine (ends_any S (clM ts S q) x pa pa _ HOK HPA HPB).mono ?_
              rintro e W2 ⟨rfl, b2⟩
              have HN2 := Lib.hid (HN1.out.step b2)
              clear b2 HN1 HBX x0 x1 x2 x3 x4
              have k1 : W2.cell? ⟨G, 32 + q, none⟩ = some (.bool pt) := by rw [HN2.out.2.1.cell, nv_tr HNOQ.out hj12n, HPT.out]
              obtain ⟨y, k0⟩ : ∃ y, W2.cell? ⟨G, 44 + q, none⟩ = some y := by
                obtain ⟨b, hb⟩ : ∃ b, (clM ts S q)[q]? = some b := ⟨_, List.getElem?_eq_getElem (by rw [clM_len]; exact hj12n)⟩
                exact ⟨_, (HN2.out.2.1.cell _).trans (nv_cl HNOQ.out hb)⟩
              have f0 := HN2.out.2.1.frozen (44 + q)
              have hl := HN2.out.2.1.lt
              have HN3 := Lib.hid (HN2.out.set (44 + q) (.bool (pa && !pt)) (by rw [nv_set_cl HNOQ.out hj12n, ← HCS.out]))
              clear HN2 HPA HPB HPT HCS HEN
              cases pa
              · go_wp2_with fail
                go_roundw
                case rel => exact ⟨q + 1, by omega, by go_num, HN3.out⟩
                case measure => simp [intOf]; omega
              · cases pt
                · go_wp2_with fail
                  go_roundw
                  case rel => exact ⟨q + 1, by omega, by go_num, HN3.out⟩
                  case measure => simp [intOf]; omega
                · go_wp2_with fail
                  go_roundw
                  case rel => exact ⟨q + 1, by omega, by go_num, HN3.out⟩
                  case measure => simp [intOf]; omega
            · have hjd : decide (q < j) = false := by simpa using hlt
              obtain rfl : q = j := by omega
              clear hlt
              go_upto_region 19 with fail
              refine wp_region_list ?_
              refine step_load _ rfl _ rfl G _ rfl HQ.out.2.1 (nv_size HNOQ.out) ?_
              simp only [Act.put, List.getElem_toArray, List.getElem_cons_succ, List.getElem_cons_zero, List.setIfInBounds_toArray, List.set_cons_zero, List.set_cons_succ]
              refine step_store _ rfl _ _ rfl w.heap.size _ _ rfl rfl HQ.out.1 zero_size (nv_size HNOQ.out) nv_one ?_
              intro W3 hW hG
              have HW3 := Lib.hid hW
              have HB3 := Lib.hid (HQ.out.2.2.1.grown hG HQ.out.2.2.1.size (fun g e => by injection e with e; omega))
              clear hW hG HQ
              simp only [Act.put, List.getElem_toArray, List.getElem_cons_succ, List.getElem_cons_zero, List.setIfInBounds_toArray, List.set_cons_zero, List.set_cons_succ]
              go_wp2_with fail
              try simp only [Exit.jump]
              refine bodyPost_ret (v := .tuple #[.agg (nv S (clM ts S q)), .bool true]) ?_ rfl ⟨by rw [HNN.out, HL.out], HB3.out⟩
              rw [results_cell_tmp rfl]
              simp [asAddr, Result.andThen, run_loadVar_net HW3.out (nv_size HNOQ.out)]
        · have HP1 := Lib.hid (show passes ts (k + 1) = s by show legsN ts (passes ts k) ts.length = s; rw [HS.out, HL.out]; exact HSS.out)
          have HD1 := Lib.hid (show ∀ i, i < k + 1 → doesN ts (passes ts i) ts.length = true from fun i hi => by
            rcases Nat.lt_or_ge i k with q | q
            · exact HD.out i q
            · obtain rfl : i = k := by omega
              rw [HS.out, HL.out]; exact HBB.out)
          have HK := Lib.hid (passes_few hg.out HD1.out)
          have HMV := Lib.hid (cnt_nv HNR.out.2.1 HOKS.out)
          have HGR := Lib.hid (show S.ps.length + 1 ≤ s.ps.length by
            have h := legs_grow (ts := ts) (s := S) j
            rw [HBB.out, if_pos rfl, HSS.out] at h; exact h)
          go_wp2_with fail
          go_step3
          refine ⟨rfl, ⟨k + 1, G, _, _, _, _, _, _, _, _, _, _, _, _, _, _, _, _, _, _, _, _, _, _, _, _, _, _, _, _, _, _, _, _, _, _, _, _, _, _, _, _, _, _, _, _, _, _, _, _, _, _, _, _, _, _, _, _, _, _, _, _, rfl, by have := HK.out; omega, HD1, by rw [HP1.out]; exact HNR.out⟩, ?_⟩
          show 8 - cnt G _ < 8 - cnt G _
          rw [HMV.out, HMU.out]
          have h1 := HGR.out
          have h2 := HOKS.out.ps_len
          omega
end Go.Proofs.YtiimegmaokfpgabGreatDoor.nq

namespace Go.Proofs.YtiimegmaokfpgabGreatDoor.nq
open Go.RowKit
open reads base ty lg lgi win hs nt rowi sn
set_option linter.unusedVariables false
set_option linter.unusedSimpArgs false

def netS (ts : List Lg) : Net := if goodLg ts then net ts else none6
def clS (ts : List Lg) : List Bool := if goodLg ts then clM ts (net ts) ts.length else off12
theorem nok_S (ts : List Lg) : NOk (netS ts) (clS ts) := by
  unfold netS clS
  cases h : goodLg ts
  · exact ok_none
  · exact ⟨(ok_net h).1, clM_len _ _ _⟩
theorem net_any (A : Option Addr) (n cap : Nat) (ts : List Lg) (C : Array Value) (g : Bool) (HC : Hid (nv (netS ts) (clS ts) = C)) (HG : Hid (goodLg ts = g)) (w : World) (hn : n ≤ 2000000) (hts : Hid (LgAt w w.heap.size A n ts)) (hT : Hid (Tab w)) :
    Calls Tryz.prog 69 #[.slice A n cap] w (APost (.tuple #[.agg C, .bool g]) w) := by
  have hc := HC.out
  unfold netS clS at hc
  cases g
  · rw [HG.out] at hc
    rw [← hc]
    exact net_bad A n cap ts w hn HG hts
  · rw [HG.out] at hc
    rw [← hc]
    exact net_good A n cap ts w hn HG hts hT
theorem tru_none (n : Nat) (h : n ≤ 12) : tru (mks n []) n = [] := tru_all List.Pairwise.nil (fun x hx => by cases hx)
theorem ps_S (ts : List Lg) : tru (mks 8 (netS ts).ps) 8 = psIds ts := by
  unfold netS psIds
  cases h : goodLg ts
  · exact tru_none 8 (by decide)
  · exact tru_ps (ok_net h)
theorem tr_S (ts : List Lg) : tru (mks 12 (netS ts).tr) 12 = trIds ts := by
  unfold netS trIds
  cases h : goodLg ts
  · exact tru_none 12 (by decide)
  · exact tru_tr (ok_net h)
theorem cl_S (ts : List Lg) : tru (clS ts) 12 = clIds ts := by
  unfold clS clIds
  cases h : goodLg ts
  · exact tru_none 12 (by decide)
  · exact clM_all h _
theorem psIds_len (ts : List Lg) : (psIds ts).length ≤ 12 := by
  unfold psIds
  cases h : goodLg ts
  · exact Nat.zero_le _
  · exact Nat.le_trans (ok_net h).ps_len (by decide)
theorem trIds_len (ts : List Lg) : (trIds ts).length ≤ 12 := by
  unfold trIds
  cases h : goodLg ts
  · exact Nat.zero_le _
  · exact (ok_net h).tr_len
theorem clIds_len (ts : List Lg) : (clIds ts).length ≤ 12 := by
  unfold clIds
  cases h : goodLg ts
  · exact Nat.zero_le _
  · exact Nat.le_trans (clN_len ts (net ts) ts.length) (goodLg_len h)
theorem bs_ps {w : World} {g : Nat} {s : Net} {cl : List Bool} (h : Blk w g 76 (nv s cl)) : BsAt w g 0 (mks 8 s.ps) := fun k b hk => by
  have hl : k < 8 := by have := (List.getElem?_eq_some_iff.1 hk).1; rwa [mks_len] at this
  rw [mks_at _ hl] at hk
  exact ⟨h.lt, by rw [Nat.zero_add, h.cell, nv_ps hl, Option.some.inj hk]⟩
theorem bs_tr {w : World} {g : Nat} {s : Net} {cl : List Bool} (hn : NOk s cl) (h : Blk w g 76 (nv s cl)) : BsAt w g 32 (mks 12 s.tr) := fun k b hk => by
  have hl : k < 12 := by have := (List.getElem?_eq_some_iff.1 hk).1; rwa [mks_len] at this
  rw [mks_at _ hl] at hk
  exact ⟨h.lt, by rw [h.cell, nv_tr hn hl, Option.some.inj hk]⟩
theorem bs_cl {w : World} {g : Nat} {s : Net} {cl : List Bool} (hn : NOk s cl) (h : Blk w g 76 (nv s cl)) : BsAt w g 44 cl := fun k b hk => ⟨h.lt, by rw [h.cell, nv_cl hn hk]⟩
/-- a network laid into a new block -/
theorem lay_net {C : Array Value} (h0 : C.size = 56) (h1 : C.all (·.oneCell') = true) (w : World) : (storeCells ⟨w.heap.size, 0, none⟩ C.toList 0).run Tryz.prog (w.alloc (.cells #[.bool false, .bool false, .bool false, .bool false, .bool false, .bool false, .bool false, .bool false, .int .i64 0, .int .i64 0, .int .i64 0, .int .i64 0, .int .i64 0, .int .i64 0, .int .i64 0, .int .i64 0, .int .i64 0, .int .i64 0, .int .i64 0, .int .i64 0, .int .i64 0, .int .i64 0, .int .i64 0, .int .i64 0, .int .i64 0, .int .i64 0, .int .i64 0, .int .i64 0, .int .i64 0, .int .i64 0, .int .i64 0, .int .i64 0, .bool false, .bool false, .bool false, .bool false, .bool false, .bool false, .bool false, .bool false, .bool false, .bool false, .bool false, .bool false, .bool false, .bool false, .bool false, .bool false, .bool false, .bool false, .bool false, .bool false, .bool false, .bool false, .bool false, .bool false] 76)) = .ok () (w.alloc (.cells C 76)) :=
  run_storeCells_new w 76 #[.bool false, .bool false, .bool false, .bool false, .bool false, .bool false, .bool false, .bool false, .int .i64 0, .int .i64 0, .int .i64 0, .int .i64 0, .int .i64 0, .int .i64 0, .int .i64 0, .int .i64 0, .int .i64 0, .int .i64 0, .int .i64 0, .int .i64 0, .int .i64 0, .int .i64 0, .int .i64 0, .int .i64 0, .int .i64 0, .int .i64 0, .int .i64 0, .int .i64 0, .int .i64 0, .int .i64 0, .int .i64 0, .int .i64 0, .bool false, .bool false, .bool false, .bool false, .bool false, .bool false, .bool false, .bool false, .bool false, .bool false, .bool false, .bool false, .bool false, .bool false, .bool false, .bool false, .bool false, .bool false, .bool false, .bool false, .bool false, .bool false, .bool false, .bool false] C (by rw [sizeNet, h0]) (by rw [h0]; rfl) h1
end Go.Proofs.YtiimegmaokfpgabGreatDoor.nq
