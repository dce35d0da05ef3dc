/-
  Rows of passages of one's own, appends of them.
  Conditions: the passages lie in one block, at most 2000000 of them.
-/
import Derived.Test.YtnpghhpcloljeaaDoorPwF
import Derived.BigQuiet
import Derived.Deep.QuietTactic
import Derived.Deep.Cut
import Derived.Deep.DeepCutAuto
import Derived.RegionTactic
import Derived.Deep.RegionWith
import Derived.OwnWalk
import Derived.Deep.RegionHeld3
import Derived.Laws.AppendOwnNone
import Derived.Laws.OwnMore
namespace Go.Proofs.YtnpghhpcloljeaaDoor.pw
open Go.RowKit
open reads base ty rowi win lg
set_option linter.unusedVariables false
set_option linter.unusedSimpArgs false

theorem flatPg_append (xs ys : List Pg) : flatPg (xs ++ ys) = flatPg xs ++ flatPg ys := by simp [flatPg]
theorem flatPg_one (ts : List Pg) : ∀ u ∈ flatPg ts, u.oneCell' = true := by
  intro u hu
  simp only [flatPg, List.mem_flatMap] at hu
  obtain ⟨t, -, h⟩ := hu
  simp at h
  rcases h with rfl | rfl | rfl | rfl | rfl <;> rfl
theorem step_pgs {ops : Array Oper} {o : Oper} {a : Act} {w : World} {K : Act → World → Prop} {Q : Exit → Act → World → Prop} {E : Prop} (hgd : o.guard = none) (s x : Operand) (ho : o.op = .call { callee := .builtin .append, args := #[s, x], argTypes := #[31, 31] })
    {bs n m c : Nat} {v : Value} {xs news : List Value} {ad : Addr} (hs : a.eval s = v) (hown : w.ownsRow bs 43 5 v n xs) (hx : a.eval x = .slice (some ad) m c) (hl : news.length = m * 5) (hnews : ∀ j u, news[j]? = some u → w.cell? (ad.add j) = some u) (h1 : ∀ u ∈ news, u.oneCell' = true) (h6 : n + m ≤ 1000000) (hb : bs ≤ w.heap.size)
    (h : ∀ v' w', w'.ownsRow bs 43 5 v' (n + m) (xs ++ news) → w.grownBy w' v.ownBlock → K (a.put o.dst v') w') :
    if Region.wanted o (yielded ops a.tmps) = true then Oper.wp Tryd.prog o a w K Q else E := by
  obtain ⟨i0, hi, hz0, hz1, hz2⟩ := info_parts infoPg
  rw [if_pos (show Region.wanted o (yielded ops a.tmps) = true by simp [Region.wanted, hgd])]
  exact wp_append_own w s x _ ho bs 43 i0 (.agg #[.int .i64 0, .int .i64 0, .int .i64 0, .int .i64 0, .int .i64 0]) 5 40 Tryd.underlying31 hi hz0 hz1 hz2 rfl (by decide) v n xs hs hown ad m c news hx hl hnews h1 (by unfold maxLen; omega) (by omega) hb (fun v' w' h1 h2 _ => h v' w' h1 h2)
/-- passages of one's own under way -/
def PR (w : World) (A : Option Addr) (m c : Nat) (us : List Pg) (v : World) : Prop := Below w.heap.size w v ∧ v.ownsRow w.heap.size 43 5 (.slice A m c) m (flatPg us) ∧ us.length = m
theorem PR.step {w v v' : World} {A : Option Addr} {m c : Nat} {us : List Pg} (h : PR w A m c us v) (hb : Below v.heap.size v v') : PR w A m c us v' := ⟨h.1.trans (hb.mono h.1.size), row_below h.2.1 hb, h.2.2⟩
theorem PR.alloc {w v : World} {A : Option Addr} {m c : Nat} {us : List Pg} (h : PR w A m c us v) (o : Obj) : PR w A m c us (v.alloc o) := h.step ((Below.refl _ _).alloc (Nat.le_refl _) o)
theorem PR.mk0 {w v : World} (h : Below w.heap.size w v) : PR w (some ⟨v.heap.size, 0, none⟩) 0 0 [] (v.alloc (.cells #[] 43)) := ⟨h.alloc h.size _, made1 w v h.size 43 5, rfl⟩
theorem PR.app {w v v' : World} {A A' : Option Addr} {m c c' : Nat} {us : List Pg} (h : PR w A m c us v) (y : Pg) (ho : v'.ownsRow w.heap.size 43 5 (.slice A' (m + 1) c') (m + 1) (flatPg us ++ [.int .i64 y.st, .int .i64 y.lf, .int .i64 y.rt, .int .i64 y.ab, .int .i64 y.be])) (hg : v.grownBy v' (Value.slice A m c).ownBlock) : PR w A' (m + 1) c' (us ++ [y]) v' :=
  ⟨h.1.grown hg h.1.size (fun g e => (h.2.1.lt g e).1), by rw [flatPg_append]; exact ho, by rw [List.length_append, h.2.2]; rfl⟩
/-- passages that the call has made, and a word -/
def GPost (us : List Pg) (t : Bool) (w : World) (e : Ending) (w' : World) : Prop :=
  ∃ v, e = .returned (.tuple #[v, .bool t]) ∧ w'.ownsRow w.heap.size 43 5 v us.length (flatPg us) ∧ Below w.heap.size w w'
/-- and two passages in boxes -/
def NB (X : Nat) (x : Pg) (Y : Nat) (y : Pg) (v : World) : Prop := Blk v X 43 #[.int .i64 x.st, .int .i64 x.lf, .int .i64 x.rt, .int .i64 x.ab, .int .i64 x.be] ∧ Blk v Y 43 #[.int .i64 y.st, .int .i64 y.lf, .int .i64 y.rt, .int .i64 y.ab, .int .i64 y.be]
theorem nb_mk {v : World} {X Y : Nat} {x y : Pg} (h : NB X x Y y v) : v.cell? ⟨X, 0, none⟩ = some (.int .i64 x.st) ∧ v.cell? ⟨X, 1, none⟩ = some (.int .i64 x.lf) ∧ v.cell? ⟨X, 2, none⟩ = some (.int .i64 x.rt) ∧ v.cell? ⟨X, 3, none⟩ = some (.int .i64 x.ab) ∧ v.cell? ⟨X, 4, none⟩ = some (.int .i64 x.be) ∧ v.cell? ⟨Y, 0, none⟩ = some (.int .i64 y.st) ∧ v.cell? ⟨Y, 1, none⟩ = some (.int .i64 y.lf) ∧ v.cell? ⟨Y, 2, none⟩ = some (.int .i64 y.rt) ∧ v.cell? ⟨Y, 3, none⟩ = some (.int .i64 y.ab) ∧ v.cell? ⟨Y, 4, none⟩ = some (.int .i64 y.be) ∧ X < v.heap.size ∧ Y < v.heap.size ∧ NB X x Y y v :=
  ⟨h.1.cell 0, h.1.cell 1, h.1.cell 2, h.1.cell 3, h.1.cell 4, h.2.cell 0, h.2.cell 1, h.2.cell 2, h.2.cell 3, h.2.cell 4, h.1.lt, h.2.lt, h⟩
theorem NB.step {v v' : World} {X Y : Nat} {x y : Pg} (h : NB X x Y y v) (hb : Below v.heap.size v v') : NB X x Y y v' := ⟨h.1.below hb h.1.lt, h.2.below hb h.2.lt⟩
theorem NB.grown {v v' : World} {X Y : Nat} {x y : Pg} {r : Option Nat} (h : NB X x Y y v) (hg : v.grownBy v' r) (hx : ∀ g, r = some g → g ≠ X ∧ g ≠ Y) : NB X x Y y v' :=
  ⟨h.1.grown hg (fun e => (hx X e.symm).1 rfl), h.2.grown hg (fun e => (hx Y e.symm).2 rfl)⟩
def MB (w : World) (A : Option Addr) (m c : Nat) (us : List Pg) (X : Nat) (x : Pg) (Y : Nat) (y : Pg) (v : World) : Prop := PR w A m c us v ∧ NB X x Y y v ∧ ∀ g, (Value.slice A m c).ownBlock = some g → g ≠ X ∧ g ≠ Y
theorem MB.step {w v v' : World} {A : Option Addr} {m c X Y : Nat} {us : List Pg} {x y : Pg} (h : MB w A m c us X x Y y v) (hb : Below v.heap.size v v') : MB w A m c us X x Y y v' := ⟨h.1.step hb, h.2.1.step hb, h.2.2⟩
theorem mb_new {w v : World} {A : Option Addr} {m c : Nat} {us : List Pg} (x y : Pg) (h : PR w A m c us v) : MB w A m c us v.heap.size x (v.heap.size + 1) y ((v.alloc (.cells #[.int .i64 x.st, .int .i64 x.lf, .int .i64 x.rt, .int .i64 x.ab, .int .i64 x.be] 43)).alloc (.cells #[.int .i64 y.st, .int .i64 y.lf, .int .i64 y.rt, .int .i64 y.ab, .int .i64 y.be] 43)).drew := by
  refine ⟨((h.alloc _).alloc _).step (drewN_below _ 1), ⟨((Blk.new _ _ _).alloc _).drew, ?_⟩, fun g e => ?_⟩
  · have k := Blk.new (v.alloc (.cells #[.int .i64 x.st, .int .i64 x.lf, .int .i64 x.rt, .int .i64 x.ab, .int .i64 x.be] 43)) 43 #[.int .i64 y.st, .int .i64 y.lf, .int .i64 y.rt, .int .i64 y.ab, .int .i64 y.be]
    have k2 : Blk ((v.alloc (.cells #[.int .i64 x.st, .int .i64 x.lf, .int .i64 x.rt, .int .i64 x.ab, .int .i64 x.be] 43)).alloc (.cells #[.int .i64 y.st, .int .i64 y.lf, .int .i64 y.rt, .int .i64 y.ab, .int .i64 y.be] 43)) (v.heap.size + 1) 43 #[.int .i64 y.st, .int .i64 y.lf, .int .i64 y.rt, .int .i64 y.ab, .int .i64 y.be] := by simpa using k
    exact k2.drew
  · have := (h.2.1.lt g e).2
    omega
theorem mb_swap {w v : World} {A : Option Addr} {m c X Y : Nat} {us : List Pg} {x y : Pg} (h : MB w A m c us X x Y y v) : MB w A m c us Y y X x v := ⟨h.1, ⟨h.2.1.2, h.2.1.1⟩, fun g e => ⟨(h.2.2 g e).2, (h.2.2 g e).1⟩⟩
theorem both_vals (x y : Pg) : flatPg [both x y] = [.int .i64 x.st, .int .i64 (lo2 x.lf y.lf), .int .i64 (lo2 x.rt y.rt), .int .i64 (lo2 x.ab y.ab), .int .i64 (lo2 x.be y.be)] := rfl
end Go.Proofs.YtnpghhpcloljeaaDoor.pw
