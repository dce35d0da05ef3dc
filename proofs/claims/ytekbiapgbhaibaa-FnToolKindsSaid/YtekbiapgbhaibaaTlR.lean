/-
  The drawn checks.
  Conditions: the code has at most 65536 bytes.
-/
import Derived.Test.YtekbiapgbhaibaaTlQ
import Derived.Test.YtekbiapgbhaibaaTlE
import Derived.Laws.OwnMore
import Derived.Laws.MakeOwn
import Derived.OwnWalk
import Derived.Deep.AppendLies
namespace Go.Proofs.Ytekbiapgbhaibaa.tlp
open Go.RowKit
open reads curs curd tl
set_option linter.unusedVariables false
set_option linter.unusedSimpArgs false

def flat (cs : List Ck) : List Value := cs.flatMap fun c => [.int .i64 c.read, .int .i64 c.tru]
theorem flat_len (cs : List Ck) : (flat cs).length = cs.length * 2 := by
  induction cs with
  | nil => rfl
  | cons c cs ih => simp [flat, List.flatMap_cons] at ih ⊢; omega
theorem flat_app (cs : List Ck) (c : Ck) : flat (cs ++ [c]) = flat cs ++ [.int .i64 c.read, .int .i64 c.tru] := by simp [flat]
theorem flat_at : ∀ (cs : List Ck) (k : Nat) (c : Ck), cs[k]? = some c → (flat cs)[k * 2]? = some (.int .i64 c.read) ∧ (flat cs)[k * 2 + 1]? = some (.int .i64 c.tru)
  | [], k, c, h => by simp at h
  | d :: cs, 0, c, h => by
    simp at h
    subst h
    exact ⟨rfl, rfl⟩
  | d :: cs, k + 1, c, h => by
    obtain ⟨h1, h2⟩ := flat_at cs k c (by simpa using h)
    have e : flat (d :: cs) = .int .i64 d.read :: .int .i64 d.tru :: flat cs := rfl
    rw [e, show (k + 1) * 2 = k * 2 + 1 + 1 by omega, show k * 2 + 1 + 1 + 1 = (k * 2 + 1) + 1 + 1 by omega]
    exact ⟨by simpa using h1, by simpa using h2⟩
/-- an own row of checks lies in memory -/
theorem cks_own {w : World} {base c : Nat} {e : TypeId} {A : Option Addr} {cs : List Ck} (h : w.ownsRow base e 2 (.slice A cs.length c) cs.length (flat cs)) : CksAt w w.heap.size A cs.length cs := by
  refine ⟨rfl, fun k d hd => ?_⟩
  have hk : k < cs.length := (List.getElem?_eq_some_iff.1 hd).1
  obtain ⟨g, cap, hv, -, hg⟩ := h.form (by omega)
  injection hv with hA _ hc
  subst hA hc
  obtain ⟨f1, f2⟩ := flat_at cs k d hd
  exact ⟨g, rfl, hg, (h.cellAt (k * 2) (by omega)).trans f1, (h.cellAt (k * 2 + 1) (by omega)).trans f2⟩

/-- checks in the making -/
def CS (w : World) (B b k : Nat) (A : Option Addr) (n cap : Nat) (zs : List UInt8) (x : Tl) (v : Value) (cs : List Ck) (u : World) : Prop :=
  Cur u B b k A n cap zs ∧ w.grownBy u (some b) ∧ Blk u w.heap.size 25 #[.int .i64 x.id, .int .i64 x.kind, .int .i64 x.zero, .int .i64 x.scale] ∧ u.ownsRow (w.heap.size + 1) 40 2 v cs.length (flat cs) ∧ b < w.heap.size ∧ B ≤ w.heap.size
section
variable {w u u' : World} {B b k k' : Nat} {A : Option Addr} {n cap : Nat} {zs : List UInt8} {x : Tl} {v v' : Value} {cs : List Ck}
theorem CS.size (h : CS w B b k A n cap zs x v cs u) : w.heap.size < u.heap.size := h.2.2.1.lt
theorem CS.nb (h : CS w B b k A n cap zs x v cs u) : v.ownBlock ≠ some b := fun e => by have := (h.2.2.2.1.lt b e).1; have := h.2.2.2.2.1; omega
theorem CS.step (h : CS w B b k A n cap zs x v cs u) (hC : Cur u' B b k' A n cap zs) (hg : u.grownBy u' (some b)) : CS w B b k' A n cap zs x v cs u' := by
  have hn := h.nb
  obtain ⟨h1, h2, h3, h4, h5, h6⟩ := h
  exact ⟨hC, h2.trans hg, h3.grown hg (by intro e; injection e with e; omega), h4.kept hg (.inr hn), h5, h6⟩
theorem CS.alloc (h : CS w B b k A n cap zs x v cs u) (o : Obj) : CS w B b k A n cap zs x v cs (u.alloc o) := by
  have hs := h.size
  obtain ⟨h1, h2, h3, h4, h5, h6⟩ := h
  exact ⟨cur_alloc h1 (by omega) o, h2.trans (World.grownBy_alloc u o (some b)), h3.alloc o, h4.alloc o, h5, h6⟩
theorem CS.more (h : CS w B b k A n cap zs x v cs u) (hk : k ≤ k') : CS w B b k' A n cap zs x v cs u := ⟨cur_more h.1 k' hk, h.2⟩
theorem CS.xs (h : CS w B b k A n cap zs x v cs u) : u.cell? ⟨w.heap.size, 1, none⟩ = some (.int .i64 x.kind) := h.2.2.1.cell 1
theorem cur_drew (h : Cur u B b k A n cap zs) : Cur u.drew B b k A n cap zs := by
  obtain ⟨c1, c2, c3, pos, sd, c4, c5, c6, c7⟩ := h
  exact ⟨c1, c2.drew, c3, pos, sd, c4, c5, c6, c7.drew⟩
theorem own_drew {base size m : Nat} {e : TypeId} {xs : List Value} (h : u.ownsRow base e size v m xs) : u.drew.ownsRow base e size v m xs := h
theorem CS.drew (h : CS w B b k A n cap zs x v cs u) : CS w B b k A n cap zs x v cs u.drew := by
  obtain ⟨h1, h2, h3, h4, h5, h6⟩ := h
  exact ⟨cur_drew h1, ⟨h2.os, h2.tape, h2.output, h2.size, h2.block⟩, h3.drew, own_drew h4, h5, h6⟩
/-- a store elsewhere -/
theorem CS.far (h : CS w B b k A n cap zs x v cs u) {K : Nat} (hK : w.heap.size < K) (hv : v.ownBlock ≠ some K) (o : Nat) (y : Value) : CS w B b k A n cap zs x v cs (u.setCell ⟨K, o, none⟩ y) := by
  obtain ⟨h1, h2, h3, h4, h5, h6⟩ := h
  refine ⟨cur_set h1 (by show b ≠ K; omega) (by show B ≤ K; omega) y, grown_set h2 (by show _ ≤ K; omega) y, h3.far (by show _ ≠ K; omega) y, ?_, h5, h6⟩
  exact h4.kept (row := some K) ⟨rfl, rfl, rfl, by simp [World.setCell], fun i hi hne => Below.heap_setCell u ⟨K, o, none⟩ y i (by rintro rfl; exact hne rfl)⟩ (.inr hv)
/-- one more check -/
theorem CS.app (h : CS w B b k A n cap zs x v cs u) {c : Ck} (ho : u'.ownsRow (w.heap.size + 1) 40 2 v' (cs.length + 1) (flat cs ++ [.int .i64 c.read, .int .i64 c.tru])) (hg : u.grownBy u' v.ownBlock) : CS w B b k A n cap zs x v' (cs ++ [c]) u' := by
  have hn := h.nb
  have hs := h.size
  obtain ⟨h1, h2, h3, h4, h5, h6⟩ := h
  have hlo : ∀ g, v.ownBlock = some g → w.heap.size + 1 ≤ g := fun g e => (h4.lt g e).1
  obtain ⟨c1, c2, c3, pos, sd, c4, c5, c6, c7⟩ := h1
  refine ⟨⟨c1, c2.grown hg (by omega) (fun g e => by have := hlo g e; omega), c3, pos, sd, c4, c5, c6, c7.grown hg (fun e => hn e.symm)⟩, ⟨hg.os.trans h2.os, hg.tape.trans h2.tape, hg.output.trans h2.output, Nat.le_trans h2.size hg.size, fun i hi hne => ?_⟩, h3.grown hg (fun e => by have := hlo _ e.symm; omega), ?_, h5, h6⟩
  · exact (hg.block i (by omega) (fun e => by have := hlo _ e.symm; omega)).trans (h2.block i hi hne)
  · rw [List.length_append, List.length_singleton, flat_app]; exact ho
end
end Go.Proofs.Ytekbiapgbhaibaa.tlp
