/-
  The drawn lists of legs.
  Conditions: the code has at most 65536 bytes.
-/
import Derived.Test.YtnpghhpcloljeaaDoorDrA
import Derived.Deep.DeepCutAuto
import Derived.Laws.OwnMore
import Derived.OwnWalk
import Derived.Deep.AppendLies
namespace Go.Proofs.YtnpghhpcloljeaaDoor.drl
open Go.RowKit
open reads base curs curd cure ty
set_option linter.unusedVariables false
set_option linter.unusedSimpArgs false

/-- a list in the making: the cursor, the list's own block -/
def GS (w : World) (B b k : Nat) (A : Option Addr) (n cap : Nat) (zs : List UInt8) (v : Value) (ts : List Lg) (u : World) : Prop :=
  Cur u B b k A n cap zs ∧ w.grownBy u (some b) ∧ u.ownsRow w.heap.size 33 5 v ts.length (flatLg ts) ∧ (∀ t ∈ ts, okD t) ∧ b < w.heap.size ∧ B ≤ w.heap.size
section
variable {w u u' : World} {B b k k' : Nat} {A : Option Addr} {n cap : Nat} {zs : List UInt8} {v v' : Value} {ts : List Lg}
theorem GS.step (h : GS w B b k A n cap zs v ts u) (hC : Cur u' B b k' A n cap zs) (hg : u.grownBy u' (some b)) : GS w B b k' A n cap zs v ts u' :=
  ⟨hC, h.2.1.trans hg, own_step h.2.2.1 hg h.2.2.2.2.1, h.2.2.2⟩
theorem GS.alloc (h : GS w B b k A n cap zs v ts u) (o : Obj) : GS w B b k A n cap zs v ts (u.alloc o) :=
  ⟨cur_alloc h.1 (by have := h.2.1.size; have := h.2.2.2.2.2; omega) o, h.2.1.trans (World.grownBy_alloc u o (some b)), h.2.2.1.alloc o, h.2.2.2⟩
theorem GS.more (h : GS w B b k A n cap zs v ts u) (hk : k ≤ k') : GS w B b k' A n cap zs v ts u := ⟨cur_more h.1 k' hk, h.2⟩
theorem GS.app (h : GS w B b k A n cap zs v ts u) {t : Lg} (hok : okD t) (ho : u'.ownsRow w.heap.size 33 5 v' (ts.length + 1) (flatLg ts ++ [.int .i64 t.frm, .int .i64 t.to_, .int .i64 t.tape, .int .i64 t.comp, .int .i64 t.slope])) (hg : u.grownBy u' v.ownBlock) : GS w B b k A n cap zs v' (ts ++ [t]) u' := by
  obtain ⟨h1, h2, h3, h4, h5, h6⟩ := h
  have hlo : ∀ g, v.ownBlock = some g → w.heap.size ≤ g := fun g e => (h3.lt g e).1
  obtain ⟨c1, c2, c3, pos, sd, c4, c5, c6, c7⟩ := h1
  have hs := h2.size
  refine ⟨⟨c1, c2.grown hg (by omega) (fun g e => by have := hlo g e; omega), c3, pos, sd, c4, c5, c6, c7.grown hg (fun e => by have := hlo _ e.symm; omega)⟩,
    ⟨hg.os.trans h2.os, hg.tape.trans h2.tape, hg.output.trans h2.output, Nat.le_trans h2.size hg.size, fun i hi hne => (hg.block i (by omega) (fun e => by have := hlo _ e.symm; omega)).trans (h2.block i hi hne)⟩, ?_, ?_, h5, h6⟩
  · rw [List.length_append, List.length_singleton, flatLg_app]; exact ho
  · intro x hx
    rcases List.mem_append.1 hx with q | q
    · exact h4 x q
    · rw [List.mem_singleton.1 q]; exact hok
end
/-- drawn legs -/
def GPo (B b k : Nat) (A : Option Addr) (n cap : Nat) (zs : List UInt8) (w : World) (e : Ending) (w' : World) : Prop :=
  ∃ (v : Value) (ts : List Lg), e = .returned v ∧ ts.length ≤ 13 ∧ GS w B b k A n cap zs v ts w'
/-- drawn legs, behind their function -/
def DLPo (w : World) (e : Ending) (w' : World) : Prop := ∃ (v : Value) (ts : List Lg), e = .returned v ∧ w'.ownsRow w.heap.size 33 5 v ts.length (flatLg ts) ∧ ts.length ≤ 13 ∧ Below w.heap.size w w'
/-- drawn legs and a number -/
def DAPo (w : World) (e : Ending) (w' : World) : Prop := ∃ (v : Value) (ts : List Lg) (q : Int), e = .returned (.tuple #[v, .int .i64 q]) ∧ w'.ownsRow w.heap.size 33 5 v ts.length (flatLg ts) ∧ ts.length ≤ 13 ∧ Below w.heap.size w w'
end Go.Proofs.YtnpghhpcloljeaaDoor.drl
