/-
  What draws of structs share: cursors and lists of one's own, kept.
  Conditions: none but those that a theorem names.
-/
import Derived.Test.YtnpghhpcloljeaaDoorCurD
import Derived.Test.YtnpghhpcloljeaaDoorBase
namespace Go.Proofs.YtnpghhpcloljeaaDoor.cure
open Go.RowKit
open reads curs curd
set_option linter.unusedVariables false

section
variable {w v v' : World} {B b k : Nat} {A : Option Addr} {n cap : Nat} {zs : List UInt8}
theorem cur_set (h : Cur v B b k A n cap zs) {p : Addr} (hp : b ≠ p.block) (hB : B ≤ p.block) (u : Value) : Cur (v.setCell p u) B b k A n cap zs := by
  obtain ⟨c1, c2, c3, pos, sd, c4, c5, c6, c7⟩ := h
  exact ⟨c1, c2.setCell hB u, c3, pos, sd, c4, c5, c6, c7.far hp u⟩
theorem grown_set {r : Option Nat} (h : w.grownBy v r) {p : Addr} (hp : w.heap.size ≤ p.block) (u : Value) : w.grownBy (v.setCell p u) r :=
  ⟨h.os, h.tape, h.output, by simpa [World.setCell] using h.size, fun i hi hne => (Below.heap_setCell v p u i (by omega)).trans (h.block i hi hne)⟩
theorem cur_below (h : Cur v B b k A n cap zs) (hb : Below v.heap.size v v') : Cur v' B b k A n cap zs := by
  obtain ⟨c1, c2, c3, pos, sd, c4, c5, c6, c7⟩ := h
  have l := c7.lt
  exact ⟨c1, c2.below (hb.mono (by omega)), c3, pos, sd, c4, c5, c6, c7.below hb l⟩
theorem own_base {base base' size m : Nat} {e : TypeId} {x : Value} {xs : List Value} (hb : base' ≤ base) (h : w.ownsRow base e size x m xs) : w.ownsRow base' e size x m xs := by
  refine ⟨h.1, ?_⟩
  rcases h.2 with ⟨e1, e2⟩ | ⟨g, cp, cur, e1, e2, e3⟩
  · exact .inl ⟨e1, e2⟩
  · exact .inr ⟨g, cp, cur, e1, by omega, e3⟩
/-- a list of one's own that lies beside the cursor is kept by draws -/
theorem own_step {base size m : Nat} {e : TypeId} {x : Value} {xs : List Value} (h : v.ownsRow base e size x m xs) (hg : v.grownBy v' (some b)) (hb : b < base) : v'.ownsRow base e size x m xs :=
  h.kept hg (by
    cases q : x.ownBlock with
    | none => exact .inl rfl
    | some g => exact .inr (fun e => by have := (h.lt g q).1; injection e with e; omega))
end
end Go.Proofs.YtnpghhpcloljeaaDoor.cure
