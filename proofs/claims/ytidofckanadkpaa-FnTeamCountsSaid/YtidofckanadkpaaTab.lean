/-
  A list of lists that the call has made: its rows lie in blocks of their own.
  Conditions: none but those that a theorem names.
-/
import Derived.Test.YtidofckanadkpaaBase
import Derived.Laws.OwnMore
import Derived.Deep.AppendLies
namespace Go.Proofs.Ytidofckanadkpaa.tab
open Go.RowKit
open reads base
set_option linter.unusedVariables false

/-- the rows, one after the other -/
def TabV {α : Type} (E : TypeId) (size : Nat) (enc : List α → List Value) (w : World) (base : Nat) (vs : List Value) (xs : List (List α)) : Prop :=
  vs.length = xs.length ∧ ∀ (i : Nat) v x, vs[i]? = some v → xs[i]? = some x → w.ownsRow base E size v x.length (enc x)
/-- no two of them in one block -/
def Disj (vs : List Value) : Prop := vs.Pairwise fun a b => a.ownBlock = none ∨ a.ownBlock ≠ b.ownBlock
theorem own_mono {w : World} {b b' size n : Nat} {e : TypeId} {v : Value} {xs : List Value} (h : w.ownsRow b e size v n xs) (hb : b' ≤ b) : w.ownsRow b' e size v n xs := by
  refine ⟨h.1, ?_⟩
  rcases h.2 with q | ⟨g, cap, cur, h1, h2, h3⟩
  · exact .inl q
  · exact .inr ⟨g, cap, cur, h1, Nat.le_trans hb h2, h3⟩
/-- two own rows of different types lie apart -/
theorem own_ne {w : World} {b b' size size' n n' : Nat} {e e' : TypeId} {v v' : Value} {xs xs' : List Value} (h : w.ownsRow b e size v n xs) (h' : w.ownsRow b' e' size' v' n' xs') (hne : e ≠ e') : v.ownBlock = none ∨ v.ownBlock ≠ v'.ownBlock := by
  rcases h'.2 with ⟨rfl, _⟩ | ⟨g', cap', cur', rfl, _, hg', _⟩
  · cases q : v.ownBlock with
    | none => exact .inl rfl
    | some k => exact .inr (by simp [Value.ownBlock])
  · exact .inr (own_blk_ne (e := e) h (t := e') hg' hne)
section
variable {α : Type} {E S : TypeId} {size : Nat} {enc : List α → List Value} {w w' : World} {base : Nat} {vs : List Value} {xs : List (List α)}
theorem TabV.nil : TabV E size enc w base [] [] := ⟨rfl, fun i v x h => by simp at h⟩
theorem TabV.at_ (h : TabV E size enc w base vs xs) {i : Nat} {x : List α} (hx : xs[i]? = some x) : ∃ v, vs[i]? = some v ∧ w.ownsRow base E size v x.length (enc x) := by
  have hi : i < vs.length := by rw [h.1]; exact (List.getElem?_eq_some_iff.1 hx).1
  exact ⟨vs[i], List.getElem?_eq_getElem hi, h.2 i _ x (List.getElem?_eq_getElem hi) hx⟩
theorem TabV.below (h : TabV E size enc w base vs xs) (hb : Below w.heap.size w w') : TabV E size enc w' base vs xs := ⟨h.1, fun i v x h1 h2 => row_below (h.2 i v x h1 h2) hb⟩
theorem TabV.kept (h : TabV E size enc w base vs xs) {row : Option Nat} (hg : w.grownBy w' row) (hne : ∀ (i : Nat) (v : Value) (x : List α), vs[i]? = some v → xs[i]? = some x → v.ownBlock = none ∨ v.ownBlock ≠ row) : TabV E size enc w' base vs xs :=
  ⟨h.1, fun i v x h1 h2 => (h.2 i v x h1 h2).kept hg (hne i v x h1 h2)⟩
/-- behind an append to the outer list -/
theorem TabV.grown (h : TabV E size enc w base vs xs) {v : Value} {n : Nat} {us : List Value} {b : Nat} (ho : w.ownsRow b S 1 v n us) (hg : w.grownBy w' v.ownBlock) (hne : E ≠ S) : TabV E size enc w' base vs xs :=
  h.kept hg fun i u x h1 h2 => own_ne (h.2 i u x h1 h2) ho hne
theorem TabV.snoc (h : TabV E size enc w base vs xs) {v : Value} {x : List α} (hv : w.ownsRow base E size v x.length (enc x)) : TabV E size enc w base (vs ++ [v]) (xs ++ [x]) := by
  refine ⟨by simp [h.1], fun i u y h1 h2 => ?_⟩
  by_cases hi : i < vs.length
  · rw [List.getElem?_append_left hi] at h1
    rw [List.getElem?_append_left (by rw [← h.1]; exact hi)] at h2
    exact h.2 i u y h1 h2
  · have hl := (List.getElem?_eq_some_iff.1 h1).1
    rw [List.length_append, List.length_singleton] at hl
    obtain rfl : i = vs.length := by omega
    rw [List.getElem?_append_right (Nat.le_refl _), Nat.sub_self] at h1
    rw [h.1, List.getElem?_append_right (Nat.le_refl _), Nat.sub_self] at h2
    obtain rfl : v = u := by simpa using h1
    obtain rfl : x = y := by simpa using h2
    exact hv
theorem TabV.mono (h : TabV E size enc w base vs xs) {base' : Nat} (hb : base' ≤ base) : TabV E size enc w base' vs xs := ⟨h.1, fun i v x h1 h2 => own_mono (h.2 i v x h1 h2) hb⟩
theorem Disj.nil : Disj [] := List.Pairwise.nil
theorem Disj.snoc (h : Disj vs) {v : Value} (hv : ∀ u ∈ vs, u.ownBlock = none ∨ u.ownBlock ≠ v.ownBlock) : Disj (vs ++ [v]) := by
  unfold Disj
  rw [List.pairwise_append]
  exact ⟨h, List.pairwise_singleton _ _, fun a ha b hb => by rw [List.mem_singleton.1 hb]; exact hv a ha⟩
/-- a row that was made later lies apart -/
theorem TabV.later (h : TabV E size enc w base vs xs) {v : Value} {b n : Nat} {us : List Value} {e : TypeId} {sz : Nat} (hv : w'.ownsRow b e sz v n us) (hb : w.heap.size ≤ b) : ∀ u ∈ vs, u.ownBlock = none ∨ u.ownBlock ≠ v.ownBlock := by
  intro u hu
  obtain ⟨i, hi⟩ := List.getElem?_of_mem hu
  have hx : i < xs.length := by rw [← h.1]; exact (List.getElem?_eq_some_iff.1 hi).1
  have ho := h.2 i u _ hi (List.getElem?_eq_getElem hx)
  cases q : u.ownBlock with
  | none => exact .inl rfl
  | some k =>
    refine .inr fun e => ?_
    have h1 := ho.lt k q
    have h2 := hv.lt k e.symm
    omega
end
end Go.Proofs.Ytidofckanadkpaa.tab
