/-
  A list of ints in memory, from the beginning of a block on.
  Conditions: none but those that a theorem names.
-/
import Derived.Test.YtiimegmaokfpgaaBase
import Derived.Test.YtiimegmaokfpgaaIntV
namespace Go.Proofs.Ytiimegmaokfpgaa.ty
open Go.RowKit
open reads base
set_option linter.unusedVariables false

/-- a list of ints in memory, from the beginning of a block on -/
def InAt (w : World) (B : Nat) (A : Option Addr) (n : Nat) (xs : List Int) : Prop :=
  xs.length = n ∧ ∀ (k : Nat) x, xs[k]? = some x → ∃ g, A = some ⟨g, 0, none⟩ ∧ g < B ∧ w.cell? ⟨g, k, none⟩ = some (.int .i64 x)
theorem InAt.below {w w' : World} {B : Nat} {A : Option Addr} {n : Nat} {xs : List Int} (h : InAt w B A n xs) (hb : Below B w w') : InAt w' B A n xs :=
  ⟨h.1, fun k x hx => by
    obtain ⟨g, e, hg, h0⟩ := h.2 k x hx
    exact ⟨g, e, hg, (hb.cell (p := ⟨g, k, none⟩) hg).trans h0⟩⟩
theorem InAt.more {w : World} {B B' : Nat} {A : Option Addr} {n : Nat} {xs : List Int} (h : InAt w B A n xs) (hB : B ≤ B') : InAt w B' A n xs :=
  ⟨h.1, fun k x hx => by
    obtain ⟨g, e, hg, h0⟩ := h.2 k x hx
    exact ⟨g, e, by omega, h0⟩⟩
theorem InAt.step {w w' : World} {A : Option Addr} {n : Nat} {xs : List Int} (h : InAt w w.heap.size A n xs) (hb : Below w.heap.size w w') : InAt w' w'.heap.size A n xs := (h.below hb).more hb.size
theorem InAt.alloc {w : World} {A : Option Addr} {n : Nat} {xs : List Int} (h : InAt w w.heap.size A n xs) (o : Obj) : InAt (w.alloc o) (w.alloc o).heap.size A n xs := h.step ((Below.refl _ _).alloc (Nat.le_refl _) o)
theorem InAt.il {w : World} {B : Nat} {A : Option Addr} {n : Nat} {xs : List Int} (h : InAt w B A n xs) : ints.IL w A n xs :=
  ⟨h.1, fun k x hx => by
    obtain ⟨g, e, hg, h0⟩ := h.2 k x hx
    exact ⟨g, e, h0⟩⟩
theorem own_In {w : World} {base c n : Nat} {e : TypeId} {A : Option Addr} {xs : List Int} (hn : xs.length = n) (h : w.ownsRow base e 1 (.slice A n c) n (ints.intsV xs)) : InAt w w.heap.size A n xs := by
  refine ⟨hn, fun k x hx => ?_⟩
  have hk : k < xs.length := (List.getElem?_eq_some_iff.1 hx).1
  obtain ⟨g, cap, hv, -, hg⟩ := h.form (by omega)
  injection hv with hA _ hc
  subst hA hc
  exact ⟨g, rfl, hg, by rw [h.cellAt k (by omega)]; simp [ints.intsV, hx]⟩
end Go.Proofs.Ytiimegmaokfpgaa.ty
