/-
  The exact laws' helpers at lists of ints: equality, marks, marks that are held.
  Conditions: none but those that a theorem names.
-/
import Derived.Test.YtnpghhpcloljeaaDoorProg
import Derived.Test.YtnpghhpcloljeaaDoorReads
import Derived.WalkKit
import Derived.Lib.Hide
import Derived.Deep.QuietTactic
import Derived.BigQuiet
import Derived.LoopTactic
namespace Go.Proofs.YtnpghhpcloljeaaDoor.ints
open Go.RowKit
open reads
set_option linter.unusedVariables false

def intsV (xs : List Int) : List Value := xs.map (Value.int .i64)
theorem intsV_len (xs : List Int) : (intsV xs).length = xs.length := by simp [intsV]
/-- a list of ints in memory -/
def IL (w : World) (A : Option Addr) (n : Nat) (xs : List Int) : Prop := xs.length = n ∧ ∀ k x, xs[k]? = some x → ∃ g, A = some ⟨g, 0, none⟩ ∧ w.cell? ⟨g, k, none⟩ = some (.int .i64 x)
theorem IL.of_own {w : World} {base n : Nat} {e : TypeId} {A : Option Addr} {c : Nat} {xs : List Int} (h : w.ownsRow base e 1 (.slice A n c) n (intsV xs)) : IL w A n xs := by
  have hl : xs.length = n := by have := h.1; rw [intsV_len] at this; omega
  refine ⟨hl, fun k x hx => ?_⟩
  have hk : k < n := by have := (List.getElem?_eq_some_iff.1 hx).1; omega
  obtain ⟨g, cap, hv, -, -⟩ := h.form (by omega)
  injection hv with hA _ hc
  subst hA hc
  exact ⟨g, rfl, by rw [h.cellAt k (by omega)]; simp [intsV, hx]⟩
theorem IL.keep {w w' : World} {A : Option Addr} {n : Nat} {xs : List Int} (h : IL w A n xs) (hk : ∀ g o, A = some ⟨g, 0, none⟩ → w'.cell? ⟨g, o, none⟩ = w.cell? ⟨g, o, none⟩) : IL w' A n xs :=
  ⟨h.1, fun k x hx => by
    obtain ⟨g, e, hc⟩ := h.2 k x hx
    exact ⟨g, e, (hk g k e).trans hc⟩⟩
theorem own_slice {w : World} {base n : Nat} {e : TypeId} {v : Value} {xs : List Value} (h : w.ownsRow base e 1 v n xs) : ∃ A c, v = .slice A n c := by
  rcases h.2 with ⟨rfl, rfl⟩ | ⟨g, cap, cur, rfl, _⟩
  · exact ⟨_, _, rfl⟩
  · exact ⟨_, _, rfl⟩

end Go.Proofs.YtnpghhpcloljeaaDoor.ints
