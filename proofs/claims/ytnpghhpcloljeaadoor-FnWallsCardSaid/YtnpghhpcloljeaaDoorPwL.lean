/-
  Parts of lists of legs: the program's test at them.
  Conditions: none but those that a theorem names.
-/
import Derived.Test.YtnpghhpcloljeaaDoorLgI
import Derived.Deep.DeepCutAuto
import Derived.Deep.RegionWith
import Derived.Deep.QuietTactic
import Derived.BigQuiet
namespace Go.Proofs.YtnpghhpcloljeaaDoor.lgw
open Go.RowKit
open reads base ty win lg lgi
set_option linter.unusedVariables false
set_option linter.unusedSimpArgs false

/-- a list of legs in memory, from some cell of a block on -/
def LgO (w : World) (B : Nat) (A : Option Addr) (n : Nat) (ts : List Lg) : Prop :=
  ts.length = n ∧ ∀ k t, ts[k]? = some t → ∃ g o, A = some ⟨g, o, none⟩ ∧ g < B ∧ w.cell? ⟨g, o + k * 5, none⟩ = some (.int .i64 t.frm) ∧ w.cell? ⟨g, o + k * 5 + 1, none⟩ = some (.int .i64 t.to_) ∧ w.cell? ⟨g, o + k * 5 + 2, none⟩ = some (.int .i64 t.tape) ∧ w.cell? ⟨g, o + k * 5 + 3, none⟩ = some (.int .i64 t.comp) ∧ w.cell? ⟨g, o + k * 5 + 4, none⟩ = some (.int .i64 t.slope)
theorem LgO.below {w w' : World} {B : Nat} {A : Option Addr} {n : Nat} {ts : List Lg} (h : LgO w B A n ts) (hb : Below B w w') : LgO w' B A n ts :=
  ⟨h.1, fun k t ht => by
    obtain ⟨g, o, e, hg, h0, h1, h2, h3, h4⟩ := h.2 k t ht
    exact ⟨g, o, e, hg, (hb.cell (p := ⟨g, o + k * 5, none⟩) hg).trans h0, (hb.cell (p := ⟨g, o + k * 5 + 1, none⟩) hg).trans h1, (hb.cell (p := ⟨g, o + k * 5 + 2, none⟩) hg).trans h2, (hb.cell (p := ⟨g, o + k * 5 + 3, none⟩) hg).trans h3, (hb.cell (p := ⟨g, o + k * 5 + 4, none⟩) hg).trans h4⟩⟩
theorem LgO.more {w : World} {B B' : Nat} {A : Option Addr} {n : Nat} {ts : List Lg} (h : LgO w B A n ts) (hB : B ≤ B') : LgO w B' A n ts :=
  ⟨h.1, fun k t ht => by
    obtain ⟨g, o, e, hg, h0⟩ := h.2 k t ht
    exact ⟨g, o, e, by omega, h0⟩⟩
theorem LgO.step {w w' : World} {A : Option Addr} {n : Nat} {ts : List Lg} (h : LgO w w.heap.size A n ts) (hb : Below w.heap.size w w') : LgO w' w'.heap.size A n ts := (h.below hb).more hb.size
theorem LgO.alloc {w : World} {A : Option Addr} {n : Nat} {ts : List Lg} (h : LgO w w.heap.size A n ts) (o : Obj) : LgO (w.alloc o) (w.alloc o).heap.size A n ts := h.step ((Below.refl _ _).alloc (Nat.le_refl _) o)
/-- the first part of a list -/
theorem LgO.take {w : World} {B : Nat} {A : Option Addr} {n : Nat} {ts : List Lg} (h : LgAt w B A n ts) (k : Nat) (hk : k ≤ n) : LgO w B A k (ts.take k) :=
  ⟨by rw [List.length_take, h.1]; omega, fun i t ht => by
    have hi : i < k := by have := (List.getElem?_eq_some_iff.1 ht).1; rw [List.length_take] at this; omega
    rw [List.getElem?_take_of_lt hi] at ht
    obtain ⟨g, e, hg, h0, h1, h2, h3, h4⟩ := h.2 i t ht
    exact ⟨g, 0, e, hg, by simpa using h0, by simpa using h1, by simpa using h2, by simpa using h3, by simpa using h4⟩⟩
/-- the rest of a list -/
theorem LgO.drop {w : World} {B : Nat} {g c : Nat} {n : Nat} {ts : List Lg} (h : LgAt w B (some ⟨g, 0, none⟩) n ts) (k : Nat) (hk : k < n) : LgO w B (some ⟨g, k * 5, none⟩) (n - k) (ts.drop k) :=
  ⟨by rw [List.length_drop, h.1], fun i t ht => by
    rw [List.getElem?_drop] at ht
    obtain ⟨g', e, hg, h0, h1, h2, h3, h4⟩ := h.2 (k + i) t ht
    obtain rfl : g = g' := by injection e with e; injection e
    have e5 : k * 5 + i * 5 = (k + i) * 5 := by omega
    exact ⟨g, k * 5, rfl, hg, by rw [e5]; exact h0, by rw [e5]; exact h1, by rw [e5]; exact h2, by rw [e5]; exact h3, by rw [e5]; exact h4⟩⟩
theorem LgO.whole {w : World} {B : Nat} {A : Option Addr} {n : Nat} {ts : List Lg} (h : LgAt w B A n ts) : LgO w B A n ts := by
  have q := LgO.take h n (Nat.le_refl _)
  rwa [List.take_of_length_le (by rw [h.1]; exact Nat.le_refl _)] at q
theorem LgO.empty (w : World) (B : Nat) (A : Option Addr) : LgO w B A 0 [] := ⟨rfl, fun k t h => by simp at h⟩
end Go.Proofs.YtnpghhpcloljeaaDoor.lgw
