/-
  The length of three parts: what an answer is.
  Conditions: none but those that a theorem names.
-/
import Derived.Test.YtiimegmaokfpgabGreatDoorBase
namespace Go.Proofs.YtiimegmaokfpgabGreatDoor.len
open Go.RowKit
open reads
set_option linter.unusedVariables false

theorem band {a x b : Int} (h0 : a ≤ x) (h1 : x ≤ b) : (decide (a ≤ x) && decide (x ≤ b)) = true := by simp [h0, h1]
theorem bout {a x b : Int} (h : ¬ (a ≤ x ∧ x ≤ b)) : (decide (a ≤ x) && decide (x ≤ b)) = false := by simp; omega
/-- an answer, memory left to the caller -/
def APost (v : Value) (w : World) (e : Ending) (w' : World) : Prop := e = .returned v ∧ Below w.heap.size w w'
theorem sq_mono {a b : Int} (h0 : 0 ≤ a) (h : a ≤ b) : a * a ≤ b * b := Int.mul_le_mul h h h0 (by omega)
theorem sq_lt {a b : Int} (ha : 0 ≤ a) (hb : 0 ≤ b) (h : a * a < b * b) : a < b := by
  rcases Int.lt_or_le a b with k | k
  · exact k
  · have := sq_mono hb k; omega
theorem sq_bd (a : Int) (a0 : -100000 ≤ a) (a1 : a ≤ 100000) : 0 ≤ a * a ∧ a * a ≤ 10000000000 := by
  have h : (a * a).natAbs ≤ 100000 * 100000 := by rw [Int.natAbs_mul]; exact Nat.mul_le_mul (by omega) (by omega)
  have h0 : 0 ≤ a * a := by
    rcases Int.le_total 0 a with k | k
    · exact Int.mul_nonneg k k
    · have := Int.mul_nonneg (show 0 ≤ -a by omega) (show 0 ≤ -a by omega)
      rw [Int.neg_mul_neg] at this; exact this
  omega
/-- the greatest whole number whose square is at most S -/
def IsRoot (S r : Int) : Prop := 0 ≤ r ∧ r * r ≤ S ∧ S < (r + 1) * (r + 1)
theorem root_uniq {S r q : Int} (h : IsRoot S r) (k : IsRoot S q) : r = q := by
  have a : r < q + 1 := sq_lt h.1 (by have := k.1; omega) (by have := h.2.1; have := k.2.2; omega)
  have b : q < r + 1 := sq_lt k.1 (by have := h.1; omega) (by have := k.2.1; have := h.2.2; omega)
  omega
def okL (e n u : Int) : Prop := (-100000 ≤ e ∧ e ≤ 100000) ∧ (-100000 ≤ n ∧ n ≤ 100000) ∧ (-100000 ≤ u ∧ u ≤ 100000)
/-- what LengthOf answers -/
def LPost (e n u : Int) (w : World) (r : Ending) (w' : World) : Prop :=
  ((okL e n u ∧ ∃ q, IsRoot (e * e + n * n + u * u) q ∧ r = .returned (.tuple #[.int .i64 q, .bool true])) ∨ (¬ okL e n u ∧ r = .returned (.tuple #[.int .i64 0, .bool false]))) ∧ Below w.heap.size w w'

end Go.Proofs.YtiimegmaokfpgabGreatDoor.len
