/-
  The greater of two numbers, of the model.
  Conditions: none.
-/
import Derived.Test.YtnpghhpcloljeaaDoorBase
namespace Go.Proofs.YtnpghhpcloljeaaDoor.mst
open Go.RowKit
open reads base
set_option linter.unusedVariables false
def mx (a b : Int) : Int := if b < a then a else b
theorem mx_abs (a b : Int) : 0 ≤ mx (a - b) (b - a) ∧ a - b ≤ mx (a - b) (b - a) ∧ b - a ≤ mx (a - b) (b - a) ∧ (mx (a - b) (b - a) = a - b ∨ mx (a - b) (b - a) = b - a) := by unfold mx; split <;> omega
end Go.Proofs.YtnpghhpcloljeaaDoor.mst
