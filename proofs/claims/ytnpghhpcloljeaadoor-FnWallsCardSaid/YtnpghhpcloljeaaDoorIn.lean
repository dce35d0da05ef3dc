/-
  The model's test whether a number lies between two others.
  Conditions: none.
-/
import Derived.Test.YtnpghhpcloljeaaDoorBase
namespace Go.Proofs.YtnpghhpcloljeaaDoor.inn
open Go.RowKit
open reads base
set_option linter.unusedVariables false
theorem in_is (x a b : Int) (t : Bool) (h : Hid (btw a x b = t)) (w : World) :
    Calls Tryd.prog 56 #[.int .i64 x, .int .i64 a, .int .i64 b] w fun e w' => e = .returned (.bool t) ∧ w = w' := by
  have hh := h.out
  clear h
  by_cases hx : a ≤ x
  · by_cases hy : x ≤ b
    · obtain rfl : t = true := by rw [← hh]; exact btw_mk hx hy
      clear hh
      go_enter Tryd.func56, Tryd.ntmps56
      go_wp2_with fail
      go_ret
      exact ⟨rfl, rfl⟩
    · obtain rfl : t = false := by rw [← hh]; simp [btw]; omega
      have hd : decide (x ≤ b) = false := by simpa using hy
      clear hh
      go_enter Tryd.func56, Tryd.ntmps56
      go_wp2_with fail
      go_ret
      exact ⟨rfl, rfl⟩
  · obtain rfl : t = false := by rw [← hh]; simp [btw]; omega
    clear hh
    have hx' : x < a := by omega
    go_enter Tryd.func56, Tryd.ntmps56
    go_wp2_with fail
    go_ret
    exact ⟨rfl, rfl⟩
end Go.Proofs.YtnpghhpcloljeaaDoor.inn
