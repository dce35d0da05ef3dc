/-
  The greater of two numbers, of the model.
  Conditions: none.
-/
import Derived.Test.YtnpghhpcloljeaaBase
namespace Go.Proofs.Ytnpghhpcloljeaa.mst
open Go.RowKit
open reads base
set_option linter.unusedVariables false
def mx (a b : Int) : Int := if b < a then a else b
theorem mx_abs (a b : Int) : 0 ≤ mx (a - b) (b - a) ∧ a - b ≤ mx (a - b) (b - a) ∧ b - a ≤ mx (a - b) (b - a) ∧ (mx (a - b) (b - a) = a - b ∨ mx (a - b) (b - a) = b - a) := by unfold mx; split <;> omega
theorem most_is (a b v : Int) (h : Hid (mx a b = v)) (w : World) : Calls Try.prog 83 #[.int .i64 a, .int .i64 b] w fun e w' => e = .returned (.int .i64 v) ∧ w = w' := by
  have hh := h.out
  clear h
  by_cases c : b < a
  · obtain rfl : v = a := by rw [← hh]; exact if_pos c
    clear hh
    go_enter Try.func83, Try.ntmps83
    go_wp2_with fail
    go_ret
    exact ⟨rfl, rfl⟩
  · obtain rfl : v = b := by rw [← hh]; exact if_neg c
    have hd : decide (v < a) = false := by simpa using c
    clear hh c
    go_enter Try.func83, Try.ntmps83
    go_wp2_with fail
    go_ret
    exact ⟨rfl, rfl⟩
end Go.Proofs.Ytnpghhpcloljeaa.mst
