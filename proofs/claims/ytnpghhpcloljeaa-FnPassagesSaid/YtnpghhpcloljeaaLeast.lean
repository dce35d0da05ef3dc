/-
  The smaller of two numbers, of the model.
  Conditions: none.
-/
import Derived.Test.YtnpghhpcloljeaaBase
namespace Go.Proofs.Ytnpghhpcloljeaa.lst
open Go.RowKit
open reads base
set_option linter.unusedVariables false
def mn (a b : Int) : Int := if a < b then a else b
theorem least_is (a b v : Int) (h : Hid (mn a b = v)) (w : World) : Calls Try.prog 69 #[.int .i64 a, .int .i64 b] w fun e w' => e = .returned (.int .i64 v) ∧ w = w' := by
  have hh := h.out
  clear h
  by_cases c : a < b
  · obtain rfl : v = a := by rw [← hh]; exact if_pos c
    clear hh
    go_enter Try.func69, Try.ntmps69
    go_wp2_with fail
    go_ret
    exact ⟨rfl, rfl⟩
  · obtain rfl : v = b := by rw [← hh]; exact if_neg c
    have hd : decide (a < v) = false := by simpa using c
    clear hh c
    go_enter Try.func69, Try.ntmps69
    go_wp2_with fail
    go_ret
    exact ⟨rfl, rfl⟩
theorem least_q (a b v : Int) (h : Hid (mn a b = v)) (w : World) : Calls Try.prog 69 #[.int .i64 a, .int .i64 b] w fun e w' => e = .returned (.int .i64 v) ∧ w' = w := (least_is a b v h w).mono fun e w' hh => ⟨hh.1, hh.2.symm⟩
end Go.Proofs.Ytnpghhpcloljeaa.lst
