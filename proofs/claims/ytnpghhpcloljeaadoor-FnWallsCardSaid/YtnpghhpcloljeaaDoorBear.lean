/-
  The program's bearing of an angle.
  Conditions: none but those that a theorem names.
-/
import Derived.Test.YtnpghhpcloljeaaDoorWin
namespace Go.Proofs.YtnpghhpcloljeaaDoor.win
open Go.RowKit
open reads base
set_option linter.unusedVariables false
set_option linter.unusedSimpArgs false

theorem rem360_is (d r : Int) (h : Hid (d % 360 = r)) (w : World) (h0 : -1000000 ≤ d) (h1 : d ≤ 1000000) :
    Calls Tryd.prog 82 #[.int .i64 d, .int .i64 360] w fun e w' => e = .returned (.int .i64 r) ∧ w = w' := by
  have ht0 : -360 < d.tmod 360 := Int.lt_tmod_of_pos d (by decide)
  have ht1 : d.tmod 360 < 360 := Int.tmod_lt_of_pos d (by decide)
  have HD := Lib.hid (show (d.tmod 360 + 360) % 360 = r by have := Int.tmod_def d 360; have := h.out; omega)
  clear h
  go_enter Tryd.func82, Tryd.ntmps82
  go_wp2_with fail
  go_ret
  exact ⟨by rw [← HD.out]; rfl, rfl⟩
theorem bearingOf_is (d r : Int) (h : Hid (d % 360 = r)) (w : World) (h0 : -1000000 ≤ d) (h1 : d ≤ 1000000) :
    Calls Tryd.prog 68 #[.int .i64 d] w fun e w' => e = .returned (.int .i64 r) ∧ w = w' := by
  go_enter Tryd.func68, Tryd.ntmps68
  go_wp2_with fail
  refine (rem360_is d r h _ h0 h1).mono ?_
  rintro e w' ⟨rfl, rfl⟩
  go_wp2_with fail
  go_ret
  exact ⟨rfl, rfl⟩
end Go.Proofs.YtnpghhpcloljeaaDoor.win
