/-
  The program's bearing of an angle.
  Conditions: none but those that a theorem names.
-/
import Derived.Test.YtjlkgijaceplcabGreatDoorWin
namespace Go.Proofs.YtjlkgijaceplcabGreatDoor.win
open Go.RowKit
open reads base
set_option linter.unusedVariables false
set_option linter.unusedSimpArgs false

theorem bearingOf_is (d r : Int) (h : Hid (d % 360 = r)) (w : World) (h0 : -1000000 ≤ d) (h1 : d ≤ 1000000) :
    Calls Tryz.prog 182 #[.int .i64 d] w fun e w' => e = .returned (.int .i64 r) ∧ w = w' := by
  have ht0 : -360 < d.tmod 360 := Int.lt_tmod_of_pos d (by decide)
  have ht1 : d.tmod 360 < 360 := Int.tmod_lt_of_pos d (by decide)
  have HD := Lib.hid (show (d.tmod 360 + 360) % 360 = r by have := Int.tmod_def d 360; have := h.out; omega)
  clear h
  go_enter Tryz.func182, Tryz.ntmps182
  go_wp2_with fail
  go_ret
  exact ⟨by rw [← HD.out]; rfl, rfl⟩
end Go.Proofs.YtjlkgijaceplcabGreatDoor.win
