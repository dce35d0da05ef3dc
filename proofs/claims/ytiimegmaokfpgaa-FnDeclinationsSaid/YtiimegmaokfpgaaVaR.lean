/-
  The remainder by which fine bearings are turned.
  Conditions: none but those that a theorem names.
-/
import Derived.Test.YtiimegmaokfpgaaBase
namespace Go.Proofs.Ytiimegmaokfpgaa.va
open Go.RowKit
open reads base
set_option linter.unusedVariables false
set_option linter.unusedSimpArgs false

theorem rem3600_is (d r : Int) (h : Hid (d % 3600 = r)) (w : World) (h0 : -1000000 ≤ d) (h1 : d ≤ 1000000) :
    Calls Try.prog 56 #[.int .i64 d, .int .i64 3600] w fun e w' => e = .returned (.int .i64 r) ∧ w = w' := by
  have ht0 : -3600 < d.tmod 3600 := Int.lt_tmod_of_pos d (by decide)
  have ht1 : d.tmod 3600 < 3600 := Int.tmod_lt_of_pos d (by decide)
  have HD := Lib.hid (show (d.tmod 3600 + 3600) % 3600 = r by have := Int.tmod_def d 3600; have := h.out; omega)
  clear h
  go_enter Try.func56, Try.ntmps56
  go_wp2_with fail
  go_ret
  exact ⟨by rw [← HD.out]; rfl, rfl⟩
end Go.Proofs.Ytiimegmaokfpgaa.va
