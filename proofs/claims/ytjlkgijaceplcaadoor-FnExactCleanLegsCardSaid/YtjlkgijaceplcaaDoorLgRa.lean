/-
  The model of the legs: the reverse.
  Conditions: none but those that a theorem names.
-/
import Derived.Test.YtjlkgijaceplcaaDoorLgA
namespace Go.Proofs.YtjlkgijaceplcaaDoor.lg
open Go.RowKit
open reads base ty inn
set_option linter.unusedVariables false
set_option linter.unusedSimpArgs false

/-- the reverse -/
def revLg (x : Lg) : Lg := ⟨x.to_, x.frm, x.tape, (x.comp + 180) % 360, -x.slope⟩
theorem revLg_ok {x : Lg} (h : okLg x = true) : okLg (revLg x) = true := by
  obtain ⟨a, b, c, d, e, f⟩ := okLg_lim h
  exact okLg_mk ⟨b, a, fun q => c q.symm, d, by simp only [revLg]; omega, by simp only [revLg]; omega⟩
end Go.Proofs.YtjlkgijaceplcaaDoor.lg
