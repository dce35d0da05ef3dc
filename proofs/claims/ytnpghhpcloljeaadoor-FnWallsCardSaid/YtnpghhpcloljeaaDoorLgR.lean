/-
  The model of the legs: the reverse.
  Conditions: none but those that a theorem names.
-/
import Derived.Test.YtnpghhpcloljeaaDoorLgA
namespace Go.Proofs.YtnpghhpcloljeaaDoor.lg
open Go.RowKit
open reads base ty inn
set_option linter.unusedVariables false
set_option linter.unusedSimpArgs false

/-- the reverse -/
def revLg (x : Lg) : Lg := ⟨x.to_, x.frm, x.tape, (x.comp + 180) % 360, -x.slope⟩
theorem revLg_ok {x : Lg} (h : okLg x = true) : okLg (revLg x) = true := by
  obtain ⟨a, b, c, d, e, f⟩ := okLg_lim h
  exact okLg_mk ⟨b, a, fun q => c q.symm, d, by simp only [revLg]; omega, by simp only [revLg]; omega⟩
def ansRev (x : Lg) : Value := if okLg x = true then .tuple #[.agg #[.int .i64 (revLg x).frm, .int .i64 (revLg x).to_, .int .i64 (revLg x).tape, .int .i64 (revLg x).comp, .int .i64 (revLg x).slope], .bool true] else .tuple #[.agg #[.int .i64 0, .int .i64 0, .int .i64 0, .int .i64 0, .int .i64 0], .bool false]
end Go.Proofs.YtnpghhpcloljeaaDoor.lg
