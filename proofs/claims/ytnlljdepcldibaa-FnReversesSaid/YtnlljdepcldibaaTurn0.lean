/-
  The turn between two bearings, of the model.
  Conditions: the numbers keep within the limits that each theorem names.
-/
import Derived.Test.YtnlljdepcldibaaBase
namespace Go.Proofs.Ytnlljdepcldibaa.tn
open Go.RowKit
open reads base
set_option linter.unusedVariables false

def turn (a b : Int) : Int := if (a - b) % 360 ≤ 360 - (a - b) % 360 then (a - b) % 360 else 360 - (a - b) % 360
def ansTurn (a b : Int) : Value := if (0 ≤ a ∧ a ≤ 359) ∧ (0 ≤ b ∧ b ≤ 359) then .tuple #[.int .i64 (turn a b), .bool true] else .tuple #[.int .i64 0, .bool false]
end Go.Proofs.Ytnlljdepcldibaa.tn
