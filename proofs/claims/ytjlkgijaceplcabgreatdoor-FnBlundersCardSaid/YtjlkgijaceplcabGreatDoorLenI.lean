/-
  The program's length of three parts.
  Conditions: none but those that a theorem names.
-/
import Derived.Test.YtjlkgijaceplcabGreatDoorSinI
import Derived.Test.YtjlkgijaceplcabGreatDoorLenM
import Derived.LoopTactic
namespace Go.Proofs.YtjlkgijaceplcabGreatDoor.leni
open Go.RowKit
open reads base win len
set_option linter.unusedVariables false

theorem all3 {lo hi a b c : Int} {t : Bool} (h : decide ((lo ≤ a ∧ a ≤ hi) ∧ (lo ≤ b ∧ b ≤ hi) ∧ (lo ≤ c ∧ c ≤ hi)) = t) : allIn lo hi [a, b, c] = t := by
  rw [← h]; simp [allIn, btw, Bool.decide_and, Bool.and_assoc]
/-- the whole root -/
def RPost (S : Int) (w : World) (r : Ending) (w' : World) : Prop := ∃ q, IsRoot S q ∧ r = .returned (.int .i64 q) ∧ w = w'
end Go.Proofs.YtjlkgijaceplcabGreatDoor.leni
