/-
  Fractions in lowest terms, of the model and of the program.
  Conditions: numbers within 2 to the power of 62.
-/
import Derived.Test.YtnpghhpcloljeaaDoorBase
import Derived.Test.YtnpghhpcloljeaaDoorMost
import Derived.StillTailTactics
import Derived.Deep.DeepCutAuto
import Derived.Deep.RegionHeld3
import Derived.BigRegion
import Derived.RegionTactic
namespace Go.Proofs.YtnpghhpcloljeaaDoor.pw
open Go.RowKit
open reads base
set_option linter.unusedVariables false
set_option linter.unusedSimpArgs false

/-! fractions -/
/-- what the greatest common divisor's loop keeps: a and b have the divisors that u and v have -/
def Gc (u v : Nat) (a b : Nat) : Prop := Nat.gcd a b = Nat.gcd u v
theorem gc_start (u v : Nat) : Gc u v u v := rfl
theorem gc_step {u v a b : Nat} (h : Gc u v a b) : Gc u v b (a % b) := by
  unfold Gc at h ⊢
  rw [← h, Nat.gcd_comm b (a % b), ← Nat.gcd_rec, Nat.gcd_comm]
/-- a fraction in lowest terms -/
def redN (num den : Int) : Int := num.tdiv (Nat.gcd num.natAbs den.natAbs)
def redD (num den : Int) : Int := den.tdiv (Nat.gcd num.natAbs den.natAbs)
def lim62 (x : Int) : Prop := -4611686018427387904 ≤ x ∧ x ≤ 4611686018427387904
theorem tdiv_lim {x : Int} (y : Int) (h : lim62 x) : lim62 (x.tdiv y) := by
  have h2 : (x.tdiv y).natAbs ≤ x.natAbs := by rw [Int.natAbs_tdiv]; exact Nat.div_le_self _ _
  unfold lim62 at h ⊢; omega
end Go.Proofs.YtnpghhpcloljeaaDoor.pw
