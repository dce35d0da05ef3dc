/-
  The program of merged passages: the narrower of two.
  Conditions: the passages lie in one block, at most 2000000 of them.
-/
import Derived.Test.YtnpghhpcloljeaaPwH
import Derived.BigQuiet
import Derived.Deep.QuietTactic
import Derived.Deep.Cut
import Derived.Deep.DeepCutAuto
import Derived.RegionTactic
import Derived.Deep.RegionWith
import Derived.OwnWalk
import Derived.Deep.RegionHeld3
namespace Go.Proofs.Ytnpghhpcloljeaa.pw
open Go.RowKit
open reads base ty rowi win lg lgi
set_option linter.unusedVariables false
set_option linter.unusedSimpArgs false

set_option maxHeartbeats 8000000 in
set_option maxRecDepth 100000 in
theorem narrow_any (x y : Pg) (w : World) : Calls Try.prog 71 #[.agg #[.int .i64 x.st, .int .i64 x.lf, .int .i64 x.rt, .int .i64 x.ab, .int .i64 x.be], .agg #[.int .i64 y.st, .int .i64 y.lf, .int .i64 y.rt, .int .i64 y.ab, .int .i64 y.be]] w (APost (.agg #[.int .i64 (both x y).st, .int .i64 (both x y).lf, .int .i64 (both x y).rt, .int .i64 (both x y).ab, .int .i64 (both x y).be]) w) := by
  go_enter Try.func71, Try.ntmps71
  go_wp2_with fail
  all_goals
    refine bodyPost_ret (v := .agg #[.int .i64 (both x y).st, .int .i64 (both x y).lf, .int .i64 (both x y).rt, .int .i64 (both x y).ab, .int .i64 (both x y).be]) ?_ rfl ⟨rfl, ?_⟩
    · simp only [both]
      have e1 : ∀ a b : Int, b < a → lo2 a b = b := fun a b h => by unfold lo2; rw [if_neg (by omega)]
      have e2 : ∀ a b : Int, ¬ b < a → lo2 a b = a := fun a b h => by unfold lo2; split <;> omega
      first | rw [e1 x.lf y.lf (by omega)] | rw [e2 x.lf y.lf (by omega)]
      first | rw [e1 x.rt y.rt (by omega)] | rw [e2 x.rt y.rt (by omega)]
      first | rw [e1 x.ab y.ab (by omega)] | rw [e2 x.ab y.ab (by omega)]
      first | rw [e1 x.be y.be (by omega)] | rw [e2 x.be y.be (by omega)]
      clear e1 e2
      simp [results, Try.results71, go_sem]
    · exact (((Below.refl _ _).alloc (Nat.le_refl _) _).alloc (by simp) _).alloc (by simp; omega) _
end Go.Proofs.Ytnpghhpcloljeaa.pw
