/-
  The program's reverse of a leg, and its ends.
  Conditions: none but those that a theorem names.
-/
import Derived.Test.YtnlljdepcldibaaLgR0
import Derived.Test.YtnlljdepcldibaaLgI0
import Derived.Test.YtnlljdepcldibaaBear
import Derived.Deep.DeepCutAuto
import Derived.Deep.RegionWith
import Derived.Deep.QuietTactic
import Derived.BigQuiet
namespace Go.Proofs.Ytnlljdepcldibaa.lgi
open Go.RowKit
open reads base ty win lg
set_option linter.unusedVariables false
set_option linter.unusedSimpArgs false

set_option maxHeartbeats 4000000 in
set_option maxRecDepth 100000 in
theorem rev_any (x : Lg) (w : World) (c0 : 0 ≤ x.comp) (c1 : x.comp ≤ 100000) (s0 : -1000 ≤ x.slope) (s1 : x.slope ≤ 1000) : Calls Try.prog 59 #[.agg #[.int .i64 x.frm, .int .i64 x.to_, .int .i64 x.tape, .int .i64 x.comp, .int .i64 x.slope]] w (APost (.agg #[.int .i64 (revLg x).frm, .int .i64 (revLg x).to_, .int .i64 (revLg x).tape, .int .i64 (revLg x).comp, .int .i64 (revLg x).slope]) w) := by
  have HR := Lib.hid (show revLg x = ⟨x.to_, x.frm, x.tape, (x.comp + 180) % 360, -x.slope⟩ from rfl)
  obtain ⟨r, HC⟩ : ∃ r, Hid ((x.comp + 180) % 360 = r) := ⟨_, Lib.hid rfl⟩
  rw [HC.out] at HR
  rw [HR.out]
  go_enter Try.func59, Try.ntmps59
  go_wp2_with fail
  go_region
  go_wp2_with fail
  refine (bearingOf_is (x.comp + 180) r HC _ (by omega) (by omega)).mono ?_
  rintro e w' ⟨rfl, rfl⟩
  go_wp2_with fail
  refine bodyPost_ret (v := .agg #[.int .i64 x.to_, .int .i64 x.frm, .int .i64 x.tape, .int .i64 r, .int .i64 (-x.slope)]) (by simp [results, Try.results59, go_sem]) rfl ⟨rfl, ?_⟩
  have h := (((Below.refl w.heap.size w).alloc (Nat.le_refl _) (.cells #[.int .i64 x.frm, .int .i64 x.to_, .int .i64 x.tape, .int .i64 x.comp, .int .i64 x.slope] 29)).alloc (by simp) (.cells #[.int .i64 x.to_, .int .i64 x.frm, .int .i64 x.tape, .int .i64 r, .int .i64 (-x.slope)] 29)).alloc (by simp; omega) (.cells #[.int .i64 x.to_, .int .i64 x.frm, .int .i64 x.tape, .int .i64 r, .int .i64 (-x.slope)] 29)
  exact h.trans ((drewN_below _ 1).mono h.size)
theorem rev_is (x y : Lg) (h : Hid (revLg x = y)) (w : World) (c0 : 0 ≤ x.comp) (c1 : x.comp ≤ 100000) (s0 : -1000 ≤ x.slope) (s1 : x.slope ≤ 1000) : Calls Try.prog 59 #[.agg #[.int .i64 x.frm, .int .i64 x.to_, .int .i64 x.tape, .int .i64 x.comp, .int .i64 x.slope]] w (APost (.agg #[.int .i64 y.frm, .int .i64 y.to_, .int .i64 y.tape, .int .i64 y.comp, .int .i64 y.slope]) w) := by rw [← h.out]; exact rev_any x w c0 c1 s0 s1
set_option maxHeartbeats 4000000 in
set_option maxRecDepth 100000 in
theorem ends_is (x : Lg) (w : World) : Calls Try.prog 71 #[.agg #[.int .i64 x.frm, .int .i64 x.to_, .int .i64 x.tape, .int .i64 x.comp, .int .i64 x.slope]] w (APost (.agg #[.int .i64 x.frm, .int .i64 x.to_]) w) := by
  go_enter Try.func71, Try.ntmps71
  go_wp2_with fail
  refine bodyPost_ret (v := .agg #[.int .i64 x.frm, .int .i64 x.to_]) (by simp [results, Try.results71, go_sem]) rfl ⟨rfl, ?_⟩
  exact ((Below.refl _ _).alloc (Nat.le_refl _) _).alloc (by simp) _
end Go.Proofs.Ytnlljdepcldibaa.lgi
