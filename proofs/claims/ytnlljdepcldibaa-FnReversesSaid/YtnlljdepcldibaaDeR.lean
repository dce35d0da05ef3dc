/-
  rEntries at two lists of one content.
  Conditions: none but those that a theorem names.
-/
import Derived.Test.YtnlljdepcldibaaTyEn
import Derived.Test.YtnlljdepcldibaaBase
import Derived.Lib.Hide
import Derived.Deep.QuietTactic
import Derived.BigQuiet
namespace Go.Proofs.Ytnlljdepcldibaa.der
open Go.RowKit
open reads base ty
set_option linter.unusedVariables false
set_option linter.unusedSimpArgs false

set_option maxHeartbeats 4000000 in
set_option maxRecDepth 100000 in
theorem rentries_any (A A' : Option Addr) (n c c' : Nat) (ts : List En) (w : World) (hn : n ≤ 2000000) (h : Hid (EnAt w w.heap.size A n ts)) (h' : Hid (EnAt w w.heap.size A' n ts)) :
    Calls Try.prog 34 #[.slice A n c, .slice A' n c'] w (BPost true w) := by
  go_enter Try.func34, Try.ntmps34
  go_wp2_with fail
  go_loopw [5] (fun i wr => ∃ k m : Nat, k ≤ n ∧ i = .int .i64 k ∧ wr = w.drewN m) (fun i _ => n - (intOf i).toNat)
  case atStart => exact ⟨0, 0, Nat.zero_le _, rfl, rfl⟩
  case round =>
    obtain ⟨k, m, hk, rfl, rfl⟩ := hrel
    by_cases hlt : k < n
    · obtain ⟨x, hx⟩ : ∃ x, ts[k]? = some x := ⟨_, List.getElem?_eq_getElem (by rw [h.out.1]; exact hlt)⟩
      obtain ⟨g, rfl, hg, d0, d1, d2, d3, d4, d5⟩ := h.out.2 k x hx
      obtain ⟨g', rfl, hg', e0, e1, e2, e3, e4, e5⟩ := h'.out.2 k x hx
      clear hx
      have hki : (k : Int) < (n : Int) := by omega
      have hk0 : 0 ≤ (k : Int) := by omega
      have hkd : decide (k < n) = true := by simpa using hlt
      go_wp2_with fail
      go_quiet (fail)
      go_wp2_with fail
      go_roundw
      case rel => exact ⟨k + 1, _, by omega, by go_num, rfl⟩
      case measure => simp [intOf]; omega
    · have hkd : decide (k < n) = false := by simpa using hlt
      go_wp2_with fail
      go_ret
      exact ⟨rfl, drewN_below _ _⟩
end Go.Proofs.Ytnlljdepcldibaa.der
