/-
  The program's tests whether numbers are bearings.
  Conditions: none but those that a theorem names.
-/
import Derived.Test.YtnpghhpcloljeaaDoorWithin
namespace Go.Proofs.YtnpghhpcloljeaaDoor.win
open Go.RowKit
open reads base
set_option linter.unusedVariables false
set_option linter.unusedSimpArgs false

set_option maxHeartbeats 1000000 in
theorem bearings_any (g n c : Nat) (xs : List Int) (b : Bool) (w : World) (hn : Hid (xs.length = n)) (hn8 : n ≤ 8) (hc : Hid (IntsAt w g xs)) (hb : Hid (allIn 0 359 xs = b)) :
    Calls Tryd.prog 62 #[.slice (some ⟨g, 0, none⟩) n c] w fun e w' => e = .returned (.bool b) ∧ w = w' := by
  go_enter Tryd.func62, Tryd.ntmps62
  go_wp2_with fail
  refine (within_any _ _ g n c xs w hn hn8 hc).mono ?_
  rintro e w' ⟨rfl, rfl⟩
  rw [hb.out]
  go_wp2_with fail
  go_ret
  exact ⟨rfl, rfl⟩
theorem bearings_new (c : Nat) (xs : List Int) (n : Nat) (t : TypeId) (cs : Array Value) (b : Bool) (w : World) (g : Nat) (hg : w.heap.size = g) (hn : xs.length = n) (hn8 : n ≤ 8) (hcs : cs = (xs.map (Value.int .i64)).toArray) (hb : allIn 0 359 xs = b) :
    Calls Tryd.prog 62 #[.slice (some ⟨g, 0, none⟩) n c] (w.alloc (.cells cs t)) fun e w' => e = .returned (.bool b) ∧ w.alloc (.cells cs t) = w' := by
  subst hcs hg
  exact bearings_any w.heap.size n c xs b _ (Lib.hid hn) hn8 (Lib.hid (ints_new w t xs)) (Lib.hid hb)
end Go.Proofs.YtnpghhpcloljeaaDoor.win
