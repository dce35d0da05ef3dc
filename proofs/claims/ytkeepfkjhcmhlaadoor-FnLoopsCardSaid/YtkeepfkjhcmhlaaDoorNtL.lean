/-
  The length of a shift, by the model.
  Conditions: the coordinates lie within 100000.
-/
import Derived.Test.YtkeepfkjhcmhlaaDoorNtZ
import Derived.Test.YtkeepfkjhcmhlaaDoorLen
namespace Go.Proofs.YtkeepfkjhcmhlaaDoor.nt
open Go.RowKit
open reads base ty lg rowi hs
set_option linter.unusedVariables false
set_option linter.unusedSimpArgs false

theorem len_is (d : Sf) (r : Int) (hd : Hid ((-100000 ≤ d.east ∧ d.east ≤ 100000) ∧ (-100000 ≤ d.north ∧ d.north ≤ 100000) ∧ (-100000 ≤ d.up ∧ d.up ≤ 100000))) (hr : Hid (len.IsRoot (sq3 d) r)) (w : World) : Calls Tryd.prog 89 #[.int .i64 d.east, .int .i64 d.north, .int .i64 d.up] w (APost (.tuple #[.int .i64 r, .bool true]) w) :=
  (len.lengthOf_model d.east d.north d.up w).mono fun e w' hh => by
    rcases hh.1 with ⟨-, q, hq, rfl⟩ | ⟨a, -⟩
    · exact ⟨by rw [len.root_uniq hq hr.out], hh.2⟩
    · exact absurd hd.out a
#print axioms len_is
end Go.Proofs.YtkeepfkjhcmhlaaDoor.nt
