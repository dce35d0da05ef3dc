/-
  The length of a shift, by the program.
  Conditions: the coordinates lie within 100000.
-/
import Derived.Test.YtkeepfkjhcmhlaaDoorNtZ
import Derived.Test.YtkeepfkjhcmhlaaDoorNqA
import Derived.Test.YtkeepfkjhcmhlaaDoorLenI
namespace Go.Proofs.YtkeepfkjhcmhlaaDoor.nq
open Go.RowKit
open reads base ty lg lgi win hs nt rowi
set_option linter.unusedVariables false
set_option linter.unusedSimpArgs false

theorem len_q (d : Sf) (r : Int) (hd : Hid ((-100000 ≤ d.east ∧ d.east ≤ 100000) ∧ (-100000 ≤ d.north ∧ d.north ≤ 100000) ∧ (-100000 ≤ d.up ∧ d.up ≤ 100000))) (hr : Hid (len.IsRoot (sq3 d) r)) (w : World) : Calls Tryd.prog 110 #[.int .i64 d.east, .int .i64 d.north, .int .i64 d.up] w (APost (.tuple #[.int .i64 r, .bool true]) w) :=
  (leni.lengthOf_impl d.east d.north d.up w).mono fun e w' hh => by
    rcases hh.1 with ⟨-, q, hq, rfl⟩ | ⟨a, -⟩
    · exact ⟨by rw [len.root_uniq hq hr.out], hh.2⟩
    · exact absurd hd.out a
#print axioms len_q
end Go.Proofs.YtkeepfkjhcmhlaaDoor.nq
