/-
  The error of a leg, by the program: all ways.
  Conditions: the legs lie in one block, at most 2000000 of them; the variable holds the table of the sines.
-/
import Derived.Test.YtnoieboiklmkaaaDoorNqIa
import Derived.Test.YtnoieboiklmkaaaDoorNqIb
import Derived.Deep.RegionHeld3
namespace Go.Proofs.YtnoieboiklmkaaaDoor.nq
open Go.RowKit
open reads base ty lg lgi win hs nt rowi sn
set_option linter.unusedVariables false
set_option linter.unusedSimpArgs false

theorem errorOf_impl (A : Option Addr) (n cap : Nat) (ts : List Lg) (z : Int) (w : World) (hn : n ≤ 2000000) (hts : Hid (LgAt w w.heap.size A n ts)) (hT : Hid (Tab w)) :
    Calls Tryd.prog 31 #[.slice A n cap, .int .i64 z] w (APost (ansEr ts z) w) := by
  have hL := hts.out.1
  cases hg : goodLg ts
  · have e : ansEr ts z = .tuple #[.agg #[.int .i64 0, .int .i64 0, .int .i64 0], .bool false] := by unfold ansEr erOk; rw [hg]; rfl
    rw [e]
    exact err_bad A n cap ts z _ w hn (Lib.hid rfl) hts hT (Lib.hid hg)
  · cases hb : btw 0 z ((n : Int) - 1)
    · have e : ansEr ts z = .tuple #[.agg #[.int .i64 0, .int .i64 0, .int .i64 0], .bool false] := by unfold ansEr erOk; rw [hg, hL, hb]; rfl
      rw [e]
      exact err_out A n cap ts z _ w hn (Lib.hid rfl) hts hT (Lib.hid hg) (Lib.hid hb)
    · obtain ⟨z0, z1⟩ := btw_yes hb
      obtain ⟨k, rfl⟩ := Int.eq_ofNat_of_zero_le z0
      obtain ⟨x, hx⟩ := at_lt hL (show k < n by omega)
      have e : ansEr ts (k : Int) = if mem (net ts).ps x.frm then .tuple #[.agg #[.int .i64 (errV ts x).east, .int .i64 (errV ts x).north, .int .i64 (errV ts x).up], .bool true] else .tuple #[.agg #[.int .i64 0, .int .i64 0, .int .i64 0], .bool false] := by
        unfold ansEr erOk erAt erV
        rw [hg, hL, hb, Int.toNat_natCast, hx]
        simp only [Bool.true_and]
      rw [e]
      exact err_in A n cap k x _ ts _ w hn (Lib.hid rfl) hts hT (Lib.hid hg) (Lib.hid hx) (Lib.hid rfl) _ (Lib.hid rfl)
#print axioms errorOf_impl
end Go.Proofs.YtnoieboiklmkaaaDoor.nq
