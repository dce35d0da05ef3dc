/-
  Answers that are lists of ints of one's own.
  Conditions: none.
-/
import Derived.Test.YtnpghhpcloljeaaDoorBase
import Derived.Test.YtnpghhpcloljeaaDoorIntV
import Derived.Laws.OwnMore
import Derived.Laws.Rows
import Derived.OwnWalk
import Derived.Deep.AppendLies
namespace Go.Proofs.YtnpghhpcloljeaaDoor.rowi
open Go.RowKit
open reads base
set_option linter.unusedVariables false
theorem infoI : (Tryd.prog.info? 3).map (fun i => (i.zero, i.size, i.bytes)) = some (some (.int .i64 0), 1, 8) := by kernel_rfl
/-- numbers that the call has made, and a word -/
def LPost (xs : List Int) (t : Bool) (w : World) (e : Ending) (w' : World) : Prop :=
  ∃ v, e = .returned (.tuple #[v, .bool t]) ∧ w'.ownsRow w.heap.size 3 1 v xs.length (ints.intsV xs) ∧ Below w.heap.size w w'
theorem intsV_app (xs : List Int) (x : Int) : ints.intsV (xs ++ [x]) = ints.intsV xs ++ [.int .i64 x] := by simp [ints.intsV]
/-- the indices below k at which a test holds -/
def idxs {α : Type} (p : α → Bool) (ts : List α) : Nat → List Int
  | 0 => []
  | k + 1 => match ts[k]? with
    | some t => if p t = true then idxs p ts k ++ [(k : Int)] else idxs p ts k
    | none => idxs p ts k
theorem idxs_yes {α : Type} {p : α → Bool} {ts : List α} {k : Nat} {t : α} (h : ts[k]? = some t) (hp : p t = true) : idxs p ts (k + 1) = idxs p ts k ++ [(k : Int)] := by
  show (match ts[k]? with | some t => _ | none => _) = _
  rw [h]; exact if_pos hp
theorem idxs_no {α : Type} {p : α → Bool} {ts : List α} {k : Nat} {t : α} (h : ts[k]? = some t) (hp : p t = false) : idxs p ts (k + 1) = idxs p ts k := by
  show (match ts[k]? with | some t => _ | none => _) = _
  rw [h]; exact if_neg (by rw [hp]; simp)
theorem idxs_len {α : Type} (p : α → Bool) (ts : List α) : ∀ k, (idxs p ts k).length ≤ k
  | 0 => by simp [idxs]
  | k + 1 => by
    have := idxs_len p ts k
    unfold idxs
    split
    · split
      · rw [List.length_append]; simp; omega
      · omega
    · omega
end Go.Proofs.YtnpghhpcloljeaaDoor.rowi
