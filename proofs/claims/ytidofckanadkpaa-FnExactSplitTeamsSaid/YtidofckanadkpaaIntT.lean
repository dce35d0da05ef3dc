/-
  The exact laws' helpers at lists of lists of ints: what marks there are.
  Conditions: none but those that a theorem names.
-/
import Derived.Test.YtidofckanadkpaaInts
import Derived.Test.YtidofckanadkpaaTab
namespace Go.Proofs.Ytidofckanadkpaa.intt
open Go.RowKit
open reads base tab ints
set_option linter.unusedVariables false

/-- how many ints lists hold together -/
def off : List (List Int) → Nat
  | [] => 0
  | x :: t => x.length + off t
theorem off_app : ∀ (a b : List (List Int)), off (a ++ b) = off a + off b
  | [], b => by simp [off]
  | x :: a, b => by rw [List.cons_append, off, off, off_app a b]; omega
theorem off_le : ∀ {L : List (List Int)} {x : List Int}, x ∈ L → x.length ≤ off L
  | [], x, h => by simp at h
  | y :: t, x, h => by
    rw [off]
    rcases List.mem_cons.1 h with rfl | h
    · omega
    · have := off_le h; omega
theorem off_take (L : List (List Int)) (j : Nat) : off (L.take j) ≤ off L := by
  have h := off_app (L.take j) (L.drop j)
  rw [List.take_append_drop] at h
  omega
theorem off_next {L : List (List Int)} {j : Nat} {x : List Int} (h : L[j]? = some x) : off (L.take (j + 1)) = off (L.take j) + x.length := by
  rw [List.take_add_one, h, off_app]
  simp [off]
/-- marks from k on, list by list -/
def mt (k : Int) : List (List Int) → List (List Int)
  | [] => []
  | x :: t => marks k x.length :: mt (k + (x.length : Int)) t
theorem mt_len : ∀ (k : Int) (L : List (List Int)), (mt k L).length = L.length
  | k, [] => rfl
  | k, x :: t => by rw [mt, List.length_cons, List.length_cons, mt_len]
theorem mt_app : ∀ (k : Int) (a b : List (List Int)), mt k (a ++ b) = mt k a ++ mt (k + (off a : Int)) b
  | k, [], b => by simp [mt, off]
  | k, x :: a, b => by
    rw [List.cons_append, mt, mt, mt_app _ a b, off, List.cons_append]
    congr 3
    push_cast
    omega
theorem mt_at : ∀ {L : List (List Int)} {k : Int} {j : Nat} {x : List Int}, L[j]? = some x → (mt k L)[j]? = some (marks (k + (off (L.take j) : Int)) x.length)
  | [], k, j, x, h => by simp at h
  | y :: t, k, 0, x, h => by
    obtain rfl : y = x := by simpa using h
    simp [mt, off]
  | y :: t, k, j + 1, x, h => by
    have h2 : t[j]? = some x := by simpa using h
    have := mt_at (k := k + (y.length : Int)) h2
    rw [mt, List.getElem?_cons_succ, this, List.take_succ_cons, off]
    congr 2
    push_cast
    omega
theorem mt_lens {L : List (List Int)} {k : Int} {x : List Int} (h : x ∈ mt k L) : x.length ≤ off L := by
  obtain ⟨j, hj⟩ := List.getElem?_of_mem h
  have hl : j < L.length := by rw [← mt_len k L]; exact (List.getElem?_eq_some_iff.1 hj).1
  have h2 := List.getElem?_eq_getElem hl
  rw [mt_at h2] at hj
  obtain rfl := Option.some.inj hj
  rw [marks_len]
  exact off_le (List.mem_of_getElem? h2)
/-- one more list is marked -/
theorem mt_set {L : List (List Int)} {k : Int} {j : Nat} {x : List Int} (h : L[j]? = some x) : (mt k (L.take j) ++ L.drop j).set j (marks (k + (off (L.take j) : Int)) x.length) = mt k (L.take (j + 1)) ++ L.drop (j + 1) := by
  obtain ⟨hl, rfl⟩ := List.getElem?_eq_some_iff.1 h
  have h1 : L.take (j + 1) = L.take j ++ [L[j]] := by rw [List.take_add_one, h]; rfl
  have h2 : L.drop j = L[j] :: L.drop (j + 1) := List.drop_eq_getElem_cons hl
  have h3 : (mt k (L.take j)).length = j := by rw [mt_len, List.length_take]; omega
  have h4 : mt (k + (off (L.take j) : Int)) [L[j]] = [marks (k + (off (L.take j) : Int)) (L[j]).length] := rfl
  rw [h1, mt_app, h4, h2, List.set_append_right _ _ (by omega), h3, Nat.sub_self, List.set_cons_zero, List.append_assoc]
  rfl
section
variable {w w' : World} {base : Nat} {vs : List Value} {L : List (List Int)}
/-- the rows are of the lengths of their lists -/
theorem row_at {E : TypeId} {n : Nat} (h : TabV E 1 intsV w base vs L) {j : Nat} {x : List Int} (hx : L[j]? = some x) : ∃ A c, vs[j]? = some (.slice A x.length c) ∧ w.ownsRow base E 1 (.slice A x.length c) x.length (intsV x) := by
  obtain ⟨v, hv, ho⟩ := h.at_ hx
  obtain ⟨A, c, rfl⟩ := own_slice ho
  exact ⟨A, c, hv, ho⟩
/-- one row is written anew -/
theorem tab_set {E : TypeId} (h : TabV E 1 intsV w base vs L) (hd : Disj vs) {j : Nat} {v : Value} {x : List Int} (hv : vs[j]? = some v) (hg : w.grownBy w' v.ownBlock) (ho : w'.ownsRow base E 1 v x.length (intsV x)) : TabV E 1 intsV w' base vs (L.set j x) := by
  refine ⟨by rw [h.1, List.length_set], fun i u y h1 h2 => ?_⟩
  by_cases hij : j = i
  · subst hij
    obtain rfl : v = u := by rw [hv] at h1; exact Option.some.inj h1
    rw [List.getElem?_set_self (by rw [← h.1]; exact (List.getElem?_eq_some_iff.1 hv).1)] at h2
    obtain rfl := Option.some.inj h2
    exact ho
  · rw [List.getElem?_set_ne hij] at h2
    refine (h.2 i u y h1 h2).kept hg ?_
    obtain ⟨hi1, hi2⟩ := List.getElem?_eq_some_iff.1 h1
    obtain ⟨hj1, hj2⟩ := List.getElem?_eq_some_iff.1 hv
    have hd2 := List.pairwise_iff_getElem.1 hd
    rcases Nat.lt_or_ge i j with q | q
    · have := hd2 i j hi1 hj1 q
      rw [hi2, hj2] at this
      exact this
    · have := hd2 j i hj1 hi1 (by omega)
      rw [hi2, hj2] at this
      cases e : u.ownBlock with
      | none => exact .inl rfl
      | some g =>
        refine .inr fun e2 => ?_
        rcases this with t | t
        · rw [t] at e2; cases e2
        · exact t (by rw [e, ← e2])
end
end Go.Proofs.Ytidofckanadkpaa.intt
