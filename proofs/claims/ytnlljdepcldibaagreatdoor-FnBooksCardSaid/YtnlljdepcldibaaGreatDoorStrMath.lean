/-
  Splitting and joining as plain functions on lists of bytes.
  Conditions: none.
-/
import Derived.Lib.Bytealg
import Derived.Laws.Concat
namespace Go.Proofs.YtnlljdepcldibaaGreatDoor.strmath

theorem len_size (p : ByteArray) : p.data.toList.length = p.size := rfl
/-- a byte stands in a text -/
def has (l : List UInt8) (c : UInt8) : Bool := l.contains c
theorem has_iff (l : List UInt8) (c : UInt8) : has l c = true ↔ c ∈ l := by simp [has]
theorem has_no (l : List UInt8) (c : UInt8) : has l c = false ↔ c ∉ l := by rw [← Bool.not_eq_true, has_iff]
theorem idx_has (l : List UInt8) (c : UInt8) : decide (0 ≤ Lib.indexByte l c) = has l c := by
  induction l with
  | nil => simp [Lib.indexByte, has]
  | cons x l ih =>
    have hg := Lib.indexByte_ge l c
    by_cases hx : x = c
    · subst hx; simp [Lib.indexByte, has]
    · have hx' : (x == c) = false := by simpa using hx
      unfold Lib.indexByte
      rw [if_neg (by simp [hx'])]
      have e : has (x :: l) c = has l c := by simp [has]; intro e; exact absurd e.symm hx
      rw [e, ← ih]
      by_cases hz : Lib.indexByte l c = -1
      · simp [hz]
      · rw [if_neg (by simpa using hz)]
        have : 0 ≤ Lib.indexByte l c := by omega
        simp [this]; omega

/-- the join of texts with a byte between them -/
def joinL (c : UInt8) : List ByteArray → List UInt8
  | [] => []
  | [p] => p.data.toList
  | p :: q :: r => p.data.toList ++ c :: joinL c (q :: r)

theorem joinL_snoc (c : UInt8) (ps : List ByteArray) (p : ByteArray) (h : ps ≠ []) : joinL c (ps ++ [p]) = joinL c ps ++ (c :: p.data.toList) := by
  induction ps with
  | nil => exact absurd rfl h
  | cons x r ih =>
    cases r with
    | nil => simp [joinL]
    | cons y r => 
      have := ih (by simp)
      simp only [List.cons_append] at this ⊢
      simp [joinL, this]

theorem joinL_le (c : UInt8) (ps qs : List ByteArray) : (joinL c ps).length ≤ (joinL c (ps ++ qs)).length := by
  induction ps with
  | nil => simp [joinL]
  | cons x r ih =>
    cases r with
    | nil =>
      cases qs with
      | nil => simp
      | cons q qs => simp [joinL]
    | cons y r => simpa [joinL] using ih

/-- no text holds the byte -/
def clean (c : UInt8) (ps : List ByteArray) : Bool := ps.all fun p => !has p.data.toList c
theorem clean_snoc (c : UInt8) (ps : List ByteArray) (p : ByteArray) : clean c (ps ++ [p]) = (clean c ps && !has p.data.toList c) := by simp [clean]
theorem clean_of_has (c : UInt8) (ps : List ByteArray) (k : Nat) (p : ByteArray) (h : ps[k]? = some p) (hp : has p.data.toList c = true) : clean c ps = false := by
  rw [Bool.eq_false_iff]
  intro hc
  have := List.all_eq_true.1 hc p (List.mem_of_getElem? h)
  rw [hp] at this
  cases this
theorem take_snoc {α : Type} (ps : List α) (k : Nat) (p : α) (h : ps[k]? = some p) : ps.take (k + 1) = ps.take k ++ [p] := by
  rw [List.take_add_one, h]; rfl
theorem joinL_take (c : UInt8) (ps : List ByteArray) (k : Nat) (p : ByteArray) (h : ps[k]? = some p) (h0 : 0 < k) : joinL c (ps.take (k + 1)) = joinL c (ps.take k) ++ (c :: p.data.toList) := by
  rw [take_snoc ps k p h, joinL_snoc]
  intro e
  have hl := congrArg List.length e
  have hk : k < ps.length := (List.getElem?_eq_some_iff.1 h).1
  simp at hl
  rcases hl with hl | hl
  · omega
  · rw [hl] at hk; simp at hk
theorem joinL_first (c : UInt8) (ps : List ByteArray) (p : ByteArray) (h : ps[0]? = some p) : joinL c (ps.take 1) = p.data.toList := by
  rw [take_snoc ps 0 p h]; simp [joinL]
theorem joinL_take_le (c : UInt8) (ps : List ByteArray) (k : Nat) : (joinL c (ps.take k)).length ≤ (joinL c ps).length := by
  have := joinL_le c (ps.take k) (ps.drop k)
  rwa [List.take_append_drop] at this

/-- the pieces of a text between the bytes -/
def pieces (c : UInt8) : List UInt8 → List (List UInt8)
  | [] => [[]]
  | x :: l => if x = c then [] :: pieces c l else match pieces c l with
    | [] => [[x]]
    | p :: r => (x :: p) :: r
theorem pieces_end (c : UInt8) (p : List UInt8) (h : c ∉ p) : pieces c p = [p] := by
  induction p with
  | nil => rfl
  | cons x p ih =>
    have hx : x ≠ c := fun e => h (by simp [e])
    have hp : c ∉ p := fun e => h (by simp [e])
    rw [pieces, if_neg hx, ih hp]
theorem pieces_hit (c : UInt8) (p r : List UInt8) (h : c ∉ p) : pieces c (p ++ c :: r) = p :: pieces c r := by
  induction p with
  | nil => simp [pieces]
  | cons x p ih =>
    have hx : x ≠ c := fun e => h (by simp [e])
    have hp : c ∉ p := fun e => h (by simp [e])
    rw [List.cons_append, pieces, if_neg hx, ih hp]
theorem pieces_ne (c : UInt8) (l : List UInt8) : pieces c l ≠ [] := by
  induction l with
  | nil => simp [pieces]
  | cons x l ih =>
    rw [pieces]
    split
    · simp
    · split <;> simp
theorem pieces_len (c : UInt8) (l : List UInt8) : (pieces c l).length ≤ l.length + 1 := by
  induction l with
  | nil => simp [pieces]
  | cons x l ih =>
    rw [pieces]
    split
    · simpa using ih
    · split
      · simp
      · rename_i e; rw [e] at ih; simp at ih ⊢; omega
end Go.Proofs.YtnlljdepcldibaaGreatDoor.strmath
