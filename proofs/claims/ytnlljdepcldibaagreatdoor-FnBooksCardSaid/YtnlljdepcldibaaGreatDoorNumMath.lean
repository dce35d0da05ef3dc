/-
  Decimal numerals as plain functions on lists of bytes: reading what was written.
  Conditions: none.
-/
import Derived.Lib.ItoaNum
import Derived.Lib.ItoaMem
import Derived.Lib.Atoi
import Derived.Lib.AtoiTie
namespace Go.Proofs.YtnlljdepcldibaaGreatDoor.nummath

theorem digit_val (d : Nat) (h : d < 10) : Lib.digitVal (UInt8.ofNat (48 + d)) = some d := by
  have key : ∀ m : Fin 10, Lib.digitVal (UInt8.ofNat (48 + m.val)) = some m.val := by decide
  exact key ⟨d, h⟩
theorem from_snoc (l : List UInt8) (b : UInt8) (acc n d : Nat) (h : Lib.decFrom acc l = some n) (hb : Lib.digitVal b = some d) : Lib.decFrom acc (l ++ [b]) = some (n * 10 + d) := by
  have := Lib.decFrom_take (l ++ [b]) l.length acc n b d (by simpa using h) (by simp) hb
  rwa [List.take_of_length_le (by simp)] at this
theorem dec_ne (u : Nat) : Lib.decDigits u ≠ [] := by
  rw [Lib.decDigits]; split <;> simp
theorem from_dec (u : Nat) : Lib.decFrom 0 (Lib.decDigits u) = some u := by
  induction u using Nat.strongRecOn with
  | ind u ih =>
    by_cases h : u < 10
    · rw [Lib.decDigits, dif_pos h]
      have hd := digit_val u h
      simp only [Lib.decFrom, hd, Nat.zero_mul, Nat.zero_add]
    · rw [Lib.decDigits, dif_neg h, from_snoc _ _ 0 (u / 10) (u % 10) (ih (u / 10) (by omega)) (digit_val _ (by omega))]
      congr 1; omega
theorem dec_len (k : Nat) : ∀ u, u < 10 ^ (k + 1) → (Lib.decDigits u).length ≤ k + 1 := by
  induction k with
  | zero => intro u h; rw [Lib.decDigits, dif_pos (by simpa using h)]; simp
  | succ k ih =>
    intro u h
    rw [Lib.decDigits]
    split
    · simp
    · have := ih (u / 10) (by rw [Nat.pow_succ] at h; omega)
      simp; omega
theorem dec_head (u : Nat) : ∃ b r, Lib.decDigits u = b :: r ∧ 48 ≤ b.toNat ∧ b.toNat ≤ 57 := by
  cases h : Lib.decDigits u with
  | nil => exact absurd h (dec_ne u)
  | cons b r =>
    obtain ⟨d, hd⟩ := Lib.digit_of_decFrom _ 0 u (from_dec u) 0 b (by rw [h]; rfl)
    unfold Lib.digitVal at hd
    split at hd
    · rename_i hb; exact ⟨b, r, rfl, hb.1, hb.2⟩
    · cases hd

/-- the sign of a text -/
def neg (l : List UInt8) : Bool := decide (1 < l.length) && l.head? == some 45
/-- a text behind its sign -/
def body (l : List UInt8) : List UInt8 := if neg l = true then l.drop 1 else l
theorem num_neg (n : Int) : neg (Lib.itoa n) = decide (n < 0) := by
  unfold Lib.itoa
  by_cases h : n < 0
  · rw [if_pos h]
    have := List.length_pos_iff.2 (dec_ne n.natAbs)
    simp [neg, h]
    exact this
  · rw [if_neg h]
    obtain ⟨b, r, e, h1, h2⟩ := dec_head n.toNat
    rw [e]
    have hb : b ≠ 45 := by intro e; rw [e] at h1; simp at h1
    simp [neg, h, hb]
theorem num_body (n : Int) : body (Lib.itoa n) = Lib.decDigits n.natAbs := by
  unfold body
  rw [num_neg]
  unfold Lib.itoa
  by_cases h : n < 0
  · simp [h]
  · simp only [h, decide_false, if_false, Bool.false_eq_true]
    congr 1; omega
theorem num_value {l : List UInt8} {n : Int} (h : l = Lib.itoa n) : Lib.decFrom 0 (body l) = some n.natAbs ∧ neg l = decide (n < 0) := by
  subst h
  exact ⟨by rw [num_body, from_dec], num_neg n⟩
theorem num_len {l : List UInt8} {n : Int} (h : l = Lib.itoa n) (h0 : -999999 ≤ n) (h1 : n ≤ 999999) : 1 ≤ (body l).length ∧ (body l).length ≤ 6 := by
  subst h
  rw [num_body]
  exact ⟨List.length_pos_iff.2 (dec_ne _), dec_len 5 _ (by omega)⟩
theorem num_digit {l : List UInt8} {n : Int} (h : l = Lib.itoa n) (k : Nat) (b : UInt8) (hb : (body l)[k]? = some b) : 48 ≤ b.toNat ∧ b.toNat ≤ 57 := by
  obtain ⟨d, hd⟩ := Lib.digit_of_decFrom _ 0 _ (num_value h).1 k b hb
  unfold Lib.digitVal at hd
  split at hd
  · assumption
  · cases hd
theorem num_atoi {l : List UInt8} {n : Int} (h : l = Lib.itoa n) (h0 : -999999 ≤ n) (h1 : n ≤ 999999) : Lib.atoiAll l = .ok n := by
  have hl : l.length ≤ 18 := by
    have hb := num_len h h0 h1
    unfold body at hb
    split at hb
    · simp at hb; omega
    · omega
  rw [Lib.atoiAll_short l hl]
  subst h
  unfold Lib.itoa
  have hd : ∀ u, Lib.decNat (Lib.decDigits u) = some u := fun u => by
    unfold Lib.decNat
    rw [if_neg (by simpa using dec_ne u), from_dec]
  by_cases hn : n < 0
  · rw [if_pos hn]
    simp only [Lib.atoi, hd, beq_self_eq_true, if_true, Option.map_some]
    show Lib.NumEnd.ok _ = _
    congr 1; omega
  · rw [if_neg hn]
    obtain ⟨b, r, e, hb1, hb2⟩ := dec_head n.toNat
    have hd' := hd n.toNat
    rw [e] at hd' ⊢
    have n1 : ¬ b = 45 := by intro e; rw [e] at hb1; simp at hb1
    have n2 : ¬ b = 43 := by intro e; rw [e] at hb1; simp at hb1
    simp only [Lib.atoi, beq_iff_eq, n1, n2, if_false, hd', Option.map_some]
    show Lib.NumEnd.ok _ = _
    congr 1; omega
theorem from_take (l : List UInt8) (k n : Nat) (b : UInt8) (h : Lib.decFrom 0 (l.take k) = some n) (hb : l[k]? = some b) (h1 : 48 ≤ b.toNat) (h2 : b.toNat ≤ 57) : Lib.decFrom 0 (l.take (k + 1)) = some (n * 10 + (b.toNat - 48)) :=
  Lib.decFrom_take l k 0 n b _ h hb (by unfold Lib.digitVal; rw [if_pos ⟨h1, h2⟩])
end Go.Proofs.YtnlljdepcldibaaGreatDoor.nummath
