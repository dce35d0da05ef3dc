/-
  The model's reading of a number: what it answers, at every text.
  Conditions: texts of at most 1048576 bytes.
-/
import Derived.Test.YtnlljdepcldibaaGreatDoorNumMath
import Derived.Test.YtnlljdepcldibaaGreatDoorFmtB
import Derived.Lib.Strings
namespace Go.Proofs.YtnlljdepcldibaaGreatDoor.readc
open Go.RowKit
open nummath fmtb
set_option linter.unusedVariables false

/-- a text is the numeral of a number within the limits -/
def IsNum (s : ByteArray) (n : Int) : Prop := -999999 ≤ n ∧ n ≤ 999999 ∧ s.data.toList = Lib.itoa n

/-- what the reading answers -/
def RPost (s : ByteArray) (w : World) (e : Ending) (w' : World) : Prop :=
  ((∃ n, IsNum s n ∧ e = .returned (.tuple #[.int .i64 n, .bool true])) ∨ ((∀ n, ¬ IsNum s n) ∧ e = .returned (.tuple #[.int .i64 0, .bool false]))) ∧ ∃ m, w' = w.drewN m

/-- a text behind its sign, as the walk has it -/
def IsBody (s t : ByteArray) (sg : Bool) : Prop := neg s.data.toList = sg ∧ body s.data.toList = t.data.toList

theorem no_len {s t : ByteArray} {sg : Bool} (hb : IsBody s t sg) (h : t.size < 1 ∨ 6 < t.size) : ∀ n, ¬ IsNum s n := by
  rintro n ⟨h0, h1, e⟩
  have := num_len e h0 h1
  rw [hb.2] at this
  have hl : t.data.toList.length = t.size := rfl
  omega
theorem no_digit {s t : ByteArray} {sg : Bool} (hb : IsBody s t sg) (k : Nat) (hk : k < t.size) (h : t[k].toNat < 48 ∨ 57 < t[k].toNat) : ∀ n, ¬ IsNum s n := by
  rintro n ⟨h0, h1, e⟩
  have := num_digit e k t[k] (by rw [hb.2]; exact List.getElem?_eq_getElem hk)
  omega
theorem no_text {s t : ByteArray} {sg : Bool} (hb : IsBody s t sg) (v : Nat) (hv : Lib.decFrom 0 t.data.toList = some v) (x : Int) (hx : x = if sg = true then -(v : Int) else v) (h : s.data.toList ≠ Lib.itoa x) : ∀ n, ¬ IsNum s n := by
  rintro n ⟨h0, h1, e⟩
  obtain ⟨e1, e2⟩ := num_value e
  rw [hb.2, hv] at e1
  rw [hb.1] at e2
  have e3 : v = n.natAbs := Option.some.inj e1
  apply h
  rw [e]
  congr 1
  rw [hx]
  by_cases hn : n < 0
  · simp [e2, hn]; omega
  · simp [e2, hn]; omega
theorem pow_le {v k : Nat} (h : v < 10 ^ k) (hk : k < 6) : v < 100000 :=
  Nat.lt_of_lt_of_le h (Nat.pow_le_pow_right (by decide) (by omega : k ≤ 5))
theorem pow_six {v k : Nat} (h : v < 10 ^ k) (hk : k ≤ 6) : v < 1000000 :=
  Nat.lt_of_lt_of_le h (Nat.pow_le_pow_right (by decide) (by omega : k ≤ 6))


end Go.Proofs.YtnlljdepcldibaaGreatDoor.readc
