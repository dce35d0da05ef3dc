/-
  Texts of numbers: their bytes; the pieces of a text in memory.
  Conditions: none but those that a theorem names.
-/
import Derived.Test.YtnlljdepcldibaaGreatDoorTxt
import Derived.Test.YtnlljdepcldibaaGreatDoorSplitC
import Derived.Test.YtnlljdepcldibaaGreatDoorReadB0
namespace Go.Proofs.YtnlljdepcldibaaGreatDoor.ntx
open Go.RowKit
open reads base pow txt strmath iterc nummath readc
set_option linter.unusedVariables false
set_option linter.unusedSimpArgs false

theorem itoa_mem (n : Int) (h0 : -999999 ≤ n) (h1 : n ≤ 999999) (b : UInt8) (hb : b ∈ Lib.itoa n) : b.toNat = 45 ∨ 48 ≤ b.toNat ∧ b.toNat ≤ 57 := by
  obtain ⟨k, hk⟩ := List.getElem?_of_mem hb
  by_cases hn : neg (Lib.itoa n) = true
  · have hneg : n < 0 := by rw [nummath.num_neg] at hn; simpa using hn
    cases k with
    | zero =>
      unfold Lib.itoa at hk
      rw [if_pos hneg] at hk
      simp at hk
      subst hk; exact .inl rfl
    | succ j =>
      refine .inr (num_digit (l := Lib.itoa n) rfl j b ?_)
      unfold body
      rw [if_pos hn, List.getElem?_drop, show 1 + j = j + 1 by omega]
      exact hk
  · refine .inr (num_digit (l := Lib.itoa n) rfl k b ?_)
    unfold body
    rw [if_neg hn]
    exact hk
theorem no_space (n : Int) (h0 : -999999 ≤ n) (h1 : n ≤ 999999) : (32 : UInt8) ∉ Lib.itoa n := fun h => by
  have := itoa_mem n h0 h1 32 h
  simp at this
theorem no_dash (n : Int) (h0 : 0 ≤ n) (h1 : n ≤ 999999) : (45 : UInt8) ∉ Lib.itoa n := fun h => by
  obtain ⟨k, hk⟩ := List.getElem?_of_mem h
  have e : neg (Lib.itoa n) = false := by rw [nummath.num_neg]; simp; omega
  have := num_digit (l := Lib.itoa n) rfl k 45 (by simp only [body, e, Bool.false_eq_true, if_false]; exact hk)
  simp at this
theorem itoa_inj (n m : Int) (h : Lib.itoa n = Lib.itoa m) : n = m := by
  obtain ⟨a1, a2⟩ := num_value (l := Lib.itoa n) rfl
  obtain ⟨b1, b2⟩ := num_value (l := Lib.itoa n) h
  rw [a1] at b1
  rw [a2] at b2
  have e := Option.some.inj b1
  by_cases hn : n < 0
  · have hm : m < 0 := by simpa [hn] using b2
    omega
  · have hm : ¬ m < 0 := by simpa [hn] using b2
    omega
theorem num_list (n : Int) : (num n).data.toList = Lib.itoa n := by simp [num]
theorem num_inj {n m : Int} (h : num n = num m) : n = m := itoa_inj n m (by rw [← num_list, ← num_list, h])
theorem isNum_num (n : Int) (h0 : -999999 ≤ n) (h1 : n ≤ 999999) : IsNum (num n) n := ⟨h0, h1, num_list n⟩
theorem isNum_one {s : ByteArray} {n m : Int} (h : IsNum s n) (k : IsNum s m) : n = m := itoa_inj n m (by rw [← h.2.2, ← k.2.2])
/-- the number that a text tells, 0 if it tells none -/
def RV (t : ByteArray) (v : Int) : Prop := IsNum t v ∨ ((∀ n, ¬ IsNum t n) ∧ v = 0)
theorem rv_ex (t : ByteArray) : ∃ v, RV t v := by
  by_cases h : ∃ n, IsNum t n
  · obtain ⟨n, hn⟩ := h; exact ⟨n, .inl hn⟩
  · exact ⟨0, .inr ⟨fun n hn => h ⟨n, hn⟩, rfl⟩⟩
theorem rv_num {t : ByteArray} {n v : Int} (h : RV t v) (e : t = num n) (h0 : -999999 ≤ n) (h1 : n ≤ 999999) : v = n := by
  subst e
  rcases h with h | ⟨h, -⟩
  · exact isNum_one h (isNum_num n h0 h1)
  · exact absurd (isNum_num n h0 h1) (h n)
theorem rv_bd {t : ByteArray} {v : Int} (h : RV t v) : -999999 ≤ v ∧ v ≤ 999999 := by
  rcases h with h | ⟨-, rfl⟩
  · exact ⟨h.1, h.2.1⟩
  · omega
theorem itoa_len1 (k : Nat) (n : Int) (h0 : 0 ≤ n) (h1 : n < 10 ^ (k + 1)) : (Lib.itoa n).length ≤ k + 1 := by
  unfold Lib.itoa
  rw [if_neg (by omega)]
  exact dec_len k n.toNat (by have : ((n.toNat : Nat) : Int) = n := by omega
                              have h2 : ((n.toNat : Nat) : Int) < ((10 ^ (k + 1) : Nat) : Int) := by rw [this]; push_cast; exact h1
                              omega)
/-- the numbers behind the words -/
theorem slope_pos {n : Int} (h : 0 ≤ n) : ∃ b r, (num n).data.toList = b :: r ∧ b.toNat ≠ 45 := by
  obtain ⟨b, r, e, h1, h2⟩ := dec_head n.toNat
  refine ⟨b, r, ?_, by omega⟩
  rw [num_list]
  unfold Lib.itoa
  rw [if_neg (by omega), e]
theorem slope_neg {n : Int} (h : n < 0) : (num n).data.toList = 45 :: (num (-n)).data.toList := by
  rw [txt.num_neg n h]; simp [ByteArray.data_append]
theorem mem_len (c : UInt8) : ∀ (l p : List UInt8), p ∈ strmath.pieces c l → p.length ≤ l.length
  | [], p, h => by simp [strmath.pieces] at h; simp [h]
  | x :: l, p, h => by
    rw [strmath.pieces] at h
    split at h
    · rcases List.mem_cons.1 h with rfl | h
      · simp
      · have := mem_len c l p h; simp; omega
    · cases q : strmath.pieces c l with
      | nil => exact absurd q (strmath.pieces_ne c l)
      | cons a r =>
        rw [q] at h
        simp only at h
        rcases List.mem_cons.1 h with rfl | h
        · have := mem_len c l a (by rw [q]; simp); simp; omega
        · have := mem_len c l p (by rw [q]; simp [h]); simp; omega
theorem pcs_mem (c : UInt8) (s t : ByteArray) (h : t ∈ pcs c s.data.toList) : t.size ≤ s.size := by
  unfold pcs at h
  rw [List.mem_map] at h
  obtain ⟨p, hp, rfl⟩ := h
  have := mem_len c _ p hp
  have e : s.data.toList.length = s.size := rfl
  show p.toArray.size ≤ _
  simp; omega
theorem cells_of {w : World} {base n c : Nat} {A : Option Addr} {ps : List ByteArray} (h : w.ownsRow base 9 1 (.slice A n c) n (strs ps)) (hn : 0 < n) (hl : ps.length = n) : ∃ g, A = some ⟨g, 0, none⟩ ∧ g < w.heap.size ∧ ∀ k u, ps[k]? = some u → w.cell? ⟨g, k, none⟩ = some (.string u) := by
  obtain ⟨g, cap, hv, hb, hlt⟩ := h.form hn
  injection hv with hA _ hc
  subst hA hc
  refine ⟨g, rfl, hlt, fun k u hk => ?_⟩
  have hkn : k < n := by have := (List.getElem?_eq_some_iff.1 hk).1; omega
  rw [h.cellAt k (by omega)]
  simp [strs, hk]
theorem num_ne (n : Int) : num n ≠ ⟨#[]⟩ := fun h => by
  by_cases hn : n < 0
  · have := slope_neg hn; rw [h] at this; simp at this
  · obtain ⟨b, r, e, -⟩ := slope_pos (n := n) (by omega); rw [h] at e; simp at e
theorem two_of {α : Type} {l : List α} (h : l.length = 2) : ∃ a b, l = [a, b] := by
  match l, h with
  | [a, b], _ => exact ⟨a, b, rfl⟩
end Go.Proofs.YtnlljdepcldibaaGreatDoor.ntx
