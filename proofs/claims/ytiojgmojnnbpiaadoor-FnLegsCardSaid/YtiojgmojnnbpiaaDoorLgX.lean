/-
  The text of a leg taken apart: its words, the numbers in them; no two legs have one text.
  Conditions: none but those that a theorem names.
-/
import Derived.Test.YtiojgmojnnbpiaaDoorLgT
import Derived.Test.YtiojgmojnnbpiaaDoorSplitB
import Derived.Test.YtiojgmojnnbpiaaDoorReadB
namespace Go.Proofs.YtiojgmojnnbpiaaDoor.lgx
open Go.RowKit
open base ty lg pow txt strmath iterc nummath readc
set_option linter.unusedVariables false
set_option linter.unusedSimpArgs false

theorem itoa_mem (n : Int) (h0 : -999999 ≤ n) (h1 : n ≤ 999999) (b : UInt8) (hb : b ∈ Lib.itoa n) : b.toNat = 45 ∨ 48 ≤ b.toNat ∧ b.toNat ≤ 57 := by
  obtain ⟨k, hk⟩ := List.getElem?_of_mem hb
  by_cases hn : neg (Lib.itoa n) = true
  · have hneg : n < 0 := by rw [nummath.num_neg] at hn; simpa using hn
    cases k with
    | zero =>
      unfold Lib.itoa at hk
      rw [if_pos hneg] at hk
      simp at hk
      subst hk; exact .inl rfl
    | succ j =>
      refine .inr (num_digit (l := Lib.itoa n) rfl j b ?_)
      unfold body
      rw [if_pos hn, List.getElem?_drop, show 1 + j = j + 1 by omega]
      exact hk
  · refine .inr (num_digit (l := Lib.itoa n) rfl k b ?_)
    unfold body
    rw [if_neg hn]
    exact hk
theorem no_space (n : Int) (h0 : -999999 ≤ n) (h1 : n ≤ 999999) : (32 : UInt8) ∉ Lib.itoa n := fun h => by
  have := itoa_mem n h0 h1 32 h
  simp at this
theorem no_dash (n : Int) (h0 : 0 ≤ n) (h1 : n ≤ 999999) : (45 : UInt8) ∉ Lib.itoa n := fun h => by
  obtain ⟨k, hk⟩ := List.getElem?_of_mem h
  have e : neg (Lib.itoa n) = false := by rw [nummath.num_neg]; simp; omega
  have := num_digit (l := Lib.itoa n) rfl k 45 (by simp only [body, e, Bool.false_eq_true, if_false]; exact hk)
  simp at this
theorem itoa_inj (n m : Int) (h : Lib.itoa n = Lib.itoa m) : n = m := by
  obtain ⟨a1, a2⟩ := num_value (l := Lib.itoa n) rfl
  obtain ⟨b1, b2⟩ := num_value (l := Lib.itoa n) h
  rw [a1] at b1
  rw [a2] at b2
  have e := Option.some.inj b1
  by_cases hn : n < 0
  · have hm : m < 0 := by simpa [hn] using b2
    omega
  · have hm : ¬ m < 0 := by simpa [hn] using b2
    omega
theorem num_list (n : Int) : (num n).data.toList = Lib.itoa n := by simp [num]
theorem num_inj {n m : Int} (h : num n = num m) : n = m := itoa_inj n m (by rw [← num_list, ← num_list, h])
theorem isNum_num (n : Int) (h0 : -999999 ≤ n) (h1 : n ≤ 999999) : IsNum (num n) n := ⟨h0, h1, num_list n⟩
theorem isNum_one {s : ByteArray} {n m : Int} (h : IsNum s n) (k : IsNum s m) : n = m := itoa_inj n m (by rw [← h.2.2, ← k.2.2])
/-- the number that a text tells, 0 if it tells none -/
def RV (t : ByteArray) (v : Int) : Prop := IsNum t v ∨ ((∀ n, ¬ IsNum t n) ∧ v = 0)
theorem rv_ex (t : ByteArray) : ∃ v, RV t v := by
  by_cases h : ∃ n, IsNum t n
  · obtain ⟨n, hn⟩ := h; exact ⟨n, .inl hn⟩
  · exact ⟨0, .inr ⟨fun n hn => h ⟨n, hn⟩, rfl⟩⟩
theorem rv_num {t : ByteArray} {n v : Int} (h : RV t v) (e : t = num n) (h0 : -999999 ≤ n) (h1 : n ≤ 999999) : v = n := by
  subst e
  rcases h with h | ⟨h, -⟩
  · exact isNum_one h (isNum_num n h0 h1)
  · exact absurd (isNum_num n h0 h1) (h n)
theorem rv_bd {t : ByteArray} {v : Int} (h : RV t v) : -999999 ≤ v ∧ v ≤ 999999 := by
  rcases h with h | ⟨-, rfl⟩
  · exact ⟨h.1, h.2.1⟩
  · omega
/-- the words of a leg's text -/
theorem ltx_list (x : Lg) : (ltx x).data.toList = [108, 101, 103] ++ 32 :: ((Lib.itoa x.frm ++ 45 :: Lib.itoa x.to_) ++ 32 :: ([116, 97, 112, 101] ++ 32 :: (Lib.itoa x.tape ++ 32 :: ([99, 111, 109, 112, 97, 115, 115] ++ 32 :: (Lib.itoa x.comp ++ 32 :: ([115, 108, 111, 112, 101] ++ 32 :: Lib.itoa x.slope)))))) := by
  simp [ltx, t8, t7, t6, t5, t4, t3, t2, t1, t0, num, ByteArray.data_append, List.append_assoc]
def w0 : ByteArray := ⟨[108, 101, 103].toArray⟩
def w2 : ByteArray := ⟨[116, 97, 112, 101].toArray⟩
def w4 : ByteArray := ⟨[99, 111, 109, 112, 97, 115, 115].toArray⟩
def w6 : ByteArray := ⟨[115, 108, 111, 112, 101].toArray⟩
def wE (x : Lg) : ByteArray := ⟨(Lib.itoa x.frm ++ 45 :: Lib.itoa x.to_).toArray⟩
theorem ltx_words (x : Lg) (hx : okLg x = true) : pcs 32 (ltx x).data.toList = [w0, wE x, w2, num x.tape, w4, num x.comp, w6, num x.slope] := by
  obtain ⟨⟨a0, a1⟩, ⟨a2, a3⟩, -, ⟨a4, a5⟩, ⟨a6, a7⟩, a8, a9⟩ := okLg_lim hx
  rw [ltx_list]
  unfold pcs
  have n1 := no_space x.frm (by omega) (by omega)
  have n2 := no_space x.to_ (by omega) (by omega)
  rw [pieces_hit _ _ _ (by simp), pieces_hit _ _ _ (by simp [n1, n2]), pieces_hit _ _ _ (by simp), pieces_hit _ _ _ (no_space x.tape (by omega) (by omega)), pieces_hit _ _ _ (by simp), pieces_hit _ _ _ (no_space x.comp (by omega) (by omega)), pieces_hit _ _ _ (by simp), pieces_end _ _ (no_space x.slope (by omega) (by omega))]
  rfl
theorem ltx_ends (x : Lg) (hx : okLg x = true) : pcs 45 (wE x).data.toList = [num x.frm, num x.to_] := by
  obtain ⟨⟨a0, a1⟩, ⟨a2, a3⟩, -, -, -, -⟩ := okLg_lim hx
  have e : (wE x).data.toList = Lib.itoa x.frm ++ 45 :: Lib.itoa x.to_ := by simp [wE]
  rw [e]
  unfold pcs
  rw [pieces_hit _ _ _ (no_dash x.frm a0 (by omega)), pieces_end _ _ (no_dash x.to_ a2 (by omega))]
  rfl
theorem itoa_len1 (k : Nat) (n : Int) (h0 : 0 ≤ n) (h1 : n < 10 ^ (k + 1)) : (Lib.itoa n).length ≤ k + 1 := by
  unfold Lib.itoa
  rw [if_neg (by omega)]
  exact dec_len k n.toNat (by have : ((n.toNat : Nat) : Int) = n := by omega
                              have h2 : ((n.toNat : Nat) : Int) < ((10 ^ (k + 1) : Nat) : Int) := by rw [this]; push_cast; exact h1
                              omega)
theorem ltx_size (x : Lg) (hx : okLg x = true) : (ltx x).size ≤ 60 := by
  obtain ⟨⟨a0, a1⟩, ⟨a2, a3⟩, -, ⟨a4, a5⟩, ⟨a6, a7⟩, a8, a9⟩ := okLg_lim hx
  have h := congrArg List.length (ltx_list x)
  have hl : (ltx x).data.toList.length = (ltx x).size := rfl
  rw [hl] at h
  have b0 := itoa_len1 0 x.frm a0 (by omega)
  have b1 := itoa_len1 0 x.to_ a2 (by omega)
  have b2 := itoa_len1 2 x.tape (by omega) (by omega)
  have b3 := itoa_len1 2 x.comp a6 (by omega)
  have b4 : (Lib.itoa x.slope).length ≤ 7 := num_size x.slope (by omega) (by omega)
  simp only [List.length_append, List.length_cons, List.length_nil] at h
  omega
/-- a text is that of a valid leg -/
def IsLT (s : ByteArray) (x : Lg) : Prop := okLg x = true ∧ ltx x = s
theorem isLT_one {s : ByteArray} {x y : Lg} (h : IsLT s x) (k : IsLT s y) : x = y := by
  have hw := ltx_words x h.1
  have kw := ltx_words y k.1
  rw [h.2] at hw
  rw [k.2, hw] at kw
  simp only [List.cons.injEq, and_true, true_and] at kw
  obtain ⟨e1, e2, e3, e4⟩ := kw
  have he := ltx_ends x h.1
  have ke := ltx_ends y k.1
  rw [← e1, he] at ke
  simp only [List.cons.injEq, and_true] at ke
  obtain ⟨f1, f2⟩ := ke
  have g0 := num_inj f1
  have g1 := num_inj f2
  have g2 := num_inj e2
  have g3 := num_inj e3
  have g4 := num_inj e4
  cases x; cases y
  simp only at g0 g1 g2 g3 g4
  subst g0 g1 g2 g3 g4
  rfl
/-- what ParseLeg answers -/
def PL (s : ByteArray) (r : Lg × Bool) : Prop := (∃ x, IsLT s x ∧ r = (x, true)) ∨ ((∀ x, ¬ IsLT s x) ∧ r = (⟨0, 0, 0, 0, 0⟩, false))
theorem pl_ex (s : ByteArray) : ∃ r, PL s r := by
  by_cases h : ∃ x, IsLT s x
  · obtain ⟨x, hx⟩ := h; exact ⟨_, .inl ⟨x, hx, rfl⟩⟩
  · exact ⟨_, .inr ⟨fun x hx => h ⟨x, hx⟩, rfl⟩⟩
theorem pl_yes {s : ByteArray} {x : Lg} {r : Lg × Bool} (h : PL s r) (hx : IsLT s x) : r = (x, true) := by
  rcases h with ⟨y, hy, rfl⟩ | ⟨h, -⟩
  · rw [isLT_one hy hx]
  · exact absurd hx (h x)
theorem pl_no {s : ByteArray} {r : Lg × Bool} (h : PL s r) (hx : ∀ x, ¬ IsLT s x) : r = (⟨0, 0, 0, 0, 0⟩, false) := by
  rcases h with ⟨y, hy, rfl⟩ | ⟨-, h⟩
  · exact absurd hy (hx y)
  · exact h
/-- the answer as a value -/
def plV (r : Lg × Bool) : Value := .tuple #[.agg #[.int .i64 r.1.frm, .int .i64 r.1.to_, .int .i64 r.1.tape, .int .i64 r.1.comp, .int .i64 r.1.slope], .bool r.2]
/-- the numbers behind the words -/
theorem slope_pos {n : Int} (h : 0 ≤ n) : ∃ b r, (num n).data.toList = b :: r ∧ b.toNat ≠ 45 := by
  obtain ⟨b, r, e, h1, h2⟩ := dec_head n.toNat
  refine ⟨b, r, ?_, by omega⟩
  rw [num_list]
  unfold Lib.itoa
  rw [if_neg (by omega), e]
theorem slope_neg {n : Int} (h : n < 0) : (num n).data.toList = 45 :: (num (-n)).data.toList := by
  rw [txt.num_neg n h]; simp [ByteArray.data_append]
end Go.Proofs.YtiojgmojnnbpiaaDoor.lgx
