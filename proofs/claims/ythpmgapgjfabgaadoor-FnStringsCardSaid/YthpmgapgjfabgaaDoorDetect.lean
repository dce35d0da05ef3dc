/-
  Any single changed byte of a checksummed text is detected.
  Conditions: the text can be sealed.
-/
import Derived.Test.YthpmgapgjfabgaaDoorVer
namespace Go.Proofs.YthpmgapgjfabgaaDoor.detect
open Sums strmath nummath sealc verc iterc
set_option linter.unusedVariables false

theorem uniq (c : UInt8) : ∀ (t t2 d d2 : List UInt8), t ++ c :: d = t2 ++ c :: d2 → c ∉ t → c ∉ t2 → t = t2 ∧ d = d2
  | [], [], d, d2, h, _, _ => by simpa using h
  | [], y :: t2, d, d2, h, _, h2 => by
    simp at h
    exact absurd (by simp [h.1]) h2
  | x :: t, [], d, d2, h, h1, _ => by
    simp at h
    exact absurd (by simp [h.1]) h1
  | x :: t, y :: t2, d, d2, h, h1, h2 => by
    simp only [List.cons_append, List.cons.injEq] at h
    have := uniq c t t2 d d2 h.2 (fun e => h1 (by simp [e])) (fun e => h2 (by simp [e]))
    exact ⟨by rw [h.1, this.1], this.2⟩
theorem first_occ (c : UInt8) (l : List UInt8) (h : c ∈ l) : ∃ u v, l = u ++ c :: v ∧ c ∉ u := by
  induction l with
  | nil => cases h
  | cons x l ih =>
    by_cases hx : x = c
    · exact ⟨[], l, by simp [hx], by simp⟩
    · rcases List.mem_cons.1 h with e | e
      · exact absurd e.symm hx
      · obtain ⟨u, v, h1, h2⟩ := ih e
        refine ⟨x :: u, v, by simp [h1], ?_⟩
        intro hm
        rcases List.mem_cons.1 hm with e | e
        · exact hx e.symm
        · exact h2 e
theorem step_inj (h h' : Int) (c : UInt8) (a1 : 0 ≤ h) (a2 : h < 999979) (b1 : 0 ≤ h') (b2 : h' < 999979) (e : Sums.step h c = Sums.step h' c) : h = h' := by
  unfold Sums.step at e
  omega
theorem fold_inj (v : List UInt8) : ∀ h h' : Int, 0 ≤ h → h < 999979 → 0 ≤ h' → h' < 999979 → v.foldl Sums.step h = v.foldl Sums.step h' → h = h' := by
  induction v with
  | nil => intro h h' _ _ _ _ e; exact e
  | cons c v ih =>
    intro h h' a1 a2 b1 b2 e
    have s1 := step_bd h c
    have s2 := step_bd h' c
    exact step_inj h h' c a1 a2 b1 b2 (ih _ _ s1.1 s1.2 s2.1 s2.2 e)
theorem byte_inj (h : Int) (a b : UInt8) (a1 : 0 ≤ h) (a2 : h < 999979) (e : Sums.step h a = Sums.step h b) : a = b := by
  unfold Sums.step at e
  have h1 := a.toNat_lt
  have h2 := b.toNat_lt
  apply UInt8.toNat_inj.1
  omega
theorem ck_set (x : List UInt8) (k : Nat) (nb : UInt8) (hk : k < x.length) (e : ck (x.set k nb) = ck x) : nb = x[k] := by
  have e1 : x = x.take k ++ x[k] :: x.drop (k + 1) := by
    rw [← List.drop_eq_getElem_cons hk, List.take_append_drop]
  have e2 : x.set k nb = x.take k ++ nb :: x.drop (k + 1) := by
    rw [List.set_eq_take_append_cons_drop, if_pos hk]
  rw [e2] at e
  have e' : ck (x.take k ++ nb :: x.drop (k + 1)) = ck (x.take k ++ x[k] :: x.drop (k + 1)) := by rw [← e1]; exact e
  unfold ck at e'
  rw [List.foldl_append, List.foldl_append, List.foldl_cons, List.foldl_cons] at e'
  have hb := ck_bd (x.take k)
  have s1 := step_bd (ck (x.take k)) nb
  have s2 := step_bd (ck (x.take k)) x[k]
  exact byte_inj _ _ _ hb.1 hb.2 (fold_inj _ _ _ s1.1 s1.2 s2.1 s2.2 e')
theorem itoa_inj (n m : Int) (h : Lib.itoa n = Lib.itoa m) : n = m := by
  obtain ⟨a1, a2⟩ := num_value (l := Lib.itoa n) rfl
  obtain ⟨b1, b2⟩ := num_value (l := Lib.itoa n) h
  rw [a1] at b1
  rw [a2] at b2
  have e := Option.some.inj b1
  by_cases hn : n < 0
  · have hm : m < 0 := by simpa [hn] using b2
    omega
  · have hm : ¬ m < 0 := by simpa [hn] using b2
    omega

theorem changed (x : List UInt8) (hx : 35 ∉ x) (k : Nat) (nb : UInt8) (hk : k < (sealed x).length) (hne : nb ≠ (sealed x)[k]) (t : List UInt8) (ht : 35 ∉ t) : sealed t ≠ (sealed x).set k nb := by
  intro h
  have dt := (has_no _ _).1 (itoa_no (ck t) (ck_bd t).1)
  have dx := (has_no _ _).1 (itoa_no (ck x) (ck_bd x).1)
  unfold sealed at h hk hne
  rcases Nat.lt_trichotomy k x.length with h1 | h1 | h1
  · rw [List.set_append_left _ _ h1] at h
    rw [List.getElem_append_left h1] at hne
    by_cases h35 : 35 ∈ x.set k nb
    · obtain ⟨u, v, e1, e2⟩ := first_occ 35 _ h35
      rw [e1, List.append_assoc, List.cons_append] at h
      have := (uniq 35 _ _ _ _ h ht e2).2
      exact dt (by rw [this]; simp)
    · obtain ⟨e1, e2⟩ := uniq 35 _ _ _ _ h ht h35
      have e3 := itoa_inj _ _ e2
      rw [e1] at e3
      exact hne (ck_set x k nb h1 e3)
  · have e0 : (x ++ 35 :: Lib.itoa (ck x))[k] = 35 := by
      subst h1
      rw [List.getElem_append_right (Nat.le_refl _)]; simp
    rw [e0] at hne
    rw [List.set_append_right _ _ (by omega), show k - x.length = 0 by omega, List.set_cons_zero] at h
    have hm : (35 : UInt8) ∈ x ++ nb :: Lib.itoa (ck x) := by rw [← h]; simp
    rcases List.mem_append.1 hm with hm | hm
    · exact hx hm
    · rcases List.mem_cons.1 hm with hm | hm
      · exact hne hm.symm
      · exact dx hm
  · rw [List.set_append_right _ _ (by omega), show k - x.length = (k - x.length - 1) + 1 by omega, List.set_cons_succ] at h
    obtain ⟨e1, e2⟩ := uniq 35 _ _ _ _ h ht hx
    rw [e1] at e2
    have hj : k - x.length - 1 < (Lib.itoa (ck x)).length := by rw [List.length_append, List.length_cons] at hk; omega
    have e3 : (x ++ 35 :: Lib.itoa (ck x))[k] = (Lib.itoa (ck x))[k - x.length - 1] := by
      rw [List.getElem_append_right (by omega), List.getElem_cons, dif_neg (by omega)]
    rw [e3] at hne
    apply hne
    have e4 : ((Lib.itoa (ck x)).set (k - x.length - 1) nb)[k - x.length - 1]'(by rw [List.length_set]; exact hj) = nb := List.getElem_set_self _
    rw [← e4]
    congr 1
    exact e2.symm

/-- a sealed text with one byte changed is not verified -/
theorem detected (x : ByteArray) (hx : has x.data.toList 35 = false) (k : Nat) (nb : UInt8) (hk : k < (sealed x.data.toList).length) (hne : nb ≠ (sealed x.data.toList)[k]) (y : ByteArray) (hy : y.data.toList = (sealed x.data.toList).set k nb) : ¬ okVer y := by
  intro h
  exact changed x.data.toList ((has_no _ _).1 hx) k nb hk hne (first y).data.toList ((has_no _ _).1 (first_no y)) (by rw [← hy]; exact h)

/-- a sealed text is verified, and what was sealed comes back -/
theorem verified (x y : ByteArray) (hx : has x.data.toList 35 = false) (hy : y.data.toList = sealed x.data.toList) : first y = x ∧ okVer y := by
  have hn := (has_no _ _).1 hx
  have hd := (has_no _ _).1 (itoa_no (ck x.data.toList) (ck_bd _).1)
  have e : first y = x := by
    unfold first pcs
    rw [hy, sealed, pieces_hit 35 _ _ hn]
    apply ByteArray.ext
    simp
  refine ⟨e, ?_⟩
  unfold okVer
  rw [e, hy]
end Go.Proofs.YthpmgapgjfabgaaDoor.detect
