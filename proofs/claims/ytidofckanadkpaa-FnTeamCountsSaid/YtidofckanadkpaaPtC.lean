/-
  Sublists of people in lexicographic order, sets of people by the bits of a number.
  Conditions: none but those that a theorem names.
-/
import Derived.Test.YtidofckanadkpaaPtB
namespace Go.Proofs.Ytidofckanadkpaa.pt
open Go.RowKit
open reads base inn ty psf psk psl psm psn pso ris
set_option linter.unusedVariables false
set_option linter.unusedSimpArgs false

/-- the sublists that are not empty, in lexicographic order -/
def nes : List Ps → List (List Ps)
  | [] => []
  | x :: xs => ([] :: nes xs).map (x :: ·) ++ nes xs
theorem mem_nes : ∀ (ts s : List Ps), s ∈ nes ts ↔ s.Sublist ts ∧ s ≠ []
  | [], s => by
    simp only [nes, List.not_mem_nil, List.sublist_nil, false_iff]
    rintro ⟨h, h'⟩; exact h' h
  | x :: xs, s => by
    rw [nes, List.mem_append, List.mem_map]
    constructor
    · rintro (⟨r, hr, rfl⟩ | h)
      · refine ⟨?_, by simp⟩
        rcases List.mem_cons.1 hr with rfl | hr
        · exact (List.nil_sublist xs).cons_cons x
        · exact (((mem_nes xs r).1 hr).1).cons_cons x
      · have := (mem_nes xs s).1 h
        exact ⟨this.1.cons x, this.2⟩
    · rintro ⟨h, h'⟩
      cases h with
      | cons _ q => exact .inr ((mem_nes xs s).2 ⟨q, h'⟩)
      | @cons_cons r _ _ q =>
        refine .inl ⟨r, ?_, rfl⟩
        cases r with
        | nil => simp
        | cons a r => exact List.mem_cons_of_mem _ ((mem_nes xs _).2 ⟨q, by simp⟩)
/-- a list of numbers is lexicographically smaller -/
def less : List Int → List Int → Bool
  | [], [] => false
  | [], _ :: _ => true
  | _ :: _, [] => false
  | x :: a, y :: b => if x = y then less a b else decide (x < y)
theorem less_irr : ∀ a, less a a = false
  | [] => rfl
  | x :: a => by simp [less, less_irr a]
theorem less_tri : ∀ a b, less a b = false → less b a = false → a = b
  | [], [], _, _ => rfl
  | [], _ :: _, h, _ => by simp [less] at h
  | _ :: _, [], _, h => by simp [less] at h
  | x :: a, y :: b, h, h' => by
    by_cases e : x = y
    · subst e
      simp only [less, if_true] at h h'
      rw [less_tri a b h h']
    · rw [less, if_neg e] at h
      rw [less, if_neg (fun q => e q.symm)] at h'
      simp at h h'
      omega
theorem less_asym : ∀ a b, less a b = true → less b a = false
  | [], [], h => by simp [less] at h
  | [], _ :: _, h => rfl
  | _ :: _, [], h => by simp [less] at h
  | x :: a, y :: b, h => by
    by_cases e : x = y
    · subst e
      simp only [less, if_true] at h ⊢
      exact less_asym a b h
    · rw [less, if_neg e] at h
      rw [less, if_neg (fun q => e q.symm)]
      simp at h ⊢
      omega
theorem less_trans : ∀ a b c, less a b = true → less b c = true → less a c = true
  | [], [], c, h, _ => by simp [less] at h
  | [], _ :: _, [], _, h => by simp [less] at h
  | [], _ :: _, _ :: _, _, _ => rfl
  | _ :: _, [], _, h, _ => by simp [less] at h
  | _ :: _, _ :: _, [], _, h => by simp [less] at h
  | x :: a, y :: b, z :: c, h, h' => by
    by_cases e : x = y
    · subst e
      by_cases e' : x = z
      · subst e'
        simp only [less, if_true] at h h' ⊢
        exact less_trans a b c h h'
      · rw [less, if_neg e'] at h' ⊢
        exact h'
    · rw [less, if_neg e] at h
      simp at h
      by_cases e' : y = z
      · subst e'
        rw [less, if_neg (by omega)]; simpa using h
      · rw [less, if_neg e'] at h'
        simp at h'
        rw [less, if_neg (by omega)]; simp; omega
/-- they ascend -/
theorem nes_asc : ∀ {ts : List Ps}, Asc ts → (nes ts).Pairwise fun a b => less (ids a) (ids b) = true
  | [], _ => List.Pairwise.nil
  | x :: xs, h => by
    unfold Asc at h
    rw [List.pairwise_cons] at h
    have ih := nes_asc (ts := xs) h.2
    rw [nes, List.pairwise_append]
    refine ⟨?_, ih, ?_⟩
    · rw [List.pairwise_map, List.pairwise_cons]
      constructor
      · intro a ha
        have := ((mem_nes xs a).1 ha).2
        cases a with
        | nil => exact absurd rfl this
        | cons a r => simp [ids, less]
      · refine ih.imp fun {a b} hab => ?_
        simp only [ids, List.map_cons, less, if_true] at hab ⊢
        exact hab
    · intro a ha b hb
      obtain ⟨r, hr, rfl⟩ := List.mem_map.1 ha
      have hb' := (mem_nes xs b).1 hb
      cases b with
      | nil => exact absurd rfl hb'.2
      | cons y b =>
        have hy : y ∈ xs := hb'.1.subset (by simp)
        have := h.1 y hy
        simp only [ids, List.map_cons, less]
        rw [if_neg (by omega)]; simpa using this
/-- the program's search: those that begin with some members -/
def dfsL (P : List Ps → Bool) (mx : Nat) (s : List Ps) : List Ps → List (List Ps)
  | [] => []
  | x :: xs => ((if P (s ++ [x]) then [s ++ [x]] else []) ++ (if (s ++ [x]).length = mx then [] else dfsL P mx (s ++ [x]) xs)) ++ dfsL P mx s xs
def dfs (P : List Ps → Bool) (mx : Nat) (s ts : List Ps) : List (List Ps) := (if P s then [s] else []) ++ (if s.length = mx then [] else dfsL P mx s ts)
theorem dfsL_cons (P : List Ps → Bool) (mx : Nat) (s : List Ps) (x : Ps) (xs : List Ps) : dfsL P mx s (x :: xs) = dfs P mx (s ++ [x]) xs ++ dfsL P mx s xs := rfl
theorem dfsL_is {P : List Ps → Bool} {mx : Nat} (hP : ∀ s, P s = true → s.length ≤ mx) : ∀ (ts s : List Ps), s.length < mx → dfsL P mx s ts = ((nes ts).map (s ++ ·)).filter P
  | [], s, _ => by simp [dfsL, nes]
  | x :: xs, s, hs => by
    rw [dfsL, dfsL_is hP xs s hs, nes, List.map_append, List.filter_append]
    congr 1
    rw [List.map_map, List.map_cons, List.filter_cons]
    have e0 : (((s ++ ·) ∘ (x :: ·)) [] : List Ps) = s ++ [x] := rfl
    have e1 : (nes xs).map ((s ++ ·) ∘ (x :: ·)) = (nes xs).map ((s ++ [x]) ++ ·) := by
      apply List.map_congr_left; intro a _; simp
    rw [e0, e1]
    by_cases hl : (s ++ [x]).length = mx
    · rw [if_pos hl]
      have : ((nes xs).map ((s ++ [x]) ++ ·)).filter P = [] := by
        rw [List.filter_eq_nil_iff]
        intro a ha
        obtain ⟨b, hb, rfl⟩ := List.mem_map.1 ha
        intro hq
        have h1 := hP _ hq
        have h2 := ((mem_nes xs b).1 hb).2
        cases b with
        | nil => exact h2 rfl
        | cons c b => rw [List.length_append, hl] at h1; simp at h1; omega
      rw [this]
      by_cases hq : P (s ++ [x]) = true
      · simp only [hq, if_true]; rfl
      · simp only [hq]; rfl
    · rw [if_neg hl, dfsL_is hP xs (s ++ [x]) (by rw [List.length_append] at hl ⊢; simp at hl ⊢; omega)]
      by_cases hq : P (s ++ [x]) = true
      · rw [if_pos hq, if_pos hq]; rfl
      · rw [if_neg hq, if_neg hq]; rfl
/-- all teams among some people, in lexicographic order -/
def teams (ts : List Ps) : List (List Ps) := (nes ts).filter teamS
theorem teamS_len {s : List Ps} (h : teamS s = true) : 2 ≤ s.length ∧ s.length ≤ 5 := by
  unfold teamS at h
  rw [Bool.and_eq_true, Bool.and_eq_true] at h
  have := btw_yes h.1.1
  omega
theorem dfs_is (ts : List Ps) : dfs teamS 5 [] ts = teams ts := by
  unfold dfs teams
  rw [if_neg (by intro h; have := teamS_len h; simp at this), if_neg (by simp), dfsL_is (fun s h => (teamS_len h).2) ts [] (by simp)]
  simp
/-- a set of people by the bits of a number -/
def pick : Nat → List Ps → List Ps
  | _, [] => []
  | s, t :: ts => if s % 2 = 1 then t :: pick (s / 2) ts else pick (s / 2) ts
theorem pick_sub : ∀ (s : Nat) (ts : List Ps), (pick s ts).Sublist ts
  | _, [] => List.Sublist.refl _
  | s, t :: ts => by
    rw [pick]; split
    · exact (pick_sub _ ts).cons_cons t
    · exact (pick_sub _ ts).cons t
theorem pick_snoc : ∀ (ts : List Ps) (s : Nat) (t : Ps), pick s (ts ++ [t]) = pick s ts ++ (if s / 2 ^ ts.length % 2 = 1 then [t] else [])
  | [], s, t => by simp [pick]
  | a :: ts, s, t => by
    rw [List.cons_append, pick, pick, pick_snoc ts, List.length_cons, Nat.div_div_eq_div_mul, Nat.pow_succ, Nat.mul_comm 2]
    by_cases e : s % 2 = 1
    · rw [if_pos e, if_pos e]; rfl
    · rw [if_neg e, if_neg e]
theorem pick_take {ts : List Ps} {k : Nat} {t : Ps} (s : Nat) (h : ts[k]? = some t) : pick s (ts.take (k + 1)) = pick s (ts.take k) ++ (if s / 2 ^ k % 2 = 1 then [t] else []) := by
  have hk := (List.getElem?_eq_some_iff.1 h).1
  rw [take_snoc h, pick_snoc, List.length_take, Nat.min_eq_left (by omega)]
theorem range_two (m : Nat) : (List.range (2 * m)).Perm ((List.range m).map (2 * ·) ++ (List.range m).map (2 * · + 1)) := by
  induction m with
  | zero => exact List.Perm.refl _
  | succ m ih =>
    have e : List.range (2 * (m + 1)) = List.range (2 * m) ++ [2 * m, 2 * m + 1] := by
      rw [show 2 * (m + 1) = 2 * m + 1 + 1 by omega, List.range_succ, List.range_succ]; simp
    rw [e, List.range_succ, List.map_append, List.map_append]
    refine (ih.append_right _).trans ?_
    simp only [List.map_cons, List.map_nil, List.append_assoc]
    refine List.Perm.append_left _ ?_
    rw [← List.append_assoc]
    refine List.Perm.trans ?_ (List.Perm.refl (([2 * m] ++ (List.range m).map (2 * · + 1)) ++ [2 * m + 1]))
    have : [2 * m, 2 * m + 1] = [2 * m] ++ [2 * m + 1] := rfl
    rw [this, ← List.append_assoc]
    exact (List.perm_append_comm).append_right _
/-- all numbers below 2^n are all sets of people -/
theorem pick_perm : ∀ ts : List Ps, ((List.range (2 ^ ts.length)).map (pick · ts)).Perm ([] :: nes ts)
  | [] => by simp [pick, nes]
  | x :: xs => by
    rw [List.length_cons, Nat.pow_succ, Nat.mul_comm]
    refine ((range_two (2 ^ xs.length)).map _).trans ?_
    rw [List.map_append, List.map_map, List.map_map]
    have e0 : (List.range (2 ^ xs.length)).map ((pick · (x :: xs)) ∘ (2 * ·)) = (List.range (2 ^ xs.length)).map (pick · xs) := by
      apply List.map_congr_left; intro a _
      show pick (2 * a) (x :: xs) = _
      rw [pick, if_neg (by omega), Nat.mul_div_cancel_left _ (by omega)]
    have e1 : (List.range (2 ^ xs.length)).map ((pick · (x :: xs)) ∘ (2 * · + 1)) = ((List.range (2 ^ xs.length)).map (pick · xs)).map (x :: ·) := by
      rw [List.map_map]
      apply List.map_congr_left; intro a _
      show pick (2 * a + 1) (x :: xs) = x :: pick a xs
      rw [pick, if_pos (by omega), show (2 * a + 1) / 2 = a by omega]
    rw [e0, e1, nes]
    have ih := pick_perm xs
    refine (ih.append (ih.map _)).trans ?_
    rw [List.cons_append]
    exact List.Perm.cons _ List.perm_append_comm
end Go.Proofs.Ytidofckanadkpaa.pt
