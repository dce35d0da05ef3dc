/-
  Counting teams, and the choice of the smallest one: the same over sets and over sublists.
  Conditions: none but those that a theorem names.
-/
import Derived.Test.YtidofckanadkpaaPtC
namespace Go.Proofs.Ytidofckanadkpaa.pt
open Go.RowKit
open reads base inn ty psf psk psl psm psn pso ris
set_option linter.unusedVariables false
set_option linter.unusedSimpArgs false

theorem teamS_nil : teamS [] = false := by decide
/-- counting over all sets of people is counting over all sublists -/
theorem count_pick (p : List Ps → Bool) (hp : p [] = false) (ts : List Ps) : (List.range (2 ^ ts.length)).countP (fun j => p (pick j ts)) = (nes ts).countP p := by
  have h := (pick_perm ts).countP_eq p
  rw [List.countP_map, List.countP_cons, hp] at h
  simpa [Function.comp_def] using h
theorem count_teams (ts : List Ps) : (List.range (2 ^ ts.length)).countP (fun j => teamS (pick j ts)) = (teams ts).length := by
  rw [count_pick _ teamS_nil, teams, List.countP_eq_length_filter]
theorem count_able (f : List Ps → Bool) (ts : List Ps) : (List.range (2 ^ ts.length)).countP (fun j => teamS (pick j ts) && f (pick j ts)) = (teams ts).countP f := by
  rw [count_pick (fun s => teamS s && f s) (by simp [teamS_nil]), teams, List.countP_filter]
  apply List.countP_congr; intro a _; simp [and_comm]
theorem mem_pick {ts s : List Ps} : (∃ j, j < 2 ^ ts.length ∧ pick j ts = s) ↔ s.Sublist ts := by
  have h := (pick_perm ts).mem_iff (a := s)
  rw [List.mem_map] at h
  constructor
  · rintro ⟨j, hj, rfl⟩; exact pick_sub j ts
  · intro q
    by_cases e : s = []
    · subst e; obtain ⟨j, hj, h2⟩ := h.2 (by simp); exact ⟨j, by simpa using hj, h2⟩
    · obtain ⟨j, hj, h2⟩ := h.2 (List.mem_cons_of_mem _ ((mem_nes ts s).2 ⟨q, e⟩)); exact ⟨j, by simpa using hj, h2⟩
theorem mem_teams {ts s : List Ps} : s ∈ teams ts ↔ s.Sublist ts ∧ teamS s = true := by
  unfold teams
  rw [List.mem_filter, mem_nes]
  constructor
  · rintro ⟨⟨h, -⟩, h2⟩; exact ⟨h, h2⟩
  · rintro ⟨h, h2⟩; exact ⟨⟨h, by rintro rfl; rw [teamS_nil] at h2; simp at h2⟩, h2⟩
theorem teams_asc {ts : List Ps} (h : Asc ts) : (teams ts).Pairwise fun a b => less (ids a) (ids b) = true := (nes_asc h).filter _
/-- the index of the best candidate -/
def selI (lt : List Int → List Int → Bool) (c : Nat → Bool) (v : Nat → List Int) : Nat → Option Nat
  | 0 => none
  | j + 1 => match selI lt c v j with
    | none => if c j then some j else none
    | some i => if c j && lt (v j) (v i) then some j else some i
theorem selI_none {lt : List Int → List Int → Bool} {c : Nat → Bool} {v : Nat → List Int} : ∀ {n : Nat}, selI lt c v n = none → ∀ i, i < n → c i = false
  | 0, _, i, h => by omega
  | n + 1, h, i, hi => by
    rw [selI] at h
    cases e : selI lt c v n with
    | none =>
      rw [e] at h
      simp only at h
      by_cases q : c n = true
      · rw [if_pos q] at h; simp at h
      · by_cases e2 : i = n
        · subst e2; simpa using q
        · exact selI_none e i (by omega)
    | some k => rw [e] at h; simp only at h; split at h <;> simp at h
theorem selI_some {lt : List Int → List Int → Bool} {c : Nat → Bool} {v : Nat → List Int} (irr : ∀ a, lt a a = false) (tr : ∀ a b d, lt a b = true → lt b d = true → lt a d = true) :
    ∀ {n : Nat} {k : Nat}, selI lt c v n = some k → k < n ∧ c k = true ∧ ∀ i, i < n → c i = true → lt (v i) (v k) = false
  | 0, k, h => by simp [selI] at h
  | n + 1, k, h => by
    rw [selI] at h
    cases e : selI lt c v n with
    | none =>
      rw [e] at h
      simp only at h
      by_cases q : c n = true
      · rw [if_pos q] at h
        obtain rfl : n = k := by simpa using h
        refine ⟨by omega, q, fun i hi hc => ?_⟩
        by_cases e2 : i = n
        · subst e2; exact irr _
        · rw [selI_none e i (by omega)] at hc; simp at hc
      · rw [if_neg q] at h; simp at h
    | some m =>
      rw [e] at h
      simp only at h
      obtain ⟨i1, i2, i3⟩ := selI_some irr tr e
      by_cases q : (c n && lt (v n) (v m)) = true
      · rw [if_pos q] at h
        obtain rfl : n = k := by simpa using h
        rw [Bool.and_eq_true] at q
        refine ⟨by omega, q.1, fun i hi hc => ?_⟩
        by_cases e2 : i = n
        · subst e2; exact irr _
        · have := i3 i (by omega) hc
          cases e3 : lt (v i) (v n)
          · rfl
          · rw [tr _ _ _ e3 q.2] at this; simp at this
      · rw [if_neg q] at h
        obtain rfl : m = k := by simpa using h
        refine ⟨by omega, i2, fun i hi hc => ?_⟩
        by_cases e2 : i = n
        · subst e2
          cases e3 : lt (v i) (v m)
          · rfl
          · rw [hc, e3] at q; simp at q
        · exact i3 i (by omega) hc
/-- shorter, or l1 long and lexicographically smaller -/
def bet (a b : List Int) : Bool := decide (a.length < b.length) || (decide (a.length = b.length) && less a b)
theorem bet_irr (a : List Int) : bet a a = false := by simp [bet, less_irr]
theorem bet_trans (a b c : List Int) (h : bet a b = true) (h' : bet b c = true) : bet a c = true := by
  unfold bet at *
  rw [Bool.or_eq_true, Bool.and_eq_true, decide_eq_true_eq, decide_eq_true_eq] at *
  rcases h with h | ⟨h, h2⟩ <;> rcases h' with h' | ⟨h', h2'⟩
  · exact .inl (by omega)
  · exact .inl (by omega)
  · exact .inl (by omega)
  · exact .inr ⟨by omega, less_trans a b c h2 h2'⟩
theorem bet_tri {a b : List Int} (h : bet a b = false) (h' : bet b a = false) : a = b := by
  unfold bet at *
  rw [Bool.or_eq_false_iff, Bool.and_eq_false_iff, decide_eq_false_iff_not, decide_eq_false_iff_not] at *
  refine less_tri a b ?_ ?_
  · rcases h.2 with q | q
    · omega
    · exact q
  · rcases h'.2 with q | q
    · omega
    · exact q
/-- the program's choice: the first of the shortest ones -/
def spN (c : List Ps → Bool) (L : List (List Ps)) : Nat → Option (List Ps)
  | 0 => none
  | k + 1 => match L[k]? with
    | none => spN c L k
    | some s => match spN c L k with
      | some b => if b.length ≤ s.length then some b else if c s then some s else some b
      | none => if c s then some s else none
theorem spN_at {c : List Ps → Bool} {L : List (List Ps)} {k : Nat} {s : List Ps} (h : L[k]? = some s) : spN c L (k + 1) = match spN c L k with
      | some b => if b.length ≤ s.length then some b else if c s then some s else some b
      | none => if c s then some s else none := by rw [spN, h]
theorem spN_spec {c : List Ps → Bool} {L : List (List Ps)} (hL : L.Pairwise fun a b => less (ids a) (ids b) = true) : ∀ k, k ≤ L.length →
    (spN c L k = none → ∀ i s, i < k → L[i]? = some s → c s = false) ∧
    (∀ b, spN c L k = some b → ∃ j, j < k ∧ L[j]? = some b ∧ c b = true ∧ ∀ i s, i < k → L[i]? = some s → c s = true → bet (ids s) (ids b) = false)
  | 0, _ => ⟨fun _ i s hi => by omega, fun b h => by simp [spN] at h⟩
  | k + 1, hk => by
    obtain ⟨i1, i2⟩ := spN_spec (c := c) hL k (by omega)
    obtain ⟨t, ht⟩ : ∃ t, L[k]? = some t := ⟨L[k], List.getElem?_eq_getElem (by omega)⟩
    rw [spN_at ht]
    have hin : ∀ i s, i < k + 1 → L[i]? = some s → i < k ∨ s = t := by
      intro i s hi hs
      by_cases e : i = k
      · subst e; rw [ht] at hs; exact .inr (by simpa using hs.symm)
      · exact .inl (by omega)
    cases e : spN c L k with
    | none =>
      simp only
      have j1 := i1 e
      by_cases q : c t = true
      · rw [if_pos q]
        refine ⟨by simp, fun b hb => ?_⟩
        obtain rfl : t = b := by simpa using hb
        refine ⟨k, by omega, ht, q, fun i s hi hs hc => ?_⟩
        rcases hin i s hi hs with h | rfl
        · rw [j1 i s h hs] at hc; simp at hc
        · exact bet_irr _
      · rw [if_neg q]
        refine ⟨fun _ i s hi hs => ?_, by simp⟩
        rcases hin i s hi hs with h | rfl
        · exact j1 i s h hs
        · simpa using q
    | some b =>
      simp only
      obtain ⟨j, hj, hjb, hcb, hmin⟩ := i2 b e
      have hlt : less (ids b) (ids t) = true := by
        rw [List.pairwise_iff_getElem] at hL
        have hjl : j < L.length := by omega
        have := hL j k hjl (by omega) hj
        rw [List.getElem?_eq_getElem hjl] at hjb
        rw [List.getElem?_eq_getElem (by omega)] at ht
        simp only [Option.some.injEq] at hjb ht
        rw [hjb, ht] at this
        exact this
      by_cases q1 : b.length ≤ t.length
      · rw [if_pos q1]
        refine ⟨by simp, fun b' hb => ?_⟩
        obtain rfl : b = b' := by simpa using hb
        refine ⟨j, by omega, hjb, hcb, fun i s hi hs hc => ?_⟩
        rcases hin i s hi hs with h | rfl
        · exact hmin i s h hs hc
        · unfold bet
          rw [ids_len, ids_len, less_asym _ _ hlt]
          simp; omega
      · rw [if_neg q1]
        by_cases q2 : c t = true
        · rw [if_pos q2]
          refine ⟨by simp, fun b' hb => ?_⟩
          obtain rfl : t = b' := by simpa using hb
          refine ⟨k, by omega, ht, q2, fun i s hi hs hc => ?_⟩
          rcases hin i s hi hs with h | rfl
          · have := hmin i s h hs hc
            unfold bet at this ⊢
            rw [Bool.or_eq_false_iff, ids_len, ids_len] at this
            have h1 : ¬ s.length < b.length := by simpa using this.1
            rw [ids_len, ids_len]
            simp; omega
          · exact bet_irr _
        · rw [if_neg q2]
          refine ⟨by simp, fun b' hb => ?_⟩
          obtain rfl : b = b' := by simpa using hb
          refine ⟨j, by omega, hjb, hcb, fun i s hi hs hc => ?_⟩
          rcases hin i s hi hs with h | rfl
          · exact hmin i s h hs hc
          · rw [hc] at q2; simp at q2
theorem spN_none {c : List Ps → Bool} {L : List (List Ps)} (hL : L.Pairwise fun a b => less (ids a) (ids b) = true) (h : spN c L L.length = none) : ∀ s ∈ L, c s = false := by
  intro s hs
  obtain ⟨i, hi⟩ := List.getElem?_of_mem hs
  exact (spN_spec hL _ (Nat.le_refl _)).1 h i s (List.getElem?_eq_some_iff.1 hi).1 hi
theorem spN_some {c : List Ps → Bool} {L : List (List Ps)} (hL : L.Pairwise fun a b => less (ids a) (ids b) = true) {b : List Ps} (h : spN c L L.length = some b) : b ∈ L ∧ c b = true ∧ ∀ s ∈ L, c s = true → bet (ids s) (ids b) = false := by
  obtain ⟨j, hj, hb, hc, hm⟩ := (spN_spec hL _ (Nat.le_refl _)).2 b h
  refine ⟨List.mem_of_getElem? hb, hc, fun s hs => ?_⟩
  obtain ⟨i, hi⟩ := List.getElem?_of_mem hs
  exact hm i s (List.getElem?_eq_some_iff.1 hi).1 hi
/-- the model's choice and the program's are the same -/
theorem small_is {ts : List Ps} (h : Asc ts) (c : List Ps → Bool) :
    ((selI bet (fun j => teamS (pick j ts) && c (pick j ts)) (fun j => ids (pick j ts)) (2 ^ ts.length)).map fun j => ids (pick j ts)) = (spN c (teams ts) (teams ts).length).map ids := by
  have hA := teams_asc h
  cases e : selI bet (fun j => teamS (pick j ts) && c (pick j ts)) (fun j => ids (pick j ts)) (2 ^ ts.length) with
  | none =>
    have h1 := selI_none e
    cases e2 : spN c (teams ts) (teams ts).length with
    | none => rfl
    | some b =>
      obtain ⟨q1, q2, -⟩ := spN_some hA e2
      obtain ⟨q3, q4⟩ := mem_teams.1 q1
      obtain ⟨j, hj, rfl⟩ := mem_pick.2 q3
      have := h1 j hj
      simp only [q4, q2] at this
      simp at this
  | some k =>
    obtain ⟨k1, k2, k3⟩ := selI_some bet_irr bet_trans e
    rw [Bool.and_eq_true] at k2
    have kin : pick k ts ∈ teams ts := mem_teams.2 ⟨pick_sub k ts, k2.1⟩
    cases e2 : spN c (teams ts) (teams ts).length with
    | none =>
      have := spN_none hA e2 _ kin
      rw [this] at k2; simp at k2
    | some b =>
      obtain ⟨q1, q2, q3⟩ := spN_some hA e2
      obtain ⟨q4, q5⟩ := mem_teams.1 q1
      obtain ⟨j, hj, rfl⟩ := mem_pick.2 q4
      have r1 := q3 _ kin k2.2
      have r2 := k3 j hj (by rw [Bool.and_eq_true]; exact ⟨q5, q2⟩)
      simp only [Option.map_some]
      rw [bet_tri r1 r2]
end Go.Proofs.Ytidofckanadkpaa.pt
