/-
  Splitting people into teams: the same by sets and by lists.
  Conditions: none but those that a theorem names.
-/
import Derived.Test.YtidofckanadkpaaPtD
namespace Go.Proofs.Ytidofckanadkpaa.pt
open Go.RowKit
open reads base inn ty psf psk psl psm psn pso ris
set_option linter.unusedVariables false
set_option linter.unusedSimpArgs false

/-- the same person -/
def eqP (a b : Ps) : Bool := a.id == b.id && (a.name.toList == b.name.toList && (a.skills == b.skills && a.trips == b.trips))
theorem eqP_refl (a : Ps) : eqP a a = true := by simp [eqP]
/-- among some people -/
def inP (s : List Ps) (x : Ps) : Bool := s.any fun u => eqP u x
/-- those who are not among some others -/
def wo (r s : List Ps) : List Ps := r.filter fun x => !inP s x
theorem inP_is {ts : List Ps} (h : Asc ts) {s : List Ps} (hs : ∀ u ∈ s, u ∈ ts) {x : Ps} (hx : x ∈ ts) : inP s x = true ↔ x ∈ s := by
  unfold inP
  rw [List.any_eq_true]
  constructor
  · rintro ⟨u, hu, e⟩
    unfold eqP at e
    simp only [Bool.and_eq_true, beq_iff_eq] at e
    rw [← asc_inj h (hs u hu) hx e.1]; exact hu
  · intro q; exact ⟨x, q, eqP_refl x⟩
theorem inP_ids {ts : List Ps} (h : Asc ts) {s : List Ps} (hs : ∀ u ∈ s, u ∈ ts) {x : Ps} (hx : x ∈ ts) : inP s x = true ↔ x.id ∈ ids s := by
  rw [inP_is h hs hx]
  constructor
  · intro q; exact List.mem_map.2 ⟨x, q, rfl⟩
  · intro q
    obtain ⟨u, hu, e⟩ := List.mem_map.1 q
    rw [← asc_inj h (hs u hu) hx e]; exact hu
theorem wo_congr {r s s' : List Ps} (h : ∀ x ∈ r, inP s x = true ↔ inP s' x = true) : wo r s = wo r s' := by
  unfold wo
  apply List.filter_congr
  intro x hx
  have := h x hx
  cases a : inP s x <;> cases b : inP s' x <;> simp [a, b] at this ⊢
/-- a set within another one -/
theorem sub_bits {s l : Nat} (h : s &&& l = s) : (s / 2) &&& (l / 2) = s / 2 ∧ (s % 2 = 1 → l % 2 = 1) := by
  constructor
  · rw [← Nat.and_div_two, h]
  · intro e
    have h2 : (s &&& l) % 2 = 1 := by rw [h]; exact e
    rw [Nat.and_mod_two_eq_one] at h2
    exact h2.2
theorem bits_sub {s l : Nat} (h : (s / 2) &&& (l / 2) = s / 2) (h' : s % 2 = 1 → l % 2 = 1) : s &&& l = s := by
  have h1 : (s &&& l) / 2 = s / 2 := by rw [Nat.and_div_two, h]
  have h2 : (s &&& l) % 2 = s % 2 := by
    rcases Nat.mod_two_eq_zero_or_one s with e | e
    · rcases Nat.mod_two_eq_zero_or_one (s &&& l) with q | q
      · omega
      · have := (Nat.and_mod_two_eq_one.1 q).1; omega
    · rw [e, Nat.and_mod_two_eq_one]; exact ⟨e, h' e⟩
  omega
theorem sub_le {s l : Nat} (h : s &&& l = s) : s ≤ l := by rw [← h]; exact Nat.and_le_right
/-- sets within a set are the sublists of its people -/
theorem pick_in : ∀ (ts : List Ps) (s l : Nat), s &&& l = s → (pick s ts).Sublist (pick l ts)
  | [], _, _, _ => List.Sublist.refl _
  | t :: ts, s, l, h => by
    obtain ⟨h1, h2⟩ := sub_bits h
    have ih := pick_in ts _ _ h1
    rw [pick, pick]
    by_cases e : s % 2 = 1
    · rw [if_pos e, if_pos (h2 e)]; exact ih.cons_cons t
    · rw [if_neg e]; split
      · exact ih.cons t
      · exact ih
theorem in_pick : ∀ (ts : List Ps) (l : Nat) (r : List Ps), r.Sublist (pick l ts) → ∃ s, s &&& l = s ∧ s < 2 ^ ts.length ∧ pick s ts = r
  | [], l, r, h => ⟨0, by simp, by simp, by rw [pick] at h ⊢; exact (List.sublist_nil.1 h).symm⟩
  | t :: ts, l, r, h => by
    rw [pick] at h
    rw [List.length_cons, Nat.pow_succ]
    by_cases e : l % 2 = 1
    · rw [if_pos e] at h
      cases h with
      | cons _ q =>
        obtain ⟨s, h1, h2, h3⟩ := in_pick ts (l / 2) r q
        exact ⟨2 * s, bits_sub (by rw [Nat.mul_div_cancel_left _ (by omega)]; exact h1) (by omega), by omega, by rw [pick, if_neg (by omega), Nat.mul_div_cancel_left _ (by omega)]; exact h3⟩
      | @cons_cons r' _ _ q =>
        obtain ⟨s, h1, h2, h3⟩ := in_pick ts (l / 2) r' q
        exact ⟨2 * s + 1, bits_sub (by rw [show (2 * s + 1) / 2 = s by omega]; exact h1) (fun _ => e), by omega, by rw [pick, if_pos (by omega), show (2 * s + 1) / 2 = s by omega, h3]⟩
    · rw [if_neg e] at h
      obtain ⟨s, h1, h2, h3⟩ := in_pick ts (l / 2) r h
      exact ⟨2 * s, bits_sub (by rw [Nat.mul_div_cancel_left _ (by omega)]; exact h1) (by omega), by omega, by rw [pick, if_neg (by omega), Nat.mul_div_cancel_left _ (by omega)]; exact h3⟩
theorem pick_zero : ∀ ts : List Ps, pick 0 ts = []
  | [] => rfl
  | t :: ts => by rw [pick, if_neg (by omega)]; exact pick_zero ts
theorem pick_full : ∀ ts : List Ps, pick (2 ^ ts.length - 1) ts = ts
  | [] => rfl
  | t :: ts => by
    have hp : 0 < 2 ^ ts.length := Nat.pow_pos (by omega)
    rw [List.length_cons, Nat.pow_succ, pick, if_pos (by omega), show (2 ^ ts.length * 2 - 1) / 2 = 2 ^ ts.length - 1 by omega, pick_full ts]
theorem mem_of_pick {s : Nat} {ts : List Ps} {x : Ps} (h : x ∈ pick s ts) : x ∈ ts := (pick_sub s ts).subset h
/-- the rest behind a set was taken out -/
theorem pick_diff : ∀ (ts : List Ps) (s l : Nat), Asc ts → s &&& l = s → pick (l - s) ts = wo (pick l ts) (pick s ts)
  | [], _, _, _, _ => rfl
  | t :: ts, s, l, ha, h => by
    have ha' := ha
    unfold Asc at ha
    rw [List.pairwise_cons] at ha
    obtain ⟨h1, h2⟩ := sub_bits h
    have hle := sub_le h
    have hle2 := sub_le h1
    have ih := pick_diff ts (s / 2) (l / 2) ha.2 h1
    have ed : (l - s) / 2 = l / 2 - s / 2 := by
      rcases Nat.mod_two_eq_zero_or_one s with e | e <;> rcases Nat.mod_two_eq_zero_or_one l with q | q <;> first | omega | (have := h2 e; omega)
    have hlt : ∀ u, u ∈ pick (s / 2) ts → eqP u t = false := fun u hu => by
      have := ha.1 u (mem_of_pick hu)
      unfold eqP
      have : (u.id == t.id) = false := by rw [beq_eq_false_iff_ne]; omega
      rw [this]; rfl
    have hgt : ∀ x, x ∈ pick (l / 2) ts → eqP t x = false := fun x hx => by
      have := ha.1 x (mem_of_pick hx)
      unfold eqP
      have : (t.id == x.id) = false := by rw [beq_eq_false_iff_ne]; omega
      rw [this]; rfl
    have hc : wo (pick (l / 2) ts) (t :: pick (s / 2) ts) = wo (pick (l / 2) ts) (pick (s / 2) ts) := wo_congr fun x hx => by
      unfold inP; rw [List.any_cons, hgt x hx, Bool.false_or]
    have hn : inP (pick (s / 2) ts) t = false := by
      unfold inP; rw [List.any_eq_false]; intro u hu; rw [hlt u hu]; simp
    rw [pick, pick, pick, ed, ih]
    by_cases e : s % 2 = 1
    · have q := h2 e
      rw [if_pos e, if_pos q, if_neg (by omega)]
      rw [← hc]
      unfold wo
      rw [List.filter_cons, if_neg]
      unfold inP; rw [List.any_cons, eqP_refl]; simp
    · rw [if_neg e]
      by_cases q : l % 2 = 1
      · rw [if_pos q, if_pos (by omega)]
        unfold wo
        rw [List.filter_cons, if_pos]
        rw [hn]; rfl
      · rw [if_neg q, if_neg (by omega)]
/-- the model's count of pairs, 3 at most -/
def most (b t c : Nat) : Nat := min 3 (min b t + min (max b t - min b t) c + (c - min (max b t - min b t) c) / 2)
theorem most_is (b t c : Nat) : most b t c = min 3 (min (min (b + c) (t + c)) ((b + t + c) / 2)) := by unfold most; omega
def ob (t : Ps) : Bool := bk t && !tp t
def ot (t : Ps) : Bool := tp t && !bk t
def bo (t : Ps) : Bool := bk t && tp t
theorem nb_is (s : List Ps) : nb s = s.countP ob + s.countP bo := by
  induction s with
  | nil => rfl
  | cons t s ih =>
    unfold nb at *
    simp only [List.countP_cons, ih, ob, bo]
    rcases Bool.eq_false_or_eq_true (bk t) with h1 | h1 <;> rcases Bool.eq_false_or_eq_true (tp t) with h2 | h2 <;> simp [h1, h2] <;> omega
theorem nt_is (s : List Ps) : nt s = s.countP ot + s.countP bo := by
  induction s with
  | nil => rfl
  | cons t s ih =>
    unfold nt at *
    simp only [List.countP_cons, ih, ot, bo]
    rcases Bool.eq_false_or_eq_true (bk t) with h1 | h1 <;> rcases Bool.eq_false_or_eq_true (tp t) with h2 | h2 <;> simp [h1, h2] <;> omega
theorem ne_is (s : List Ps) : ne s = s.countP ob + s.countP ot + s.countP bo := by
  induction s with
  | nil => rfl
  | cons t s ih =>
    unfold ne at *
    simp only [List.countP_cons, ih, ob, ot, bo, ei]
    rcases Bool.eq_false_or_eq_true (bk t) with h1 | h1 <;> rcases Bool.eq_false_or_eq_true (tp t) with h2 | h2 <;> simp [h1, h2] <;> omega
def mostS (s : List Ps) : Nat := most (s.countP ob) (s.countP ot) (s.countP bo)
theorem mostS_is (s : List Ps) : mostS s = min 3 (prs s) := by
  unfold mostS prs
  rw [most_is, nb_is, nt_is, ne_is]
/-- the first team beside which some more are possible -/
def first (r : List Ps) (n : Nat) : List Ps := ((teams r).find? fun s => decide (n ≤ prs (wo r s))).getD []
theorem first_some {r : List Ps} (h : Asc r) {n : Nat} {b : List Ps} (hf : (teams r).find? (fun s => decide (n ≤ prs (wo r s))) = some b) :
    b ∈ teams r ∧ n ≤ prs (wo r b) ∧ ∀ s ∈ teams r, n ≤ prs (wo r s) → less (ids s) (ids b) = false := by
  have hA := teams_asc h
  rw [List.find?_eq_some_iff_append] at hf
  obtain ⟨hp, l1, l2, he, hno⟩ := hf
  refine ⟨by rw [he]; simp, by simpa using hp, fun s hs hq => ?_⟩
  rw [he] at hs hA
  rcases List.mem_append.1 hs with q | q
  · have := hno s q
    simp at this
    omega
  · rcases List.mem_cons.1 q with rfl | q
    · exact less_irr _
    · rw [List.pairwise_append] at hA
      exact less_asym _ _ ((List.pairwise_cons.1 hA.2.1).1 s q)
/-- the model's candidates -/
def cnd (ts : List Ps) (l n : Nat) (j : Nat) : Bool := decide (j &&& l = j) && (teamS (pick j ts) && decide (n ≤ mostS (pick (l - j) ts)))
/-- the model's choice is the program's -/
theorem first_is {ts : List Ps} (h : Asc ts) (l n : Nat) (hn : n ≤ 3) :
    (match selI less (cnd ts l n) (fun j => ids (pick j ts)) (l + 1) with
     | none => first (pick l ts) n = []
     | some j => ids (pick j ts) = ids (first (pick l ts) n) ∧ j &&& l = j ∧ pick (l - j) ts = wo (pick l ts) (first (pick l ts) n) ∧ 1 ≤ j ∧ teamS (pick j ts) = true) := by
  have hr : Asc (pick l ts) := h.sub (pick_sub l ts)
  have hcd : ∀ j, j &&& l = j → (n ≤ mostS (pick (l - j) ts) ↔ n ≤ prs (wo (pick l ts) (pick j ts))) := fun j hj => by
    rw [mostS_is, pick_diff ts j l h hj]; omega
  cases e : selI less (cnd ts l n) (fun j => ids (pick j ts)) (l + 1) with
  | none =>
    simp only
    have h1 := selI_none e
    unfold first
    cases e2 : (teams (pick l ts)).find? (fun s => decide (n ≤ prs (wo (pick l ts) s))) with
    | none => rfl
    | some b =>
      exfalso
      obtain ⟨b1, b2, -⟩ := first_some hr e2
      obtain ⟨b3, b4⟩ := mem_teams.1 b1
      obtain ⟨j, j1, j2, rfl⟩ := in_pick ts l b b3
      have := h1 j (by have := sub_le j1; omega)
      unfold cnd at this
      rw [b4] at this
      have q := (hcd j j1).2 b2
      simp [j1, q] at this
  | some k =>
    simp only
    obtain ⟨k1, k2, k3⟩ := selI_some less_irr less_trans e
    unfold cnd at k2
    simp only [Bool.and_eq_true, decide_eq_true_eq] at k2
    obtain ⟨c1, c2, c3⟩ := k2
    have kin : pick k ts ∈ teams (pick l ts) := mem_teams.2 ⟨pick_in ts k l c1, c2⟩
    have hk1 : 1 ≤ k := by
      rcases Nat.eq_zero_or_pos k with rfl | q
      · rw [pick_zero, teamS_nil] at c2; simp at c2
      · omega
    cases e2 : (teams (pick l ts)).find? (fun s => decide (n ≤ prs (wo (pick l ts) s))) with
    | none =>
      exfalso
      rw [List.find?_eq_none] at e2
      have := e2 _ kin
      have q := (hcd k c1).1 c3
      simp at this; omega
    | some b =>
      have ef : first (pick l ts) n = b := by unfold first; rw [e2]; rfl
      rw [ef]
      obtain ⟨b1, b2, b5⟩ := first_some hr e2
      obtain ⟨b3, b4⟩ := mem_teams.1 b1
      obtain ⟨j, j1, j2, rfl⟩ := in_pick ts l b b3
      have r1 := b5 _ kin ((hcd k c1).1 c3)
      have r2 := k3 j (by have := sub_le j1; omega) (by unfold cnd; simp only [Bool.and_eq_true, decide_eq_true_eq]; exact ⟨j1, b4, (hcd j j1).2 b2⟩)
      have r3 := less_tri _ _ r1 r2
      have r4 : pick k ts = pick j ts := ids_inj h (fun x hx => mem_of_pick hx) (fun x hx => mem_of_pick hx) r3
      exact ⟨r3, c1, by rw [pick_diff ts k l h c1, r4], hk1, c2⟩
/-- the model's answer -/
def msplit (ts : List Ps) : Nat → Nat → List (List Int)
  | 0, _ => []
  | n + 1, l => match selI less (cnd ts l n) (fun j => ids (pick j ts)) (l + 1) with
    | none => [] :: msplit ts n l
    | some j => ids (pick j ts) :: msplit ts n (l - j)
/-- the program's answer -/
def psplit : Nat → List Ps → List (List Ps)
  | 0, _ => []
  | n + 1, r => first r n :: psplit n (wo r (first r n))
theorem wo_nil (r : List Ps) : wo r [] = r := by unfold wo inP; simp
theorem split_is {ts : List Ps} (h : Asc ts) : ∀ n l, n ≤ 3 → l < 2 ^ ts.length → msplit ts n l = (psplit n (pick l ts)).map ids
  | 0, _, _, _ => rfl
  | n + 1, l, hn, hl => by
    have hf := first_is h l n (by omega)
    rw [msplit, psplit, List.map_cons]
    cases e : selI less (cnd ts l n) (fun j => ids (pick j ts)) (l + 1) with
    | none =>
      rw [e] at hf
      simp only at hf ⊢
      rw [hf, wo_nil, split_is h n l (by omega) hl]; rfl
    | some j =>
      rw [e] at hf
      simp only at hf ⊢
      obtain ⟨h1, h2, h3, -⟩ := hf
      rw [h1, ← h3, split_is h n (l - j) (by omega) (by omega)]
end Go.Proofs.Ytidofckanadkpaa.pt
