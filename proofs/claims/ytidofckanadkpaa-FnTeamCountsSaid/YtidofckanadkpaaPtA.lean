/-
  People by their Ids: skills, trips, teams of them.
  Conditions: none but those that a theorem names.
-/
import Derived.Test.YtidofckanadkpaaPsP
namespace Go.Proofs.Ytidofckanadkpaa.pt
open Go.RowKit
open reads base inn ty psf psk psl psm psn pso ris
set_option linter.unusedVariables false
set_option linter.unusedSimpArgs false

/-- Ids of people -/
def ids (s : List Ps) : List Int := s.map (·.id)
theorem ids_len (s : List Ps) : (ids s).length = s.length := by simp [ids]
/-- people in strictly ascending order of Id -/
def Asc (ts : List Ps) : Prop := ts.Pairwise (fun a b => a.id < b.id)
theorem Asc.sub {s ts : List Ps} (h : Asc ts) (hs : s.Sublist ts) : Asc s := List.Pairwise.sublist hs h
theorem asc_ids {ts : List Ps} (h : Asc ts) : (ids ts).Pairwise (· < ·) := by unfold ids; rw [List.pairwise_map]; exact h
theorem asc_inj {ts : List Ps} (h : Asc ts) {a b : Ps} (ha : a ∈ ts) (hb : b ∈ ts) (e : a.id = b.id) : a = b := by
  induction ts with
  | nil => simp at ha
  | cons t ts ih =>
    unfold Asc at h
    rw [List.pairwise_cons] at h
    rcases List.mem_cons.1 ha with rfl | ha'
    · rcases List.mem_cons.1 hb with rfl | hb'
      · rfl
      · have := h.1 b hb'; omega
    · rcases List.mem_cons.1 hb with rfl | hb'
      · have := h.1 a ha'; omega
      · exact ih h.2 ha' hb'
theorem ids_inj {ts : List Ps} (h : Asc ts) : ∀ {a b : List Ps}, (∀ x ∈ a, x ∈ ts) → (∀ x ∈ b, x ∈ ts) → ids a = ids b → a = b
  | [], [], _, _, _ => rfl
  | [], b :: l2, _, _, e => by simp [ids] at e
  | a :: l1, [], _, _, e => by simp [ids] at e
  | a :: l1, b :: l2, ha, hb, e => by
    simp only [ids, List.map_cons, List.cons.injEq] at e
    have e1 := asc_inj h (ha a (by simp)) (hb b (by simp)) e.1
    have e2 := ids_inj h (a := l1) (b := l2) (fun x hx => ha x (by simp [hx])) (fun x hx => hb x (by simp [hx])) e.2
    rw [e1, e2]
/-- whoever is in the list is found -/
theorem find_mem {ts : List Ps} (h : Asc ts) {t : Ps} (ht : t ∈ ts) : has ts t.id = true ∧ who ts t.id = some t := by
  have hh : has ts t.id = true := by
    unfold has
    rcases find_lt ts t.id with e | ⟨e, -⟩
    · exact absurd rfl ((find_none ts t.id).1 e t ht)
    · simpa using e
  obtain ⟨j, u, -, -, hu, hi, hw⟩ := who_some hh
  have : u = t := asc_inj h (List.mem_of_getElem? hu) ht hi
  exact ⟨hh, by rw [hw, this]⟩
theorem has_mem {ts : List Ps} {x : Int} (h : has ts x = true) : x ∈ ids ts := by
  obtain ⟨j, u, -, -, hu, hi, -⟩ := who_some h
  exact List.mem_map.2 ⟨u, List.mem_of_getElem? hu, hi⟩
theorem mem_has {ts : List Ps} (h : Asc ts) {x : Int} (hx : x ∈ ids ts) : has ts x = true := by
  obtain ⟨t, ht, rfl⟩ := List.mem_map.1 hx
  exact (find_mem h ht).1
/-- the skills of some people together -/
def orS (s : List Ps) : Int := s.foldl (fun z t => orI z t.skills) 0
def trS (s : List Ps) : Int := s.foldl (fun z t => z + t.trips) 0
def abS (s : List Ps) : Int := s.foldl (fun z t => if and3 t.skills = 0 then z else z + 1) 0
theorem at_ids (s : List Ps) (k : Nat) : (ids s)[k]? = s[k]?.map (·.id) := by simp [ids]
theorem skN_is {ts s : List Ps} (h : Asc ts) (hs : ∀ x ∈ s, x ∈ ts) : ∀ k, k ≤ s.length → skN ts (ids s) k = orS (s.take k)
  | 0, _ => by simp [skN, orS]
  | k + 1, hk => by
    obtain ⟨t, ht⟩ : ∃ t, s[k]? = some t := ⟨s[k], List.getElem?_eq_getElem (by omega)⟩
    rw [take_snoc ht, skN, at_ids, ht]
    simp only [Option.map_some, Option.bind_some, (find_mem h (hs t (List.mem_of_getElem? ht))).2, skN_is h hs k (by omega)]
    simp [orS]
theorem trN_is {ts s : List Ps} (h : Asc ts) (hs : ∀ x ∈ s, x ∈ ts) : ∀ k, k ≤ s.length → trN ts (ids s) k = trS (s.take k)
  | 0, _ => by simp [trN, trS]
  | k + 1, hk => by
    obtain ⟨t, ht⟩ : ∃ t, s[k]? = some t := ⟨s[k], List.getElem?_eq_getElem (by omega)⟩
    rw [take_snoc ht, trN, at_ids, ht]
    simp only [Option.map_some, Option.bind_some, (find_mem h (hs t (List.mem_of_getElem? ht))).2, trN_is h hs k (by omega)]
    simp [trS]
theorem abN_is {ts s : List Ps} (h : Asc ts) (hs : ∀ x ∈ s, x ∈ ts) : ∀ k, k ≤ s.length → abN ts (ids s) k = abS (s.take k)
  | 0, _ => by simp [abN, abS]
  | k + 1, hk => by
    obtain ⟨t, ht⟩ : ∃ t, s[k]? = some t := ⟨s[k], List.getElem?_eq_getElem (by omega)⟩
    rw [take_snoc ht, abN, at_ids, ht]
    simp only [Option.map_some, Option.bind_some, (find_mem h (hs t (List.mem_of_getElem? ht))).2, abN_is h hs k (by omega)]
    simp [abS]
theorem skN_all {ts s : List Ps} (h : Asc ts) (hs : ∀ x ∈ s, x ∈ ts) : skN ts (ids s) (ids s).length = orS s := by
  rw [ids_len, skN_is h hs _ (Nat.le_refl _), List.take_length]
theorem trN_all {ts s : List Ps} (h : Asc ts) (hs : ∀ x ∈ s, x ∈ ts) : trN ts (ids s) (ids s).length = trS s := by
  rw [ids_len, trN_is h hs _ (Nat.le_refl _), List.take_length]
theorem abN_all {ts s : List Ps} (h : Asc ts) (hs : ∀ x ∈ s, x ∈ ts) : abN ts (ids s) (ids s).length = abS s := by
  rw [ids_len, abN_is h hs _ (Nat.le_refl _), List.take_length]
/-- people who are a team -/
def teamS (s : List Ps) : Bool := btw 2 s.length 5 && decide (and3 (orS s) = 3) && decide (2 ≤ abS s)
theorem team_is {ts s : List Ps} (h : Asc ts) (hs : ∀ x ∈ s, x ∈ ts) : team ts (ids s) = teamS s := by
  unfold team teamS
  rw [skN_all h hs, abN_all h hs, ids_len]
/-- the book, the tape -/
def bk (t : Ps) : Bool := andI t.skills 1 == 1
def tp (t : Ps) : Bool := andI t.skills 2 == 2
def ei (t : Ps) : Bool := bk t || tp t
def nb (s : List Ps) : Nat := s.countP bk
def nt (s : List Ps) : Nat := s.countP tp
def ne (s : List Ps) : Nat := s.countP ei
/-- how many pairs -/
def prs (s : List Ps) : Nat := min (min (nb s) (nt s)) (ne s / 2)
def okS (s : List Ps) : Prop := ∀ t ∈ s, 0 ≤ t.skills ∧ t.skills ≤ 15
theorem bits1 : ∀ a : Fin 16, ((a.val &&& 3 = 0) ↔ ¬ (a.val &&& 1 = 1) ∧ ¬ (a.val &&& 2 = 2)) := by decide
theorem bits2 : ∀ a b : Fin 16, ((a.val ||| b.val) &&& 1 = 1 ↔ (a.val &&& 1 = 1 ∨ b.val &&& 1 = 1)) ∧ ((a.val ||| b.val) &&& 2 = 2 ↔ (a.val &&& 2 = 2 ∨ b.val &&& 2 = 2)) := by decide
theorem bits3 : ∀ a : Fin 16, (a.val &&& 3 = 3) ↔ (a.val &&& 1 = 1 ∧ a.val &&& 2 = 2) := by decide
theorem andI_nat (a b : Nat) : andI (a : Int) (b : Int) = ((a &&& b : Nat) : Int) := by simp [andI]
theorem nat_of {x : Int} (h : 0 ≤ x ∧ x ≤ 15) : ∃ a : Fin 16, x = (a.val : Int) := ⟨⟨x.toNat, by omega⟩, by simp; omega⟩
theorem and3_zero {t : Ps} (h : 0 ≤ t.skills ∧ t.skills ≤ 15) : and3 t.skills = 0 ↔ ei t = false := by
  obtain ⟨a, ha⟩ := nat_of h
  have e1 : andI t.skills 1 = ((a.val &&& 1 : Nat) : Int) := by rw [ha]; exact andI_nat a.val 1
  have e2 : andI t.skills 2 = ((a.val &&& 2 : Nat) : Int) := by rw [ha]; exact andI_nat a.val 2
  have e3 : and3 t.skills = ((a.val &&& 3 : Nat) : Int) := by rw [ha]; simp [and3]
  have := bits1 a
  unfold ei bk tp
  rw [e1, e2, e3, Bool.or_eq_false_iff, beq_eq_false_iff_ne, beq_eq_false_iff_ne]
  constructor
  · intro q; have := this.1 (by omega); omega
  · rintro ⟨q1, q2⟩; have := this.2 ⟨by omega, by omega⟩; omega
theorem abS_is {s : List Ps} (h : okS s) : abS s = (ne s : Int) := by
  have gen : ∀ (s : List Ps) (z : Int), okS s → s.foldl (fun z t => if and3 t.skills = 0 then z else z + 1) z = z + (ne s : Int) := by
    intro s
    induction s with
    | nil => intro z _; simp [ne]
    | cons t s ih =>
      intro z h
      have h0 := and3_zero (h t (by simp))
      rw [List.foldl_cons, ih _ (fun x hx => h x (by simp [hx]))]
      unfold ne
      rw [List.countP_cons]
      cases e : ei t
      · rw [if_pos (h0.2 e)]; simp
      · rw [if_neg (fun q => by rw [h0.1 q] at e; simp at e)]; simp; omega
  have := gen s 0 h
  unfold abS
  rw [this]; omega
/-- what a sum of skills together with others has -/
theorem orS_has : ∀ (s : List Ps) (z : Int), okS s → 0 ≤ z ∧ z ≤ 15 →
    (0 ≤ s.foldl (fun z t => orI z t.skills) z ∧ s.foldl (fun z t => orI z t.skills) z ≤ 15) ∧
    (and3 (s.foldl (fun z t => orI z t.skills) z) = 3 ↔ (andI z 1 = 1 ∨ 0 < nb s) ∧ (andI z 2 = 2 ∨ 0 < nt s)) := by
  intro s
  induction s with
  | nil =>
    intro z _ hz
    refine ⟨hz, ?_⟩
    obtain ⟨a, rfl⟩ := nat_of hz
    have := bits3 a
    have e1 : andI (a.val : Int) 1 = ((a.val &&& 1 : Nat) : Int) := andI_nat a.val 1
    have e2 : andI (a.val : Int) 2 = ((a.val &&& 2 : Nat) : Int) := andI_nat a.val 2
    have e3 : and3 (a.val : Int) = ((a.val &&& 3 : Nat) : Int) := by simp [and3]
    simp only [List.foldl_nil, nb, nt, List.countP_nil]
    rw [e1, e2, e3]
    omega
  | cons t s ih =>
    intro z h hz
    have ht := h t (by simp)
    have hb := orI_bd hz ht
    obtain ⟨i1, i2⟩ := ih (orI z t.skills) (fun x hx => h x (by simp [hx])) hb
    rw [List.foldl_cons]
    refine ⟨i1, i2.trans ?_⟩
    obtain ⟨a, ha⟩ := nat_of hz
    obtain ⟨b, hb'⟩ := nat_of ht
    obtain ⟨c1, c2⟩ := bits2 a b
    have o : orI z t.skills = ((a.val ||| b.val : Nat) : Int) := by rw [ha, hb']; simp [orI]
    have f1 : andI (orI z t.skills) 1 = (((a.val ||| b.val) &&& 1 : Nat) : Int) := by rw [o]; exact andI_nat _ 1
    have f2 : andI (orI z t.skills) 2 = (((a.val ||| b.val) &&& 2 : Nat) : Int) := by rw [o]; exact andI_nat _ 2
    have g1 : andI z 1 = ((a.val &&& 1 : Nat) : Int) := by rw [ha]; exact andI_nat _ 1
    have g2 : andI z 2 = ((a.val &&& 2 : Nat) : Int) := by rw [ha]; exact andI_nat _ 2
    have k1 : andI t.skills 1 = ((b.val &&& 1 : Nat) : Int) := by rw [hb']; exact andI_nat _ 1
    have k2 : andI t.skills 2 = ((b.val &&& 2 : Nat) : Int) := by rw [hb']; exact andI_nat _ 2
    have m1 : nb (t :: s) = nb s + if (b.val &&& 1) = 1 then 1 else 0 := by
      unfold nb; rw [List.countP_cons]; congr 1; unfold bk; rw [k1]
      by_cases q : (b.val &&& 1) = 1
      · simp [q]
      · rw [if_neg q, if_neg]; rw [beq_iff_eq]; omega
    have m2 : nt (t :: s) = nt s + if (b.val &&& 2) = 2 then 1 else 0 := by
      unfold nt; rw [List.countP_cons]; congr 1; unfold tp; rw [k2]
      by_cases q : (b.val &&& 2) = 2
      · simp [q]
      · rw [if_neg q, if_neg]; rw [beq_iff_eq]; omega
    rw [f1, f2, g1, g2, m1, m2]
    constructor
    · rintro ⟨p1, p2⟩
      refine ⟨?_, ?_⟩
      · rcases p1 with p | p
        · rcases c1.1 (by omega) with q | q
          · exact .inl (by omega)
          · exact .inr (by rw [if_pos q]; omega)
        · exact .inr (by omega)
      · rcases p2 with p | p
        · rcases c2.1 (by omega) with q | q
          · exact .inl (by omega)
          · exact .inr (by rw [if_pos q]; omega)
        · exact .inr (by omega)
    · rintro ⟨p1, p2⟩
      refine ⟨?_, ?_⟩
      · by_cases q : (b.val &&& 1) = 1
        · exact .inl (by have := c1.2 (.inr q); omega)
        · rw [if_neg q] at p1
          rcases p1 with p | p
          · exact .inl (by have := c1.2 (.inl (by omega)); omega)
          · exact .inr (by omega)
      · by_cases q : (b.val &&& 2) = 2
        · exact .inl (by have := c2.2 (.inr q); omega)
        · rw [if_neg q] at p2
          rcases p2 with p | p
          · exact .inl (by have := c2.2 (.inl (by omega)); omega)
          · exact .inr (by omega)
theorem orS_bd {s : List Ps} (h : okS s) : 0 ≤ orS s ∧ orS s ≤ 15 := (orS_has s 0 h (by omega)).1
theorem orS_three {s : List Ps} (h : okS s) : and3 (orS s) = 3 ↔ 0 < nb s ∧ 0 < nt s := by
  have := (orS_has s 0 h (by omega)).2
  unfold orS
  rw [this]
  have e1 : andI 0 1 = 0 := by decide
  have e2 : andI 0 2 = 0 := by decide
  rw [e1, e2]
  omega
/-- the program's test for a team -/
theorem teamS_is {s : List Ps} (h : okS s) : teamS s = (btw 2 s.length 5 && decide (0 < prs s)) := by
  unfold teamS
  rw [abS_is h]
  have e := orS_three h
  rw [Bool.and_assoc]
  congr 1
  rw [Bool.eq_iff_iff, Bool.and_eq_true, decide_eq_true_eq, decide_eq_true_eq, decide_eq_true_eq, e]
  unfold prs
  omega
end Go.Proofs.Ytidofckanadkpaa.pt
