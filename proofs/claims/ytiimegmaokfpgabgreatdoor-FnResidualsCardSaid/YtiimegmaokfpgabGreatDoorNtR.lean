/-
  Stations and legs as marks; what holds when no leg places a station any more (pure mathematics).
  Conditions: none but those that a theorem names.
-/
import Derived.Test.YtiimegmaokfpgabGreatDoorNtA
import Derived.Test.YtiimegmaokfpgabGreatDoorHas
namespace Go.Proofs.YtiimegmaokfpgabGreatDoor.nt
open Go.RowKit
open reads base ty lg hs
set_option linter.unusedVariables false

/-- two ascending lists with the same members -/
theorem asc_ext : ∀ (l m : List Int), l.Pairwise (· < ·) → m.Pairwise (· < ·) → (∀ x, x ∈ l ↔ x ∈ m) → l = m
  | [], [], _, _, _ => rfl
  | [], b :: m, _, _, h => absurd ((h b).2 (List.mem_cons_self ..)) (by simp)
  | a :: l, [], _, _, h => absurd ((h a).1 (List.mem_cons_self ..)) (by simp)
  | a :: l, b :: m, hl, hm, h => by
    rw [List.pairwise_cons] at hl hm
    have e : a = b := by
      rcases List.mem_cons.1 ((h a).1 (List.mem_cons_self ..)) with q | q
      · exact q
      · rcases List.mem_cons.1 ((h b).2 (List.mem_cons_self ..)) with q2 | q2
        · exact q2.symm
        · have := hm.1 a q; have := hl.1 b q2; omega
    subst e
    congr 1
    refine asc_ext l m hl.2 hm.2 (fun x => ⟨fun hx => ?_, fun hx => ?_⟩)
    · rcases List.mem_cons.1 ((h x).1 (List.mem_cons_of_mem _ hx)) with q | q
      · have := hl.1 x hx; omega
      · exact q
    · rcases List.mem_cons.1 ((h x).2 (List.mem_cons_of_mem _ hx)) with q | q
      · have := hm.1 x hx; omega
      · exact q
/-- the numbers below n that a list of marks has -/
def mks (n : Nat) (l : List Int) : List Bool := (List.range n).map fun (q : Nat) => mem l (q : Int)
theorem mks_len (n : Nat) (l : List Int) : (mks n l).length = n := by simp [mks]
theorem mks_at {n q : Nat} (l : List Int) (h : q < n) : (mks n l)[q]? = some (mem l (q : Int)) := by simp [mks, h]
theorem mem_put_b (l : List Int) (a x : Int) : mem (put l a) x = (decide (x = a) || mem l x) := by
  rw [Bool.eq_iff_iff, mem_iff, mem_put, Bool.or_eq_true, decide_eq_true_eq, mem_iff]
theorem mks_put {n q : Nat} (l : List Int) (h : q < n) : (mks n l).set q true = mks n (put l (q : Int)) := by
  apply List.ext_getElem?
  intro i
  rcases Nat.lt_or_ge i n with hi | hi
  · rw [mks_at _ hi, mem_put_b]
    by_cases e : i = q
    · subst e; rw [List.getElem?_set_self (by rw [mks_len]; exact hi)]; simp
    · rw [List.getElem?_set_ne (fun k => e k.symm), mks_at _ hi, decide_eq_false (by omega), Bool.false_or]
  · rw [List.getElem?_eq_none (by rw [List.length_set, mks_len]; exact hi), List.getElem?_eq_none (by rw [mks_len]; exact hi)]
theorem mks_none (n : Nat) : mks n [] = List.replicate n false := by
  apply List.ext_getElem?
  intro i
  rcases Nat.lt_or_ge i n with hi | hi
  · rw [mks_at _ hi, List.getElem?_replicate, if_pos hi]; rfl
  · rw [List.getElem?_eq_none (by rw [mks_len]; exact hi), List.getElem?_eq_none (by simpa using hi)]
/-- the indices below k of the marks that are set -/
def tru (bs : List Bool) : Nat → List Int
  | 0 => []
  | k + 1 => match bs[k]? with
    | some true => tru bs k ++ [(k : Int)]
    | _ => tru bs k
theorem tru_yes {bs : List Bool} {k : Nat} (h : bs[k]? = some true) : tru bs (k + 1) = tru bs k ++ [(k : Int)] := by
  show (match bs[k]? with | some true => _ | _ => _) = _
  rw [h]
theorem tru_no {bs : List Bool} {k : Nat} (h : bs[k]? = some false) : tru bs (k + 1) = tru bs k := by
  show (match bs[k]? with | some true => _ | _ => _) = _
  rw [h]
theorem tru_len (bs : List Bool) : ∀ k, (tru bs k).length ≤ k
  | 0 => Nat.le_refl _
  | k + 1 => by
    have ih := tru_len bs k
    cases e : bs[k]? with
    | none => have : tru bs (k + 1) = tru bs k := by show (match bs[k]? with | some true => _ | _ => _) = _; rw [e]
              rw [this]; omega
    | some b => cases b
                · rw [tru_no e]; omega
                · rw [tru_yes e, List.length_append]; simp; omega
theorem tru_mem {n : Nat} {l : List Int} : ∀ k, k ≤ n → ∀ x, x ∈ tru (mks n l) k ↔ (x ∈ l ∧ 0 ≤ x ∧ x < k)
  | 0, _, x => by simp [tru]
  | k + 1, hk, x => by
    have ih := tru_mem (n := n) (l := l) k (by omega) x
    have e := mks_at l (show k < n by omega)
    cases h : mem l (k : Int)
    · rw [h] at e
      rw [tru_no e, ih]
      constructor
      · rintro ⟨a, b, c⟩; exact ⟨a, b, by omega⟩
      · rintro ⟨a, b, c⟩
        refine ⟨a, b, ?_⟩
        have : x ≠ k := by rintro rfl; rw [mem_iff.2 a] at h; cases h
        omega
    · rw [h] at e
      rw [tru_yes e, List.mem_append, ih, List.mem_singleton]
      constructor
      · rintro (⟨a, b, c⟩ | rfl)
        · exact ⟨a, b, by omega⟩
        · exact ⟨mem_iff.1 h, by omega, by omega⟩
      · rintro ⟨a, b, c⟩
        by_cases q : x = k
        · exact .inr q
        · exact .inl ⟨a, b, by omega⟩
theorem tru_asc {n : Nat} {l : List Int} : ∀ k, k ≤ n → (tru (mks n l) k).Pairwise (· < ·)
  | 0, _ => List.Pairwise.nil
  | k + 1, hk => by
    have ih := tru_asc (n := n) (l := l) k (by omega)
    have e := mks_at l (show k < n by omega)
    cases h : mem l (k : Int)
    · rw [h] at e; rw [tru_no e]; exact ih
    · rw [h] at e
      rw [tru_yes e, List.pairwise_append]
      refine ⟨ih, by simp, fun a ha b hb => ?_⟩
      have h1 := (tru_mem (n := n) (l := l) k (by omega) a).1 ha
      have h2 : b = k := by simpa using hb
      omega
/-- the marks of an ascending list are this list -/
theorem tru_all {n : Nat} {l : List Int} (ha : l.Pairwise (· < ·)) (hb : ∀ x ∈ l, 0 ≤ x ∧ x < n) : tru (mks n l) n = l :=
  asc_ext _ _ (tru_asc n (Nat.le_refl _)) ha (fun x => by
    rw [tru_mem (n := n) n (Nat.le_refl _)]
    exact ⟨fun h => h.1, fun h => ⟨h, hb x h⟩⟩)
theorem tru_ps {s : Net} (h : Ok s) : tru (mks 8 s.ps) 8 = s.ps := tru_all h.2.1 (fun x hx => by have := h.2.2.1 x hx; omega)
theorem tru_tr {s : Net} (h : Ok s) : tru (mks 12 s.tr) 12 = s.tr := tru_all h.2.2.2.1 (fun x hx => by have := h.2.2.2.2.1 x hx; omega)
/-- a leg by marks -/
theorem does_marks {x : Lg} {s : Net} {a b : Bool} (ha : mem s.ps x.frm = a) (hb : mem s.ps x.to_ = b) : does x s = (a != b) := by
  have e : ∀ y, decide (y ∈ s.ps) = mem s.ps y := fun y => by rw [Bool.eq_iff_iff, decide_eq_true_eq, mem_iff]
  unfold does
  rw [e, e, ha, hb]
  cases a <;> cases b <;> rfl
theorem leg1_fwd {x : Lg} {s : Net} {i : Nat} (ha : mem s.ps x.frm = true) (hb : mem s.ps x.to_ = false) : leg1 x i s = ⟨s.pl.set x.to_.toNat (add3 (at_ s.pl x.frm) (shf x)), put s.ps x.to_, put s.tr i⟩ := by
  unfold leg1
  rw [if_pos ⟨mem_iff.1 ha, fun h => by rw [mem_iff.2 h] at hb; cases hb⟩]
theorem leg1_bwd {x : Lg} {s : Net} {i : Nat} (ha : mem s.ps x.frm = false) (hb : mem s.ps x.to_ = true) : leg1 x i s = ⟨s.pl.set x.frm.toNat (sub3 (at_ s.pl x.to_) (shf x)), put s.ps x.frm, put s.tr i⟩ := by
  unfold leg1
  rw [if_neg (fun h => by rw [mem_iff.2 h.1] at ha; cases ha), if_pos ⟨mem_iff.1 hb, fun h => by rw [mem_iff.2 h] at ha; cases ha⟩]
theorem doesN_pre {ts : List Lg} {s : Net} : ∀ (n k : Nat), k ≤ n → doesN ts s n = false → doesN ts s k = false
  | 0, k, hk, h => by obtain rfl : k = 0 := by omega
                      exact h
  | n + 1, k, hk, h => by
    rcases Nat.lt_or_ge n k with q | q
    · obtain rfl : k = n + 1 := by omega
      exact h
    · refine doesN_pre n k q ?_
      cases e : ts[n]? with
      | none => have e1 : doesN ts s (n + 1) = doesN ts s n := by show (match ts[n]? with | some x => _ | none => _) = _; rw [e]
                rw [← e1]; exact h
      | some x => rw [doesN_succ e, Bool.or_eq_false_iff] at h; exact h.1
/-- no leg places a station any more -/
theorem still {ts : List Lg} {s : Net} (h : doesN ts s ts.length = false) {i : Nat} {x : Lg} (hx : ts[i]? = some x) : does x s = false := by
  have hi : i < ts.length := (List.getElem?_eq_some_iff.1 hx).1
  have h1 := doesN_pre ts.length (i + 1) (by omega) h
  rw [doesN_succ hx, Bool.or_eq_false_iff, doesN_no h1.1] at h1
  exact h1.2
theorem net_done {ts : List Lg} (hg : goodLg ts = true) : doesN ts (net ts) ts.length = false := by
  by_cases h : ∃ k, k ≤ 8 ∧ doesN ts (passes ts k) ts.length = false
  · obtain ⟨k, hk, h⟩ := h
    rw [net_is (by omega) h]; exact h
  · have := passes_few (k := 9) hg (fun j hj => by
      cases e : doesN ts (passes ts j) ts.length
      · exact absurd ⟨j, by omega, e⟩ h
      · rfl)
    omega
theorem net_ends {ts : List Lg} (hg : goodLg ts = true) {i : Nat} {x : Lg} (hx : ts[i]? = some x) : mem (net ts).ps x.frm = mem (net ts).ps x.to_ := by
  have h := still (net_done hg) hx
  rw [does_marks rfl rfl] at h
  simpa using h
#print axioms tru_ps
#print axioms net_ends
end Go.Proofs.YtiimegmaokfpgabGreatDoor.nt
