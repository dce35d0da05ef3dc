/-
  Networks of stations: how legs place them (pure mathematics).
  Conditions: none but those that a theorem names.
-/
import Derived.Test.YtiimegmaokfpgabGreatDoorLgD
import Derived.Test.YtiimegmaokfpgabGreatDoorRowI
namespace Go.Proofs.YtiimegmaokfpgabGreatDoor.nt
open Go.RowKit
open reads base ty lg
set_option linter.unusedVariables false

/-- how many numbers of a list stand ahead of another one -/
def cutN (n : Int) : List Int → Nat
  | [] => 0
  | x :: t => if x < n then cutN n t + 1 else 0
theorem cutN_le (n : Int) : ∀ l, cutN n l ≤ l.length
  | [] => Nat.le_refl _
  | x :: t => by
    rw [cutN]
    split
    · have := cutN_le n t; rw [List.length_cons]; omega
    · exact Nat.zero_le _
theorem cutN_below (n : Int) : ∀ (l : List Int) (k : Nat) (x : Int), k < cutN n l → l[k]? = some x → x < n
  | [], k, x, h, _ => by simp [cutN] at h
  | y :: t, 0, x, h, hx => by
    rw [cutN] at h
    split at h
    · rename_i hy; obtain rfl : y = x := by simpa using hx
      exact hy
    · omega
  | y :: t, k + 1, x, h, hx => by
    rw [cutN] at h
    split at h
    · exact cutN_below n t k x (by omega) (by simpa using hx)
    · omega
theorem cutN_at (n : Int) : ∀ (l : List Int) (x : Int), l[cutN n l]? = some x → n ≤ x
  | [], x, hx => by simp at hx
  | y :: t, x, hx => by
    rw [cutN] at hx
    split at hx
    · exact cutN_at n t x (by simpa using hx)
    · rename_i hy; obtain rfl : y = x := by simpa using hx
      omega
/-- where the search stands -/
theorem cutN_go {n : Int} {l : List Int} {k : Nat} {x : Int} (hk : k ≤ cutN n l) (hx : l[k]? = some x) : (x < n ↔ k < cutN n l) := by
  constructor
  · intro h
    rcases Nat.lt_or_ge k (cutN n l) with q | q
    · exact q
    · obtain rfl : k = cutN n l := by omega
      have := cutN_at n l x hx; omega
  · intro h; exact cutN_below n l k x h hx
/-- a number put into an ascending list -/
def put (l : List Int) (n : Int) : List Int := if l[cutN n l]? = some n then l else l.take (cutN n l) ++ n :: l.drop (cutN n l)
theorem put_new {l : List Int} {n : Int} (h : l[cutN n l]? ≠ some n) : put l n = l.take (cutN n l) ++ n :: l.drop (cutN n l) := if_neg h
theorem put_old {l : List Int} {n : Int} (h : l[cutN n l]? = some n) : put l n = l := if_pos h
theorem put_len (l : List Int) (n : Int) : (put l n).length ≤ l.length + 1 := by
  unfold put
  split
  · omega
  · rw [List.length_append, List.length_cons, List.length_take, List.length_drop]; omega
theorem mem_put {l : List Int} {n x : Int} : x ∈ put l n ↔ x = n ∨ x ∈ l := by
  unfold put
  split
  · rename_i h
    constructor
    · exact fun h => .inr h
    · rintro (rfl | h2)
      · exact List.mem_of_getElem? h
      · exact h2
  · have e : l = l.take (cutN n l) ++ l.drop (cutN n l) := (List.take_append_drop _ _).symm
    constructor
    · intro h
      rcases List.mem_append.1 h with q | q
      · exact .inr (List.mem_of_mem_take q)
      · rcases List.mem_cons.1 q with rfl | q
        · exact .inl rfl
        · exact .inr (List.mem_of_mem_drop q)
    · rintro (rfl | h)
      · exact List.mem_append_right _ (List.mem_cons_self ..)
      · rw [e] at h
        rcases List.mem_append.1 h with q | q
        · exact List.mem_append_left _ q
        · exact List.mem_append_right _ (List.mem_cons_of_mem _ q)
theorem put_len_new {l : List Int} {n : Int} (h : n ∉ l) : (put l n).length = l.length + 1 := by
  have h1 : l[cutN n l]? ≠ some n := fun e => h (List.mem_of_getElem? e)
  have := cutN_le n l
  rw [put_new h1, List.length_append, List.length_cons, List.length_take, List.length_drop]; omega
theorem put_asc {l : List Int} {n : Int} (h : l.Pairwise (· < ·)) : (put l n).Pairwise (· < ·) := by
  unfold put
  split
  · exact h
  · rename_i hne
    have hle := cutN_le n l
    rw [List.pairwise_append, List.pairwise_cons]
    refine ⟨h.sublist (List.take_sublist _ _), ⟨?_, h.sublist (List.drop_sublist _ _)⟩, ?_⟩
    · intro x hx
      obtain ⟨i, hi⟩ := List.getElem?_of_mem hx
      rw [List.getElem?_drop] at hi
      obtain ⟨hl, e⟩ := List.getElem?_eq_some_iff.1 hi
      have hl2 : cutN n l < l.length := by omega
      have h0 := List.getElem?_eq_getElem hl2
      have h1 := cutN_at n l _ h0
      have h2 : l[cutN n l] ≠ n := fun e2 => hne (by rw [h0, e2])
      rcases Nat.eq_zero_or_pos i with q | q
      · subst q; rw [Nat.add_zero] at hi; rw [h0] at hi; have := Option.some.inj hi; omega
      · have h3 := (List.pairwise_iff_getElem.1 h) (cutN n l) (cutN n l + i) hl2 hl (by omega)
        rw [e] at h3; omega
    · intro a ha b hb
      obtain ⟨i, hi⟩ := List.getElem?_of_mem ha
      have hil : i < cutN n l := by have := (List.getElem?_eq_some_iff.1 hi).1; rw [List.length_take] at this; omega
      rw [List.getElem?_take_of_lt hil] at hi
      have h1 := cutN_below n l i a hil hi
      rcases List.mem_cons.1 hb with rfl | hb
      · exact h1
      · obtain ⟨k, hk⟩ := List.getElem?_of_mem hb
        rw [List.getElem?_drop] at hk
        obtain ⟨hl1, e1⟩ := List.getElem?_eq_some_iff.1 hi
        obtain ⟨hl2, e2⟩ := List.getElem?_eq_some_iff.1 hk
        have h3 := (List.pairwise_iff_getElem.1 h) i (cutN n l + k) hl1 hl2 (by omega)
        rw [e1, e2] at h3; exact h3

/-- places of all stations, the placed ones, the tree legs -/
structure Net where
  pl : List Sf
  ps : List Int
  tr : List Int
def zero3 : Sf := ⟨0, 0, 0⟩
def add3 (a b : Sf) : Sf := ⟨a.east + b.east, a.north + b.north, a.up + b.up⟩
def sub3 (a b : Sf) : Sf := ⟨a.east - b.east, a.north - b.north, a.up - b.up⟩
def at_ (p : List Sf) (s : Int) : Sf := (p[s.toNat]?).getD zero3
def start : Net := ⟨List.replicate 8 zero3, [0], []⟩
/-- one leg -/
def leg1 (x : Lg) (i : Nat) (s : Net) : Net :=
  if x.frm ∈ s.ps ∧ x.to_ ∉ s.ps then ⟨s.pl.set x.to_.toNat (add3 (at_ s.pl x.frm) (shf x)), put s.ps x.to_, put s.tr i⟩
  else if x.to_ ∈ s.ps ∧ x.frm ∉ s.ps then ⟨s.pl.set x.frm.toNat (sub3 (at_ s.pl x.to_) (shf x)), put s.ps x.frm, put s.tr i⟩
  else s
/-- whether a leg places a station -/
def does (x : Lg) (s : Net) : Bool := (decide (x.frm ∈ s.ps) && !decide (x.to_ ∈ s.ps)) || (decide (x.to_ ∈ s.ps) && !decide (x.frm ∈ s.ps))
theorem leg1_no {x : Lg} {i : Nat} {s : Net} (h : does x s = false) : leg1 x i s = s := by
  unfold does at h
  unfold leg1
  rw [Bool.or_eq_false_iff] at h
  rw [if_neg, if_neg]
  · rintro ⟨a, b⟩; have := h.2; simp [a, b] at this
  · rintro ⟨a, b⟩; have := h.1; simp [a, b] at this
/-- the legs below k, once -/
def legsN (ts : List Lg) (s : Net) : Nat → Net
  | 0 => s
  | k + 1 => match ts[k]? with
    | some x => leg1 x k (legsN ts s k)
    | none => legsN ts s k
theorem legsN_succ {ts : List Lg} {s : Net} {k : Nat} {x : Lg} (h : ts[k]? = some x) : legsN ts s (k + 1) = leg1 x k (legsN ts s k) := by
  show (match ts[k]? with | some x => _ | none => _) = _
  rw [h]
/-- whether one of the legs below k places a station -/
def doesN (ts : List Lg) (s : Net) : Nat → Bool
  | 0 => false
  | k + 1 => match ts[k]? with
    | some x => doesN ts s k || does x (legsN ts s k)
    | none => doesN ts s k
theorem doesN_succ {ts : List Lg} {s : Net} {k : Nat} {x : Lg} (h : ts[k]? = some x) : doesN ts s (k + 1) = (doesN ts s k || does x (legsN ts s k)) := by
  show (match ts[k]? with | some x => _ | none => _) = _
  rw [h]
theorem doesN_no {ts : List Lg} {s : Net} : ∀ {k : Nat}, doesN ts s k = false → legsN ts s k = s
  | 0, _ => rfl
  | k + 1, h => by
    cases e : ts[k]? with
    | none =>
      have e1 : doesN ts s (k + 1) = doesN ts s k := by show (match ts[k]? with | some x => _ | none => _) = _; rw [e]
      have e2 : legsN ts s (k + 1) = legsN ts s k := by show (match ts[k]? with | some x => _ | none => _) = _; rw [e]
      rw [e2]; exact doesN_no (by rw [← e1]; exact h)
    | some x =>
      rw [doesN_succ e, Bool.or_eq_false_iff] at h
      rw [legsN_succ e, leg1_no h.2]
      exact doesN_no h.1
def pass (ts : List Lg) (s : Net) : Net := legsN ts s ts.length
def passes (ts : List Lg) : Nat → Net
  | 0 => start
  | k + 1 => pass ts (passes ts k)
/-- what legs place -/
def net (ts : List Lg) : Net := passes ts 9
theorem passes_stop {ts : List Lg} {k : Nat} (h : doesN ts (passes ts k) ts.length = false) : ∀ j, passes ts (k + j) = passes ts k
  | 0 => rfl
  | j + 1 => by
    rw [← Nat.add_assoc, passes, passes_stop h j]
    exact doesN_no h
theorem leg1_yes {x : Lg} {i : Nat} {s : Net} (h : does x s = true) : (leg1 x i s).ps.length = s.ps.length + 1 := by
  unfold does at h
  rw [Bool.or_eq_true] at h
  unfold leg1
  rcases h with h | h
  · rw [Bool.and_eq_true, decide_eq_true_eq, Bool.not_eq_true', decide_eq_false_iff_not] at h
    rw [if_pos h]; exact put_len_new h.2
  · rw [Bool.and_eq_true, decide_eq_true_eq, Bool.not_eq_true', decide_eq_false_iff_not] at h
    rw [if_neg (fun q => h.2 q.1), if_pos h]; exact put_len_new h.2
/-- what every net keeps -/
def Ok (s : Net) : Prop := s.pl.length = 8 ∧ s.ps.Pairwise (· < ·) ∧ (∀ x ∈ s.ps, 0 ≤ x ∧ x ≤ 7) ∧ s.tr.Pairwise (· < ·) ∧ (∀ x ∈ s.tr, 0 ≤ x ∧ x ≤ 11) ∧ (0 : Int) ∈ s.ps ∧
  ∀ p ∈ s.pl, (-(500 * (s.ps.length : Int)) ≤ p.east ∧ p.east ≤ 500 * s.ps.length) ∧ (-(500 * (s.ps.length : Int)) ≤ p.north ∧ p.north ≤ 500 * s.ps.length) ∧ (-(500 * (s.ps.length : Int)) ≤ p.up ∧ p.up ≤ 500 * s.ps.length)
theorem asc_len : ∀ (l : List Int) (lo hi : Int), l.Pairwise (· < ·) → (∀ x ∈ l, lo ≤ x ∧ x ≤ hi) → lo ≤ hi + 1 → (l.length : Int) ≤ hi - lo + 1
  | [], lo, hi, _, _, h => by simp; omega
  | x :: t, lo, hi, h, hb, hl => by
    rw [List.pairwise_cons] at h
    have hx := hb x (List.mem_cons_self ..)
    have := asc_len t (x + 1) hi h.2 (fun y hy => ⟨by have := h.1 y hy; omega, (hb y (List.mem_cons_of_mem _ hy)).2⟩) (by omega)
    rw [List.length_cons]
    push_cast
    omega
theorem Ok.ps_len {s : Net} (h : Ok s) : s.ps.length ≤ 8 := by have := asc_len s.ps 0 7 h.2.1 h.2.2.1 (by decide); omega
theorem Ok.tr_len {s : Net} (h : Ok s) : s.tr.length ≤ 12 := by have := asc_len s.tr 0 11 h.2.2.2.1 h.2.2.2.2.1 (by decide); omega
theorem ok_start : Ok start := by
  refine ⟨rfl, by decide, by decide, by decide, by decide, by decide, ?_⟩
  intro p hp
  have : p = zero3 := by simpa [start] using hp
  subst this
  decide
theorem at_bd {s : Net} (h : Ok s) (x : Int) : (-(500 * (s.ps.length : Int)) ≤ (at_ s.pl x).east ∧ (at_ s.pl x).east ≤ 500 * s.ps.length) ∧ (-(500 * (s.ps.length : Int)) ≤ (at_ s.pl x).north ∧ (at_ s.pl x).north ≤ 500 * s.ps.length) ∧ (-(500 * (s.ps.length : Int)) ≤ (at_ s.pl x).up ∧ (at_ s.pl x).up ≤ 500 * s.ps.length) := by
  unfold at_
  cases e : s.pl[x.toNat]? with
  | none => simp [zero3]; omega
  | some p => exact h.2.2.2.2.2.2 p (List.mem_of_getElem? e)
theorem ok_leg {s : Net} {x : Lg} {i : Nat} (h : Ok s) (hx : okLg x = true) (hi : i < 12) : Ok (leg1 x i s) := by
  obtain ⟨h1, h2, h3, h4, h5, h6, h7⟩ := h
  have hb := at_bd ⟨h1, h2, h3, h4, h5, h6, h7⟩
  obtain ⟨l1, l2, l3, -⟩ := okLg_lim hx
  obtain ⟨s1, s2, s3⟩ := shf_bd hx
  have tr : ∀ y ∈ put s.tr (i : Int), 0 ≤ y ∧ y ≤ 11 := fun y hy => by
    rcases mem_put.1 hy with rfl | q
    · omega
    · exact h5 y q
  unfold leg1
  split
  · rename_i hc
    have hl := put_len_new hc.2
    refine ⟨by simp [h1], put_asc h2, ?_, put_asc h4, tr, mem_put.2 (.inr h6), ?_⟩
    · intro y hy
      rcases mem_put.1 hy with rfl | q
      · exact l2
      · exact h3 y q
    · intro p hp
      simp only [hl]
      push_cast
      rcases List.mem_or_eq_of_mem_set hp with q | rfl
      · have := h7 p q; omega
      · have := hb x.frm; unfold add3; simp only []; omega
  · split
    · rename_i hc
      have hl := put_len_new hc.2
      refine ⟨by simp [h1], put_asc h2, ?_, put_asc h4, tr, mem_put.2 (.inr h6), ?_⟩
      · intro y hy
        rcases mem_put.1 hy with rfl | q
        · exact l1
        · exact h3 y q
      · intro p hp
        simp only [hl]
        push_cast
        rcases List.mem_or_eq_of_mem_set hp with q | rfl
        · have := h7 p q; omega
        · have := hb x.to_; unfold sub3; simp only []; omega
    · exact ⟨h1, h2, h3, h4, h5, h6, h7⟩
theorem ok_legs {ts : List Lg} (hg : goodLg ts = true) {s : Net} (h : Ok s) : ∀ k, Ok (legsN ts s k)
  | 0 => h
  | k + 1 => by
    cases e : ts[k]? with
    | none => have e2 : legsN ts s (k + 1) = legsN ts s k := by show (match ts[k]? with | some x => _ | none => _) = _; rw [e]
              rw [e2]; exact ok_legs hg h k
    | some x =>
      rw [legsN_succ e]
      have hk : k < ts.length := (List.getElem?_eq_some_iff.1 e).1
      exact ok_leg (ok_legs hg h k) (goodLg_at hg e) (by have := goodLg_len hg; omega)
theorem ok_passes {ts : List Lg} (hg : goodLg ts = true) : ∀ k, Ok (passes ts k)
  | 0 => ok_start
  | k + 1 => ok_legs hg (ok_passes hg k) _
theorem ok_net {ts : List Lg} (hg : goodLg ts = true) : Ok (net ts) := ok_passes hg 9
/-- the placed stations get more -/
theorem legs_grow {ts : List Lg} {s : Net} : ∀ k, s.ps.length + (if doesN ts s k then 1 else 0) ≤ (legsN ts s k).ps.length
  | 0 => by simp [doesN, legsN]
  | k + 1 => by
    have ih := legs_grow (ts := ts) (s := s) k
    cases e : ts[k]? with
    | none =>
      have e1 : doesN ts s (k + 1) = doesN ts s k := by show (match ts[k]? with | some x => _ | none => _) = _; rw [e]
      have e2 : legsN ts s (k + 1) = legsN ts s k := by show (match ts[k]? with | some x => _ | none => _) = _; rw [e]
      rw [e1, e2]; exact ih
    | some x =>
      rw [doesN_succ e, legsN_succ e]
      cases d : does x (legsN ts s k)
      · rw [leg1_no d, Bool.or_false]; exact ih
      · rw [leg1_yes d, Bool.or_true, if_pos rfl]; split at ih <;> omega
/-- after k passes that placed something each, k + 1 stations are placed -/
theorem passes_grow {ts : List Lg} : ∀ k, (∀ j, j < k → doesN ts (passes ts j) ts.length = true) → k + 1 ≤ (passes ts k).ps.length
  | 0, _ => by simp [passes, start]
  | k + 1, h => by
    have ih := passes_grow k (fun j hj => h j (by omega))
    have g := legs_grow (ts := ts) (s := passes ts k) ts.length
    rw [h k (by omega), if_pos rfl] at g
    show k + 2 ≤ (legsN ts (passes ts k) ts.length).ps.length
    omega
theorem passes_few {ts : List Lg} (hg : goodLg ts = true) {k : Nat} (h : ∀ j, j < k → doesN ts (passes ts j) ts.length = true) : k ≤ 7 := by
  have h1 := passes_grow k h
  have h2 := (ok_passes hg k).ps_len
  omega
theorem net_is {ts : List Lg} {k : Nat} (hk : k ≤ 9) (h : doesN ts (passes ts k) ts.length = false) : net ts = passes ts k := by
  have := passes_stop h (9 - k)
  rwa [show k + (9 - k) = 9 by omega] at this
#print axioms ok_net
#print axioms net_is
end Go.Proofs.YtiimegmaokfpgabGreatDoor.nt
