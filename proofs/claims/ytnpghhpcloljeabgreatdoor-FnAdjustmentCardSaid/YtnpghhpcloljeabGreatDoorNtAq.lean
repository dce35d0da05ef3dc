/-
  Networks of stations: how legs place them (pure mathematics).
  Whether a list of ints has one, by the model; an append to a list of ints inside a region that draws its order.
  A number put into an ascending list, by the model.
  Sums and differences of shifts, by the model; a leg's shift under a letter.
  Conditions: those that each theorem names.
-/
import Derived.Test.YtnpghhpcloljeabGreatDoorLgD
import Derived.Test.YtnpghhpcloljeabGreatDoorReadsq
import Derived.Deep.QuietTactic
import Derived.BigQuiet
import Derived.Deep.RegionHeld3
import Derived.Deep.DeepCutAuto
namespace Go.Proofs.YtnpghhpcloljeabGreatDoor.nt
open Go.RowKit
open reads base ty lg
set_option linter.unusedVariables false

/-- how many numbers of a list stand ahead of another one -/
def cutN (n : Int) : List Int → Nat
  | [] => 0
  | x :: t => if x < n then cutN n t + 1 else 0
theorem cutN_le (n : Int) : ∀ l, cutN n l ≤ l.length
  | [] => Nat.le_refl _
  | x :: t => by
    rw [cutN]
    split
    · have := cutN_le n t; rw [List.length_cons]; omega
    · exact Nat.zero_le _
theorem cutN_below (n : Int) : ∀ (l : List Int) (k : Nat) (x : Int), k < cutN n l → l[k]? = some x → x < n
  | [], k, x, h, _ => by simp [cutN] at h
  | y :: t, 0, x, h, hx => by
    rw [cutN] at h
    split at h
    · rename_i hy; obtain rfl : y = x := by simpa using hx
      exact hy
    · omega
  | y :: t, k + 1, x, h, hx => by
    rw [cutN] at h
    split at h
    · exact cutN_below n t k x (by omega) (by simpa using hx)
    · omega
theorem cutN_at (n : Int) : ∀ (l : List Int) (x : Int), l[cutN n l]? = some x → n ≤ x
  | [], x, hx => by simp at hx
  | y :: t, x, hx => by
    rw [cutN] at hx
    split at hx
    · exact cutN_at n t x (by simpa using hx)
    · rename_i hy; obtain rfl : y = x := by simpa using hx
      omega
/-- where the search stands -/
theorem cutN_go {n : Int} {l : List Int} {k : Nat} {x : Int} (hk : k ≤ cutN n l) (hx : l[k]? = some x) : (x < n ↔ k < cutN n l) := by
  constructor
  · intro h
    rcases Nat.lt_or_ge k (cutN n l) with q | q
    · exact q
    · obtain rfl : k = cutN n l := by omega
      have := cutN_at n l x hx; omega
  · intro h; exact cutN_below n l k x h hx
/-- a number put into an ascending list -/
def put (l : List Int) (n : Int) : List Int := if l[cutN n l]? = some n then l else l.take (cutN n l) ++ n :: l.drop (cutN n l)
theorem put_new {l : List Int} {n : Int} (h : l[cutN n l]? ≠ some n) : put l n = l.take (cutN n l) ++ n :: l.drop (cutN n l) := if_neg h
theorem put_old {l : List Int} {n : Int} (h : l[cutN n l]? = some n) : put l n = l := if_pos h
theorem put_len (l : List Int) (n : Int) : (put l n).length ≤ l.length + 1 := by
  unfold put
  split
  · omega
  · rw [List.length_append, List.length_cons, List.length_take, List.length_drop]; omega
theorem mem_put {l : List Int} {n x : Int} : x ∈ put l n ↔ x = n ∨ x ∈ l := by
  unfold put
  split
  · rename_i h
    constructor
    · exact fun h => .inr h
    · rintro (rfl | h2)
      · exact List.mem_of_getElem? h
      · exact h2
  · have e : l = l.take (cutN n l) ++ l.drop (cutN n l) := (List.take_append_drop _ _).symm
    constructor
    · intro h
      rcases List.mem_append.1 h with q | q
      · exact .inr (List.mem_of_mem_take q)
      · rcases List.mem_cons.1 q with rfl | q
        · exact .inl rfl
        · exact .inr (List.mem_of_mem_drop q)
    · rintro (rfl | h)
      · exact List.mem_append_right _ (List.mem_cons_self ..)
      · rw [e] at h
        rcases List.mem_append.1 h with q | q
        · exact List.mem_append_left _ q
        · exact List.mem_append_right _ (List.mem_cons_of_mem _ q)
theorem put_len_new {l : List Int} {n : Int} (h : n ∉ l) : (put l n).length = l.length + 1 := by
  have h1 : l[cutN n l]? ≠ some n := fun e => h (List.mem_of_getElem? e)
  have := cutN_le n l
  rw [put_new h1, List.length_append, List.length_cons, List.length_take, List.length_drop]; omega
theorem put_asc {l : List Int} {n : Int} (h : l.Pairwise (· < ·)) : (put l n).Pairwise (· < ·) := by
  unfold put
  split
  · exact h
  · rename_i hne
    have hle := cutN_le n l
    rw [List.pairwise_append, List.pairwise_cons]
    refine ⟨h.sublist (List.take_sublist _ _), ⟨?_, h.sublist (List.drop_sublist _ _)⟩, ?_⟩
    · intro x hx
      obtain ⟨i, hi⟩ := List.getElem?_of_mem hx
      rw [List.getElem?_drop] at hi
      obtain ⟨hl, e⟩ := List.getElem?_eq_some_iff.1 hi
      have hl2 : cutN n l < l.length := by omega
      have h0 := List.getElem?_eq_getElem hl2
      have h1 := cutN_at n l _ h0
      have h2 : l[cutN n l] ≠ n := fun e2 => hne (by rw [h0, e2])
      rcases Nat.eq_zero_or_pos i with q | q
      · subst q; rw [Nat.add_zero] at hi; rw [h0] at hi; have := Option.some.inj hi; omega
      · have h3 := (List.pairwise_iff_getElem.1 h) (cutN n l) (cutN n l + i) hl2 hl (by omega)
        rw [e] at h3; omega
    · intro a ha b hb
      obtain ⟨i, hi⟩ := List.getElem?_of_mem ha
      have hil : i < cutN n l := by have := (List.getElem?_eq_some_iff.1 hi).1; rw [List.length_take] at this; omega
      rw [List.getElem?_take_of_lt hil] at hi
      have h1 := cutN_below n l i a hil hi
      rcases List.mem_cons.1 hb with rfl | hb
      · exact h1
      · obtain ⟨k, hk⟩ := List.getElem?_of_mem hb
        rw [List.getElem?_drop] at hk
        obtain ⟨hl1, e1⟩ := List.getElem?_eq_some_iff.1 hi
        obtain ⟨hl2, e2⟩ := List.getElem?_eq_some_iff.1 hk
        have h3 := (List.pairwise_iff_getElem.1 h) i (cutN n l + k) hl1 hl2 (by omega)
        rw [e1, e2] at h3; exact h3

/-- places of all stations, the placed ones, the tree legs -/
structure Net where
  pl : List Sf
  ps : List Int
  tr : List Int
def zero3 : Sf := ⟨0, 0, 0⟩
def add3 (a b : Sf) : Sf := ⟨a.east + b.east, a.north + b.north, a.up + b.up⟩
def sub3 (a b : Sf) : Sf := ⟨a.east - b.east, a.north - b.north, a.up - b.up⟩
def at_ (p : List Sf) (s : Int) : Sf := (p[s.toNat]?).getD zero3
def start : Net := ⟨List.replicate 8 zero3, [0], []⟩
/-- one leg -/
def leg1 (x : Lg) (i : Nat) (s : Net) : Net :=
  if x.frm ∈ s.ps ∧ x.to_ ∉ s.ps then ⟨s.pl.set x.to_.toNat (add3 (at_ s.pl x.frm) (shf x)), put s.ps x.to_, put s.tr i⟩
  else if x.to_ ∈ s.ps ∧ x.frm ∉ s.ps then ⟨s.pl.set x.frm.toNat (sub3 (at_ s.pl x.to_) (shf x)), put s.ps x.frm, put s.tr i⟩
  else s
/-- whether a leg places a station -/
def does (x : Lg) (s : Net) : Bool := (decide (x.frm ∈ s.ps) && !decide (x.to_ ∈ s.ps)) || (decide (x.to_ ∈ s.ps) && !decide (x.frm ∈ s.ps))
theorem leg1_no {x : Lg} {i : Nat} {s : Net} (h : does x s = false) : leg1 x i s = s := by
  unfold does at h
  unfold leg1
  rw [Bool.or_eq_false_iff] at h
  rw [if_neg, if_neg]
  · rintro ⟨a, b⟩; have := h.2; simp [a, b] at this
  · rintro ⟨a, b⟩; have := h.1; simp [a, b] at this
/-- the legs below k, once -/
def legsN (ts : List Lg) (s : Net) : Nat → Net
  | 0 => s
  | k + 1 => match ts[k]? with
    | some x => leg1 x k (legsN ts s k)
    | none => legsN ts s k
theorem legsN_succ {ts : List Lg} {s : Net} {k : Nat} {x : Lg} (h : ts[k]? = some x) : legsN ts s (k + 1) = leg1 x k (legsN ts s k) := by
  show (match ts[k]? with | some x => _ | none => _) = _
  rw [h]
/-- whether one of the legs below k places a station -/
def doesN (ts : List Lg) (s : Net) : Nat → Bool
  | 0 => false
  | k + 1 => match ts[k]? with
    | some x => doesN ts s k || does x (legsN ts s k)
    | none => doesN ts s k
theorem doesN_succ {ts : List Lg} {s : Net} {k : Nat} {x : Lg} (h : ts[k]? = some x) : doesN ts s (k + 1) = (doesN ts s k || does x (legsN ts s k)) := by
  show (match ts[k]? with | some x => _ | none => _) = _
  rw [h]
theorem doesN_no {ts : List Lg} {s : Net} : ∀ {k : Nat}, doesN ts s k = false → legsN ts s k = s
  | 0, _ => rfl
  | k + 1, h => by
    cases e : ts[k]? with
    | none =>
      have e1 : doesN ts s (k + 1) = doesN ts s k := by show (match ts[k]? with | some x => _ | none => _) = _; rw [e]
      have e2 : legsN ts s (k + 1) = legsN ts s k := by show (match ts[k]? with | some x => _ | none => _) = _; rw [e]
      rw [e2]; exact doesN_no (by rw [← e1]; exact h)
    | some x =>
      rw [doesN_succ e, Bool.or_eq_false_iff] at h
      rw [legsN_succ e, leg1_no h.2]
      exact doesN_no h.1
def pass (ts : List Lg) (s : Net) : Net := legsN ts s ts.length
def passes (ts : List Lg) : Nat → Net
  | 0 => start
  | k + 1 => pass ts (passes ts k)
/-- what legs place -/
def net (ts : List Lg) : Net := passes ts 9
theorem passes_stop {ts : List Lg} {k : Nat} (h : doesN ts (passes ts k) ts.length = false) : ∀ j, passes ts (k + j) = passes ts k
  | 0 => rfl
  | j + 1 => by
    rw [← Nat.add_assoc, passes, passes_stop h j]
    exact doesN_no h
theorem leg1_yes {x : Lg} {i : Nat} {s : Net} (h : does x s = true) : (leg1 x i s).ps.length = s.ps.length + 1 := by
  unfold does at h
  rw [Bool.or_eq_true] at h
  unfold leg1
  rcases h with h | h
  · rw [Bool.and_eq_true, decide_eq_true_eq, Bool.not_eq_true', decide_eq_false_iff_not] at h
    rw [if_pos h]; exact put_len_new h.2
  · rw [Bool.and_eq_true, decide_eq_true_eq, Bool.not_eq_true', decide_eq_false_iff_not] at h
    rw [if_neg (fun q => h.2 q.1), if_pos h]; exact put_len_new h.2
/-- what every net keeps -/
def Ok (s : Net) : Prop := s.pl.length = 8 ∧ s.ps.Pairwise (· < ·) ∧ (∀ x ∈ s.ps, 0 ≤ x ∧ x ≤ 7) ∧ s.tr.Pairwise (· < ·) ∧ (∀ x ∈ s.tr, 0 ≤ x ∧ x ≤ 11) ∧ (0 : Int) ∈ s.ps ∧
  ∀ p ∈ s.pl, (-(500 * (s.ps.length : Int)) ≤ p.east ∧ p.east ≤ 500 * s.ps.length) ∧ (-(500 * (s.ps.length : Int)) ≤ p.north ∧ p.north ≤ 500 * s.ps.length) ∧ (-(500 * (s.ps.length : Int)) ≤ p.up ∧ p.up ≤ 500 * s.ps.length)
theorem asc_len : ∀ (l : List Int) (lo hi : Int), l.Pairwise (· < ·) → (∀ x ∈ l, lo ≤ x ∧ x ≤ hi) → lo ≤ hi + 1 → (l.length : Int) ≤ hi - lo + 1
  | [], lo, hi, _, _, h => by simp; omega
  | x :: t, lo, hi, h, hb, hl => by
    rw [List.pairwise_cons] at h
    have hx := hb x (List.mem_cons_self ..)
    have := asc_len t (x + 1) hi h.2 (fun y hy => ⟨by have := h.1 y hy; omega, (hb y (List.mem_cons_of_mem _ hy)).2⟩) (by omega)
    rw [List.length_cons]
    push_cast
    omega
theorem Ok.ps_len {s : Net} (h : Ok s) : s.ps.length ≤ 8 := by have := asc_len s.ps 0 7 h.2.1 h.2.2.1 (by decide); omega
theorem Ok.tr_len {s : Net} (h : Ok s) : s.tr.length ≤ 12 := by have := asc_len s.tr 0 11 h.2.2.2.1 h.2.2.2.2.1 (by decide); omega
theorem ok_start : Ok start := by
  refine ⟨rfl, by decide, by decide, by decide, by decide, by decide, ?_⟩
  intro p hp
  have : p = zero3 := by simpa [start] using hp
  subst this
  decide
theorem at_bd {s : Net} (h : Ok s) (x : Int) : (-(500 * (s.ps.length : Int)) ≤ (at_ s.pl x).east ∧ (at_ s.pl x).east ≤ 500 * s.ps.length) ∧ (-(500 * (s.ps.length : Int)) ≤ (at_ s.pl x).north ∧ (at_ s.pl x).north ≤ 500 * s.ps.length) ∧ (-(500 * (s.ps.length : Int)) ≤ (at_ s.pl x).up ∧ (at_ s.pl x).up ≤ 500 * s.ps.length) := by
  unfold at_
  cases e : s.pl[x.toNat]? with
  | none => simp [zero3]; omega
  | some p => exact h.2.2.2.2.2.2 p (List.mem_of_getElem? e)
theorem ok_leg {s : Net} {x : Lg} {i : Nat} (h : Ok s) (hx : okLg x = true) (hi : i < 12) : Ok (leg1 x i s) := by
  obtain ⟨h1, h2, h3, h4, h5, h6, h7⟩ := h
  have hb := at_bd ⟨h1, h2, h3, h4, h5, h6, h7⟩
  obtain ⟨l1, l2, l3, -⟩ := okLg_lim hx
  obtain ⟨s1, s2, s3⟩ := shf_bd hx
  have tr : ∀ y ∈ put s.tr (i : Int), 0 ≤ y ∧ y ≤ 11 := fun y hy => by
    rcases mem_put.1 hy with rfl | q
    · omega
    · exact h5 y q
  unfold leg1
  split
  · rename_i hc
    have hl := put_len_new hc.2
    refine ⟨by simp [h1], put_asc h2, ?_, put_asc h4, tr, mem_put.2 (.inr h6), ?_⟩
    · intro y hy
      rcases mem_put.1 hy with rfl | q
      · exact l2
      · exact h3 y q
    · intro p hp
      simp only [hl]
      push_cast
      rcases List.mem_or_eq_of_mem_set hp with q | rfl
      · have := h7 p q; omega
      · have := hb x.frm; unfold add3; simp only []; omega
  · split
    · rename_i hc
      have hl := put_len_new hc.2
      refine ⟨by simp [h1], put_asc h2, ?_, put_asc h4, tr, mem_put.2 (.inr h6), ?_⟩
      · intro y hy
        rcases mem_put.1 hy with rfl | q
        · exact l1
        · exact h3 y q
      · intro p hp
        simp only [hl]
        push_cast
        rcases List.mem_or_eq_of_mem_set hp with q | rfl
        · have := h7 p q; omega
        · have := hb x.to_; unfold sub3; simp only []; omega
    · exact ⟨h1, h2, h3, h4, h5, h6, h7⟩
theorem ok_legs {ts : List Lg} (hg : goodLg ts = true) {s : Net} (h : Ok s) : ∀ k, Ok (legsN ts s k)
  | 0 => h
  | k + 1 => by
    cases e : ts[k]? with
    | none => have e2 : legsN ts s (k + 1) = legsN ts s k := by show (match ts[k]? with | some x => _ | none => _) = _; rw [e]
              rw [e2]; exact ok_legs hg h k
    | some x =>
      rw [legsN_succ e]
      have hk : k < ts.length := (List.getElem?_eq_some_iff.1 e).1
      exact ok_leg (ok_legs hg h k) (goodLg_at hg e) (by have := goodLg_len hg; omega)
theorem ok_passes {ts : List Lg} (hg : goodLg ts = true) : ∀ k, Ok (passes ts k)
  | 0 => ok_start
  | k + 1 => ok_legs hg (ok_passes hg k) _
theorem ok_net {ts : List Lg} (hg : goodLg ts = true) : Ok (net ts) := ok_passes hg 9
/-- the placed stations get more -/
theorem legs_grow {ts : List Lg} {s : Net} : ∀ k, s.ps.length + (if doesN ts s k then 1 else 0) ≤ (legsN ts s k).ps.length
  | 0 => by simp [doesN, legsN]
  | k + 1 => by
    have ih := legs_grow (ts := ts) (s := s) k
    cases e : ts[k]? with
    | none =>
      have e1 : doesN ts s (k + 1) = doesN ts s k := by show (match ts[k]? with | some x => _ | none => _) = _; rw [e]
      have e2 : legsN ts s (k + 1) = legsN ts s k := by show (match ts[k]? with | some x => _ | none => _) = _; rw [e]
      rw [e1, e2]; exact ih
    | some x =>
      rw [doesN_succ e, legsN_succ e]
      cases d : does x (legsN ts s k)
      · rw [leg1_no d, Bool.or_false]; exact ih
      · rw [leg1_yes d, Bool.or_true, if_pos rfl]; split at ih <;> omega
/-- after k passes that placed something each, k + 1 stations are placed -/
theorem passes_grow {ts : List Lg} : ∀ k, (∀ j, j < k → doesN ts (passes ts j) ts.length = true) → k + 1 ≤ (passes ts k).ps.length
  | 0, _ => by simp [passes, start]
  | k + 1, h => by
    have ih := passes_grow k (fun j hj => h j (by omega))
    have g := legs_grow (ts := ts) (s := passes ts k) ts.length
    rw [h k (by omega), if_pos rfl] at g
    show k + 2 ≤ (legsN ts (passes ts k) ts.length).ps.length
    omega
theorem passes_few {ts : List Lg} (hg : goodLg ts = true) {k : Nat} (h : ∀ j, j < k → doesN ts (passes ts j) ts.length = true) : k ≤ 7 := by
  have h1 := passes_grow k h
  have h2 := (ok_passes hg k).ps_len
  omega
theorem net_is {ts : List Lg} {k : Nat} (hk : k ≤ 9) (h : doesN ts (passes ts k) ts.length = false) : net ts = passes ts k := by
  have := passes_stop h (9 - k)
  rwa [show k + (9 - k) = 9 by omega] at this
end Go.Proofs.YtnpghhpcloljeabGreatDoor.nt

namespace Go.Proofs.YtnpghhpcloljeabGreatDoor.hs
open Go.RowKit
open reads base rowi
set_option linter.unusedVariables false
set_option linter.unusedSimpArgs false

def mem (xs : List Int) (a : Int) : Bool := xs.any fun x => x == a
theorem mem_iff {xs : List Int} {a : Int} : mem xs a = true ↔ a ∈ xs := by
  unfold mem; rw [List.any_eq_true]
  constructor
  · rintro ⟨x, hx, e⟩; rw [← (by simpa using e : x = a)]; exact hx
  · intro h; exact ⟨a, h, by simp⟩
theorem mem_no {xs : List Int} {a : Int} (h : (xs.take xs.length).all (fun x => !(x == a)) = true) : mem xs a = false := by
  rw [List.take_length, List.all_eq_true] at h
  unfold mem; rw [List.any_eq_false]; intro x hx; have := h x hx; simpa using this
theorem mem_yes {xs : List Int} {a x : Int} {k : Nat} (h : xs[k]? = some x) (e : x = a) : mem xs a = true := mem_iff.2 (by rw [← e]; exact List.mem_of_getElem? h)
set_option maxHeartbeats 4000000 in
theorem has_any (A : Option Addr) (n cap : Nat) (xs : List Int) (a : Int) (w : World) (hn : n ≤ 2000000) (hx : Hid (ints.IL w A n xs)) :
    Calls Tryz.prog 79 #[.slice A n cap, .int .i64 a] w fun e w' => e = .returned (.bool (mem xs a)) ∧ w = w' := by
  have hL : Hid (xs.length = n) := Lib.hid hx.out.1
  go_enter Tryz.func79, Tryz.ntmps79
  go_wp2_with fail
  go_loop [5] (fun i => ∃ k : Nat, k ≤ n ∧ i = .int .i64 k ∧ Hid ((xs.take k).all (fun x => !(x == a)) = true)) (fun i => n - (intOf i).toNat)
  case atStart => exact ⟨0, Nat.zero_le _, rfl, Lib.hid (by simp)⟩
  case round =>
    obtain ⟨k, hk, rfl, HI⟩ := hrel
    have hk0 : 0 ≤ (k : Int) := by omega
    by_cases h1 : k < n
    · have hki : (k : Int) < (n : Int) := by omega
      have hkd : decide (k < n) = true := by simpa using h1
      obtain ⟨x, hxk⟩ := at_lt hL.out h1
      obtain ⟨g, rfl, e0⟩ := hx.out.2 k x hxk
      have HK := Lib.hid hxk
      clear hxk
      by_cases he : x = a
      · have HF := Lib.hid (show mem xs a = true from mem_yes HK.out he)
        have hd2 : (x == a) = true := by simpa using he
        subst he
        go_wp2_with fail
        go_ret
        exact ⟨ret_bool HF.out.symm, rfl⟩
      · have HN := Lib.hid (all_take (p := fun x => !(x == a)) HK.out HI.out (by simpa using he))
        have hd2 : (x == a) = false := by simpa using he
        have hd3 : decide (x = a) = false := by simpa using he
        clear he
        go_wp2_with fail
        go_round
        case rel => exact ⟨k + 1, by omega, by go_num, HN⟩
        case measure => simp [intOf]; omega
    · have hkd : decide (k < n) = false := by simpa using h1
      obtain rfl : k = n := by omega
      have HF := Lib.hid (show mem xs a = false from mem_no (by rw [hL.out]; exact HI.out))
      clear h1
      go_wp2_with fail
      go_ret
      exact ⟨ret_bool HF.out.symm, rfl⟩
theorem has_is (A : Option Addr) (n cap : Nat) (xs : List Int) (a : Int) (t : Bool) (h : Hid (mem xs a = t)) (w : World) (hn : n ≤ 2000000) (hx : Hid (ints.IL w A n xs)) :
    Calls Tryz.prog 79 #[.slice A n cap, .int .i64 a] w fun e w' => e = .returned (.bool t) ∧ w = w' := by rw [← h.out]; exact has_any A n cap xs a w hn hx

theorem step_ints {ops : Array Oper} {o : Oper} {a : Act} {w : World} {K : Act → World → Prop} {Q : Exit → Act → World → Prop} {E : Prop} (hgd : o.guard = none) (s x : Operand) (ho : o.op = .call { callee := .builtin .append, args := #[s, x], argTypes := #[27, 27] })
    {bs n m c : Nat} {v : Value} {xs news : List Int} {ad : Addr} (hs : a.eval s = v) (hown : w.ownsRow bs 3 1 v n (ints.intsV xs)) (hx : a.eval x = .slice (some ad) m c) (hl : news.length = m) (hnews : ∀ j y, news[j]? = some y → w.cell? (ad.add j) = some (.int .i64 y)) (h6 : n + m ≤ 1000000) (hb : bs ≤ w.heap.size)
    (h : ∀ v' w', w'.ownsRow bs 3 1 v' (n + m) (ints.intsV (xs ++ news)) → w.grownBy w' v.ownBlock → K (a.put o.dst v') w') :
    if Region.wanted o (yielded ops a.tmps) = true then Oper.wp Tryz.prog o a w K Q else E := by
  obtain ⟨i0, hi, hz0, hz1, hz2⟩ := info_parts infoI
  rw [if_pos (show Region.wanted o (yielded ops a.tmps) = true by simp [Region.wanted, hgd])]
  refine wp_append_own w s x _ ho bs 3 i0 (.int .i64 0) 1 8 Tryz.underlying27 hi hz0 hz1 hz2 rfl (by decide) v n (ints.intsV xs) hs hown ad m c (ints.intsV news) hx (by rw [ints.intsV_len]; omega) ?_ ?_ (by unfold maxLen; omega) (by omega) hb (fun v' w' h1 h2 _ => h v' w' (by unfold ints.intsV at h1 ⊢; rw [List.map_append]; exact h1) h2)
  · intro j u hj
    unfold ints.intsV at hj
    rw [List.getElem?_map] at hj
    cases e : news[j]? with
    | none => rw [e] at hj; simp at hj
    | some y => rw [e] at hj; obtain rfl : Value.int .i64 y = u := by simpa using hj
                exact hnews j y e
  · intro u hu
    obtain ⟨y, -, rfl⟩ := List.mem_map.1 hu
    rfl
end Go.Proofs.YtnpghhpcloljeabGreatDoor.hs

namespace Go.Proofs.YtnpghhpcloljeabGreatDoor.nt
open Go.RowKit
open reads base ty lg rowi hs
set_option linter.unusedVariables false
set_option linter.unusedSimpArgs false

/-- a list of ints in some block, and a world that is no less -/
def PutPo (bs : Nat) (ys : List Int) (w : World) (e : Ending) (w' : World) : Prop :=
  ∃ (g c : Nat), e = .returned (.slice (some ⟨g, 0, none⟩) ys.length c) ∧ w'.ownsRow bs 3 1 (.slice (some ⟨g, 0, none⟩) ys.length c) ys.length (ints.intsV ys) ∧ Below w.heap.size w w'
theorem own_mono {w : World} {b b' size n : Nat} {e : TypeId} {v : Value} {xs : List Value} (h : w.ownsRow b e size v n xs) (hb : b' ≤ b) : w.ownsRow b' e size v n xs := by
  refine ⟨h.1, ?_⟩
  rcases h.2 with q | ⟨g, cap, cur, h1, h2, h3⟩
  · exact .inl q
  · exact .inr ⟨g, cap, cur, h1, Nat.le_trans hb h2, h3⟩
theorem one_cell {W : World} {G : Nat} {a : Int} (h : Blk W G 3 #[.int .i64 a]) : ∀ j y, [a][j]? = some y → W.cell? ((⟨G, 0, none⟩ : Addr).add j) = some (.int .i64 y) := by
  intro j y hj
  match j, hj with
  | 0, hj =>
    obtain rfl : a = y := by simpa using hj
    have := h.cell 0
    simpa [Addr.add] using this
  | j + 1, hj => simp at hj
theorem fin {w W : World} {bs n k : Nat} {xs : List Int} {a : Int} {v : Value} (hp : put xs a = xs.take k ++ a :: xs.drop k ∧ bs ≤ w.heap.size) (hl : xs.length = n) (hk : k ≤ n) (ho : W.ownsRow w.heap.size 3 1 v (0 + k + 1 + (n - k)) (ints.intsV ([] ++ xs.take k ++ [a] ++ xs.drop k))) (hb : Below w.heap.size w W) : PutPo bs (put xs a) w (.returned v) W := by
  have e1 : put xs a = [] ++ xs.take k ++ [a] ++ xs.drop k := by rw [hp.1]; simp
  have e2 : 0 + k + 1 + (n - k) = (put xs a).length := by rw [hp.1, List.length_append, List.length_cons, List.length_take, List.length_drop]; omega
  rw [← e1, e2] at ho
  have h0 : 0 < (put xs a).length := by omega
  obtain ⟨g, cap, rfl, -, -⟩ := ho.form h0
  exact ⟨g, cap, rfl, own_mono ho hp.2, hb⟩
set_option maxHeartbeats 8000000 in
set_option maxRecDepth 100000 in
theorem put_any (bs g n c : Nat) (xs : List Int) (a : Int) (w : World) (hn : n ≤ 1000) (hb : Hid (bs ≤ w.heap.size)) (hown : Hid (w.ownsRow bs 3 1 (.slice (some ⟨g, 0, none⟩) n c) n (ints.intsV xs))) :
    Calls Tryz.prog 158 #[.slice (some ⟨g, 0, none⟩) n c, .int .i64 a] w (PutPo bs (put xs a) w) := by
  have hl : xs.length = n := by have h := hown.out.1; rw [ints.intsV_len] at h; omega
  have HL := Lib.hid hl
  have HC := Lib.hid (show ∀ k x, xs[k]? = some x → w.cell? ⟨g, k, none⟩ = some (.int .i64 x) from fun k x hx => by
    have hk : k < n := by rw [← hl]; exact (List.getElem?_eq_some_iff.1 hx).1
    rw [hown.out.cellAt k (by omega)]
    simp [ints.intsV, hx])
  have HGL := Lib.hid (hown.out.lt g rfl).2
  have hcn : n ≤ c := by
    rcases hown.out.2 with ⟨e1, e2⟩ | ⟨g', cp, cur, e1, _, _, h2, _⟩
    · cases e1
    · injection e1 with _ e1 e3; subst e3; exact h2
  clear hl
  have hct := cutN_le a xs
  rw [HL.out] at hct
  obtain ⟨ct, HCT⟩ : ∃ ct, Hid (cutN a xs = ct) := ⟨_, Lib.hid rfl⟩
  rw [HCT.out] at hct
  go_enter Tryz.func158, Tryz.ntmps158
  go_wp2_with fail
  go_loop [5] (fun i => ∃ k : Nat, k ≤ ct ∧ i = .int .i64 (k : Nat)) (fun i => ct - (intOf i).toNat)
  case atStart => exact ⟨0, Nat.zero_le _, rfl⟩
  case round =>
    obtain ⟨k, hk, rfl⟩ := hrel
    have hk0 : (0 : Int) ≤ (k : Int) := by omega
    by_cases hlt : k < ct
    · have hkn : k < n := by omega
      obtain ⟨x, hx⟩ := at_lt HL.out hkn
      have hxa := (cutN_go (n := a) (by rw [HCT.out]; exact hk) hx).2 (by rw [HCT.out]; exact hlt)
      have h0 := HC.out k x hx
      have hki : (k : Int) < (n : Int) := by omega
      have hkd : decide (k < n) = true := by simpa using hkn
      have hxd : decide (x < a) = true := by simpa using hxa
      clear hx
      go_wp2_with fail
      go_round
      case rel => exact ⟨k + 1, by omega, by go_num⟩
      case measure => simp [intOf]; omega
    obtain rfl : k = ct := by omega
    by_cases hkn : k < n
    · obtain ⟨x, hx⟩ := at_lt HL.out hkn
      have hxa : ¬ x < a := fun q => by have := (cutN_go (n := a) (by rw [HCT.out]; exact hk) hx).1 q; rw [HCT.out] at this; omega
      have HX := Lib.hid hx
      have h0 := HC.out k x hx
      have hki : (k : Int) < (n : Int) := by omega
      have hkd : decide (k < n) = true := by simpa using hkn
      have hxd : decide (x < a) = false := by simpa using hxa
      clear hx
      by_cases hxe : x = a
      · have hxb : (x == a) = true := by simpa using hxe
        have HP := Lib.hid (show put xs a = xs from put_old (by rw [HCT.out, HX.out, hxe]))
        have HB0 := Lib.hid (Below.refl w.heap.size w)
        have HN2 := Lib.hid (show (put xs a).length = n by rw [HP.out, HL.out])
        clear hxe
        go_wp2_with fail
        go_ret
        exact ⟨g, c, by rw [HN2.out]; rfl, by rw [HN2.out, HP.out]; exact hown.out, HB0.out⟩
      · have hxb : (x == a) = false := by simpa using hxe
        have HP := Lib.hid (show put xs a = xs.take k ++ a :: xs.drop k ∧ bs ≤ w.heap.size from ⟨by rw [put_new (by rw [HCT.out, HX.out]; simpa using hxe), HCT.out], hb.out⟩)
        clear hxe
        have hkn2 : k ≤ n := by omega
        have HT := Lib.hid (show ∀ W, Below w.heap.size w W → ∀ j y, (xs.take k)[j]? = some y → W.cell? ((⟨g, 0, none⟩ : Addr).add j) = some (.int .i64 y) from fun W hW j y hj => by
          have hjk : j < k := by have := (List.getElem?_eq_some_iff.1 hj).1; rw [List.length_take] at this; omega
          rw [List.getElem?_take_of_lt hjk] at hj
          rw [show (⟨g, 0, none⟩ : Addr).add j = ⟨g, j, none⟩ by unfold Addr.add; split <;> simp_all]
          exact (hW.cell (p := ⟨g, j, none⟩) HGL.out).trans (HC.out _ _ hj))
        have HD := Lib.hid (show ∀ W, Below w.heap.size w W → ∀ j y, (xs.drop k)[j]? = some y → W.cell? ((⟨g, k, none⟩ : Addr).add j) = some (.int .i64 y) from fun W hW j y hj => by
          rw [List.getElem?_drop] at hj
          rw [show (⟨g, k, none⟩ : Addr).add j = ⟨g, k + j, none⟩ by unfold Addr.add; split <;> simp_all]; exact (hW.cell (p := ⟨g, k + j, none⟩) HGL.out).trans (HC.out _ _ hj))
        have hkc2 : k ≤ c := by omega
        have hck : ¬ c = k := by omega
        go_upto_region 6 with fail
        refine wp_region_held_drew (S := (fun _ => True)) (by kernel_rfl) trivial (fun hHeld => ?_)
        obtain ⟨V0, HV0⟩ : ∃ V, Hid (w.drew = V) := ⟨_, Lib.hid rfl⟩
        have HB0 := Lib.hid (show Below w.heap.size w V0 by rw [← HV0.out]; exact (Below.refl _ _).drew)
        rw [HV0.out]
        clear HV0
        refine' wpAnyH_take (i := 1) (v := ?vp1_1) rfl (by kernel_rfl) (by kernel_rfl) (by kernel_rfl) (fun _ _ _ h => h) (Or.inl ⟨by rfl, ?hyp1_1⟩) (by assumption) ?restp1_1
        case hyp1_1 => (intro w hSw; (try dsimp only at hSw); go_simp; try (with_reducible rfl))
        simp only [Act.put, List.getElem_toArray, List.getElem_cons_succ, List.getElem_cons_zero, List.setIfInBounds_toArray, List.set_cons_zero, List.set_cons_succ]
        refine' wpAnyH_take (i := 2) (v := ?vp2_2) rfl (by kernel_rfl) (by kernel_rfl) (by kernel_rfl) (fun _ _ _ h => h) (Or.inl ⟨by rfl, ?hyp2_2⟩) (by assumption) ?restp2_2
        case hyp2_2 => (intro w hSw; (try dsimp only at hSw); go_simp; try (with_reducible rfl))
        simp only [Act.put, List.getElem_toArray, List.getElem_cons_succ, List.getElem_cons_zero, List.setIfInBounds_toArray, List.set_cons_zero, List.set_cons_succ]
        refine' wpAnyH_take (i := 3) (v := ?vp3_3) rfl (by kernel_rfl) (by kernel_rfl) (by kernel_rfl) (fun _ _ _ h => h) (Or.inl ⟨by rfl, ?hyp3_3⟩) (by assumption) ?restp3_3
        case hyp3_3 => (intro w hSw; (try dsimp only at hSw); go_simp; try (with_reducible rfl))
        simp only [Act.put, List.getElem_toArray, List.getElem_cons_succ, List.getElem_cons_zero, List.setIfInBounds_toArray, List.set_cons_zero, List.set_cons_succ]
        refine' wpAnyH_take (i := 5) (v := ?vp4_5) rfl (by kernel_rfl) (by kernel_rfl) (by kernel_rfl) (fun _ _ _ h => h) (Or.inl ⟨by rfl, ?hyp4_5⟩) (by assumption) ?restp4_5
        case hyp4_5 => (intro w hSw; (try dsimp only at hSw); go_simp; try (with_reducible rfl))
        simp only [Act.put, List.getElem_toArray, List.getElem_cons_succ, List.getElem_cons_zero, List.setIfInBounds_toArray, List.set_cons_zero, List.set_cons_succ]
        refine' wpAnyH_take (i := 8) (v := ?vp5_8) rfl (by kernel_rfl) (by kernel_rfl) (by kernel_rfl) (fun _ _ _ h => h) (Or.inl ⟨by rfl, ?hyp5_8⟩) (by assumption) ?restp5_8
        case hyp5_8 => (intro w hSw; (try dsimp only at hSw); go_simp; try (with_reducible rfl))
        simp only [Act.put, List.getElem_toArray, List.getElem_cons_succ, List.getElem_cons_zero, List.setIfInBounds_toArray, List.set_cons_zero, List.set_cons_succ]
        refine' wpAnyH_take (i := 9) (v := ?vp6_9) rfl (by kernel_rfl) (by kernel_rfl) (by kernel_rfl) (fun _ _ _ h => h) (Or.inl ⟨by rfl, ?hyp6_9⟩) (by assumption) ?restp6_9
        case hyp6_9 => (intro w hSw; (try dsimp only at hSw); go_simp; try (with_reducible rfl))
        simp only [Act.put, List.getElem_toArray, List.getElem_cons_succ, List.getElem_cons_zero, List.setIfInBounds_toArray, List.set_cons_zero, List.set_cons_succ]
        refine' wpAnyH_take (i := 10) (v := ?vp7_10) rfl (by kernel_rfl) (by kernel_rfl) (by kernel_rfl) (fun _ _ _ h => h) (Or.inl ⟨by rfl, ?hyp7_10⟩) (by assumption) ?restp7_10
        case hyp7_10 => (intro w hSw; (try dsimp only at hSw); go_simp; try (with_reducible rfl))
        simp only [Act.put, List.getElem_toArray, List.getElem_cons_succ, List.getElem_cons_zero, List.setIfInBounds_toArray, List.set_cons_zero, List.set_cons_succ]
        refine wpAnyH_ready (rs := [0, 6]) (by kernel_rfl) (by simp) ?_
        refine AllReadyH.cons rfl (fun K hK => ?_) (AllReadyH.cons rfl (fun K hK => ?_) AllReadyH.nil)
        · go_simp
          refine hK.out _ _ trivial (fun hHeld1 => ?_)
          clear hK K hHeld
          have hHeld := hHeld1
          clear hHeld1
          try simp only [Act.put, List.getElem_toArray, List.getElem_cons_succ, List.getElem_cons_zero, List.setIfInBounds_toArray, List.set_cons_zero, List.set_cons_succ]
          obtain ⟨G0, HG0⟩ : ∃ G, Hid (V0.heap.size = G) := ⟨_, Lib.hid rfl⟩
          obtain ⟨V1, HW⟩ : ∃ Wx, Hid (V0.alloc (.cells #[] 3) = Wx) := ⟨_, Lib.hid rfl⟩
          have HB1 := Lib.hid (show Below w.heap.size w V1 by rw [← HW.out]; exact HB0.out.alloc HB0.out.size _)
          have HO1 := Lib.hid (show V1.ownsRow w.heap.size 3 1 (.slice (some ⟨G0, 0, none⟩) 0 0) 0 (ints.intsV []) by rw [← HW.out, ← HG0.out]; exact World.ownsRow_made V0 #[] 0 HB0.out.size (by decide) (by simp))
          rw [HW.out]
          try rw [HG0.out]
          clear HW
          refine wpAnyH_ready (rs := [4, 6]) (by kernel_rfl) (by simp) ?_
          refine AllReadyH.cons rfl (fun K hK => ?_) (AllReadyH.cons rfl (fun K hK => ?_) AllReadyH.nil)
          · refine step_ints (news := xs.take k) rfl _ _ rfl rfl HO1.out rfl (by rw [List.length_take, HL.out]; omega) (HT.out V1 HB1.out) (by omega) HB1.out.size ?_
            intro v2 V2 ho hg
            have HB2 := Lib.hid (HB1.out.grown hg HB1.out.size (fun g e => (HO1.out.lt g e).1))
            have HO2 := Lib.hid (show V2.ownsRow w.heap.size 3 1 v2 (0 + k) (ints.intsV ([] ++ xs.take k)) from ho)
            refine hK.out _ _ trivial (fun hHeld1 => ?_)
            clear ho hg
            clear hK K hHeld
            have hHeld := hHeld1
            clear hHeld1
            try simp only [Act.put, List.getElem_toArray, List.getElem_cons_succ, List.getElem_cons_zero, List.setIfInBounds_toArray, List.set_cons_zero, List.set_cons_succ]
            refine wpAnyH_ready (rs := [6]) (by kernel_rfl) (by simp) ?_
            refine AllReadyH.cons rfl (fun K hK => ?_) AllReadyH.nil
            go_simp
            refine hK.out _ _ trivial (fun hHeld1 => ?_)
            clear hK K hHeld
            have hHeld := hHeld1
            clear hHeld1
            try simp only [Act.put, List.getElem_toArray, List.getElem_cons_succ, List.getElem_cons_zero, List.setIfInBounds_toArray, List.set_cons_zero, List.set_cons_succ]
            obtain ⟨G6, HG6⟩ : ∃ G, Hid (V2.heap.size = G) := ⟨_, Lib.hid rfl⟩
            obtain ⟨V3, HW⟩ : ∃ Wx, Hid (V2.alloc (.cells #[.int .i64 a] 3) = Wx) := ⟨_, Lib.hid rfl⟩
            have HB3 := Lib.hid (show Below w.heap.size w V3 by rw [← HW.out]; exact HB2.out.alloc HB2.out.size _)
            have HO3 := Lib.hid (show V3.ownsRow w.heap.size 3 1 v2 (0 + k) (ints.intsV ([] ++ xs.take k)) by rw [← HW.out]; exact HO2.out.alloc _)
            have HK3 := Lib.hid (show Blk V3 G6 3 #[.int .i64 a] by rw [← HW.out, ← HG6.out]; exact Blk.new _ _ _)
            rw [HW.out]
            try rw [HG6.out]
            clear HW
            refine wpAnyH_ready (rs := [7]) (by kernel_rfl) (by simp) ?_
            refine AllReadyH.cons rfl (fun K hK => ?_) AllReadyH.nil
            refine step_ints (news := [a]) rfl _ _ rfl rfl HO3.out rfl rfl (one_cell HK3.out) (by omega) HB3.out.size ?_
            intro v4 V4 ho hg
            have HB4 := Lib.hid (HB3.out.grown hg HB3.out.size (fun g e => (HO3.out.lt g e).1))
            have HO4 := Lib.hid (show V4.ownsRow w.heap.size 3 1 v4 (0 + k + 1) (ints.intsV ([] ++ xs.take k ++ [a])) from ho)
            refine hK.out _ _ trivial (fun hHeld1 => ?_)
            clear ho hg
            clear hK K hHeld
            have hHeld := hHeld1
            clear hHeld1
            try simp only [Act.put, List.getElem_toArray, List.getElem_cons_succ, List.getElem_cons_zero, List.setIfInBounds_toArray, List.set_cons_zero, List.set_cons_succ]
            refine wpAnyH_ready (rs := [11]) (by kernel_rfl) (by simp) ?_
            refine AllReadyH.cons rfl (fun K hK => ?_) AllReadyH.nil
            refine step_ints (news := xs.drop k) rfl _ _ rfl rfl HO4.out rfl (by rw [List.length_drop, HL.out]) (HD.out V4 HB4.out) (by omega) HB4.out.size ?_
            intro v5 V5 ho hg
            have HB5 := Lib.hid (HB4.out.grown hg HB4.out.size (fun g e => (HO4.out.lt g e).1))
            have HO5 := Lib.hid (show V5.ownsRow w.heap.size 3 1 v5 (0 + k + 1 + (n - k)) (ints.intsV ([] ++ xs.take k ++ [a] ++ xs.drop k)) from ho)
            refine hK.out _ _ trivial (fun hHeld1 => ?_)
            clear ho hg
            clear hK K hHeld
            have hHeld := hHeld1
            clear hHeld1
            try simp only [Act.put, List.getElem_toArray, List.getElem_cons_succ, List.getElem_cons_zero, List.setIfInBounds_toArray, List.set_cons_zero, List.set_cons_succ]
            refine' wpAnyH_take (i := 12) (v := ?vp8_12) rfl (by kernel_rfl) (by kernel_rfl) (by kernel_rfl) (fun _ _ _ h => h) (Or.inl ⟨by rfl, ?hyp8_12⟩) (by assumption) ?restp8_12
            case hyp8_12 => (intro w hSw; (try dsimp only at hSw); go_simp; try (with_reducible rfl))
            simp only [Act.put, List.getElem_toArray, List.getElem_cons_succ, List.getElem_cons_zero, List.setIfInBounds_toArray, List.set_cons_zero, List.set_cons_succ]
            refine wpAnyH_done (by kernel_rfl) ?_ _
            clear hHeld
            go_wp2_with fail
            go_ret
            exact fin HP.out HL.out hkn2 HO5.out HB5.out
          · go_simp
            refine hK.out _ _ trivial (fun hHeld1 => ?_)
            clear hK K hHeld
            have hHeld := hHeld1
            clear hHeld1
            try simp only [Act.put, List.getElem_toArray, List.getElem_cons_succ, List.getElem_cons_zero, List.setIfInBounds_toArray, List.set_cons_zero, List.set_cons_succ]
            obtain ⟨G6, HG6⟩ : ∃ G, Hid (V1.heap.size = G) := ⟨_, Lib.hid rfl⟩
            obtain ⟨V2, HW⟩ : ∃ Wx, Hid (V1.alloc (.cells #[.int .i64 a] 3) = Wx) := ⟨_, Lib.hid rfl⟩
            have HB2 := Lib.hid (show Below w.heap.size w V2 by rw [← HW.out]; exact HB1.out.alloc HB1.out.size _)
            have hne06 : ¬ G6 = G0 := by rw [← HG6.out]; have := (HO1.out.lt G0 rfl).2; omega
            have HO2 := Lib.hid (show V2.ownsRow w.heap.size 3 1 (.slice (some ⟨G0, 0, none⟩) 0 0) 0 (ints.intsV []) by rw [← HW.out]; exact HO1.out.alloc _)
            have HK2 := Lib.hid (show Blk V2 G6 3 #[.int .i64 a] by rw [← HW.out, ← HG6.out]; exact Blk.new _ _ _)
            rw [HW.out]
            try rw [HG6.out]
            clear HW
            refine wpAnyH_ready (rs := [4]) (by kernel_rfl) (by simp) ?_
            refine AllReadyH.cons rfl (fun K hK => ?_) AllReadyH.nil
            refine step_ints (news := xs.take k) rfl _ _ rfl rfl HO2.out rfl (by rw [List.length_take, HL.out]; omega) (HT.out V2 HB2.out) (by omega) HB2.out.size ?_
            intro v3 V3 ho hg
            have HB3 := Lib.hid (HB2.out.grown hg HB2.out.size (fun g e => (HO2.out.lt g e).1))
            have HO3 := Lib.hid (show V3.ownsRow w.heap.size 3 1 v3 (0 + k) (ints.intsV ([] ++ xs.take k)) from ho)
            have HK3 := Lib.hid (HK2.out.grown hg (by intro e; injection e with e; exact hne06 e))
            refine hK.out _ _ trivial (fun hHeld1 => ?_)
            clear ho hg
            clear hK K hHeld
            have hHeld := hHeld1
            clear hHeld1
            try simp only [Act.put, List.getElem_toArray, List.getElem_cons_succ, List.getElem_cons_zero, List.setIfInBounds_toArray, List.set_cons_zero, List.set_cons_succ]
            refine wpAnyH_ready (rs := [7]) (by kernel_rfl) (by simp) ?_
            refine AllReadyH.cons rfl (fun K hK => ?_) AllReadyH.nil
            refine step_ints (news := [a]) rfl _ _ rfl rfl HO3.out rfl rfl (one_cell HK3.out) (by omega) HB3.out.size ?_
            intro v4 V4 ho hg
            have HB4 := Lib.hid (HB3.out.grown hg HB3.out.size (fun g e => (HO3.out.lt g e).1))
            have HO4 := Lib.hid (show V4.ownsRow w.heap.size 3 1 v4 (0 + k + 1) (ints.intsV ([] ++ xs.take k ++ [a])) from ho)
            refine hK.out _ _ trivial (fun hHeld1 => ?_)
            clear ho hg
            clear hK K hHeld
            have hHeld := hHeld1
            clear hHeld1
            try simp only [Act.put, List.getElem_toArray, List.getElem_cons_succ, List.getElem_cons_zero, List.setIfInBounds_toArray, List.set_cons_zero, List.set_cons_succ]
            refine wpAnyH_ready (rs := [11]) (by kernel_rfl) (by simp) ?_
            refine AllReadyH.cons rfl (fun K hK => ?_) AllReadyH.nil
            refine step_ints (news := xs.drop k) rfl _ _ rfl rfl HO4.out rfl (by rw [List.length_drop, HL.out]) (HD.out V4 HB4.out) (by omega) HB4.out.size ?_
            intro v5 V5 ho hg
            have HB5 := Lib.hid (HB4.out.grown hg HB4.out.size (fun g e => (HO4.out.lt g e).1))
            have HO5 := Lib.hid (show V5.ownsRow w.heap.size 3 1 v5 (0 + k + 1 + (n - k)) (ints.intsV ([] ++ xs.take k ++ [a] ++ xs.drop k)) from ho)
            refine hK.out _ _ trivial (fun hHeld1 => ?_)
            clear ho hg
            clear hK K hHeld
            have hHeld := hHeld1
            clear hHeld1
            try simp only [Act.put, List.getElem_toArray, List.getElem_cons_succ, List.getElem_cons_zero, List.setIfInBounds_toArray, List.set_cons_zero, List.set_cons_succ]
            refine' wpAnyH_take (i := 12) (v := ?vp9_12) rfl (by kernel_rfl) (by kernel_rfl) (by kernel_rfl) (fun _ _ _ h => h) (Or.inl ⟨by rfl, ?hyp9_12⟩) (by assumption) ?restp9_12
            case hyp9_12 => (intro w hSw; (try dsimp only at hSw); go_simp; try (with_reducible rfl))
            simp only [Act.put, List.getElem_toArray, List.getElem_cons_succ, List.getElem_cons_zero, List.setIfInBounds_toArray, List.set_cons_zero, List.set_cons_succ]
            refine wpAnyH_done (by kernel_rfl) ?_ _
            clear hHeld
            go_wp2_with fail
            go_ret
            exact fin HP.out HL.out hkn2 HO5.out HB5.out
        · go_simp
          refine hK.out _ _ trivial (fun hHeld1 => ?_)
          clear hK K hHeld
          have hHeld := hHeld1
          clear hHeld1
          try simp only [Act.put, List.getElem_toArray, List.getElem_cons_succ, List.getElem_cons_zero, List.setIfInBounds_toArray, List.set_cons_zero, List.set_cons_succ]
          obtain ⟨G6, HG6⟩ : ∃ G, Hid (V0.heap.size = G) := ⟨_, Lib.hid rfl⟩
          obtain ⟨V1, HW⟩ : ∃ Wx, Hid (V0.alloc (.cells #[.int .i64 a] 3) = Wx) := ⟨_, Lib.hid rfl⟩
          have HB1 := Lib.hid (show Below w.heap.size w V1 by rw [← HW.out]; exact HB0.out.alloc HB0.out.size _)
          have HK1 := Lib.hid (show Blk V1 G6 3 #[.int .i64 a] by rw [← HW.out, ← HG6.out]; exact Blk.new _ _ _)
          rw [HW.out]
          try rw [HG6.out]
          clear HW
          refine wpAnyH_ready (rs := [0]) (by kernel_rfl) (by simp) ?_
          refine AllReadyH.cons rfl (fun K hK => ?_) AllReadyH.nil
          go_simp
          refine hK.out _ _ trivial (fun hHeld1 => ?_)
          clear hK K hHeld
          have hHeld := hHeld1
          clear hHeld1
          try simp only [Act.put, List.getElem_toArray, List.getElem_cons_succ, List.getElem_cons_zero, List.setIfInBounds_toArray, List.set_cons_zero, List.set_cons_succ]
          obtain ⟨G0, HG0⟩ : ∃ G, Hid (V1.heap.size = G) := ⟨_, Lib.hid rfl⟩
          obtain ⟨V2, HW⟩ : ∃ Wx, Hid (V1.alloc (.cells #[] 3) = Wx) := ⟨_, Lib.hid rfl⟩
          have HB2 := Lib.hid (show Below w.heap.size w V2 by rw [← HW.out]; exact HB1.out.alloc HB1.out.size _)
          have hne06 : ¬ G6 = G0 := by rw [← HG0.out]; have := HK1.out.lt; omega
          have HO2 := Lib.hid (show V2.ownsRow w.heap.size 3 1 (.slice (some ⟨G0, 0, none⟩) 0 0) 0 (ints.intsV []) by rw [← HW.out, ← HG0.out]; exact World.ownsRow_made V1 #[] 0 HB1.out.size (by decide) (by simp))
          have HK2 := Lib.hid (show Blk V2 G6 3 #[.int .i64 a] by rw [← HW.out]; exact HK1.out.alloc _)
          rw [HW.out]
          try rw [HG0.out]
          clear HW
          refine wpAnyH_ready (rs := [4]) (by kernel_rfl) (by simp) ?_
          refine AllReadyH.cons rfl (fun K hK => ?_) AllReadyH.nil
          refine step_ints (news := xs.take k) rfl _ _ rfl rfl HO2.out rfl (by rw [List.length_take, HL.out]; omega) (HT.out V2 HB2.out) (by omega) HB2.out.size ?_
          intro v3 V3 ho hg
          have HB3 := Lib.hid (HB2.out.grown hg HB2.out.size (fun g e => (HO2.out.lt g e).1))
          have HO3 := Lib.hid (show V3.ownsRow w.heap.size 3 1 v3 (0 + k) (ints.intsV ([] ++ xs.take k)) from ho)
          have HK3 := Lib.hid (HK2.out.grown hg (by intro e; injection e with e; exact hne06 e))
          refine hK.out _ _ trivial (fun hHeld1 => ?_)
          clear ho hg
          clear hK K hHeld
          have hHeld := hHeld1
          clear hHeld1
          try simp only [Act.put, List.getElem_toArray, List.getElem_cons_succ, List.getElem_cons_zero, List.setIfInBounds_toArray, List.set_cons_zero, List.set_cons_succ]
          refine wpAnyH_ready (rs := [7]) (by kernel_rfl) (by simp) ?_
          refine AllReadyH.cons rfl (fun K hK => ?_) AllReadyH.nil
          refine step_ints (news := [a]) rfl _ _ rfl rfl HO3.out rfl rfl (one_cell HK3.out) (by omega) HB3.out.size ?_
          intro v4 V4 ho hg
          have HB4 := Lib.hid (HB3.out.grown hg HB3.out.size (fun g e => (HO3.out.lt g e).1))
          have HO4 := Lib.hid (show V4.ownsRow w.heap.size 3 1 v4 (0 + k + 1) (ints.intsV ([] ++ xs.take k ++ [a])) from ho)
          refine hK.out _ _ trivial (fun hHeld1 => ?_)
          clear ho hg
          clear hK K hHeld
          have hHeld := hHeld1
          clear hHeld1
          try simp only [Act.put, List.getElem_toArray, List.getElem_cons_succ, List.getElem_cons_zero, List.setIfInBounds_toArray, List.set_cons_zero, List.set_cons_succ]
          refine wpAnyH_ready (rs := [11]) (by kernel_rfl) (by simp) ?_
          refine AllReadyH.cons rfl (fun K hK => ?_) AllReadyH.nil
          refine step_ints (news := xs.drop k) rfl _ _ rfl rfl HO4.out rfl (by rw [List.length_drop, HL.out]) (HD.out V4 HB4.out) (by omega) HB4.out.size ?_
          intro v5 V5 ho hg
          have HB5 := Lib.hid (HB4.out.grown hg HB4.out.size (fun g e => (HO4.out.lt g e).1))
          have HO5 := Lib.hid (show V5.ownsRow w.heap.size 3 1 v5 (0 + k + 1 + (n - k)) (ints.intsV ([] ++ xs.take k ++ [a] ++ xs.drop k)) from ho)
          refine hK.out _ _ trivial (fun hHeld1 => ?_)
          clear ho hg
          clear hK K hHeld
          have hHeld := hHeld1
          clear hHeld1
          try simp only [Act.put, List.getElem_toArray, List.getElem_cons_succ, List.getElem_cons_zero, List.setIfInBounds_toArray, List.set_cons_zero, List.set_cons_succ]
          refine' wpAnyH_take (i := 12) (v := ?vp10_12) rfl (by kernel_rfl) (by kernel_rfl) (by kernel_rfl) (fun _ _ _ h => h) (Or.inl ⟨by rfl, ?hyp10_12⟩) (by assumption) ?restp10_12
          case hyp10_12 => (intro w hSw; (try dsimp only at hSw); go_simp; try (with_reducible rfl))
          simp only [Act.put, List.getElem_toArray, List.getElem_cons_succ, List.getElem_cons_zero, List.setIfInBounds_toArray, List.set_cons_zero, List.set_cons_succ]
          refine wpAnyH_done (by kernel_rfl) ?_ _
          clear hHeld
          go_wp2_with fail
          go_ret
          exact fin HP.out HL.out hkn2 HO5.out HB5.out
    · have hkd : decide (k < n) = false := by simpa using hkn
      have hki : ¬ (k : Int) < (n : Int) := by omega
      have HP := Lib.hid (show put xs a = xs.take k ++ a :: xs.drop k ∧ bs ≤ w.heap.size from ⟨by rw [put_new (by rw [HCT.out, List.getElem?_eq_none (by rw [HL.out]; omega)]; simp), HCT.out], hb.out⟩)
      have hkn2 : k ≤ n := by omega
      by_cases hck : c = k
      · have hck2 : k = c := hck.symm
        subst hck2
        have HT := Lib.hid (show ∀ W, Below w.heap.size w W → ∀ j y, (xs.take k)[j]? = some y → W.cell? ((⟨g, 0, none⟩ : Addr).add j) = some (.int .i64 y) from fun W hW j y hj => by
          have hjk : j < k := by have := (List.getElem?_eq_some_iff.1 hj).1; rw [List.length_take] at this; omega
          rw [List.getElem?_take_of_lt hjk] at hj
          rw [show (⟨g, 0, none⟩ : Addr).add j = ⟨g, j, none⟩ by unfold Addr.add; split <;> simp_all]
          exact (hW.cell (p := ⟨g, j, none⟩) HGL.out).trans (HC.out _ _ hj))
        have HD := Lib.hid (show ∀ W, Below w.heap.size w W → ∀ j y, (xs.drop k)[j]? = some y → W.cell? ((⟨g, 0, none⟩ : Addr).add j) = some (.int .i64 y) from fun W hW j y hj => by
          rw [List.getElem?_drop] at hj
          rw [List.getElem?_eq_none (by rw [HL.out]; omega)] at hj; cases hj)
        have hkc2 : k ≤ k := Nat.le_refl _
        go_upto_region 6 with fail
        refine wp_region_held_drew (S := (fun _ => True)) (by kernel_rfl) trivial (fun hHeld => ?_)
        obtain ⟨V0, HV0⟩ : ∃ V, Hid (w.drew = V) := ⟨_, Lib.hid rfl⟩
        have HB0 := Lib.hid (show Below w.heap.size w V0 by rw [← HV0.out]; exact (Below.refl _ _).drew)
        rw [HV0.out]
        clear HV0
        refine' wpAnyH_take (i := 1) (v := ?vp11_1) rfl (by kernel_rfl) (by kernel_rfl) (by kernel_rfl) (fun _ _ _ h => h) (Or.inl ⟨by rfl, ?hyp11_1⟩) (by assumption) ?restp11_1
        case hyp11_1 => (intro w hSw; (try dsimp only at hSw); go_simp; try (with_reducible rfl))
        simp only [Act.put, List.getElem_toArray, List.getElem_cons_succ, List.getElem_cons_zero, List.setIfInBounds_toArray, List.set_cons_zero, List.set_cons_succ]
        refine' wpAnyH_take (i := 2) (v := ?vp12_2) rfl (by kernel_rfl) (by kernel_rfl) (by kernel_rfl) (fun _ _ _ h => h) (Or.inl ⟨by rfl, ?hyp12_2⟩) (by assumption) ?restp12_2
        case hyp12_2 => (intro w hSw; (try dsimp only at hSw); go_simp; try (with_reducible rfl))
        simp only [Act.put, List.getElem_toArray, List.getElem_cons_succ, List.getElem_cons_zero, List.setIfInBounds_toArray, List.set_cons_zero, List.set_cons_succ]
        refine' wpAnyH_take (i := 3) (v := ?vp13_3) rfl (by kernel_rfl) (by kernel_rfl) (by kernel_rfl) (fun _ _ _ h => h) (Or.inl ⟨by rfl, ?hyp13_3⟩) (by assumption) ?restp13_3
        case hyp13_3 => (intro w hSw; (try dsimp only at hSw); go_simp; try (with_reducible rfl))
        simp only [Act.put, List.getElem_toArray, List.getElem_cons_succ, List.getElem_cons_zero, List.setIfInBounds_toArray, List.set_cons_zero, List.set_cons_succ]
        refine' wpAnyH_take (i := 5) (v := ?vp14_5) rfl (by kernel_rfl) (by kernel_rfl) (by kernel_rfl) (fun _ _ _ h => h) (Or.inl ⟨by rfl, ?hyp14_5⟩) (by assumption) ?restp14_5
        case hyp14_5 => (intro w hSw; (try dsimp only at hSw); go_simp; try (with_reducible rfl))
        simp only [Act.put, List.getElem_toArray, List.getElem_cons_succ, List.getElem_cons_zero, List.setIfInBounds_toArray, List.set_cons_zero, List.set_cons_succ]
        refine' wpAnyH_take (i := 8) (v := ?vp15_8) rfl (by kernel_rfl) (by kernel_rfl) (by kernel_rfl) (fun _ _ _ h => h) (Or.inl ⟨by rfl, ?hyp15_8⟩) (by assumption) ?restp15_8
        case hyp15_8 => (intro w hSw; (try dsimp only at hSw); go_simp; try (with_reducible rfl))
        simp only [Act.put, List.getElem_toArray, List.getElem_cons_succ, List.getElem_cons_zero, List.setIfInBounds_toArray, List.set_cons_zero, List.set_cons_succ]
        refine' wpAnyH_take (i := 9) (v := ?vp16_9) rfl (by kernel_rfl) (by kernel_rfl) (by kernel_rfl) (fun _ _ _ h => h) (Or.inl ⟨by rfl, ?hyp16_9⟩) (by assumption) ?restp16_9
        case hyp16_9 => (intro w hSw; (try dsimp only at hSw); go_simp; try (with_reducible rfl))
        simp only [Act.put, List.getElem_toArray, List.getElem_cons_succ, List.getElem_cons_zero, List.setIfInBounds_toArray, List.set_cons_zero, List.set_cons_succ]
        refine' wpAnyH_take (i := 10) (v := ?vp17_10) rfl (by kernel_rfl) (by kernel_rfl) (by kernel_rfl) (fun _ _ _ h => h) (Or.inl ⟨by rfl, ?hyp17_10⟩) (by assumption) ?restp17_10
        case hyp17_10 => (intro w hSw; (try dsimp only at hSw); go_simp; try (with_reducible rfl))
        simp only [Act.put, List.getElem_toArray, List.getElem_cons_succ, List.getElem_cons_zero, List.setIfInBounds_toArray, List.set_cons_zero, List.set_cons_succ]
        refine wpAnyH_ready (rs := [0, 6]) (by kernel_rfl) (by simp) ?_
        refine AllReadyH.cons rfl (fun K hK => ?_) (AllReadyH.cons rfl (fun K hK => ?_) AllReadyH.nil)
        · go_simp
          refine hK.out _ _ trivial (fun hHeld1 => ?_)
          clear hK K hHeld
          have hHeld := hHeld1
          clear hHeld1
          try simp only [Act.put, List.getElem_toArray, List.getElem_cons_succ, List.getElem_cons_zero, List.setIfInBounds_toArray, List.set_cons_zero, List.set_cons_succ]
          obtain ⟨G0, HG0⟩ : ∃ G, Hid (V0.heap.size = G) := ⟨_, Lib.hid rfl⟩
          obtain ⟨V1, HW⟩ : ∃ Wx, Hid (V0.alloc (.cells #[] 3) = Wx) := ⟨_, Lib.hid rfl⟩
          have HB1 := Lib.hid (show Below w.heap.size w V1 by rw [← HW.out]; exact HB0.out.alloc HB0.out.size _)
          have HO1 := Lib.hid (show V1.ownsRow w.heap.size 3 1 (.slice (some ⟨G0, 0, none⟩) 0 0) 0 (ints.intsV []) by rw [← HW.out, ← HG0.out]; exact World.ownsRow_made V0 #[] 0 HB0.out.size (by decide) (by simp))
          rw [HW.out]
          try rw [HG0.out]
          clear HW
          refine wpAnyH_ready (rs := [4, 6]) (by kernel_rfl) (by simp) ?_
          refine AllReadyH.cons rfl (fun K hK => ?_) (AllReadyH.cons rfl (fun K hK => ?_) AllReadyH.nil)
          · refine step_ints (news := xs.take k) rfl _ _ rfl rfl HO1.out rfl (by rw [List.length_take, HL.out]; omega) (HT.out V1 HB1.out) (by omega) HB1.out.size ?_
            intro v2 V2 ho hg
            have HB2 := Lib.hid (HB1.out.grown hg HB1.out.size (fun g e => (HO1.out.lt g e).1))
            have HO2 := Lib.hid (show V2.ownsRow w.heap.size 3 1 v2 (0 + k) (ints.intsV ([] ++ xs.take k)) from ho)
            refine hK.out _ _ trivial (fun hHeld1 => ?_)
            clear ho hg
            clear hK K hHeld
            have hHeld := hHeld1
            clear hHeld1
            try simp only [Act.put, List.getElem_toArray, List.getElem_cons_succ, List.getElem_cons_zero, List.setIfInBounds_toArray, List.set_cons_zero, List.set_cons_succ]
            refine wpAnyH_ready (rs := [6]) (by kernel_rfl) (by simp) ?_
            refine AllReadyH.cons rfl (fun K hK => ?_) AllReadyH.nil
            go_simp
            refine hK.out _ _ trivial (fun hHeld1 => ?_)
            clear hK K hHeld
            have hHeld := hHeld1
            clear hHeld1
            try simp only [Act.put, List.getElem_toArray, List.getElem_cons_succ, List.getElem_cons_zero, List.setIfInBounds_toArray, List.set_cons_zero, List.set_cons_succ]
            obtain ⟨G6, HG6⟩ : ∃ G, Hid (V2.heap.size = G) := ⟨_, Lib.hid rfl⟩
            obtain ⟨V3, HW⟩ : ∃ Wx, Hid (V2.alloc (.cells #[.int .i64 a] 3) = Wx) := ⟨_, Lib.hid rfl⟩
            have HB3 := Lib.hid (show Below w.heap.size w V3 by rw [← HW.out]; exact HB2.out.alloc HB2.out.size _)
            have HO3 := Lib.hid (show V3.ownsRow w.heap.size 3 1 v2 (0 + k) (ints.intsV ([] ++ xs.take k)) by rw [← HW.out]; exact HO2.out.alloc _)
            have HK3 := Lib.hid (show Blk V3 G6 3 #[.int .i64 a] by rw [← HW.out, ← HG6.out]; exact Blk.new _ _ _)
            rw [HW.out]
            try rw [HG6.out]
            clear HW
            refine wpAnyH_ready (rs := [7]) (by kernel_rfl) (by simp) ?_
            refine AllReadyH.cons rfl (fun K hK => ?_) AllReadyH.nil
            refine step_ints (news := [a]) rfl _ _ rfl rfl HO3.out rfl rfl (one_cell HK3.out) (by omega) HB3.out.size ?_
            intro v4 V4 ho hg
            have HB4 := Lib.hid (HB3.out.grown hg HB3.out.size (fun g e => (HO3.out.lt g e).1))
            have HO4 := Lib.hid (show V4.ownsRow w.heap.size 3 1 v4 (0 + k + 1) (ints.intsV ([] ++ xs.take k ++ [a])) from ho)
            refine hK.out _ _ trivial (fun hHeld1 => ?_)
            clear ho hg
            clear hK K hHeld
            have hHeld := hHeld1
            clear hHeld1
            try simp only [Act.put, List.getElem_toArray, List.getElem_cons_succ, List.getElem_cons_zero, List.setIfInBounds_toArray, List.set_cons_zero, List.set_cons_succ]
            refine wpAnyH_ready (rs := [11]) (by kernel_rfl) (by simp) ?_
            refine AllReadyH.cons rfl (fun K hK => ?_) AllReadyH.nil
            refine step_ints (news := xs.drop k) rfl _ _ rfl rfl HO4.out rfl (by rw [List.length_drop, HL.out]; omega) (HD.out V4 HB4.out) (by omega) HB4.out.size ?_
            intro v5 V5 ho hg
            have HB5 := Lib.hid (HB4.out.grown hg HB4.out.size (fun g e => (HO4.out.lt g e).1))
            have HO5 := Lib.hid (show V5.ownsRow w.heap.size 3 1 v5 (0 + k + 1 + 0) (ints.intsV ([] ++ xs.take k ++ [a] ++ xs.drop k)) from ho)
            refine hK.out _ _ trivial (fun hHeld1 => ?_)
            clear ho hg
            clear hK K hHeld
            have hHeld := hHeld1
            clear hHeld1
            try simp only [Act.put, List.getElem_toArray, List.getElem_cons_succ, List.getElem_cons_zero, List.setIfInBounds_toArray, List.set_cons_zero, List.set_cons_succ]
            refine' wpAnyH_take (i := 12) (v := ?vp18_12) rfl (by kernel_rfl) (by kernel_rfl) (by kernel_rfl) (fun _ _ _ h => h) (Or.inl ⟨by rfl, ?hyp18_12⟩) (by assumption) ?restp18_12
            case hyp18_12 => (intro w hSw; (try dsimp only at hSw); go_simp; try (with_reducible rfl))
            simp only [Act.put, List.getElem_toArray, List.getElem_cons_succ, List.getElem_cons_zero, List.setIfInBounds_toArray, List.set_cons_zero, List.set_cons_succ]
            refine wpAnyH_done (by kernel_rfl) ?_ _
            clear hHeld
            go_wp2_with fail
            go_ret
            exact fin HP.out HL.out hkn2 (by have h := HO5.out; rwa [show 0 + k + 1 + 0 = 0 + k + 1 + (n - k) by omega] at h) HB5.out
          · go_simp
            refine hK.out _ _ trivial (fun hHeld1 => ?_)
            clear hK K hHeld
            have hHeld := hHeld1
            clear hHeld1
            try simp only [Act.put, List.getElem_toArray, List.getElem_cons_succ, List.getElem_cons_zero, List.setIfInBounds_toArray, List.set_cons_zero, List.set_cons_succ]
            obtain ⟨G6, HG6⟩ : ∃ G, Hid (V1.heap.size = G) := ⟨_, Lib.hid rfl⟩
            obtain ⟨V2, HW⟩ : ∃ Wx, Hid (V1.alloc (.cells #[.int .i64 a] 3) = Wx) := ⟨_, Lib.hid rfl⟩
            have HB2 := Lib.hid (show Below w.heap.size w V2 by rw [← HW.out]; exact HB1.out.alloc HB1.out.size _)
            have hne06 : ¬ G6 = G0 := by rw [← HG6.out]; have := (HO1.out.lt G0 rfl).2; omega
            have HO2 := Lib.hid (show V2.ownsRow w.heap.size 3 1 (.slice (some ⟨G0, 0, none⟩) 0 0) 0 (ints.intsV []) by rw [← HW.out]; exact HO1.out.alloc _)
            have HK2 := Lib.hid (show Blk V2 G6 3 #[.int .i64 a] by rw [← HW.out, ← HG6.out]; exact Blk.new _ _ _)
            rw [HW.out]
            try rw [HG6.out]
            clear HW
            refine wpAnyH_ready (rs := [4]) (by kernel_rfl) (by simp) ?_
            refine AllReadyH.cons rfl (fun K hK => ?_) AllReadyH.nil
            refine step_ints (news := xs.take k) rfl _ _ rfl rfl HO2.out rfl (by rw [List.length_take, HL.out]; omega) (HT.out V2 HB2.out) (by omega) HB2.out.size ?_
            intro v3 V3 ho hg
            have HB3 := Lib.hid (HB2.out.grown hg HB2.out.size (fun g e => (HO2.out.lt g e).1))
            have HO3 := Lib.hid (show V3.ownsRow w.heap.size 3 1 v3 (0 + k) (ints.intsV ([] ++ xs.take k)) from ho)
            have HK3 := Lib.hid (HK2.out.grown hg (by intro e; injection e with e; exact hne06 e))
            refine hK.out _ _ trivial (fun hHeld1 => ?_)
            clear ho hg
            clear hK K hHeld
            have hHeld := hHeld1
            clear hHeld1
            try simp only [Act.put, List.getElem_toArray, List.getElem_cons_succ, List.getElem_cons_zero, List.setIfInBounds_toArray, List.set_cons_zero, List.set_cons_succ]
            refine wpAnyH_ready (rs := [7]) (by kernel_rfl) (by simp) ?_
            refine AllReadyH.cons rfl (fun K hK => ?_) AllReadyH.nil
            refine step_ints (news := [a]) rfl _ _ rfl rfl HO3.out rfl rfl (one_cell HK3.out) (by omega) HB3.out.size ?_
            intro v4 V4 ho hg
            have HB4 := Lib.hid (HB3.out.grown hg HB3.out.size (fun g e => (HO3.out.lt g e).1))
            have HO4 := Lib.hid (show V4.ownsRow w.heap.size 3 1 v4 (0 + k + 1) (ints.intsV ([] ++ xs.take k ++ [a])) from ho)
            refine hK.out _ _ trivial (fun hHeld1 => ?_)
            clear ho hg
            clear hK K hHeld
            have hHeld := hHeld1
            clear hHeld1
            try simp only [Act.put, List.getElem_toArray, List.getElem_cons_succ, List.getElem_cons_zero, List.setIfInBounds_toArray, List.set_cons_zero, List.set_cons_succ]
            refine wpAnyH_ready (rs := [11]) (by kernel_rfl) (by simp) ?_
            refine AllReadyH.cons rfl (fun K hK => ?_) AllReadyH.nil
            refine step_ints (news := xs.drop k) rfl _ _ rfl rfl HO4.out rfl (by rw [List.length_drop, HL.out]; omega) (HD.out V4 HB4.out) (by omega) HB4.out.size ?_
            intro v5 V5 ho hg
            have HB5 := Lib.hid (HB4.out.grown hg HB4.out.size (fun g e => (HO4.out.lt g e).1))
            have HO5 := Lib.hid (show V5.ownsRow w.heap.size 3 1 v5 (0 + k + 1 + 0) (ints.intsV ([] ++ xs.take k ++ [a] ++ xs.drop k)) from ho)
            refine hK.out _ _ trivial (fun hHeld1 => ?_)
            clear ho hg
            clear hK K hHeld
            have hHeld := hHeld1
            clear hHeld1
            try simp only [Act.put, List.getElem_toArray, List.getElem_cons_succ, List.getElem_cons_zero, List.setIfInBounds_toArray, List.set_cons_zero, List.set_cons_succ]
            refine' wpAnyH_take (i := 12) (v := ?vp19_12) rfl (by kernel_rfl) (by kernel_rfl) (by kernel_rfl) (fun _ _ _ h => h) (Or.inl ⟨by rfl, ?hyp19_12⟩) (by assumption) ?restp19_12
            case hyp19_12 => (intro w hSw; (try dsimp only at hSw); go_simp; try (with_reducible rfl))
            simp only [Act.put, List.getElem_toArray, List.getElem_cons_succ, List.getElem_cons_zero, List.setIfInBounds_toArray, List.set_cons_zero, List.set_cons_succ]
            refine wpAnyH_done (by kernel_rfl) ?_ _
            clear hHeld
            go_wp2_with fail
            go_ret
            exact fin HP.out HL.out hkn2 (by have h := HO5.out; rwa [show 0 + k + 1 + 0 = 0 + k + 1 + (n - k) by omega] at h) HB5.out
        · go_simp
          refine hK.out _ _ trivial (fun hHeld1 => ?_)
          clear hK K hHeld
          have hHeld := hHeld1
          clear hHeld1
          try simp only [Act.put, List.getElem_toArray, List.getElem_cons_succ, List.getElem_cons_zero, List.setIfInBounds_toArray, List.set_cons_zero, List.set_cons_succ]
          obtain ⟨G6, HG6⟩ : ∃ G, Hid (V0.heap.size = G) := ⟨_, Lib.hid rfl⟩
          obtain ⟨V1, HW⟩ : ∃ Wx, Hid (V0.alloc (.cells #[.int .i64 a] 3) = Wx) := ⟨_, Lib.hid rfl⟩
          have HB1 := Lib.hid (show Below w.heap.size w V1 by rw [← HW.out]; exact HB0.out.alloc HB0.out.size _)
          have HK1 := Lib.hid (show Blk V1 G6 3 #[.int .i64 a] by rw [← HW.out, ← HG6.out]; exact Blk.new _ _ _)
          rw [HW.out]
          try rw [HG6.out]
          clear HW
          refine wpAnyH_ready (rs := [0]) (by kernel_rfl) (by simp) ?_
          refine AllReadyH.cons rfl (fun K hK => ?_) AllReadyH.nil
          go_simp
          refine hK.out _ _ trivial (fun hHeld1 => ?_)
          clear hK K hHeld
          have hHeld := hHeld1
          clear hHeld1
          try simp only [Act.put, List.getElem_toArray, List.getElem_cons_succ, List.getElem_cons_zero, List.setIfInBounds_toArray, List.set_cons_zero, List.set_cons_succ]
          obtain ⟨G0, HG0⟩ : ∃ G, Hid (V1.heap.size = G) := ⟨_, Lib.hid rfl⟩
          obtain ⟨V2, HW⟩ : ∃ Wx, Hid (V1.alloc (.cells #[] 3) = Wx) := ⟨_, Lib.hid rfl⟩
          have HB2 := Lib.hid (show Below w.heap.size w V2 by rw [← HW.out]; exact HB1.out.alloc HB1.out.size _)
          have hne06 : ¬ G6 = G0 := by rw [← HG0.out]; have := HK1.out.lt; omega
          have HO2 := Lib.hid (show V2.ownsRow w.heap.size 3 1 (.slice (some ⟨G0, 0, none⟩) 0 0) 0 (ints.intsV []) by rw [← HW.out, ← HG0.out]; exact World.ownsRow_made V1 #[] 0 HB1.out.size (by decide) (by simp))
          have HK2 := Lib.hid (show Blk V2 G6 3 #[.int .i64 a] by rw [← HW.out]; exact HK1.out.alloc _)
          rw [HW.out]
          try rw [HG0.out]
          clear HW
          refine wpAnyH_ready (rs := [4]) (by kernel_rfl) (by simp) ?_
          refine AllReadyH.cons rfl (fun K hK => ?_) AllReadyH.nil
          refine step_ints (news := xs.take k) rfl _ _ rfl rfl HO2.out rfl (by rw [List.length_take, HL.out]; omega) (HT.out V2 HB2.out) (by omega) HB2.out.size ?_
          intro v3 V3 ho hg
          have HB3 := Lib.hid (HB2.out.grown hg HB2.out.size (fun g e => (HO2.out.lt g e).1))
          have HO3 := Lib.hid (show V3.ownsRow w.heap.size 3 1 v3 (0 + k) (ints.intsV ([] ++ xs.take k)) from ho)
          have HK3 := Lib.hid (HK2.out.grown hg (by intro e; injection e with e; exact hne06 e))
          refine hK.out _ _ trivial (fun hHeld1 => ?_)
          clear ho hg
          clear hK K hHeld
          have hHeld := hHeld1
          clear hHeld1
          try simp only [Act.put, List.getElem_toArray, List.getElem_cons_succ, List.getElem_cons_zero, List.setIfInBounds_toArray, List.set_cons_zero, List.set_cons_succ]
          refine wpAnyH_ready (rs := [7]) (by kernel_rfl) (by simp) ?_
          refine AllReadyH.cons rfl (fun K hK => ?_) AllReadyH.nil
          refine step_ints (news := [a]) rfl _ _ rfl rfl HO3.out rfl rfl (one_cell HK3.out) (by omega) HB3.out.size ?_
          intro v4 V4 ho hg
          have HB4 := Lib.hid (HB3.out.grown hg HB3.out.size (fun g e => (HO3.out.lt g e).1))
          have HO4 := Lib.hid (show V4.ownsRow w.heap.size 3 1 v4 (0 + k + 1) (ints.intsV ([] ++ xs.take k ++ [a])) from ho)
          refine hK.out _ _ trivial (fun hHeld1 => ?_)
          clear ho hg
          clear hK K hHeld
          have hHeld := hHeld1
          clear hHeld1
          try simp only [Act.put, List.getElem_toArray, List.getElem_cons_succ, List.getElem_cons_zero, List.setIfInBounds_toArray, List.set_cons_zero, List.set_cons_succ]
          refine wpAnyH_ready (rs := [11]) (by kernel_rfl) (by simp) ?_
          refine AllReadyH.cons rfl (fun K hK => ?_) AllReadyH.nil
          refine step_ints (news := xs.drop k) rfl _ _ rfl rfl HO4.out rfl (by rw [List.length_drop, HL.out]; omega) (HD.out V4 HB4.out) (by omega) HB4.out.size ?_
          intro v5 V5 ho hg
          have HB5 := Lib.hid (HB4.out.grown hg HB4.out.size (fun g e => (HO4.out.lt g e).1))
          have HO5 := Lib.hid (show V5.ownsRow w.heap.size 3 1 v5 (0 + k + 1 + 0) (ints.intsV ([] ++ xs.take k ++ [a] ++ xs.drop k)) from ho)
          refine hK.out _ _ trivial (fun hHeld1 => ?_)
          clear ho hg
          clear hK K hHeld
          have hHeld := hHeld1
          clear hHeld1
          try simp only [Act.put, List.getElem_toArray, List.getElem_cons_succ, List.getElem_cons_zero, List.setIfInBounds_toArray, List.set_cons_zero, List.set_cons_succ]
          refine' wpAnyH_take (i := 12) (v := ?vp20_12) rfl (by kernel_rfl) (by kernel_rfl) (by kernel_rfl) (fun _ _ _ h => h) (Or.inl ⟨by rfl, ?hyp20_12⟩) (by assumption) ?restp20_12
          case hyp20_12 => (intro w hSw; (try dsimp only at hSw); go_simp; try (with_reducible rfl))
          simp only [Act.put, List.getElem_toArray, List.getElem_cons_succ, List.getElem_cons_zero, List.setIfInBounds_toArray, List.set_cons_zero, List.set_cons_succ]
          refine wpAnyH_done (by kernel_rfl) ?_ _
          clear hHeld
          go_wp2_with fail
          go_ret
          exact fin HP.out HL.out hkn2 (by have h := HO5.out; rwa [show 0 + k + 1 + 0 = 0 + k + 1 + (n - k) by omega] at h) HB5.out
      · skip
        have HT := Lib.hid (show ∀ W, Below w.heap.size w W → ∀ j y, (xs.take k)[j]? = some y → W.cell? ((⟨g, 0, none⟩ : Addr).add j) = some (.int .i64 y) from fun W hW j y hj => by
          have hjk : j < k := by have := (List.getElem?_eq_some_iff.1 hj).1; rw [List.length_take] at this; omega
          rw [List.getElem?_take_of_lt hjk] at hj
          rw [show (⟨g, 0, none⟩ : Addr).add j = ⟨g, j, none⟩ by unfold Addr.add; split <;> simp_all]
          exact (hW.cell (p := ⟨g, j, none⟩) HGL.out).trans (HC.out _ _ hj))
        have HD := Lib.hid (show ∀ W, Below w.heap.size w W → ∀ j y, (xs.drop k)[j]? = some y → W.cell? ((⟨g, k, none⟩ : Addr).add j) = some (.int .i64 y) from fun W hW j y hj => by
          rw [List.getElem?_drop] at hj
          rw [show (⟨g, k, none⟩ : Addr).add j = ⟨g, k + j, none⟩ by unfold Addr.add; split <;> simp_all]; exact (hW.cell (p := ⟨g, k + j, none⟩) HGL.out).trans (HC.out _ _ hj))
        have hkc2 : k ≤ c := by omega
        go_upto_region 6 with fail
        refine wp_region_held_drew (S := (fun _ => True)) (by kernel_rfl) trivial (fun hHeld => ?_)
        obtain ⟨V0, HV0⟩ : ∃ V, Hid (w.drew = V) := ⟨_, Lib.hid rfl⟩
        have HB0 := Lib.hid (show Below w.heap.size w V0 by rw [← HV0.out]; exact (Below.refl _ _).drew)
        rw [HV0.out]
        clear HV0
        refine' wpAnyH_take (i := 1) (v := ?vp21_1) rfl (by kernel_rfl) (by kernel_rfl) (by kernel_rfl) (fun _ _ _ h => h) (Or.inl ⟨by rfl, ?hyp21_1⟩) (by assumption) ?restp21_1
        case hyp21_1 => (intro w hSw; (try dsimp only at hSw); go_simp; try (with_reducible rfl))
        simp only [Act.put, List.getElem_toArray, List.getElem_cons_succ, List.getElem_cons_zero, List.setIfInBounds_toArray, List.set_cons_zero, List.set_cons_succ]
        refine' wpAnyH_take (i := 2) (v := ?vp22_2) rfl (by kernel_rfl) (by kernel_rfl) (by kernel_rfl) (fun _ _ _ h => h) (Or.inl ⟨by rfl, ?hyp22_2⟩) (by assumption) ?restp22_2
        case hyp22_2 => (intro w hSw; (try dsimp only at hSw); go_simp; try (with_reducible rfl))
        simp only [Act.put, List.getElem_toArray, List.getElem_cons_succ, List.getElem_cons_zero, List.setIfInBounds_toArray, List.set_cons_zero, List.set_cons_succ]
        refine' wpAnyH_take (i := 3) (v := ?vp23_3) rfl (by kernel_rfl) (by kernel_rfl) (by kernel_rfl) (fun _ _ _ h => h) (Or.inl ⟨by rfl, ?hyp23_3⟩) (by assumption) ?restp23_3
        case hyp23_3 => (intro w hSw; (try dsimp only at hSw); go_simp; try (with_reducible rfl))
        simp only [Act.put, List.getElem_toArray, List.getElem_cons_succ, List.getElem_cons_zero, List.setIfInBounds_toArray, List.set_cons_zero, List.set_cons_succ]
        refine' wpAnyH_take (i := 5) (v := ?vp24_5) rfl (by kernel_rfl) (by kernel_rfl) (by kernel_rfl) (fun _ _ _ h => h) (Or.inl ⟨by rfl, ?hyp24_5⟩) (by assumption) ?restp24_5
        case hyp24_5 => (intro w hSw; (try dsimp only at hSw); go_simp; try (with_reducible rfl))
        simp only [Act.put, List.getElem_toArray, List.getElem_cons_succ, List.getElem_cons_zero, List.setIfInBounds_toArray, List.set_cons_zero, List.set_cons_succ]
        refine' wpAnyH_take (i := 8) (v := ?vp25_8) rfl (by kernel_rfl) (by kernel_rfl) (by kernel_rfl) (fun _ _ _ h => h) (Or.inl ⟨by rfl, ?hyp25_8⟩) (by assumption) ?restp25_8
        case hyp25_8 => (intro w hSw; (try dsimp only at hSw); go_simp; try (with_reducible rfl))
        simp only [Act.put, List.getElem_toArray, List.getElem_cons_succ, List.getElem_cons_zero, List.setIfInBounds_toArray, List.set_cons_zero, List.set_cons_succ]
        refine' wpAnyH_take (i := 9) (v := ?vp26_9) rfl (by kernel_rfl) (by kernel_rfl) (by kernel_rfl) (fun _ _ _ h => h) (Or.inl ⟨by rfl, ?hyp26_9⟩) (by assumption) ?restp26_9
        case hyp26_9 => (intro w hSw; (try dsimp only at hSw); go_simp; try (with_reducible rfl))
        simp only [Act.put, List.getElem_toArray, List.getElem_cons_succ, List.getElem_cons_zero, List.setIfInBounds_toArray, List.set_cons_zero, List.set_cons_succ]
        refine' wpAnyH_take (i := 10) (v := ?vp27_10) rfl (by kernel_rfl) (by kernel_rfl) (by kernel_rfl) (fun _ _ _ h => h) (Or.inl ⟨by rfl, ?hyp27_10⟩) (by assumption) ?restp27_10
        case hyp27_10 => (intro w hSw; (try dsimp only at hSw); go_simp; try (with_reducible rfl))
        simp only [Act.put, List.getElem_toArray, List.getElem_cons_succ, List.getElem_cons_zero, List.setIfInBounds_toArray, List.set_cons_zero, List.set_cons_succ]
        refine wpAnyH_ready (rs := [0, 6]) (by kernel_rfl) (by simp) ?_
        refine AllReadyH.cons rfl (fun K hK => ?_) (AllReadyH.cons rfl (fun K hK => ?_) AllReadyH.nil)
        · go_simp
          refine hK.out _ _ trivial (fun hHeld1 => ?_)
          clear hK K hHeld
          have hHeld := hHeld1
          clear hHeld1
          try simp only [Act.put, List.getElem_toArray, List.getElem_cons_succ, List.getElem_cons_zero, List.setIfInBounds_toArray, List.set_cons_zero, List.set_cons_succ]
          obtain ⟨G0, HG0⟩ : ∃ G, Hid (V0.heap.size = G) := ⟨_, Lib.hid rfl⟩
          obtain ⟨V1, HW⟩ : ∃ Wx, Hid (V0.alloc (.cells #[] 3) = Wx) := ⟨_, Lib.hid rfl⟩
          have HB1 := Lib.hid (show Below w.heap.size w V1 by rw [← HW.out]; exact HB0.out.alloc HB0.out.size _)
          have HO1 := Lib.hid (show V1.ownsRow w.heap.size 3 1 (.slice (some ⟨G0, 0, none⟩) 0 0) 0 (ints.intsV []) by rw [← HW.out, ← HG0.out]; exact World.ownsRow_made V0 #[] 0 HB0.out.size (by decide) (by simp))
          rw [HW.out]
          try rw [HG0.out]
          clear HW
          refine wpAnyH_ready (rs := [4, 6]) (by kernel_rfl) (by simp) ?_
          refine AllReadyH.cons rfl (fun K hK => ?_) (AllReadyH.cons rfl (fun K hK => ?_) AllReadyH.nil)
          · refine step_ints (news := xs.take k) rfl _ _ rfl rfl HO1.out rfl (by rw [List.length_take, HL.out]; omega) (HT.out V1 HB1.out) (by omega) HB1.out.size ?_
            intro v2 V2 ho hg
            have HB2 := Lib.hid (HB1.out.grown hg HB1.out.size (fun g e => (HO1.out.lt g e).1))
            have HO2 := Lib.hid (show V2.ownsRow w.heap.size 3 1 v2 (0 + k) (ints.intsV ([] ++ xs.take k)) from ho)
            refine hK.out _ _ trivial (fun hHeld1 => ?_)
            clear ho hg
            clear hK K hHeld
            have hHeld := hHeld1
            clear hHeld1
            try simp only [Act.put, List.getElem_toArray, List.getElem_cons_succ, List.getElem_cons_zero, List.setIfInBounds_toArray, List.set_cons_zero, List.set_cons_succ]
            refine wpAnyH_ready (rs := [6]) (by kernel_rfl) (by simp) ?_
            refine AllReadyH.cons rfl (fun K hK => ?_) AllReadyH.nil
            go_simp
            refine hK.out _ _ trivial (fun hHeld1 => ?_)
            clear hK K hHeld
            have hHeld := hHeld1
            clear hHeld1
            try simp only [Act.put, List.getElem_toArray, List.getElem_cons_succ, List.getElem_cons_zero, List.setIfInBounds_toArray, List.set_cons_zero, List.set_cons_succ]
            obtain ⟨G6, HG6⟩ : ∃ G, Hid (V2.heap.size = G) := ⟨_, Lib.hid rfl⟩
            obtain ⟨V3, HW⟩ : ∃ Wx, Hid (V2.alloc (.cells #[.int .i64 a] 3) = Wx) := ⟨_, Lib.hid rfl⟩
            have HB3 := Lib.hid (show Below w.heap.size w V3 by rw [← HW.out]; exact HB2.out.alloc HB2.out.size _)
            have HO3 := Lib.hid (show V3.ownsRow w.heap.size 3 1 v2 (0 + k) (ints.intsV ([] ++ xs.take k)) by rw [← HW.out]; exact HO2.out.alloc _)
            have HK3 := Lib.hid (show Blk V3 G6 3 #[.int .i64 a] by rw [← HW.out, ← HG6.out]; exact Blk.new _ _ _)
            rw [HW.out]
            try rw [HG6.out]
            clear HW
            refine wpAnyH_ready (rs := [7]) (by kernel_rfl) (by simp) ?_
            refine AllReadyH.cons rfl (fun K hK => ?_) AllReadyH.nil
            refine step_ints (news := [a]) rfl _ _ rfl rfl HO3.out rfl rfl (one_cell HK3.out) (by omega) HB3.out.size ?_
            intro v4 V4 ho hg
            have HB4 := Lib.hid (HB3.out.grown hg HB3.out.size (fun g e => (HO3.out.lt g e).1))
            have HO4 := Lib.hid (show V4.ownsRow w.heap.size 3 1 v4 (0 + k + 1) (ints.intsV ([] ++ xs.take k ++ [a])) from ho)
            refine hK.out _ _ trivial (fun hHeld1 => ?_)
            clear ho hg
            clear hK K hHeld
            have hHeld := hHeld1
            clear hHeld1
            try simp only [Act.put, List.getElem_toArray, List.getElem_cons_succ, List.getElem_cons_zero, List.setIfInBounds_toArray, List.set_cons_zero, List.set_cons_succ]
            refine wpAnyH_ready (rs := [11]) (by kernel_rfl) (by simp) ?_
            refine AllReadyH.cons rfl (fun K hK => ?_) AllReadyH.nil
            refine step_ints (news := xs.drop k) rfl _ _ rfl rfl HO4.out rfl (by rw [List.length_drop, HL.out]) (HD.out V4 HB4.out) (by omega) HB4.out.size ?_
            intro v5 V5 ho hg
            have HB5 := Lib.hid (HB4.out.grown hg HB4.out.size (fun g e => (HO4.out.lt g e).1))
            have HO5 := Lib.hid (show V5.ownsRow w.heap.size 3 1 v5 (0 + k + 1 + (n - k)) (ints.intsV ([] ++ xs.take k ++ [a] ++ xs.drop k)) from ho)
            refine hK.out _ _ trivial (fun hHeld1 => ?_)
            clear ho hg
            clear hK K hHeld
            have hHeld := hHeld1
            clear hHeld1
            try simp only [Act.put, List.getElem_toArray, List.getElem_cons_succ, List.getElem_cons_zero, List.setIfInBounds_toArray, List.set_cons_zero, List.set_cons_succ]
            refine' wpAnyH_take (i := 12) (v := ?vp28_12) rfl (by kernel_rfl) (by kernel_rfl) (by kernel_rfl) (fun _ _ _ h => h) (Or.inl ⟨by rfl, ?hyp28_12⟩) (by assumption) ?restp28_12
            case hyp28_12 => (intro w hSw; (try dsimp only at hSw); go_simp; try (with_reducible rfl))
            simp only [Act.put, List.getElem_toArray, List.getElem_cons_succ, List.getElem_cons_zero, List.setIfInBounds_toArray, List.set_cons_zero, List.set_cons_succ]
            refine wpAnyH_done (by kernel_rfl) ?_ _
            clear hHeld
            go_wp2_with fail
            go_ret
            exact fin HP.out HL.out hkn2 HO5.out HB5.out
          · go_simp
            refine hK.out _ _ trivial (fun hHeld1 => ?_)
            clear hK K hHeld
            have hHeld := hHeld1
            clear hHeld1
            try simp only [Act.put, List.getElem_toArray, List.getElem_cons_succ, List.getElem_cons_zero, List.setIfInBounds_toArray, List.set_cons_zero, List.set_cons_succ]
            obtain ⟨G6, HG6⟩ : ∃ G, Hid (V1.heap.size = G) := ⟨_, Lib.hid rfl⟩
            obtain ⟨V2, HW⟩ : ∃ Wx, Hid (V1.alloc (.cells #[.int .i64 a] 3) = Wx) := ⟨_, Lib.hid rfl⟩
            have HB2 := Lib.hid (show Below w.heap.size w V2 by rw [← HW.out]; exact HB1.out.alloc HB1.out.size _)
            have hne06 : ¬ G6 = G0 := by rw [← HG6.out]; have := (HO1.out.lt G0 rfl).2; omega
            have HO2 := Lib.hid (show V2.ownsRow w.heap.size 3 1 (.slice (some ⟨G0, 0, none⟩) 0 0) 0 (ints.intsV []) by rw [← HW.out]; exact HO1.out.alloc _)
            have HK2 := Lib.hid (show Blk V2 G6 3 #[.int .i64 a] by rw [← HW.out, ← HG6.out]; exact Blk.new _ _ _)
            rw [HW.out]
            try rw [HG6.out]
            clear HW
            refine wpAnyH_ready (rs := [4]) (by kernel_rfl) (by simp) ?_
            refine AllReadyH.cons rfl (fun K hK => ?_) AllReadyH.nil
            refine step_ints (news := xs.take k) rfl _ _ rfl rfl HO2.out rfl (by rw [List.length_take, HL.out]; omega) (HT.out V2 HB2.out) (by omega) HB2.out.size ?_
            intro v3 V3 ho hg
            have HB3 := Lib.hid (HB2.out.grown hg HB2.out.size (fun g e => (HO2.out.lt g e).1))
            have HO3 := Lib.hid (show V3.ownsRow w.heap.size 3 1 v3 (0 + k) (ints.intsV ([] ++ xs.take k)) from ho)
            have HK3 := Lib.hid (HK2.out.grown hg (by intro e; injection e with e; exact hne06 e))
            refine hK.out _ _ trivial (fun hHeld1 => ?_)
            clear ho hg
            clear hK K hHeld
            have hHeld := hHeld1
            clear hHeld1
            try simp only [Act.put, List.getElem_toArray, List.getElem_cons_succ, List.getElem_cons_zero, List.setIfInBounds_toArray, List.set_cons_zero, List.set_cons_succ]
            refine wpAnyH_ready (rs := [7]) (by kernel_rfl) (by simp) ?_
            refine AllReadyH.cons rfl (fun K hK => ?_) AllReadyH.nil
            refine step_ints (news := [a]) rfl _ _ rfl rfl HO3.out rfl rfl (one_cell HK3.out) (by omega) HB3.out.size ?_
            intro v4 V4 ho hg
            have HB4 := Lib.hid (HB3.out.grown hg HB3.out.size (fun g e => (HO3.out.lt g e).1))
            have HO4 := Lib.hid (show V4.ownsRow w.heap.size 3 1 v4 (0 + k + 1) (ints.intsV ([] ++ xs.take k ++ [a])) from ho)
            refine hK.out _ _ trivial (fun hHeld1 => ?_)
            clear ho hg
            clear hK K hHeld
            have hHeld := hHeld1
            clear hHeld1
            try simp only [Act.put, List.getElem_toArray, List.getElem_cons_succ, List.getElem_cons_zero, List.setIfInBounds_toArray, List.set_cons_zero, List.set_cons_succ]
            refine wpAnyH_ready (rs := [11]) (by kernel_rfl) (by simp) ?_
            refine AllReadyH.cons rfl (fun K hK => ?_) AllReadyH.nil
            refine step_ints (news := xs.drop k) rfl _ _ rfl rfl HO4.out rfl (by rw [List.length_drop, HL.out]) (HD.out V4 HB4.out) (by omega) HB4.out.size ?_
            intro v5 V5 ho hg
            have HB5 := Lib.hid (HB4.out.grown hg HB4.out.size (fun g e => (HO4.out.lt g e).1))
            have HO5 := Lib.hid (show V5.ownsRow w.heap.size 3 1 v5 (0 + k + 1 + (n - k)) (ints.intsV ([] ++ xs.take k ++ [a] ++ xs.drop k)) from ho)
            refine hK.out _ _ trivial (fun hHeld1 => ?_)
            clear ho hg
            clear hK K hHeld
            have hHeld := hHeld1
            clear hHeld1
            try simp only [Act.put, List.getElem_toArray, List.getElem_cons_succ, List.getElem_cons_zero, List.setIfInBounds_toArray, List.set_cons_zero, List.set_cons_succ]
            refine' wpAnyH_take (i := 12) (v := ?vp29_12) rfl (by kernel_rfl) (by kernel_rfl) (by kernel_rfl) (fun _ _ _ h => h) (Or.inl ⟨by rfl, ?hyp29_12⟩) (by assumption) ?restp29_12
            case hyp29_12 => (intro w hSw; (try dsimp only at hSw); go_simp; try (with_reducible rfl))
            simp only [Act.put, List.getElem_toArray, List.getElem_cons_succ, List.getElem_cons_zero, List.setIfInBounds_toArray, List.set_cons_zero, List.set_cons_succ]
            refine wpAnyH_done (by kernel_rfl) ?_ _
            clear hHeld
            go_wp2_with fail
            go_ret
            exact fin HP.out HL.out hkn2 HO5.out HB5.out
        · go_simp
          refine hK.out _ _ trivial (fun hHeld1 => ?_)
          clear hK K hHeld
          have hHeld := hHeld1
          clear hHeld1
          try simp only [Act.put, List.getElem_toArray, List.getElem_cons_succ, List.getElem_cons_zero, List.setIfInBounds_toArray, List.set_cons_zero, List.set_cons_succ]
          obtain ⟨G6, HG6⟩ : ∃ G, Hid (V0.heap.size = G) := ⟨_, Lib.hid rfl⟩
          obtain ⟨V1, HW⟩ : ∃ Wx, Hid (V0.alloc (.cells #[.int .i64 a] 3) = Wx) := ⟨_, Lib.hid rfl⟩
          have HB1 := Lib.hid (show Below w.heap.size w V1 by rw [← HW.out]; exact HB0.out.alloc HB0.out.size _)
          have HK1 := Lib.hid (show Blk V1 G6 3 #[.int .i64 a] by rw [← HW.out, ← HG6.out]; exact Blk.new _ _ _)
          rw [HW.out]
          try rw [HG6.out]
          clear HW
          refine wpAnyH_ready (rs := [0]) (by kernel_rfl) (by simp) ?_
          refine AllReadyH.cons rfl (fun K hK => ?_) AllReadyH.nil
          go_simp
          refine hK.out _ _ trivial (fun hHeld1 => ?_)
          clear hK K hHeld
          have hHeld := hHeld1
          clear hHeld1
          try simp only [Act.put, List.getElem_toArray, List.getElem_cons_succ, List.getElem_cons_zero, List.setIfInBounds_toArray, List.set_cons_zero, List.set_cons_succ]
          obtain ⟨G0, HG0⟩ : ∃ G, Hid (V1.heap.size = G) := ⟨_, Lib.hid rfl⟩
          obtain ⟨V2, HW⟩ : ∃ Wx, Hid (V1.alloc (.cells #[] 3) = Wx) := ⟨_, Lib.hid rfl⟩
          have HB2 := Lib.hid (show Below w.heap.size w V2 by rw [← HW.out]; exact HB1.out.alloc HB1.out.size _)
          have hne06 : ¬ G6 = G0 := by rw [← HG0.out]; have := HK1.out.lt; omega
          have HO2 := Lib.hid (show V2.ownsRow w.heap.size 3 1 (.slice (some ⟨G0, 0, none⟩) 0 0) 0 (ints.intsV []) by rw [← HW.out, ← HG0.out]; exact World.ownsRow_made V1 #[] 0 HB1.out.size (by decide) (by simp))
          have HK2 := Lib.hid (show Blk V2 G6 3 #[.int .i64 a] by rw [← HW.out]; exact HK1.out.alloc _)
          rw [HW.out]
          try rw [HG0.out]
          clear HW
          refine wpAnyH_ready (rs := [4]) (by kernel_rfl) (by simp) ?_
          refine AllReadyH.cons rfl (fun K hK => ?_) AllReadyH.nil
          refine step_ints (news := xs.take k) rfl _ _ rfl rfl HO2.out rfl (by rw [List.length_take, HL.out]; omega) (HT.out V2 HB2.out) (by omega) HB2.out.size ?_
          intro v3 V3 ho hg
          have HB3 := Lib.hid (HB2.out.grown hg HB2.out.size (fun g e => (HO2.out.lt g e).1))
          have HO3 := Lib.hid (show V3.ownsRow w.heap.size 3 1 v3 (0 + k) (ints.intsV ([] ++ xs.take k)) from ho)
          have HK3 := Lib.hid (HK2.out.grown hg (by intro e; injection e with e; exact hne06 e))
          refine hK.out _ _ trivial (fun hHeld1 => ?_)
          clear ho hg
          clear hK K hHeld
          have hHeld := hHeld1
          clear hHeld1
          try simp only [Act.put, List.getElem_toArray, List.getElem_cons_succ, List.getElem_cons_zero, List.setIfInBounds_toArray, List.set_cons_zero, List.set_cons_succ]
          refine wpAnyH_ready (rs := [7]) (by kernel_rfl) (by simp) ?_
          refine AllReadyH.cons rfl (fun K hK => ?_) AllReadyH.nil
          refine step_ints (news := [a]) rfl _ _ rfl rfl HO3.out rfl rfl (one_cell HK3.out) (by omega) HB3.out.size ?_
          intro v4 V4 ho hg
          have HB4 := Lib.hid (HB3.out.grown hg HB3.out.size (fun g e => (HO3.out.lt g e).1))
          have HO4 := Lib.hid (show V4.ownsRow w.heap.size 3 1 v4 (0 + k + 1) (ints.intsV ([] ++ xs.take k ++ [a])) from ho)
          refine hK.out _ _ trivial (fun hHeld1 => ?_)
          clear ho hg
          clear hK K hHeld
          have hHeld := hHeld1
          clear hHeld1
          try simp only [Act.put, List.getElem_toArray, List.getElem_cons_succ, List.getElem_cons_zero, List.setIfInBounds_toArray, List.set_cons_zero, List.set_cons_succ]
          refine wpAnyH_ready (rs := [11]) (by kernel_rfl) (by simp) ?_
          refine AllReadyH.cons rfl (fun K hK => ?_) AllReadyH.nil
          refine step_ints (news := xs.drop k) rfl _ _ rfl rfl HO4.out rfl (by rw [List.length_drop, HL.out]) (HD.out V4 HB4.out) (by omega) HB4.out.size ?_
          intro v5 V5 ho hg
          have HB5 := Lib.hid (HB4.out.grown hg HB4.out.size (fun g e => (HO4.out.lt g e).1))
          have HO5 := Lib.hid (show V5.ownsRow w.heap.size 3 1 v5 (0 + k + 1 + (n - k)) (ints.intsV ([] ++ xs.take k ++ [a] ++ xs.drop k)) from ho)
          refine hK.out _ _ trivial (fun hHeld1 => ?_)
          clear ho hg
          clear hK K hHeld
          have hHeld := hHeld1
          clear hHeld1
          try simp only [Act.put, List.getElem_toArray, List.getElem_cons_succ, List.getElem_cons_zero, List.setIfInBounds_toArray, List.set_cons_zero, List.set_cons_succ]
          refine' wpAnyH_take (i := 12) (v := ?vp30_12) rfl (by kernel_rfl) (by kernel_rfl) (by kernel_rfl) (fun _ _ _ h => h) (Or.inl ⟨by rfl, ?hyp30_12⟩) (by assumption) ?restp30_12
          case hyp30_12 => (intro w hSw; (try dsimp only at hSw); go_simp; try (with_reducible rfl))
          simp only [Act.put, List.getElem_toArray, List.getElem_cons_succ, List.getElem_cons_zero, List.setIfInBounds_toArray, List.set_cons_zero, List.set_cons_succ]
          refine wpAnyH_done (by kernel_rfl) ?_ _
          clear hHeld
          go_wp2_with fail
          go_ret
          exact fin HP.out HL.out hkn2 HO5.out HB5.out
end Go.Proofs.YtnpghhpcloljeabGreatDoor.nt

namespace Go.Proofs.YtnpghhpcloljeabGreatDoor.nt
open Go.RowKit
open reads base ty lg
set_option linter.unusedVariables false
set_option linter.unusedSimpArgs false

def BdS (s : Sf) : Prop := (-1000000 ≤ s.east ∧ s.east ≤ 1000000) ∧ (-1000000 ≤ s.north ∧ s.north ≤ 1000000) ∧ (-1000000 ≤ s.up ∧ s.up ≤ 1000000)
set_option maxHeartbeats 4000000 in
set_option maxRecDepth 100000 in
theorem plus_p (a b c : Sf) (h : Hid (add3 a b = c)) (w : World) (ha : Hid (BdS a)) (hb : Hid (BdS b)) :
    Calls Tryz.prog 145 #[.agg #[.int .i64 a.east, .int .i64 a.north, .int .i64 a.up], .agg #[.int .i64 b.east, .int .i64 b.north, .int .i64 b.up], .int .i64 1] w (APost (.agg #[.int .i64 c.east, .int .i64 c.north, .int .i64 c.up]) w) := by
  obtain ⟨⟨a00, a01⟩, ⟨a10, a11⟩, a20, a21⟩ := ha.out
  obtain ⟨⟨b00, b01⟩, ⟨b10, b11⟩, b20, b21⟩ := hb.out
  obtain ⟨k0, k1, k2⟩ : a.east + b.east = c.east ∧ a.north + b.north = c.north ∧ a.up + b.up = c.up := by rw [← h.out]; exact ⟨rfl, rfl, rfl⟩
  go_enter Tryz.func145, Tryz.ntmps145
  go_wp2_with fail
  refine bodyPost_ret (v := .agg #[.int .i64 c.east, .int .i64 c.north, .int .i64 c.up]) (by simp [results, Tryz.results145, go_sem, k0, k1, k2]) rfl ⟨rfl, ?_⟩
  exact (((Below.refl _ _).alloc (Nat.le_refl _) _).alloc (by simp) _).alloc (by simp; omega) _
set_option maxHeartbeats 4000000 in
set_option maxRecDepth 100000 in
theorem plus_m (a b c : Sf) (h : Hid (sub3 a b = c)) (w : World) (ha : Hid (BdS a)) (hb : Hid (BdS b)) :
    Calls Tryz.prog 145 #[.agg #[.int .i64 a.east, .int .i64 a.north, .int .i64 a.up], .agg #[.int .i64 b.east, .int .i64 b.north, .int .i64 b.up], .int .i64 (-1)] w (APost (.agg #[.int .i64 c.east, .int .i64 c.north, .int .i64 c.up]) w) := by
  obtain ⟨⟨a00, a01⟩, ⟨a10, a11⟩, a20, a21⟩ := ha.out
  obtain ⟨⟨b00, b01⟩, ⟨b10, b11⟩, b20, b21⟩ := hb.out
  obtain ⟨k0, k1, k2⟩ : a.east + -b.east = c.east ∧ a.north + -b.north = c.north ∧ a.up + -b.up = c.up := by rw [← h.out]; exact ⟨rfl, rfl, rfl⟩
  go_enter Tryz.func145, Tryz.ntmps145
  go_wp2_with fail
  refine bodyPost_ret (v := .agg #[.int .i64 c.east, .int .i64 c.north, .int .i64 c.up]) (by simp [results, Tryz.results145, go_sem, k0, k1, k2]) rfl ⟨rfl, ?_⟩
  exact (((Below.refl _ _).alloc (Nat.le_refl _) _).alloc (by simp) _).alloc (by simp; omega) _
theorem shift_l (x : Lg) (s : Sf) (h : Hid (shf x = s)) (w : World) (hx : Hid (okLg x = true)) : Calls Tryz.prog 146 #[.agg #[.int .i64 x.frm, .int .i64 x.to_, .int .i64 x.tape, .int .i64 x.comp, .int .i64 x.slope]] w (APost (.agg #[.int .i64 s.east, .int .i64 s.north, .int .i64 s.up]) w) := by rw [← h.out]; exact shift_any x w hx
end Go.Proofs.YtnpghhpcloljeabGreatDoor.nt
