/-
  Points of the declination: which lists are points, the place of a day, the declination of a day, the first and the last day with a declination, a point added, a point left out.
  Conditions: none but those that a theorem names.
-/
import Derived.Test.YtiimegmaokfpgaaTyDp
import Derived.Test.YtiimegmaokfpgaaRowI
namespace Go.Proofs.Ytiimegmaokfpgaa.va
open Go.RowKit
open reads base ty rowi
set_option linter.unusedVariables false
set_option linter.unusedSimpArgs false

def okDp (p : Dp) : Bool := btw 0 p.day 999 && btw (-900) p.tn 900
theorem okDp_lim {p : Dp} (h : okDp p = true) : 0 ≤ p.day ∧ p.day ≤ 999 ∧ -900 ≤ p.tn ∧ p.tn ≤ 900 := by
  unfold okDp at h
  rw [Bool.and_eq_true] at h
  have a := btw_yes h.1
  have b := btw_yes h.2
  omega
/-- a point is valid and behind the one ahead of it -/
def upAt (ts : List Dp) (i : Nat) : Bool := match ts[i]? with
  | none => true
  | some p => okDp p && (decide (i = 0) || match ts[i - 1]? with
    | none => true
    | some q => decide (q.day < p.day))
def upTo (ts : List Dp) (k : Nat) : Bool := (List.range k).all (upAt ts)
def goodDp (ts : List Dp) : Bool := btw 1 ts.length 8 && upTo ts ts.length
theorem upTo_zero (ts : List Dp) : upTo ts 0 = true := rfl
theorem upTo_succ (ts : List Dp) (k : Nat) : upTo ts (k + 1) = (upTo ts k && upAt ts k) := by
  unfold upTo
  rw [List.range_succ, List.all_append]; simp
theorem upTo_no {ts : List Dp} {k : Nat} (hk : k < ts.length) (h : upAt ts k = false) : upTo ts ts.length = false := by
  unfold upTo
  rw [List.all_eq_false]
  exact ⟨k, List.mem_range.2 hk, by rw [h]; simp⟩
theorem upAt_first {ts : List Dp} {p : Dp} (h : ts[0]? = some p) : upAt ts 0 = okDp p := by
  unfold upAt; rw [h]; simp
theorem upAt_next {ts : List Dp} {k : Nat} {p q : Dp} (h : ts[k + 1]? = some p) (hq : ts[k]? = some q) : upAt ts (k + 1) = (okDp p && decide (q.day < p.day)) := by
  unfold upAt; rw [h]; simp [hq]
/-- valid points in ascending order -/
def Up (ts : List Dp) : Prop := (∀ (k : Nat) p, ts[k]? = some p → okDp p = true) ∧ ∀ (k : Nat) p q, ts[k]? = some q → ts[k + 1]? = some p → q.day < p.day
theorem up_of {ts : List Dp} (h : upTo ts ts.length = true) : Up ts := by
  have key : ∀ k, k < ts.length → upAt ts k = true := fun k hk => (List.all_eq_true.1 h) k (List.mem_range.2 hk)
  refine ⟨fun k p hp => ?_, fun k p q hq hp => ?_⟩
  · have := key k (lt_at hp)
    unfold upAt at this
    rw [hp, Bool.and_eq_true] at this
    exact this.1
  · have := key (k + 1) (lt_at hp)
    rw [upAt_next hp hq, Bool.and_eq_true] at this
    simpa using this.2
theorem of_up {ts : List Dp} (h : Up ts) : upTo ts ts.length = true := by
  unfold upTo
  rw [List.all_eq_true]
  intro k hk
  have hk := List.mem_range.1 hk
  obtain ⟨p, hp⟩ := at_lt rfl hk
  cases k with
  | zero => rw [upAt_first hp]; exact h.1 0 p hp
  | succ k =>
    obtain ⟨q, hq⟩ := at_lt rfl (show k < ts.length by omega)
    rw [upAt_next hp hq, h.1 _ p hp]
    have := h.2 k p q hq hp
    simpa using this
theorem good_lim {ts : List Dp} (h : goodDp ts = true) : 1 ≤ ts.length ∧ ts.length ≤ 8 ∧ Up ts := by
  unfold goodDp at h
  rw [Bool.and_eq_true] at h
  have := btw_yes h.1
  exact ⟨by omega, by omega, up_of h.2⟩
theorem good_mk {ts : List Dp} (h0 : 1 ≤ ts.length) (h8 : ts.length ≤ 8) (h : Up ts) : goodDp ts = true := by
  unfold goodDp
  rw [btw_mk (by omega) (by omega), of_up h]; rfl
theorem Up.lt {ts : List Dp} (h : Up ts) : ∀ (j i : Nat) (p q : Dp), i < j → ts[i]? = some q → ts[j]? = some p → q.day < p.day
  | 0, i, p, q, hij, _, _ => absurd hij (Nat.not_lt_zero _)
  | j + 1, i, p, q, hij, hq, hp => by
    obtain ⟨r, hr⟩ := at_lt rfl (show j < ts.length by have := lt_at hp; omega)
    have h1 := h.2 j p r hr hp
    by_cases e : i = j
    · subst e; rw [hq] at hr; obtain rfl := Option.some.inj hr; exact h1
    · have := h.lt j i r q (by omega) hq hr
      omega
/-- the first index with a day or one behind it -/
def pos : List Dp → Int → Nat
  | [], _ => 0
  | p :: ts, d => if p.day < d then pos ts d + 1 else 0
theorem pos_is : ∀ (ts : List Dp) (d : Int) (k : Nat), k ≤ ts.length → (∀ (i : Nat) p, i < k → ts[i]? = some p → p.day < d) → (∀ p, ts[k]? = some p → d ≤ p.day) → pos ts d = k
  | [], d, k, hk, _, _ => by simp at hk; subst hk; rfl
  | p :: ts, d, 0, _, _, h => by
    have := h p rfl
    unfold pos; rw [if_neg (by omega)]
  | p :: ts, d, k + 1, hk, hl, h => by
    have h0 := hl 0 p (by omega) rfl
    unfold pos
    rw [if_pos h0, pos_is ts d k (by simpa using hk) (fun i q hi hq => hl (i + 1) q (by omega) (by simpa using hq)) (fun q hq => h q (by simpa using hq))]
theorem pos_lim : ∀ (ts : List Dp) (d : Int), pos ts d ≤ ts.length ∧ (∀ (i : Nat) p, i < pos ts d → ts[i]? = some p → p.day < d) ∧ ∀ p, ts[pos ts d]? = some p → d ≤ p.day
  | [], d => ⟨Nat.le_refl _, fun i p hi => absurd hi (Nat.not_lt_zero _), fun p hp => by simp at hp⟩
  | p :: ts, d => by
    obtain ⟨a, b, c⟩ := pos_lim ts d
    by_cases h : p.day < d
    · have e : pos (p :: ts) d = pos ts d + 1 := by show (if p.day < d then _ else _) = _; rw [if_pos h]
      rw [e]
      refine ⟨by simpa using a, fun i q hi hq => ?_, fun q hq => c q (by simpa using hq)⟩
      cases i with
      | zero => simp at hq; subst hq; exact h
      | succ i => exact b i q (by omega) (by simpa using hq)
    · have e : pos (p :: ts) d = 0 := by show (if p.day < d then _ else _) = _; rw [if_neg h]
      rw [e]
      exact ⟨Nat.zero_le _, fun i q hi => absurd hi (Nat.not_lt_zero _), fun q hq => by simp at hq; subst hq; omega⟩
/-- a number by a positive one, rounded -/
def rdv (a b : Int) : Int := if a < 0 then -((2 * (-a) + b) / (2 * b)) else (2 * a + b) / (2 * b)
theorem rdv_neg {a b : Int} (h : a < 0) : rdv a b = - rdv (-a) b := by
  unfold rdv
  rw [if_pos h, if_neg (by omega)]
theorem rdv_pos {a b : Int} (h : ¬ a < 0) : rdv a b = (2 * a + b) / (2 * b) := if_neg h
theorem rdv_low {a b : Int} (h : 0 ≤ a) (hb : 0 < b) : 0 ≤ rdv a b := by
  rw [rdv_pos (by omega)]; exact Int.ediv_nonneg (by omega) (by omega)
theorem rdv_le {a b c : Int} (h : 0 ≤ a) (hb : 0 < b) (hc : a ≤ c * b) : rdv a b ≤ c := by
  rw [rdv_pos (by omega)]
  have k : (2 * a + b) / (2 * b) < c + 1 := by
    refine Int.ediv_lt_of_lt_mul (by omega) ?_
    rw [Int.add_mul, Int.mul_left_comm, Int.one_mul]
    omega
  omega
theorem rdv_bd {a b c : Int} (hb : 0 < b) (hc : a ≤ c * b) (hc' : -(c * b) ≤ a) : -c ≤ rdv a b ∧ rdv a b ≤ c := by
  by_cases h : a < 0
  · rw [rdv_neg h]
    have := rdv_le (a := -a) (c := c) (by omega) hb (by omega)
    have := rdv_low (a := -a) (by omega) hb
    omega
  · have := rdv_le (a := a) (c := c) (by omega) hb (by omega)
    have := rdv_low (a := a) (by omega) hb
    omega
theorem half_is {k w : Int} (hw : 0 < w) : (2 * (k * w) + w) / (2 * w) = k := by
  have e : 2 * (k * w) + w = w + k * (2 * w) := by rw [Int.mul_left_comm k 2 w]; omega
  rw [e, Int.add_mul_ediv_right _ _ (by omega), Int.ediv_eq_zero_of_lt (by omega) (by omega)]
  omega
theorem rdv_mul {t w : Int} (hw : 0 < w) : rdv (t * w) w = t := by
  by_cases h : t * w < 0
  · rw [rdv_neg h, rdv_pos (by omega), ← Int.neg_mul, half_is hw]; omega
  · rw [rdv_pos h, half_is hw]
/-- the declination between two points -/
def mix (a b : Dp) (d : Int) : Int := rdv (a.tn * (b.day - d) + b.tn * (d - a.day)) (b.day - a.day)
theorem mix_num {a b : Dp} {d : Int} (ha : okDp a = true) (hb : okDp b = true) (h0 : a.day < d) (h1 : d ≤ b.day) :
    (0 < b.day - a.day ∧ b.day - a.day ≤ 999) ∧ (0 ≤ b.day - d ∧ b.day - d ≤ 999) ∧ (0 ≤ d - a.day ∧ d - a.day ≤ 999) ∧ (-899100 ≤ a.tn * (b.day - d) ∧ a.tn * (b.day - d) ≤ 899100) ∧ (-899100 ≤ b.tn * (d - a.day) ∧ b.tn * (d - a.day) ≤ 899100) ∧
    a.tn * (b.day - d) + b.tn * (d - a.day) ≤ 900 * (b.day - a.day) ∧ -(900 * (b.day - a.day)) ≤ a.tn * (b.day - d) + b.tn * (d - a.day) := by
  have la := okDp_lim ha
  have lb := okDp_lim hb
  have x0 : a.tn * (b.day - d) ≤ 900 * (b.day - d) := Int.mul_le_mul_of_nonneg_right (by omega) (by omega)
  have x1 : -900 * (b.day - d) ≤ a.tn * (b.day - d) := Int.mul_le_mul_of_nonneg_right (by omega) (by omega)
  have y0 : b.tn * (d - a.day) ≤ 900 * (d - a.day) := Int.mul_le_mul_of_nonneg_right (by omega) (by omega)
  have y1 : -900 * (d - a.day) ≤ b.tn * (d - a.day) := Int.mul_le_mul_of_nonneg_right (by omega) (by omega)
  refine ⟨by omega, by omega, by omega, by omega, by omega, by omega, by omega⟩
theorem mix_bd {a b : Dp} {d : Int} (ha : okDp a = true) (hb : okDp b = true) (h0 : a.day < d) (h1 : d ≤ b.day) : -900 ≤ mix a b d ∧ mix a b d ≤ 900 := by
  obtain ⟨⟨p0, p1⟩, -, -, -, -, q0, q1⟩ := mix_num ha hb h0 h1
  exact rdv_bd p0 q0 q1
theorem mix_end {a b : Dp} (h : a.day < b.day) : mix a b b.day = b.tn := by
  unfold mix
  rw [Int.sub_self, Int.mul_zero, Int.zero_add]
  exact rdv_mul (by omega)
/-- a point of a list -/
def dpAt (ts : List Dp) (k : Nat) : Dp := (ts[k]?).getD ⟨0, 0⟩
theorem dpAt_is {ts : List Dp} {k : Nat} {p : Dp} (h : ts[k]? = some p) : dpAt ts k = p := by unfold dpAt; rw [h]; rfl
/-- the declination of a day -/
def dec (ts : List Dp) (d : Int) : Int :=
  if pos ts d = ts.length then (dpAt ts (ts.length - 1)).tn
  else if pos ts d = 0 then (dpAt ts 0).tn
  else mix (dpAt ts (pos ts d - 1)) (dpAt ts (pos ts d)) d
theorem dec_low {ts : List Dp} {d : Int} {p : Dp} (hp : ts[0]? = some p) (h : d ≤ p.day) : dec ts d = p.tn := by
  have e : pos ts d = 0 := pos_is ts d 0 (Nat.zero_le _) (fun i q hi => absurd hi (Nat.not_lt_zero _)) (fun q hq => by rw [hp] at hq; obtain rfl := Option.some.inj hq; exact h)
  have hl := lt_at hp
  unfold dec
  rw [e, if_neg (by omega), if_pos rfl, dpAt_is hp]
theorem dec_high {ts : List Dp} (hu : Up ts) {d : Int} {k : Nat} {p : Dp} (hk : k + 1 = ts.length) (hp : ts[k]? = some p) (h : p.day < d) : dec ts d = p.tn := by
  have e : pos ts d = ts.length := pos_is ts d _ (Nat.le_refl _) (fun i q hi hq => by
    by_cases c : i = k
    · subst c; rw [hp] at hq; obtain rfl := Option.some.inj hq; exact h
    · have := hu.lt k i p q (by omega) hq hp; omega) (fun q hq => by have := lt_at hq; omega)
  unfold dec
  rw [if_pos e, show ts.length - 1 = k by omega, dpAt_is hp]
theorem dec_mid {ts : List Dp} (hu : Up ts) {d : Int} {k : Nat} {a b : Dp} (ha : ts[k]? = some a) (hb : ts[k + 1]? = some b) (h0 : a.day < d) (h1 : d ≤ b.day) : dec ts d = mix a b d := by
  have hl := lt_at hb
  have e : pos ts d = k + 1 := pos_is ts d _ (by omega) (fun i q hi hq => by
    by_cases c : i = k
    · subst c; rw [ha] at hq; obtain rfl := Option.some.inj hq; exact h0
    · have := hu.lt k i a q (by omega) hq ha; omega) (fun q hq => by rw [hb] at hq; obtain rfl := Option.some.inj hq; exact h1)
  unfold dec
  rw [e, if_neg (by omega), if_neg (by omega), dpAt_is hb, show k + 1 - 1 = k by omega, dpAt_is ha]
/-- on the day of a point it is what the point tells -/
theorem dec_at {ts : List Dp} (hu : Up ts) {k : Nat} {p : Dp} (hp : ts[k]? = some p) : dec ts p.day = p.tn := by
  cases k with
  | zero => exact dec_low hp (Int.le_refl _)
  | succ k =>
    obtain ⟨a, ha⟩ := at_lt rfl (show k < ts.length by have := lt_at hp; omega)
    have h := hu.2 k p a ha hp
    rw [dec_mid hu ha hp h (Int.le_refl _), mix_end h]
theorem dec_last {ts : List Dp} (hu : Up ts) {d : Int} {k : Nat} {p : Dp} (hk : k + 1 = ts.length) (hp : ts[k]? = some p) (h : p.day ≤ d) : dec ts d = p.tn := by
  by_cases c : p.day = d
  · rw [← c]; exact dec_at hu hp
  · exact dec_high hu hk hp (by omega)
theorem dec_bd {ts : List Dp} (hu : Up ts) (h1 : 1 ≤ ts.length) (d : Int) : -900 ≤ dec ts d ∧ dec ts d ≤ 900 := by
  obtain ⟨a, b, c⟩ := pos_lim ts d
  obtain ⟨k, hk⟩ : ∃ k, pos ts d = k := ⟨_, rfl⟩
  rw [hk] at a b c
  by_cases e : k = ts.length
  · obtain ⟨p, hp⟩ := at_lt rfl (show ts.length - 1 < ts.length by omega)
    have := okDp_lim (hu.1 _ p hp)
    rw [dec_high hu (by omega) hp (b _ p (by omega) hp)]
    omega
  · obtain ⟨p, hp⟩ := at_lt rfl (show k < ts.length by omega)
    cases k with
    | zero =>
      have := okDp_lim (hu.1 _ p hp)
      rw [dec_low hp (c p hp)]
      omega
    | succ k =>
      obtain ⟨q, hq⟩ := at_lt rfl (show k < ts.length by omega)
      rw [dec_mid hu hq hp (b k q (by omega) hq) (c p hp)]
      exact mix_bd (hu.1 _ q hq) (hu.1 _ p hp) (b k q (by omega) hq) (c p hp)
/-- the first day with a declination, and the last one -/
def fsD (ts : List Dp) (t : Int) : Nat → Int
  | 0 => -1
  | k + 1 => if dec ts (k : Int) = t ∧ fsD ts t k < 0 then (k : Int) else fsD ts t k
def lsD (ts : List Dp) (t : Int) : Nat → Int
  | 0 => -1
  | k + 1 => if dec ts (k : Int) = t then (k : Int) else lsD ts t k
theorem fsD_lim (ts : List Dp) (t : Int) : ∀ k : Nat, -1 ≤ fsD ts t k ∧ fsD ts t k < (k : Int) + 1 ∧ -1 ≤ lsD ts t k ∧ lsD ts t k < (k : Int) + 1 ∧ (fsD ts t k < 0 ↔ lsD ts t k < 0)
  | 0 => by simp [fsD, lsD]
  | k + 1 => by
    have h := fsD_lim ts t k
    unfold fsD lsD
    by_cases e : dec ts (k : Int) = t
    · rw [if_pos e]
      by_cases f : fsD ts t k < 0
      · rw [if_pos ⟨e, f⟩]; omega
      · rw [if_neg (fun q => f q.2)]; omega
    · rw [if_neg e, if_neg (fun q => e q.1)]; omega
theorem fsD_neg {ts : List Dp} {t : Int} {k : Nat} (h : fsD ts t k < 0) : fsD ts t k = -1 ∧ lsD ts t k = -1 := by
  have := fsD_lim ts t k
  omega
/-- a day has its declination between the first and the last day with it -/
theorem fsD_hit {ts : List Dp} {t : Int} : ∀ {k : Nat} {j : Nat}, j < k → dec ts (j : Int) = t → 0 ≤ fsD ts t k ∧ fsD ts t k ≤ (j : Int) ∧ (j : Int) ≤ lsD ts t k
  | 0, j, h, _ => absurd h (Nat.not_lt_zero _)
  | k + 1, j, h, e => by
    have hl := fsD_lim ts t k
    unfold fsD lsD
    by_cases c : j = k
    · subst c
      rw [if_pos e]
      by_cases f : fsD ts t j < 0
      · rw [if_pos ⟨e, f⟩]; omega
      · rw [if_neg (fun q => f q.2)]; omega
    · have ih := fsD_hit (show j < k by omega) e
      rw [if_neg (fun q => by have := q.2; omega)]
      split
      · omega
      · omega
theorem fsD_none {ts : List Dp} {t : Int} (h : ∀ d : Int, ¬ dec ts d = t) : ∀ k : Nat, fsD ts t k = -1
  | 0 => rfl
  | k + 1 => by unfold fsD; rw [if_neg (fun q => h _ q.1)]; exact fsD_none h k
/-- a point put in its place -/
def behind (ts : List Dp) (p : Dp) : Nat := match ts[pos ts p.day]? with
  | some q => if q.day = p.day then pos ts p.day + 1 else pos ts p.day
  | none => pos ts p.day
def addDp (ts : List Dp) (p : Dp) : List Dp := ts.take (pos ts p.day) ++ p :: ts.drop (behind ts p)
theorem addDp_at (ts : List Dp) (p : Dp) : (addDp ts p)[pos ts p.day]? = some p := by
  unfold addDp
  have h := (pos_lim ts p.day).1
  rw [List.getElem?_append_right (by rw [List.length_take]; omega), List.length_take, Nat.min_eq_left h, Nat.sub_self]; rfl
/-- on the day of an added point the declination is what it tells -/
theorem addDp_dec {ts : List Dp} {p : Dp} (h : goodDp (addDp ts p) = true) : dec (addDp ts p) p.day = p.tn := dec_at (good_lim h).2.2 (addDp_at ts p)
theorem addDp_ok {ts : List Dp} {p : Dp} (h : goodDp (addDp ts p) = true) : okDp p = true := (good_lim h).2.2.1 _ p (addDp_at ts p)
/-- a list without one of its points -/
def lessDp (ts : List Dp) (k : Nat) : List Dp := ts.take k ++ ts.drop (k + 1)
theorem lessDp_len {ts : List Dp} {k : Nat} (h : k < ts.length) : (lessDp ts k).length = ts.length - 1 := by
  unfold lessDp; rw [List.length_append, List.length_take, List.length_drop]; omega
theorem lessDp_at (ts : List Dp) {k : Nat} (h : k < ts.length) (i : Nat) : (lessDp ts k)[i]? = if i < k then ts[i]? else ts[i + 1]? := by
  unfold lessDp
  have e : (ts.take k).length = k := by rw [List.length_take]; omega
  split
  · rename_i c
    rw [List.getElem?_append_left (by omega), List.getElem?_take, if_pos c]
  · rename_i c
    rw [List.getElem?_append_right (by omega), e, List.getElem?_drop]
    congr 1; omega
theorem lessDp_up {ts : List Dp} (hu : Up ts) {k : Nat} (h : k < ts.length) : Up (lessDp ts k) := by
  refine ⟨fun i p hp => ?_, fun i p q hq hp => ?_⟩
  · rw [lessDp_at ts h] at hp
    split at hp
    · exact hu.1 _ p hp
    · exact hu.1 _ p hp
  · rw [lessDp_at ts h] at hp hq
    split at hp
    · rw [if_pos (by omega)] at hq
      exact hu.2 i p q hq hp
    · split at hq
      · exact hu.lt (i + 1 + 1) i p q (by omega) hq hp
      · exact hu.2 _ p q hq hp
theorem lessDp_good {ts : List Dp} (h : goodDp ts = true) {k : Nat} (hk : k < ts.length) (h1 : 1 < ts.length) : goodDp (lessDp ts k) = true := by
  obtain ⟨a, b, c⟩ := good_lim h
  exact good_mk (by rw [lessDp_len hk]; omega) (by rw [lessDp_len hk]; omega) (lessDp_up c hk)
/-- two lists tell the same on the first days -/
def sameN (xs ys : List Dp) (k : Nat) : Bool := (List.range k).all (fun d => dec xs (d : Int) == dec ys (d : Int))
theorem sameN_succ (xs ys : List Dp) (k : Nat) : sameN xs ys (k + 1) = (sameN xs ys k && (dec xs (k : Int) == dec ys (k : Int))) := by
  unfold sameN; rw [List.range_succ, List.all_append]; simp
theorem sameN_no {xs ys : List Dp} {k n : Nat} (hk : k < n) (h : ¬ dec xs (k : Int) = dec ys (k : Int)) : sameN xs ys n = false := by
  unfold sameN
  rw [List.all_eq_false]
  exact ⟨k, List.mem_range.2 hk, by simpa using h⟩
theorem sameN_yes {xs ys : List Dp} {n : Nat} (h : sameN xs ys n = true) {k : Nat} (hk : k < n) : dec xs (k : Int) = dec ys (k : Int) := by
  simpa using (List.all_eq_true.1 h) k (List.mem_range.2 hk)
/-- a point is needless -/
def needless (ts : List Dp) (k : Nat) : Bool := decide (1 < ts.length) && sameN ts (lessDp ts k) 1000
def ndK (ts : List Dp) : Nat → List Int
  | 0 => []
  | k + 1 => if needless ts k = true then ndK ts k ++ [(k : Int)] else ndK ts k
theorem ndK_len (ts : List Dp) : ∀ k, (ndK ts k).length ≤ k
  | 0 => by simp [ndK]
  | k + 1 => by
    have := ndK_len ts k
    unfold ndK
    split
    · rw [List.length_append]; simp; omega
    · omega
theorem ndK_mem (ts : List Dp) : ∀ (n : Nat) (x : Int), x ∈ ndK ts n → ∃ k : Nat, x = (k : Int) ∧ k < n ∧ needless ts k = true
  | 0, x, h => by simp [ndK] at h
  | n + 1, x, h => by
    unfold ndK at h
    split at h
    · rename_i c
      rcases List.mem_append.1 h with h | h
      · obtain ⟨k, a, b, d⟩ := ndK_mem ts n x h
        exact ⟨k, a, by omega, d⟩
      · simp at h
        exact ⟨n, h, by omega, c⟩
    · obtain ⟨k, a, b, d⟩ := ndK_mem ts n x h
      exact ⟨k, a, by omega, d⟩
def ndIds (ts : List Dp) : List Int := if goodDp ts then ndK ts ts.length else []
/-- bearings -/
def tru (ts : List Dp) (d m : Int) : Int := (m + dec ts d) % 3600
def mag (ts : List Dp) (d b : Int) : Int := (b - dec ts d) % 3600
theorem tru_back {ts : List Dp} {d m : Int} (hd : -900 ≤ dec ts d ∧ dec ts d ≤ 900) (hm : 0 ≤ m ∧ m ≤ 3599) : mag ts d (tru ts d m) = m := by
  unfold mag tru
  omega
theorem tru_lim (ts : List Dp) (d m : Int) : 0 ≤ tru ts d m ∧ tru ts d m ≤ 3599 := by unfold tru; omega
theorem mag_lim (ts : List Dp) (d m : Int) : 0 ≤ mag ts d m ∧ mag ts d m ≤ 3599 := by unfold mag; omega
def dayOk (d : Int) : Bool := btw 0 d 999
def fineOk (m : Int) : Bool := btw 0 m 3599
/-- bearings corrected, each on its day -/
def crK (ts : List Dp) (ds ms : List Int) (k : Nat) : List Int := (List.range k).map fun i => tru ts ((ds[i]?).getD 0) ((ms[i]?).getD 0)
def crOk (ds ms : List Int) (k : Nat) : Bool := (List.range k).all fun i => dayOk ((ds[i]?).getD 0) && fineOk ((ms[i]?).getD 0)
def crGood (ts : List Dp) (ds ms : List Int) : Bool := (goodDp ts && decide (ds.length = ms.length) && decide (ds.length ≤ 20)) && crOk ds ms ds.length
def crV (ts : List Dp) (ds ms : List Int) : List Int := if crGood ts ds ms then crK ts ds ms ds.length else []
theorem crK_len (ts : List Dp) (ds ms : List Int) (k : Nat) : (crK ts ds ms k).length = k := by simp [crK]
theorem crK_succ {ts : List Dp} {ds ms : List Int} {k : Nat} {d m : Int} (hd : ds[k]? = some d) (hm : ms[k]? = some m) : crK ts ds ms (k + 1) = crK ts ds ms k ++ [tru ts d m] := by
  unfold crK; rw [List.range_succ, List.map_append]; simp [hd, hm]
theorem crOk_succ {ds ms : List Int} {k : Nat} {d m : Int} (hd : ds[k]? = some d) (hm : ms[k]? = some m) : crOk ds ms (k + 1) = (crOk ds ms k && (dayOk d && fineOk m)) := by
  unfold crOk; rw [List.range_succ, List.all_append]; simp [hd, hm]
theorem crOk_no {ds ms : List Int} {k n : Nat} {d m : Int} (hk : k < n) (hd : ds[k]? = some d) (hm : ms[k]? = some m) (h : (dayOk d && fineOk m) = false) : crOk ds ms n = false := by
  unfold crOk
  rw [List.all_eq_false]
  exact ⟨k, List.mem_range.2 hk, by rw [hd, hm]; simpa using h⟩
/-! answers -/
def ansOn (ts : List Dp) (d : Int) : Value := if goodDp ts && dayOk d then .tuple #[.int .i64 (dec ts d), .bool true] else .tuple #[.int .i64 0, .bool false]
def ansTb (ts : List Dp) (d m : Int) : Value := if goodDp ts && dayOk d && fineOk m then .tuple #[.int .i64 (tru ts d m), .bool true] else .tuple #[.int .i64 0, .bool false]
def ansMb (ts : List Dp) (d m : Int) : Value := if goodDp ts && dayOk d && fineOk m then .tuple #[.int .i64 (mag ts d m), .bool true] else .tuple #[.int .i64 0, .bool false]
def ansCb (ts : List Dp) (a b : Int) : Value := if goodDp ts && dayOk a && dayOk b then .tuple #[.int .i64 (dec ts b - dec ts a), .bool true] else .tuple #[.int .i64 0, .bool false]
def dwOk (ts : List Dp) (t : Int) : Bool := goodDp ts && btw (-900) t 900 && decide (0 ≤ fsD ts t 1000)
def ansDw (ts : List Dp) (t : Int) : Value := if dwOk ts t then .tuple #[.int .i64 (fsD ts t 1000), .int .i64 (lsD ts t 1000), .bool true] else .tuple #[.int .i64 0, .int .i64 0, .bool false]
def apOk (ts : List Dp) (p : Dp) : Bool := (decide (ts.length = 0) || goodDp ts) && goodDp (addDp ts p)
def apV (ts : List Dp) (p : Dp) : List Dp := if apOk ts p then addDp ts p else []
end Go.Proofs.Ytiimegmaokfpgaa.va
