/-
  Passages: which lists are passages, the passage of a station, areas, volumes, the widest one, fitting stations, passages merged, mirrored.
  Conditions: none but those that a theorem names.
-/
import Derived.Test.YtnpghhpcloljeaaDoorTyPg
import Derived.Test.YtnpghhpcloljeaaDoorRowI
import Derived.Test.YtnpghhpcloljeaaDoorLgA
import Derived.Test.YtnpghhpcloljeaaDoorPwR
import Derived.Test.YtnpghhpcloljeaaDoorWithin
namespace Go.Proofs.YtnpghhpcloljeaaDoor.pw
open Go.RowKit
open reads base ty rowi win lg
set_option linter.unusedVariables false
set_option linter.unusedSimpArgs false

def far (x : Int) : Bool := btw 0 x 200
def okPg (p : Pg) : Bool := (((btw 0 p.st 7 && far p.lf) && far p.rt) && far p.ab) && far p.be
theorem okPg_lim {p : Pg} (h : okPg p = true) : (0 ≤ p.st ∧ p.st ≤ 7) ∧ (0 ≤ p.lf ∧ p.lf ≤ 200) ∧ (0 ≤ p.rt ∧ p.rt ≤ 200) ∧ (0 ≤ p.ab ∧ p.ab ≤ 200) ∧ (0 ≤ p.be ∧ p.be ≤ 200) := by
  unfold okPg far at h
  simp only [Bool.and_eq_true] at h
  obtain ⟨⟨⟨⟨a, b⟩, c⟩, d⟩, e⟩ := h
  exact ⟨btw_yes a, btw_yes b, btw_yes c, btw_yes d, btw_yes e⟩
theorem okPg_mk {p : Pg} (h : (0 ≤ p.st ∧ p.st ≤ 7) ∧ (0 ≤ p.lf ∧ p.lf ≤ 200) ∧ (0 ≤ p.rt ∧ p.rt ≤ 200) ∧ (0 ≤ p.ab ∧ p.ab ≤ 200) ∧ (0 ≤ p.be ∧ p.be ≤ 200)) : okPg p = true := by
  obtain ⟨a, b, c, d, e⟩ := h
  unfold okPg far
  rw [btw_mk a.1 a.2, btw_mk b.1 b.2, btw_mk c.1 c.2, btw_mk d.1 d.2, btw_mk e.1 e.2]; rfl
theorem okPg_all {p : Pg} {t0 t1 : Bool} (h0 : btw 0 p.st 7 = t0) (h1 : allIn 0 200 [p.lf, p.rt, p.ab, p.be] = t1) : okPg p = (t0 && t1) := by
  subst h0 h1
  simp only [okPg, far, allIn, List.all_cons, List.all_nil, Bool.and_true, Bool.and_assoc]
/-- a passage is valid and behind the one ahead of it -/
def upAt (ts : List Pg) (i : Nat) : Bool := match ts[i]? with
  | none => true
  | some p => okPg p && (decide (i = 0) || match ts[i - 1]? with
    | none => true
    | some q => decide (q.st < p.st))
def upTo (ts : List Pg) (k : Nat) : Bool := (List.range k).all (upAt ts)
def goodPg (ts : List Pg) : Bool := upTo ts ts.length
theorem upTo_zero (ts : List Pg) : upTo ts 0 = true := rfl
theorem upTo_succ (ts : List Pg) (k : Nat) : upTo ts (k + 1) = (upTo ts k && upAt ts k) := by
  unfold upTo
  rw [List.range_succ, List.all_append]; simp
theorem upTo_no {ts : List Pg} {k : Nat} (hk : k < ts.length) (h : upAt ts k = false) : upTo ts ts.length = false := by
  unfold upTo
  rw [List.all_eq_false]
  exact ⟨k, List.mem_range.2 hk, by rw [h]; simp⟩
theorem upAt_first {ts : List Pg} {p : Pg} (h : ts[0]? = some p) : upAt ts 0 = okPg p := by
  unfold upAt; rw [h]; simp
theorem upAt_next {ts : List Pg} {k : Nat} {p q : Pg} (h : ts[k + 1]? = some p) (hq : ts[k]? = some q) : upAt ts (k + 1) = (okPg p && decide (q.st < p.st)) := by
  unfold upAt; rw [h]; simp [hq]
/-- valid passages in ascending order -/
def Up (ts : List Pg) : Prop := (∀ (k : Nat) p, ts[k]? = some p → okPg p = true) ∧ ∀ (k : Nat) p q, ts[k]? = some q → ts[k + 1]? = some p → q.st < p.st
theorem up_of {ts : List Pg} (h : goodPg ts = true) : Up ts := by
  have key : ∀ k, k < ts.length → upAt ts k = true := fun k hk => (List.all_eq_true.1 h) k (List.mem_range.2 hk)
  refine ⟨fun k p hp => ?_, fun k p q hq hp => ?_⟩
  · have := key k (lt_at hp)
    unfold upAt at this
    rw [hp, Bool.and_eq_true] at this
    exact this.1
  · have := key (k + 1) (lt_at hp)
    rw [upAt_next hp hq, Bool.and_eq_true] at this
    simpa using this.2
theorem of_up {ts : List Pg} (h : Up ts) : goodPg ts = true := by
  unfold goodPg upTo
  rw [List.all_eq_true]
  intro k hk
  have hk := List.mem_range.1 hk
  obtain ⟨p, hp⟩ := at_lt rfl hk
  cases k with
  | zero => rw [upAt_first hp]; exact h.1 0 p hp
  | succ k =>
    obtain ⟨q, hq⟩ := at_lt rfl (show k < ts.length by omega)
    rw [upAt_next hp hq, h.1 _ p hp]
    have := h.2 k p q hq hp
    simpa using this
theorem Up.lt {ts : List Pg} (h : Up ts) : ∀ (j i : Nat) (p q : Pg), i < j → ts[i]? = some q → ts[j]? = some p → q.st < p.st
  | 0, i, p, q, hij, _, _ => absurd hij (Nat.not_lt_zero _)
  | j + 1, i, p, q, hij, hq, hp => by
    obtain ⟨r, hr⟩ := at_lt rfl (show j < ts.length by have := lt_at hp; omega)
    have h1 := h.2 j p r hr hp
    by_cases e : i = j
    · subst e; rw [hq] at hr; obtain rfl := Option.some.inj hr; exact h1
    · have := h.lt j i r q (by omega) hq hr
      omega
theorem Up.ge {ts : List Pg} (h : Up ts) : ∀ (k : Nat) p, ts[k]? = some p → (k : Int) ≤ p.st
  | 0, p, hp => (okPg_lim (h.1 0 p hp)).1.1
  | k + 1, p, hp => by
    obtain ⟨q, hq⟩ := at_lt rfl (show k < ts.length by have := lt_at hp; omega)
    have := h.ge k q hq
    have := h.2 k p q hq hp
    omega
theorem Up.len {ts : List Pg} (h : Up ts) : ts.length ≤ 8 := by
  rcases Nat.lt_or_ge 8 ts.length with q | q
  · obtain ⟨p, hp⟩ := at_lt rfl (show 8 < ts.length by omega)
    have := h.ge 8 p hp
    have := (okPg_lim (h.1 8 p hp)).1.2
    omega
  · exact q
theorem good_len {ts : List Pg} (h : goodPg ts = true) : ts.length ≤ 8 := (up_of h).len
theorem good_at {ts : List Pg} {k : Nat} {p : Pg} (h : goodPg ts = true) (hk : ts[k]? = some p) : okPg p = true := (up_of h).1 k p hk
/-- the passage of a station -/
def fdN : List Pg → Int → Nat
  | [], _ => 0
  | p :: ts, s => if p.st = s then 0 else fdN ts s + 1
def fdI (ts : List Pg) (s : Int) : Int := if fdN ts s < ts.length then (fdN ts s : Int) else -1
def pgAt (ts : List Pg) (s : Int) : Option Pg := ts[fdN ts s]?
theorem fdN_lim : ∀ (ts : List Pg) (s : Int), fdN ts s ≤ ts.length ∧ (∀ (i : Nat) p, i < fdN ts s → ts[i]? = some p → ¬ p.st = s) ∧ ∀ p, ts[fdN ts s]? = some p → p.st = s
  | [], s => ⟨Nat.le_refl _, fun i p hi => absurd hi (Nat.not_lt_zero _), fun p hp => by simp at hp⟩
  | p :: ts, s => by
    obtain ⟨a, b, c⟩ := fdN_lim ts s
    by_cases h : p.st = s
    · have e : fdN (p :: ts) s = 0 := by show (if p.st = s then _ else _) = _; rw [if_pos h]
      rw [e]
      refine ⟨Nat.zero_le _, fun i q hi => absurd hi (Nat.not_lt_zero _), fun q hq => by simp at hq; subst hq; exact h⟩
    · have e : fdN (p :: ts) s = fdN ts s + 1 := by show (if p.st = s then _ else _) = _; rw [if_neg h]
      rw [e]
      refine ⟨by simpa using a, fun i q hi hq => ?_, fun q hq => c q (by simpa using hq)⟩
      cases i with
      | zero => simp at hq; subst hq; exact h
      | succ i => exact b i q (by omega) (by simpa using hq)
theorem fdN_is : ∀ (ts : List Pg) (s : Int) (k : Nat) (p : Pg), (∀ (i : Nat) q, i < k → ts[i]? = some q → ¬ q.st = s) → ts[k]? = some p → p.st = s → fdN ts s = k
  | [], s, k, p, _, h, _ => by simp at h
  | q :: ts, s, 0, p, _, h, e => by
    simp at h; subst h
    show (if q.st = s then _ else _) = _; rw [if_pos e]
  | q :: ts, s, k + 1, p, hl, h, e => by
    have h0 := hl 0 q (by omega) rfl
    show (if q.st = s then _ else _) = _
    rw [if_neg h0, fdN_is ts s k p (fun i r hi hr => hl (i + 1) r (by omega) (by simpa using hr)) (by simpa using h) e]
theorem fdN_none : ∀ (ts : List Pg) (s : Int), (∀ (i : Nat) q, ts[i]? = some q → ¬ q.st = s) → fdN ts s = ts.length
  | [], s, _ => rfl
  | q :: ts, s, h => by
    show (if q.st = s then _ else _) = _
    rw [if_neg (h 0 q rfl), fdN_none ts s (fun i r hr => h (i + 1) r (by simpa using hr))]; rfl
theorem Up.fd {ts : List Pg} (h : Up ts) {k : Nat} {p : Pg} (hp : ts[k]? = some p) : fdN ts p.st = k :=
  fdN_is ts p.st k p (fun i q hi hq => by have := h.lt k i p q hi hq hp; omega) hp rfl
theorem Up.at_ {ts : List Pg} (h : Up ts) {k : Nat} {p : Pg} (hp : ts[k]? = some p) : pgAt ts p.st = some p := by unfold pgAt; rw [h.fd hp]; exact hp
theorem fdI_some {ts : List Pg} {s : Int} {k : Nat} (h : fdN ts s = k) (hk : k < ts.length) : fdI ts s = (k : Int) := by unfold fdI; rw [h, if_pos hk]
theorem fdI_none {ts : List Pg} {s : Int} (h : fdN ts s = ts.length) : fdI ts s = -1 := by unfold fdI; rw [h, if_neg (Nat.lt_irrefl _)]
theorem pgAt_none {ts : List Pg} {s : Int} (h : fdN ts s = ts.length) : pgAt ts s = none := by unfold pgAt; rw [h]; simp
theorem pgAt_st {ts : List Pg} {s : Int} {p : Pg} (h : pgAt ts s = some p) : p.st = s := (fdN_lim ts s).2.2 p h
/-- areas -/
def area (p : Pg) : Int := (p.lf + p.rt) * (p.ab + p.be)
def areaO : Option Pg → Int
  | none => 0
  | some p => area p
def arAt (ts : List Pg) (s : Int) : Int := areaO (pgAt ts s)
theorem mul_lim {a b m k : Int} (a0 : 0 ≤ a) (a1 : a ≤ m) (b0 : 0 ≤ b) (b1 : b ≤ k) : 0 ≤ a * b ∧ a * b ≤ m * k :=
  ⟨Int.mul_nonneg a0 b0, Int.le_trans (Int.mul_le_mul_of_nonneg_right a1 b0) (Int.mul_le_mul_of_nonneg_left b1 (by omega))⟩
theorem area_lim {p : Pg} (h : okPg p = true) : 0 ≤ area p ∧ area p ≤ 160000 := by
  obtain ⟨-, a, b, c, d⟩ := okPg_lim h
  exact mul_lim (m := 400) (k := 400) (by omega) (by omega) (by omega) (by omega)
theorem arAt_lim {ts : List Pg} (h : goodPg ts = true) (s : Int) : 0 ≤ arAt ts s ∧ arAt ts s ≤ 160000 := by
  unfold arAt
  cases e : pgAt ts s with
  | none => simp [areaO]
  | some p => exact area_lim (good_at h e)
/-- the sum of the volumes, twice -/
def volK (ts : List Pg) (ls : List Lg) : Nat → Int
  | 0 => 0
  | k + 1 => match ls[k]? with
    | some x => volK ts ls k + (arAt ts x.frm + arAt ts x.to_) * x.tape
    | none => volK ts ls k
def vol (ts : List Pg) (ls : List Lg) : Int := volK ts ls ls.length
theorem volK_succ {ts : List Pg} {ls : List Lg} {k : Nat} {x : Lg} (h : ls[k]? = some x) : volK ts ls (k + 1) = volK ts ls k + (arAt ts x.frm + arAt ts x.to_) * x.tape := by
  show (match ls[k]? with | some x => _ | none => _) = _
  rw [h]
theorem volK_app (ts : List Pg) (az bs : List Lg) : ∀ k, k ≤ az.length → volK ts (az ++ bs) k = volK ts az k
  | 0, _ => rfl
  | k + 1, h => by
    obtain ⟨x, hx⟩ := at_lt rfl (show k < az.length by omega)
    rw [volK_succ hx, volK_succ (by rw [List.getElem?_append_left (by omega)]; exact hx), volK_app ts az bs k (by omega)]
theorem volK_add (ts : List Pg) (az bs : List Lg) : ∀ k, k ≤ bs.length → volK ts (az ++ bs) (az.length + k) = volK ts az az.length + volK ts bs k
  | 0, _ => by rw [Nat.add_zero, volK_app ts az bs _ (Nat.le_refl _)]; simp [volK]
  | k + 1, h => by
    obtain ⟨x, hx⟩ := at_lt rfl (show k < bs.length by omega)
    rw [← Nat.add_assoc, volK_succ (k := az.length + k) (x := x) (by rw [List.getElem?_append_right (by omega), Nat.add_sub_cancel_left]; exact hx), volK_succ hx, volK_add ts az bs k (by omega), Int.add_assoc]
/-- volumes add up over lists of legs -/
theorem vol_app (ts : List Pg) (az bs : List Lg) : vol ts (az ++ bs) = vol ts az + vol ts bs := by
  unfold vol
  rw [List.length_append, volK_add ts az bs _ (Nat.le_refl _)]
/-- the widest of the first ones -/
def wdN (ts : List Pg) : Nat → Nat
  | 0 => 0
  | k + 1 => match ts[k]?, ts[wdN ts k]? with
    | some p, some q => if area q < area p then k else wdN ts k
    | _, _ => wdN ts k
theorem wdN_lt {ts : List Pg} : ∀ k, 0 < k → wdN ts k < k
  | 0, h => absurd h (Nat.lt_irrefl _)
  | 1, _ => by
    have : wdN ts 1 = 0 := by
      unfold wdN
      show (match ts[0]?, ts[0]? with | some p, some q => _ | _, _ => _) = _
      cases ts[0]? with
      | none => rfl
      | some p => simp [wdN]
    omega
  | k + 2, _ => by
    have := wdN_lt (ts := ts) (k + 1) (by omega)
    unfold wdN
    split
    · split <;> omega
    · omega
theorem wdN_succ {ts : List Pg} {k : Nat} {p q : Pg} (hp : ts[k]? = some p) (hq : ts[wdN ts k]? = some q) : wdN ts (k + 1) = if area q < area p then k else wdN ts k := by
  show (match ts[k]?, ts[wdN ts k]? with | some p, some q => _ | _, _ => _) = _
  rw [hp, hq]
/-- the stations of passages at which an opening fits -/
def fits (w h : Int) (p : Pg) : Bool := decide (w ≤ p.lf + p.rt) && decide (h ≤ p.ab + p.be)
def fitK (w h : Int) (ts : List Pg) : Nat → List Int
  | 0 => []
  | k + 1 => match ts[k]? with
    | some p => if fits w h p = true then fitK w h ts k ++ [p.st] else fitK w h ts k
    | none => fitK w h ts k
theorem fitK_yes {w h : Int} {ts : List Pg} {k : Nat} {p : Pg} (hp : ts[k]? = some p) (hf : fits w h p = true) : fitK w h ts (k + 1) = fitK w h ts k ++ [p.st] := by
  show (match ts[k]? with | some p => _ | none => _) = _
  rw [hp]; exact if_pos hf
theorem fitK_no {w h : Int} {ts : List Pg} {k : Nat} {p : Pg} (hp : ts[k]? = some p) (hf : fits w h p = false) : fitK w h ts (k + 1) = fitK w h ts k := by
  show (match ts[k]? with | some p => _ | none => _) = _
  rw [hp]; exact if_neg (by rw [hf]; simp)
theorem fitK_len (w h : Int) (ts : List Pg) : ∀ k, (fitK w h ts k).length ≤ k
  | 0 => by simp [fitK]
  | k + 1 => by
    have := fitK_len w h ts k
    unfold fitK
    split
    · split
      · rw [List.length_append]; simp; omega
      · omega
    · omega
def ftOk (w h : Int) (ts : List Pg) : Bool := goodPg ts && !decide (w < 1) && !decide (h < 1)
def ftV (w h : Int) (ts : List Pg) : List Int := if ftOk w h ts then fitK w h ts ts.length else []
theorem ftV_len (w h : Int) (ts : List Pg) : (ftV w h ts).length ≤ 8 := by
  unfold ftV
  split
  · rename_i c
    unfold ftOk at c
    rw [Bool.and_eq_true, Bool.and_eq_true] at c
    have := good_len c.1.1
    have := fitK_len w h ts ts.length
    omega
  · simp
/-- a fitting station's passage -/
theorem fitK_mem (w h : Int) (ts : List Pg) (s : Int) : ∀ k, s ∈ fitK w h ts k ↔ ∃ (i : Nat) (p : Pg), i < k ∧ ts[i]? = some p ∧ fits w h p = true ∧ p.st = s
  | 0 => by simp [fitK]
  | k + 1 => by
    have ih := fitK_mem w h ts s k
    unfold fitK
    split
    · rename_i p hp
      split
      · rename_i hf
        rw [List.mem_append, ih]
        constructor
        · rintro (⟨i, q, a, b⟩ | h)
          · exact ⟨i, q, by omega, b⟩
          · simp at h; exact ⟨k, p, by omega, hp, hf, h.symm⟩
        · rintro ⟨i, q, a, b, c, d⟩
          by_cases e : i = k
          · subst e; rw [hp] at b; obtain rfl := Option.some.inj b; right; simp [d]
          · exact .inl ⟨i, q, by omega, b, c, d⟩
      · rename_i hf
        rw [ih]
        constructor
        · rintro ⟨i, q, a, b⟩; exact ⟨i, q, by omega, b⟩
        · rintro ⟨i, q, a, b, c, d⟩
          by_cases e : i = k
          · subst e; rw [hp] at b; obtain rfl := Option.some.inj b; exact absurd c hf
          · exact ⟨i, q, by omega, b, c, d⟩
    · rename_i hp
      rw [ih]
      constructor
      · rintro ⟨i, q, a, b⟩; exact ⟨i, q, by omega, b⟩
      · rintro ⟨i, q, a, b, c, d⟩
        by_cases e : i = k
        · subst e; rw [hp] at b; cases b
        · exact ⟨i, q, by omega, b, c, d⟩
theorem fits_more {w h : Int} {p : Pg} (hf : fits (w + 1) h p = true) : fits w h p = true := by
  unfold fits at hf ⊢
  simp only [Bool.and_eq_true, decide_eq_true_eq] at hf ⊢
  omega
theorem fitK_more (w h : Int) (ts : List Pg) (k : Nat) (s : Int) (hs : s ∈ fitK (w + 1) h ts k) : s ∈ fitK w h ts k := by
  obtain ⟨i, p, a, b, c, d⟩ := (fitK_mem _ _ _ _ _).1 hs
  exact (fitK_mem _ _ _ _ _).2 ⟨i, p, a, b, fits_more c, d⟩
/-- the sum of areas -/
def sumA : List Pg → Int
  | [] => 0
  | p :: ts => area p + sumA ts
theorem sumA_app (az : List Pg) (p : Pg) : sumA (az ++ [p]) = sumA az + area p := by
  induction az with
  | nil => simp [sumA]
  | cons q az ih => simp only [List.cons_append, sumA, ih, Int.add_assoc]
theorem sumA_take {ts : List Pg} {k : Nat} {p : Pg} (h : ts[k]? = some p) : sumA (ts.take (k + 1)) = sumA (ts.take k) + area p := by rw [take_snoc h, sumA_app]
theorem sumA_lim : ∀ (ts : List Pg), (∀ p ∈ ts, okPg p = true) → 0 ≤ sumA ts ∧ sumA ts ≤ 160000 * ts.length
  | [], _ => by simp [sumA]
  | p :: ts, h => by
    have a := area_lim (h p (List.mem_cons_self ..))
    have b := sumA_lim ts (fun q hq => h q (List.mem_cons_of_mem _ hq))
    simp only [sumA, List.length_cons]
    omega
theorem good_mem {ts : List Pg} (h : goodPg ts = true) : ∀ p ∈ ts, okPg p = true := by
  intro p hp
  obtain ⟨k, hk⟩ := List.mem_iff_getElem?.1 hp
  exact good_at h hk
/-- a passage mirrored -/
def mirPg (p : Pg) : Pg := ⟨p.st, p.rt, p.lf, p.ab, p.be⟩
theorem mirPg_twice (p : Pg) : mirPg (mirPg p) = p := rfl
theorem mirPg_ok (p : Pg) : okPg (mirPg p) = okPg p := by
  unfold okPg mirPg
  show ((((btw 0 p.st 7 && far p.rt) && far p.lf) && far p.ab) && far p.be) = _
  rw [Bool.and_assoc (btw 0 p.st 7), Bool.and_comm (far p.rt), ← Bool.and_assoc (btw 0 p.st 7)]
/-- two passages of one station merged -/
def lo2 (a b : Int) : Int := if a < b then a else b
def both (x y : Pg) : Pg := ⟨x.st, lo2 x.lf y.lf, lo2 x.rt y.rt, lo2 x.ab y.ab, lo2 x.be y.be⟩
theorem lst_comm (a b : Int) : lo2 a b = lo2 b a := by unfold lo2; split <;> split <;> omega
theorem lst_same (a b : Int) : lo2 (lo2 a b) a = lo2 a b := by unfold lo2; (repeat' split) <;> omega
theorem lst_lim {a b : Int} (h : 0 ≤ a ∧ a ≤ 200) (k : 0 ≤ b ∧ b ≤ 200) : 0 ≤ lo2 a b ∧ lo2 a b ≤ 200 := by unfold lo2; split <;> omega
def mgO : Option Pg → Option Pg → Option Pg
  | some x, some y => some (both x y)
  | some x, none => some x
  | none, some y => some y
  | none, none => none
def mgK (az bs : List Pg) : Nat → List Pg
  | 0 => []
  | s + 1 => match mgO (pgAt az (s : Int)) (pgAt bs (s : Int)) with
    | some x => mgK az bs s ++ [x]
    | none => mgK az bs s
theorem mgK_some {az bs : List Pg} {s : Nat} {x : Pg} (h : mgO (pgAt az (s : Int)) (pgAt bs (s : Int)) = some x) : mgK az bs (s + 1) = mgK az bs s ++ [x] := by
  show (match mgO (pgAt az (s : Int)) (pgAt bs (s : Int)) with | some x => _ | none => _) = _
  rw [h]
theorem mgK_none {az bs : List Pg} {s : Nat} (h : mgO (pgAt az (s : Int)) (pgAt bs (s : Int)) = none) : mgK az bs (s + 1) = mgK az bs s := by
  show (match mgO (pgAt az (s : Int)) (pgAt bs (s : Int)) with | some x => _ | none => _) = _
  rw [h]
theorem mgK_len (az bs : List Pg) : ∀ k, (mgK az bs k).length ≤ k
  | 0 => by simp [mgK]
  | k + 1 => by
    have := mgK_len az bs k
    unfold mgK
    split
    · rw [List.length_append]; simp; omega
    · omega
def mgOk (az bs : List Pg) : Bool := goodPg az && goodPg bs
def mgV (az bs : List Pg) : List Pg := if mgOk az bs then mgK az bs 8 else []
theorem mgV_len (az bs : List Pg) : (mgV az bs).length ≤ 8 := by unfold mgV; split; exact mgK_len _ _ _; simp
/-! answers -/
def stOk (s : Int) : Bool := btw 0 s 7
def ansAa (ts : List Pg) (s : Int) : Value := if goodPg ts && stOk s then .tuple #[.int .i64 (arAt ts s), .bool true] else .tuple #[.int .i64 0, .bool false]
def wsK (ts : List Pg) : Int := match ts[wdN ts ts.length]? with
  | some p => p.st
  | none => 0
def wsOk (ts : List Pg) : Bool := goodPg ts && !decide (ts.length = 0)
def ansWp (ts : List Pg) : Value := if wsOk ts then .tuple #[.int .i64 (wsK ts), .bool true] else .tuple #[.int .i64 0, .bool false]
/-- a mean area, and a volume -/
def ansMa (ts : List Pg) : Value := if wsOk ts then .tuple #[.int .i64 (redN (sumA ts) ts.length), .int .i64 (redD (sumA ts) ts.length), .bool true] else .tuple #[.int .i64 0, .int .i64 0, .bool false]
def ansVo (ts : List Pg) (ls : List Lg) : Value := if goodPg ts && goodLg ls then .tuple #[.int .i64 (redN (vol ts ls) 2), .int .i64 (redD (vol ts ls) 2), .bool true] else .tuple #[.int .i64 0, .int .i64 0, .bool false]
theorem volK_lim {ts : List Pg} {ls : List Lg} (hg : goodPg ts = true) (hl : goodLg ls = true) : ∀ k : Nat, k ≤ ls.length → 0 ≤ volK ts ls k ∧ volK ts ls k ≤ 160000000 * (k : Int)
  | 0, _ => by simp [volK]
  | k + 1, h => by
    obtain ⟨x, hx⟩ := at_lt rfl (show k < ls.length by omega)
    have ih := volK_lim hg hl k (by omega)
    have a := arAt_lim hg x.frm
    have b := arAt_lim hg x.to_
    have t := (okLg_lim (goodLg_at hl hx)).2.2.2.1
    have m := mul_lim (a := arAt ts x.frm + arAt ts x.to_) (b := x.tape) (m := 320000) (k := 500) (by omega) (by omega) (by omega) (by omega)
    rw [volK_succ hx]
    omega
end Go.Proofs.YtnpghhpcloljeaaDoor.pw
