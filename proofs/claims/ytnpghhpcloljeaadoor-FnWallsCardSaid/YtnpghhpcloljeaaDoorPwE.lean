/-
  Passages: merged lists, the widest passage and the mean area, volumes of parts (pure).
  Conditions: none but those that a theorem names.
-/
import Derived.Test.YtnpghhpcloljeaaDoorPwA
namespace Go.Proofs.YtnpghhpcloljeaaDoor.pw
open Go.RowKit
open reads base ty rowi win lg
set_option linter.unusedVariables false
set_option linter.unusedSimpArgs false

theorem Up.mem {ts : List Pg} (h : Up ts) (s : Int) (p : Pg) : pgAt ts s = some p ↔ p ∈ ts ∧ p.st = s := by
  constructor
  · intro e
    exact ⟨List.mem_of_getElem? e, pgAt_st e⟩
  · rintro ⟨hm, rfl⟩
    obtain ⟨k, hk⟩ := List.mem_iff_getElem?.1 hm
    exact h.at_ hk
theorem Up.none_ {ts : List Pg} (h : Up ts) {s : Int} (hs : ∀ p ∈ ts, ¬ p.st = s) : pgAt ts s = none := by
  cases e : pgAt ts s with
  | none => rfl
  | some p => have := (h.mem s p).1 e; exact absurd this.2 (hs p this.1)
theorem Up.tail {p : Pg} {ts : List Pg} (h : Up (p :: ts)) : Up ts := ⟨fun k q hq => h.1 (k + 1) q (by simpa using hq), fun k q r hr hq => h.2 (k + 1) q r (by simpa using hr) (by simpa using hq)⟩
theorem Up.head {p : Pg} {ts : List Pg} (h : Up (p :: ts)) : ∀ q ∈ ts, p.st < q.st := by
  intro q hq
  obtain ⟨k, hk⟩ := List.mem_iff_getElem?.1 hq
  exact h.lt (k + 1) 0 q p (by omega) rfl (by simpa using hk)
theorem up_nil : Up [] := ⟨fun k p h => by simp at h, fun k p q h => by simp at h⟩
/-- ascending lists with the same passages are the same -/
theorem up_ext : ∀ (xs ys : List Pg), Up xs → Up ys → (∀ p, p ∈ xs ↔ p ∈ ys) → xs = ys
  | [], [], _, _, _ => rfl
  | [], y :: ys, _, _, h => absurd ((h y).2 (List.mem_cons_self ..)) (by simp)
  | x :: xs, [], _, _, h => absurd ((h x).1 (List.mem_cons_self ..)) (by simp)
  | x :: xs, y :: ys, hx, hy, h => by
    have e : x = y := by
      rcases List.mem_cons.1 ((h x).1 (List.mem_cons_self ..)) with a | a
      · exact a
      · rcases List.mem_cons.1 ((h y).2 (List.mem_cons_self ..)) with b | b
        · exact b.symm
        · have := hy.head x a; have := hx.head y b; omega
    subst e
    congr 1
    refine up_ext xs ys hx.tail hy.tail (fun p => ⟨fun hp => ?_, fun hp => ?_⟩)
    · rcases List.mem_cons.1 ((h p).1 (List.mem_cons_of_mem _ hp)) with a | a
      · subst a; have := hx.head p hp; omega
      · exact a
    · rcases List.mem_cons.1 ((h p).2 (List.mem_cons_of_mem _ hp)) with a | a
      · subst a; have := hy.head p hp; omega
      · exact a
theorem up_same {xs ys : List Pg} (hx : Up xs) (hy : Up ys) (h : ∀ s, pgAt xs s = pgAt ys s) : xs = ys :=
  up_ext xs ys hx hy (fun p => ⟨fun hp => ((hy.mem p.st p).1 (by rw [← h]; exact (hx.mem p.st p).2 ⟨hp, rfl⟩)).1, fun hp => ((hx.mem p.st p).1 (by rw [h]; exact (hy.mem p.st p).2 ⟨hp, rfl⟩)).1⟩)
theorem both_ok {x y : Pg} (hx : okPg x = true) (hy : okPg y = true) : okPg (both x y) = true := by
  obtain ⟨a, b, c, d, e⟩ := okPg_lim hx
  obtain ⟨-, b', c', d', e'⟩ := okPg_lim hy
  exact okPg_mk ⟨a, lst_lim b b', lst_lim c c', lst_lim d d', lst_lim e e'⟩
theorem both_comm {x y : Pg} (h : x.st = y.st) : both x y = both y x := by
  unfold both; rw [h, lst_comm x.lf, lst_comm x.rt, lst_comm x.ab, lst_comm x.be]
theorem both_same (x y : Pg) : both (both x y) x = both x y := by
  unfold both; simp only [lst_same]
theorem both_self (x : Pg) : both x x = x := by
  unfold both lo2; simp
theorem mgO_st {a b : Option Pg} {s : Int} {p : Pg} (ha : ∀ q, a = some q → q.st = s) (hb : ∀ q, b = some q → q.st = s) (h : mgO a b = some p) : p.st = s := by
  cases a with
  | none => cases b with
    | none => cases h
    | some y => exact Option.some.inj h ▸ hb y rfl
  | some x => cases b with
    | none => exact Option.some.inj h ▸ ha x rfl
    | some y => have e := Option.some.inj h; rw [← e]; exact ha x rfl
theorem mgO_ok {a b : Option Pg} {p : Pg} (ha : ∀ q, a = some q → okPg q = true) (hb : ∀ q, b = some q → okPg q = true) (h : mgO a b = some p) : okPg p = true := by
  cases a with
  | none => cases b with
    | none => cases h
    | some y => exact Option.some.inj h ▸ hb y rfl
  | some x => cases b with
    | none => exact Option.some.inj h ▸ ha x rfl
    | some y => have e := Option.some.inj h; rw [← e]; exact both_ok (ha x rfl) (hb y rfl)
theorem mgO_comm {a b : Option Pg} {s : Int} (ha : ∀ q, a = some q → q.st = s) (hb : ∀ q, b = some q → q.st = s) : mgO a b = mgO b a := by
  cases a <;> cases b <;> try rfl
  rename_i x y
  show some (both x y) = some (both y x)
  rw [both_comm ((ha x rfl).trans (hb y rfl).symm)]
theorem mgO_same (a b : Option Pg) : mgO (mgO a b) a = mgO a b := by
  cases a <;> cases b <;> try rfl
  · rename_i x; show some (both x x) = some x; rw [both_self]
  · rename_i x y; show some (both (both x y) x) = some (both x y); rw [both_same]
theorem Up.snoc {ts : List Pg} (h : Up ts) {p : Pg} (hp : okPg p = true) (hl : ∀ q ∈ ts, q.st < p.st) : Up (ts ++ [p]) := by
  refine ⟨fun k q hq => ?_, fun k q r hr hq => ?_⟩
  · rcases List.mem_append.1 (List.mem_of_getElem? hq) with a | a
    · obtain ⟨j, hj⟩ := List.mem_iff_getElem?.1 a; exact h.1 j q hj
    · rw [List.mem_singleton.1 a]; exact hp
  · have hk := lt_at hq
    rw [List.length_append, List.length_singleton] at hk
    rw [List.getElem?_append_left (by omega)] at hr
    by_cases e : k + 1 < ts.length
    · rw [List.getElem?_append_left e] at hq; exact h.2 k q r hr hq
    · rw [List.getElem?_append_right (by omega), show k + 1 - ts.length = 0 by omega] at hq
      obtain rfl : p = q := by simpa using hq
      exact hl r (List.mem_of_getElem? hr)
/-- what the first stations' merge has -/
theorem mgK_is {az bs : List Pg} (ha : Up az) (hb : Up bs) : ∀ k : Nat, Up (mgK az bs k) ∧ ∀ p, p ∈ mgK az bs k ↔ (p.st < (k : Int) ∧ mgO (pgAt az p.st) (pgAt bs p.st) = some p)
  | 0 => by
    refine ⟨up_nil, fun p => ⟨fun h => by simp [mgK] at h, fun h => ?_⟩⟩
    exfalso
    have := mgO_ok (fun q e => ha.1 _ q e) (fun q e => hb.1 _ q e) h.2
    have := (okPg_lim this).1.1
    have := h.1
    omega
  | k + 1 => by
    obtain ⟨i1, i2⟩ := mgK_is ha hb k
    cases e : mgO (pgAt az (k : Int)) (pgAt bs (k : Int)) with
    | none =>
      rw [mgK_none e]
      refine ⟨i1, fun p => ⟨fun h => ?_, fun h => ?_⟩⟩
      · have := (i2 p).1 h; exact ⟨by omega, this.2⟩
      · by_cases c : p.st = (k : Int)
        · have := h.2; rw [c, e] at this; cases this
        · exact (i2 p).2 ⟨by have := h.1; omega, h.2⟩
    | some x =>
      have hs := mgO_st (fun q e => pgAt_st e) (fun q e => pgAt_st e) e
      have ho := mgO_ok (fun q e => ha.1 _ q e) (fun q e => hb.1 _ q e) e
      rw [mgK_some e]
      refine ⟨i1.snoc ho (fun q hq => by have := ((i2 q).1 hq).1; omega), fun p => ?_⟩
      rw [List.mem_append, i2, List.mem_singleton]
      constructor
      · rintro (h | rfl)
        · exact ⟨by omega, h.2⟩
        · exact ⟨by omega, by rw [hs]; exact e⟩
      · rintro ⟨h1, h2⟩
        by_cases c : p.st = (k : Int)
        · right; rw [c, e] at h2; exact (Option.some.inj h2).symm
        · exact .inl ⟨by omega, h2⟩
theorem mgK_up {az bs : List Pg} (ha : Up az) (hb : Up bs) : Up (mgK az bs 8) := (mgK_is ha hb 8).1
theorem mgK_at {az bs : List Pg} (ha : Up az) (hb : Up bs) (s : Int) : pgAt (mgK az bs 8) s = mgO (pgAt az s) (pgAt bs s) := by
  cases e : mgO (pgAt az s) (pgAt bs s) with
  | none =>
    refine (mgK_up ha hb).none_ (fun p hp c => ?_)
    have := ((mgK_is ha hb 8).2 p).1 hp
    rw [c, e] at this
    exact absurd this.2 (by simp)
  | some p =>
    have hs := mgO_st (fun q e => pgAt_st e) (fun q e => pgAt_st e) e
    have ho := mgO_ok (fun q e => ha.1 _ q e) (fun q e => hb.1 _ q e) e
    exact ((mgK_up ha hb).mem s p).2 ⟨((mgK_is ha hb 8).2 p).2 ⟨by have := (okPg_lim ho).1.2; omega, by rw [hs]; exact e⟩, hs⟩
/-- a merge on the way: what of the second list has come in -/
def Mg (az bs ms : List Pg) : Prop := Up ms ∧ ∀ s, pgAt ms s = mgO (pgAt az s) (pgAt bs s)
theorem mgO_none (a : Option Pg) : mgO a none = a := by cases a <;> rfl
theorem mg_start {az : List Pg} (h : Up az) : Mg az [] az := ⟨h, fun s => (mgO_none _).symm⟩
theorem mg_end {az bs ms : List Pg} (ha : Up az) (hb : Up bs) (h : Mg az bs ms) : ms = mgK az bs 8 := up_same h.1 (mgK_up ha hb) (fun s => by rw [h.2, mgK_at ha hb])
theorem Up.take {ts : List Pg} (h : Up ts) (k : Nat) : Up (ts.take k) := by
  refine ⟨fun j p hp => ?_, fun j p q hq hp => ?_⟩
  · exact h.1 j p (by have := lt_at hp; rw [List.length_take] at this; rwa [List.getElem?_take_of_lt (by omega)] at hp)
  · have l := lt_at hp
    rw [List.length_take] at l
    rw [List.getElem?_take_of_lt (by omega)] at hp hq
    exact h.2 j p q hq hp
theorem take_at {ts : List Pg} (h : Up ts) {k : Nat} {p : Pg} (hp : ts[k]? = some p) (s : Int) : pgAt (ts.take (k + 1)) s = if s = p.st then some p else pgAt (ts.take k) s := by
  by_cases e : s = p.st
  · subst e
    rw [if_pos rfl]
    exact ((h.take (k + 1)).mem _ _).2 ⟨by rw [take_snoc hp]; simp, rfl⟩
  · rw [if_neg e]
    cases q : pgAt (ts.take k) s with
    | none =>
      refine (h.take (k + 1)).none_ (fun r hr c => ?_)
      rw [take_snoc hp] at hr
      rcases List.mem_append.1 hr with a | a
      · have := ((h.take k).mem s r).2 ⟨a, c⟩; rw [q] at this; cases this
      · rw [List.mem_singleton.1 a] at c; exact e c.symm
    | some r =>
      have := ((h.take k).mem s r).1 q
      exact ((h.take (k + 1)).mem s r).2 ⟨by rw [take_snoc hp]; exact List.mem_append_left _ this.1, this.2⟩
theorem take_no {ts : List Pg} (h : Up ts) {k : Nat} {p : Pg} (hp : ts[k]? = some p) : pgAt (ts.take k) p.st = none := by
  refine (h.take k).none_ (fun r hr c => ?_)
  obtain ⟨j, hj⟩ := List.mem_iff_getElem?.1 hr
  have l := lt_at hj
  rw [List.length_take] at l
  rw [List.getElem?_take_of_lt (by omega)] at hj
  have := h.lt k j p r (by omega) hj hp
  omega
/-- one passage more has come in: if its station is changed az it must be -/
theorem mg_step {az bs ms ns : List Pg} {k : Nat} {p r : Pg} (hb : Up bs) (hp : bs[k]? = some p) (h : Mg az (bs.take k) ms) (hn : Up ns) (hr : mgO (pgAt ms p.st) (some p) = some r) (hs : ∀ s, pgAt ns s = if s = p.st then some r else pgAt ms s) : Mg az (bs.take (k + 1)) ns := by
  refine ⟨hn, fun s => ?_⟩
  rw [hs, take_at hb hp]
  by_cases e : s = p.st
  · subst e
    rw [if_pos rfl, if_pos rfl, ← hr, h.2, take_no hb hp, mgO_none]
  · rw [if_neg e, if_neg e, h.2]
theorem up_set {ts : List Pg} (h : Up ts) {k : Nat} {q r : Pg} (hq : ts[k]? = some q) (hs : r.st = q.st) (ho : okPg r = true) : Up (ts.set k r) ∧ ∀ s, pgAt (ts.set k r) s = if s = r.st then some r else pgAt ts s := by
  have hk := lt_at hq
  have hu : Up (ts.set k r) := by
    refine ⟨fun j p hp => ?_, fun j p u hu hp => ?_⟩
    · rw [List.getElem?_set] at hp
      split at hp
      · obtain rfl := Option.some.inj hp; exact ho
      · exact h.1 j p hp
    · have l := lt_at hp
      rw [List.length_set] at l
      have key : ∀ (i : Nat) (z : Pg), (ts.set k r)[i]? = some z → ∃ y, ts[i]? = some y ∧ y.st = z.st := fun i z hz => by
        rw [List.getElem?_set] at hz
        split at hz
        · rename_i e
          obtain rfl := Option.some.inj hz; subst e; exact ⟨q, hq, hs.symm⟩
        · exact ⟨z, hz, rfl⟩
      obtain ⟨a, a1, a2⟩ := key _ _ hp
      obtain ⟨b, b1, b2⟩ := key _ _ hu
      have := h.2 j a b b1 a1
      omega
  refine ⟨hu, fun s => ?_⟩
  by_cases e : s = r.st
  · rw [if_pos e]
    exact (hu.mem s r).2 ⟨List.mem_of_getElem? (by rw [List.getElem?_set_self hk]), e.symm⟩
  · rw [if_neg e]
    cases c : pgAt ts s with
    | none =>
      refine hu.none_ (fun p hp d => ?_)
      obtain ⟨i, hi⟩ := List.mem_iff_getElem?.1 hp
      rw [List.getElem?_set] at hi
      split at hi
      · obtain rfl := Option.some.inj hi; exact e d.symm
      · have := (h.mem s p).2 ⟨List.mem_of_getElem? hi, d⟩; rw [c] at this; cases this
    | some p =>
      obtain ⟨a, b⟩ := (h.mem s p).1 c
      obtain ⟨i, hi⟩ := List.mem_iff_getElem?.1 a
      refine (hu.mem s p).2 ⟨List.mem_of_getElem? (i := i) ?_, b⟩
      rw [List.getElem?_set, if_neg (by rintro rfl; rw [hq] at hi; obtain rfl := Option.some.inj hi; omega)]
      exact hi
/-- a passage put in -/
def insPg (ts : List Pg) (k : Nat) (p : Pg) : List Pg := ts.take k ++ p :: ts.drop k
theorem ins_at {ts : List Pg} {k : Nat} (hk : k ≤ ts.length) (p : Pg) (i : Nat) : (insPg ts k p)[i]? = if i < k then ts[i]? else if i = k then some p else ts[i - 1]? := by
  unfold insPg
  have e : (ts.take k).length = k := by rw [List.length_take]; omega
  by_cases c : i < k
  · rw [if_pos c, List.getElem?_append_left (by omega), List.getElem?_take_of_lt c]
  · rw [if_neg c, List.getElem?_append_right (by omega), e]
    by_cases d : i = k
    · subst d; rw [if_pos rfl, Nat.sub_self]; rfl
    · rw [if_neg d, show i - k = (i - k - 1) + 1 by omega, List.getElem?_cons_succ, List.getElem?_drop]
      congr 1; omega
theorem ins_mem (ts : List Pg) (k : Nat) (p q : Pg) : q ∈ insPg ts k p ↔ q = p ∨ q ∈ ts := by
  unfold insPg
  rw [List.mem_append, List.mem_cons]
  constructor
  · rintro (a | a | a)
    · exact .inr (List.mem_of_mem_take a)
    · exact .inl a
    · exact .inr (List.mem_of_mem_drop a)
  · rintro (a | a)
    · exact .inr (.inl a)
    · rw [← List.take_append_drop k ts, List.mem_append] at a
      rcases a with a | a
      · exact .inl a
      · exact .inr (.inr a)
theorem ins_len {ts : List Pg} {k : Nat} (hk : k ≤ ts.length) (p : Pg) : (insPg ts k p).length = ts.length + 1 := by
  unfold insPg; rw [List.length_append, List.length_cons, List.length_take, List.length_drop]; omega
theorem up_ins {ts : List Pg} (h : Up ts) {k : Nat} {p : Pg} (hk : k ≤ ts.length) (ho : okPg p = true) (h0 : ∀ (i : Nat) q, i < k → ts[i]? = some q → q.st < p.st) (h1 : ∀ (i : Nat) q, k ≤ i → ts[i]? = some q → p.st < q.st) : Up (insPg ts k p) ∧ ∀ s, pgAt (insPg ts k p) s = if s = p.st then some p else pgAt ts s := by
  have hu : Up (insPg ts k p) := by
    refine ⟨fun j q hq => ?_, fun j q u hu hq => ?_⟩
    · rcases (ins_mem ts k p q).1 (List.mem_of_getElem? hq) with rfl | a
      · exact ho
      · obtain ⟨i, hi⟩ := List.mem_iff_getElem?.1 a; exact h.1 i q hi
    · rw [ins_at hk] at hu hq
      by_cases c : j + 1 < k
      · rw [if_pos c] at hq; rw [if_pos (by omega)] at hu; exact h.2 j q u hu hq
      · rw [if_neg c] at hq
        by_cases d : j + 1 = k
        · rw [if_pos d] at hq; rw [if_pos (by omega)] at hu; obtain rfl := Option.some.inj hq; exact h0 j u (by omega) hu
        · rw [if_neg d] at hq; rw [if_neg (by omega)] at hu
          by_cases e : j = k
          · rw [if_pos e] at hu; obtain rfl := Option.some.inj hu; exact h1 _ q (by omega) hq
          · rw [if_neg e] at hu; exact h.lt (j + 1 - 1) (j - 1) q u (by omega) hu hq
  refine ⟨hu, fun s => ?_⟩
  by_cases e : s = p.st
  · rw [if_pos e]; exact (hu.mem s p).2 ⟨(ins_mem ts k p p).2 (.inl rfl), e.symm⟩
  · rw [if_neg e]
    cases c : pgAt ts s with
    | none =>
      refine hu.none_ (fun q hq d => ?_)
      rcases (ins_mem ts k p q).1 hq with rfl | a
      · exact e d.symm
      · have := (h.mem s q).2 ⟨a, d⟩; rw [c] at this; cases this
    | some q =>
      obtain ⟨a, b⟩ := (h.mem s q).1 c
      exact (hu.mem s q).2 ⟨(ins_mem ts k p q).2 (.inr a), b⟩
/-! what the law of merged passages asks -/
theorem mgV_up {az bs : List Pg} (h : mgOk az bs = true) : Up (mgV az bs) := by
  have k := h
  unfold mgOk at k
  rw [Bool.and_eq_true] at k
  unfold mgV; rw [if_pos h]; exact mgK_up (up_of k.1) (up_of k.2)
theorem mgV_at {az bs : List Pg} (h : mgOk az bs = true) (s : Int) : pgAt (mgV az bs) s = mgO (pgAt az s) (pgAt bs s) := by
  have k := h
  unfold mgOk at k
  rw [Bool.and_eq_true] at k
  unfold mgV; rw [if_pos h]; exact mgK_at (up_of k.1) (up_of k.2) s
theorem mgOk_comm {az bs : List Pg} (h : mgOk az bs = true) : mgOk bs az = true := by unfold mgOk at h ⊢; rwa [Bool.and_comm]
theorem mgV_comm {az bs : List Pg} (h : mgOk az bs = true) : mgV bs az = mgV az bs :=
  up_same (mgV_up (mgOk_comm h)) (mgV_up h) (fun s => by rw [mgV_at h, mgV_at (mgOk_comm h)]; exact mgO_comm (fun q e => pgAt_st e) (fun q e => pgAt_st e))
theorem mgOk_again {az bs : List Pg} (h : mgOk az bs = true) : mgOk (mgV az bs) az = true := by
  have k := h
  unfold mgOk at k
  rw [Bool.and_eq_true] at k
  unfold mgOk; rw [of_up (mgV_up h), k.1]; rfl
theorem mgV_again {az bs : List Pg} (h : mgOk az bs = true) : mgV (mgV az bs) az = mgV az bs :=
  up_same (mgV_up (mgOk_again h)) (mgV_up h) (fun s => by rw [mgV_at (mgOk_again h), mgV_at h, mgO_same])
/-! the widest passage -/
theorem wdN_max {ts : List Pg} : ∀ (k : Nat), 0 < k → k ≤ ts.length → ∃ q, ts[wdN ts k]? = some q ∧ ∀ (i : Nat) p, i < k → ts[i]? = some p → area p ≤ area q
  | 0, h, _ => absurd h (Nat.lt_irrefl _)
  | 1, _, hk => by
    obtain ⟨q, hq⟩ := at_lt rfl (show 0 < ts.length by omega)
    have e : wdN ts 1 = 0 := by have := wdN_lt (ts := ts) 1 (by omega); omega
    rw [e]
    exact ⟨q, hq, fun i p hi hp => by obtain rfl : i = 0 := (by omega); rw [hq] at hp; obtain rfl := Option.some.inj hp; exact Int.le_refl _⟩
  | k + 2, _, hk => by
    obtain ⟨q, hq, hm⟩ := wdN_max (ts := ts) (k + 1) (by omega) (by omega)
    obtain ⟨p, hp⟩ := at_lt rfl (show k + 1 < ts.length by omega)
    rw [wdN_succ hp hq]
    by_cases c : area q < area p
    · rw [if_pos c]
      refine ⟨p, hp, fun i r hi hr => ?_⟩
      by_cases e : i = k + 1
      · subst e; rw [hp] at hr; obtain rfl := Option.some.inj hr; exact Int.le_refl _
      · have := hm i r (by omega) hr; omega
    · rw [if_neg c]
      refine ⟨q, hq, fun i r hi hr => ?_⟩
      by_cases e : i = k + 1
      · subst e; rw [hp] at hr; obtain rfl := Option.some.inj hr; omega
      · exact hm i r (by omega) hr
theorem sumA_le {m : Int} : ∀ (ts : List Pg), (∀ p ∈ ts, area p ≤ m) → sumA ts ≤ m * (ts.length : Int)
  | [], _ => by simp [sumA]
  | p :: ts, h => by
    have a := h p (List.mem_cons_self ..)
    have b := sumA_le ts (fun q hq => h q (List.mem_cons_of_mem _ hq))
    simp only [sumA, List.length_cons]
    rw [Int.natCast_add, Int.mul_add]
    omega
theorem red_mul (num den : Int) : redN num den * (Nat.gcd num.natAbs den.natAbs : Nat) = num ∧ redD num den * (Nat.gcd num.natAbs den.natAbs : Nat) = den := by
  have h1 : ((Nat.gcd num.natAbs den.natAbs : Nat) : Int) ∣ num := Int.ofNat_dvd_left.2 (Nat.gcd_dvd_left _ _)
  have h2 : ((Nat.gcd num.natAbs den.natAbs : Nat) : Int) ∣ den := Int.ofNat_dvd_left.2 (Nat.gcd_dvd_right _ _)
  exact ⟨Int.tdiv_mul_cancel h1, Int.tdiv_mul_cancel h2⟩
/-- the widest passage's area is at least the mean -/
theorem widest_mean {ts : List Pg} (h : wsOk ts = true) : stOk (wsK ts) = true ∧ redN (sumA ts) ts.length ≤ arAt ts (wsK ts) * redD (sumA ts) ts.length := by
  unfold wsOk at h
  rw [Bool.and_eq_true] at h
  have hl : 0 < ts.length := by have := h.2; simp at this; exact List.length_pos_iff.2 this
  obtain ⟨q, hq, hm⟩ := wdN_max ts.length hl (Nat.le_refl _)
  have hu := up_of h.1
  have hw : wsK ts = q.st := by unfold wsK; rw [hq]
  have ha : arAt ts (wsK ts) = area q := by unfold arAt; rw [hw, hu.at_ hq]; rfl
  have hs : sumA ts ≤ area q * (ts.length : Int) := sumA_le ts (fun p hp => by obtain ⟨i, hi⟩ := List.mem_iff_getElem?.1 hp; exact hm i p (lt_at hi) hi)
  refine ⟨by unfold stOk; rw [hw]; have := (okPg_lim (hu.1 _ q hq)).1; exact btw_mk this.1 this.2, ?_⟩
  rw [ha]
  obtain ⟨r1, r2⟩ := red_mul (sumA ts) ts.length
  have hg : (0 : Int) < (Nat.gcd (sumA ts).natAbs ((ts.length : Nat) : Int).natAbs : Nat) := by
    have := Nat.gcd_pos_of_pos_right (sumA ts).natAbs (show 0 < ((ts.length : Nat) : Int).natAbs by omega)
    omega
  generalize (Nat.gcd (sumA ts).natAbs ((ts.length : Nat) : Int).natAbs : Nat) = g at *
  refine Int.le_of_mul_le_mul_right (a := (g : Int)) ?_ hg
  rw [r1, Int.mul_assoc, r2]
  exact hs
/-- volumes of two parts add up az fractions -/
theorem vol_parts {ts : List Pg} {az bs : List Lg} :
    (redN (vol ts az) 2 * redD (vol ts bs) 2 + redN (vol ts bs) 2 * redD (vol ts az) 2) * redD (vol ts (az ++ bs)) 2 = redN (vol ts (az ++ bs)) 2 * redD (vol ts az) 2 * redD (vol ts bs) 2 := by
  have key : ∀ V : Int, 2 * redN V 2 = V * redD V 2 := fun V => by
    obtain ⟨r1, r2⟩ := red_mul V 2
    have hg : (0 : Int) < (Nat.gcd V.natAbs (2 : Int).natAbs : Nat) := by
      have := Nat.gcd_pos_of_pos_right V.natAbs (show 0 < (2 : Int).natAbs by decide)
      omega
    generalize (Nat.gcd V.natAbs (2 : Int).natAbs : Nat) = g at *
    refine Int.eq_of_mul_eq_mul_right (a := (g : Int)) (by omega) ?_
    rw [Int.mul_assoc 2, r1, Int.mul_assoc V, r2, Int.mul_comm]
  have a := key (vol ts az)
  have b := key (vol ts bs)
  have c := key (vol ts (az ++ bs))
  rw [vol_app] at c ⊢
  generalize redN (vol ts az) 2 = n1 at *
  generalize redN (vol ts bs) 2 = n2 at *
  generalize redN (vol ts az + vol ts bs) 2 = n3 at *
  generalize redD (vol ts az) 2 = d1 at *
  generalize redD (vol ts bs) 2 = d2 at *
  generalize redD (vol ts az + vol ts bs) 2 = d3 at *
  generalize vol ts az = V1 at *
  generalize vol ts bs = V2 at *
  refine Int.eq_of_mul_eq_mul_left (a := 2) (by decide) ?_
  have e1 : 2 * ((n1 * d2 + n2 * d1) * d3) = ((2 * n1) * d2 + (2 * n2) * d1) * d3 := by
    rw [← Int.mul_assoc, Int.mul_add, ← Int.mul_assoc, ← Int.mul_assoc]
  have e2 : 2 * (n3 * d1 * d2) = (2 * n3) * d1 * d2 := by rw [← Int.mul_assoc, ← Int.mul_assoc]
  rw [e1, e2, a, b, c]
  have e3 : V1 * d1 * d2 + V2 * d2 * d1 = (V1 + V2) * (d1 * d2) := by
    rw [Int.add_mul, Int.mul_assoc, Int.mul_assoc, Int.mul_comm d2 d1]
  rw [e3, Int.mul_right_comm, ← Int.mul_assoc ((V1 + V2) * d3)]
end Go.Proofs.YtnpghhpcloljeaaDoor.pw
