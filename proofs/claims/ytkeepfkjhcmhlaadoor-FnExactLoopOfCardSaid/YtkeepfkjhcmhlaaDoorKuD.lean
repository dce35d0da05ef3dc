/-
  Ways as the program grows them: exits, what a search shows, loops and bridges told by ways (pure mathematics).
  Conditions: none but those that a theorem names.
-/
import Derived.Test.YtkeepfkjhcmhlaaDoorKuC
namespace Go.Proofs.YtkeepfkjhcmhlaaDoor.lp
open Go.RowKit
open reads base ty lg hs nt
set_option linter.unusedVariables false

/-- the open legs, by their marks -/
def Opn (bs : List Bool) (j : Int) : Prop := bs[j.toNat]? = some true
/-- the exits of a station by the first k legs -/
def exR (ts : List Lg) (bs : List Bool) : Nat → Int → List (Int × Int)
  | 0, _ => []
  | k + 1, s => match ts[k]?, bs[k]? with
    | some x, some true => if x.frm = s then exR ts bs k s ++ [((k : Int), x.to_)] else if x.to_ = s then exR ts bs k s ++ [((k : Int), x.frm)] else exR ts bs k s
    | _, _ => exR ts bs k s
section
variable {ts : List Lg} {bs : List Bool} {k : Nat} {s : Int} {x : Lg}
theorem exR_shut (hx : ts[k]? = some x) (hb : bs[k]? = some false) : exR ts bs (k + 1) s = exR ts bs k s := by
  rw [exR, hx, hb]
theorem exR_frm (hx : ts[k]? = some x) (hb : bs[k]? = some true) (h : x.frm = s) : exR ts bs (k + 1) s = exR ts bs k s ++ [((k : Int), x.to_)] := by
  rw [exR, hx, hb]; exact if_pos h
theorem exR_to (hx : ts[k]? = some x) (hb : bs[k]? = some true) (h : ¬ x.frm = s) (h2 : x.to_ = s) : exR ts bs (k + 1) s = exR ts bs k s ++ [((k : Int), x.frm)] := by
  rw [exR, hx, hb]; exact (if_neg h).trans (if_pos h2)
theorem exR_no (hx : ts[k]? = some x) (hb : bs[k]? = some true) (h : ¬ x.frm = s) (h2 : ¬ x.to_ = s) : exR ts bs (k + 1) s = exR ts bs k s := by
  rw [exR, hx, hb]; exact (if_neg h).trans (if_neg h2)
end
theorem exR_len (ts : List Lg) (bs : List Bool) (s : Int) : ∀ k, (exR ts bs k s).length ≤ k
  | 0 => Nat.le_refl _
  | k + 1 => by
    have ih := exR_len ts bs s k
    rw [exR]
    split
    · split
      · rw [List.length_append]; simp; omega
      · split
        · rw [List.length_append]; simp; omega
        · omega
    · omega
theorem exR_mem {ts : List Lg} {bs : List Bool} {s : Int} (hne : ∀ x ∈ ts, ¬ x.frm = x.to_) : ∀ k, k ≤ ts.length → ∀ j t, (j, t) ∈ exR ts bs k s ↔ (Opn bs j ∧ j < k ∧ Jn ts j s t)
  | 0, _, j, t => by
    constructor
    · intro h; cases h
    · rintro ⟨-, h, h0, -⟩; omega
  | k + 1, hk, j, t => by
    have ih := exR_mem (bs := bs) (s := s) hne k (by omega) j t
    obtain ⟨x, hx⟩ : ∃ x, ts[k]? = some x := ⟨_, List.getElem?_eq_getElem (by omega)⟩
    have hxn := hne x (List.mem_of_getElem? hx)
    have more : (Opn bs j ∧ j < (k : Int) ∧ Jn ts j s t) → (Opn bs j ∧ j < ((k + 1 : Nat) : Int) ∧ Jn ts j s t) := fun ⟨a, b, c⟩ => ⟨a, by omega, c⟩
    have less_ : (Opn bs j ∧ j < ((k + 1 : Nat) : Int) ∧ Jn ts j s t) → j = k ∨ (Opn bs j ∧ j < (k : Int) ∧ Jn ts j s t) := fun ⟨a, b, c⟩ => by
      by_cases e : j = k
      · exact .inl e
      · exact .inr ⟨a, by omega, c⟩
    have own_ : Jn ts (k : Int) s t → Jo x s t := fun ⟨_, y, hy, hj⟩ => by
      rw [Int.toNat_natCast, hx] at hy
      obtain rfl := Option.some.inj hy
      exact hj
    have mk : Jo x s t → bs[k]? = some true → (Opn bs (k : Int) ∧ (k : Int) < ((k + 1 : Nat) : Int) ∧ Jn ts (k : Int) s t) := fun hj hb => ⟨by unfold Opn; rw [Int.toNat_natCast]; exact hb, by omega, by omega, x, by rw [Int.toNat_natCast]; exact hx, hj⟩
    have shut : ¬ bs[k]? = some true → exR ts bs (k + 1) s = exR ts bs k s := fun hb => by
      rw [exR, hx]
      split
      · rename_i h1 h2; exact absurd h2 hb
      · rfl
    by_cases hb : bs[k]? = some true
    · by_cases hf : x.frm = s
      · rw [exR_frm hx hb hf, List.mem_append, ih, List.mem_singleton]
        constructor
        · rintro (h | h)
          · exact more h
          · obtain ⟨rfl, rfl⟩ := Prod.mk.inj h
            exact mk (.inl ⟨hf, rfl⟩) hb
        · intro h
          rcases less_ h with rfl | h2
          · have := (own_ h.2.2).far
            exact .inr (by rw [show t = x.to_ by omega])
          · exact .inl h2
      · by_cases ht : x.to_ = s
        · rw [exR_to hx hb hf ht, List.mem_append, ih, List.mem_singleton]
          constructor
          · rintro (h | h)
            · exact more h
            · obtain ⟨rfl, rfl⟩ := Prod.mk.inj h
              exact mk (.inr ⟨ht, rfl⟩) hb
          · intro h
            rcases less_ h with rfl | h2
            · have := (own_ h.2.2).far
              exact .inr (by rw [show t = x.frm by omega])
            · exact .inl h2
        · rw [exR_no hx hb hf ht, ih]
          constructor
          · exact more
          · intro h
            rcases less_ h with rfl | h2
            · have := own_ h.2.2
              unfold Jo at this; omega
            · exact h2
    · rw [shut hb, ih]
      constructor
      · exact more
      · intro h
        rcases less_ h with rfl | h2
        · exfalso
          have := h.1
          unfold Opn at this
          rw [Int.toNat_natCast] at this
          exact hb this
        · exact h2
theorem good_ne {ts : List Lg} (hg : goodLg ts = true) : ∀ x ∈ ts, ¬ x.frm = x.to_ := fun x hx => by
  obtain ⟨i, hi⟩ := List.getElem?_of_mem hx
  exact (okLg_lim (goodLg_at hg hi)).2.2.1
section
variable {ts : List Lg} {O : Int → Prop} {z e : Int}
theorem Wy.congr {O' : Int → Prop} (ho : ∀ j s t, O j → Jn ts j s t → O' j) {W : List (Int × Int)} (h : Wy ts O z e W) : Wy ts O' z e W := by
  induction h with
  | one => exact .one
  | more h1 h2 h3 _ ih => exact .more (ho _ _ _ h1 h2) h2 h3 ih
theorem Wy.last {W : List (Int × Int)} (h : Wy ts O z e W) : ∃ Q, W = Q ++ [(z, e)] := by
  induction h with
  | one => exact ⟨[], rfl⟩
  | @more t j s i P h1 h2 h3 _ ih =>
    obtain ⟨Q, hQ⟩ := ih
    exact ⟨(t, j) :: Q, by rw [hQ]; rfl⟩
theorem Wy.bd (hg : goodLg ts = true) (hz : 0 ≤ z ∧ z ≤ 7) {W : List (Int × Int)} (h : Wy ts O z e W) : ∀ s ∈ W.map Prod.fst, 0 ≤ s ∧ s ≤ 7 := by
  induction h with
  | one => intro s hs; rw [show s = z by simpa using hs]; exact hz
  | more h1 h2 h3 _ ih =>
    intro s hs
    rw [List.map_cons] at hs
    rcases List.mem_cons.1 hs with q | q
    · rw [q]; exact (h2.bd hg).1
    · exact ih s q
theorem nodup_len : ∀ (n : Nat) (l : List Int), l.Nodup → (∀ s ∈ l, 0 ≤ s ∧ s < n) → l.length ≤ n
  | 0, l, _, h => by
    cases l with
    | nil => exact Nat.le_refl _
    | cons a l => have := h a (List.mem_cons_self ..); omega
  | n + 1, l, hn, h => by
    by_cases hm : (n : Int) ∈ l
    · have h1 := nodup_len n (l.erase (n : Int)) (hn.erase _) (fun s hs => by
        have h2 := (hn.mem_erase_iff).1 hs
        have := h s h2.2
        have := h2.1
        omega)
      rw [List.length_erase_of_mem hm] at h1
      omega
    · have := nodup_len n l hn (fun s hs => by
        have := h s hs
        have : s ≠ n := fun e => hm (by rw [← e]; exact hs)
        omega)
      omega
theorem Wy.len (hg : goodLg ts = true) (hz : 0 ≤ z ∧ z ≤ 7) {W : List (Int × Int)} (h : Wy ts O z e W) : W.length ≤ 8 := by
  have h1 := nodup_len 8 _ h.nodup (fun s hs => by have := h.bd hg hz s hs; omega)
  rwa [List.length_map] at h1
/-- behind a way no other one of the kind that is asked for -/
def NoWay (ts : List Lg) (O : Int → Prop) (z e st : Int) (P : List (Int × Int)) : Prop := ∀ Q, Wy ts O z e (Q ++ P) → ¬ hd (Q ++ P) = st
/-- when all exits have been tried -/
theorem shut_all {st s i : Int} {P : List (Int × Int)} (hne : ¬ s = st) (h : ∀ j t, O j → Jn ts j s t → t ∉ ((s, i) :: P).map Prod.fst → NoWay ts O z e st ((t, j) :: (s, i) :: P)) : NoWay ts O z e st ((s, i) :: P) := by
  intro Q hQ hh
  rcases List.eq_nil_or_concat Q with q | ⟨Q', p, q⟩
  · rw [q] at hh; exact hne hh
  · obtain ⟨t, j⟩ := p
    have e1 : Q ++ (s, i) :: P = Q' ++ (t, j) :: (s, i) :: P := by rw [q]; simp
    rw [e1] at hQ hh
    have h1 := Wy.tail (by simp) hQ
    cases h1 with
    | more h1 h2 h3 _ => exact h j t h1 h2.symm h3 Q' hQ hh
theorem shut_seen {st t j : Int} {P : List (Int × Int)} (h : t ∈ P.map Prod.fst) : NoWay ts O z e st ((t, j) :: P) := by
  intro Q hQ
  exfalso
  have h1 := (Wy.tail (by simp) hQ).nodup
  rw [List.map_cons, List.nodup_cons] at h1
  exact h1.1 h
end
/-- the loop of a closing leg as the program has it -/
theorem op_tree {ts : List Lg} {j s t : Int} (hg : goodLg ts = true) (h : Opn (mks 12 (net ts).tr) j) (hj : Jn ts j s t) : j ∈ (net ts).tr := by
  obtain ⟨h0, x, hx, -⟩ := hj
  obtain ⟨q, rfl⟩ := Int.eq_ofNat_of_zero_le h0
  unfold Opn at h
  rw [Int.toNat_natCast] at h hx
  have hq : q < 12 := by have := lt_at h; rwa [mks_len] at this
  rw [mks_at _ hq] at h
  exact mem_iff.1 (Option.some.inj h)
theorem tree_op {ts : List Lg} {j : Int} (hg : goodLg ts = true) (h : j ∈ (net ts).tr) : Opn (mks 12 (net ts).tr) j := by
  have hb := (ok_net hg).2.2.2.2.1 j h
  obtain ⟨q, rfl⟩ := Int.eq_ofNat_of_zero_le hb.1
  unfold Opn
  rw [Int.toNat_natCast, mks_at _ (show q < 12 by omega), mem_iff.2 h]
theorem wy_tree {ts : List Lg} {i : Int} (h : lpOk ts i = true) {W : List (Int × Int)} (hW : Wy ts (Opn (mks 12 (net ts).tr)) (legAt ts i).frm i W) (hh : hd W = (legAt ts i).to_) : W.map Prod.snd = lpIds ts i ∧ W.map Prod.fst = lpSt ts i := by
  have hg := (lp_leg h).1
  obtain ⟨l, h1, h2, h3⟩ := (hW.congr (O' := (· ∈ (net ts).tr)) (fun j s t a b => op_tree hg a b)).nb0
  rw [hh] at h2 h3
  have e := path_is h h3
  rw [lpIds_is h, lpSt_is h, ← e]
  exact ⟨h1, h2⟩
theorem wy_tree_some {ts : List Lg} {i : Int} (h : lpOk ts i = true) : ∃ W, Wy ts (Opn (mks 12 (net ts).tr)) (legAt ts i).frm i W ∧ hd W = (legAt ts i).to_ := by
  obtain ⟨hg, h0, h1, x, hx, hl, ho, hf, ht, hn⟩ := lp_leg h
  obtain ⟨W, hW, e⟩ := wy_of_reach (legAt ts i).frm i (tree_joins (a := (legAt ts i).to_) (by rw [hl]; exact ht) (by rw [hl]; exact hf))
  exact ⟨W, hW.congr (fun j s t a _ => tree_op hg a), e⟩
/-- bridges as the program has them -/
def otherB (n k : Nat) : List Bool := (List.range 12).map fun q => decide (q < n) && !decide (q = k)
theorem op_other {ts : List Lg} {n k : Nat} (hL : ts.length = n) (hn : n ≤ 12) : ∀ x, By ts (Opn (otherB n k)) x ↔ By ts (other k) x := fun x => by
  constructor
  · rintro ⟨i, hi, h0, hx⟩
    refine ⟨i, ?_, h0, hx⟩
    obtain ⟨q, rfl⟩ := Int.eq_ofNat_of_zero_le h0
    unfold Opn otherB at hi
    rw [Int.toNat_natCast, List.getElem?_map] at hi
    obtain ⟨a, ha, hb⟩ := Option.map_eq_some_iff.1 hi
    have : a = q := by have := (List.getElem?_eq_some_iff.1 ha).2; simpa using this.symm
    subst this
    unfold other
    simp at hb
    omega
  · rintro ⟨i, hi, h0, hx⟩
    refine ⟨i, ?_, h0, hx⟩
    obtain ⟨q, rfl⟩ := Int.eq_ofNat_of_zero_le h0
    have hq : q < ts.length := by rw [Int.toNat_natCast] at hx; exact lt_at hx
    unfold other at hi
    unfold Opn otherB
    rw [Int.toNat_natCast, List.getElem?_map, List.getElem?_range (by omega)]
    simp; omega
theorem need_is {ts : List Lg} (hg : goodLg ts = true) {k : Nat} {x : Lg} (hx : ts[k]? = some x) (hf : x.frm ∈ (net ts).ps) : brB ts k = true ↔ ∀ W, Wy ts (Opn (otherB ts.length k)) x.frm (k : Int) W → ¬ hd W = x.to_ := by
  have hb := br_iff hg hx hf
  have h12 := goodLg_len hg
  constructor
  · intro h W hW hh
    have h1 := hW.reach
    rw [hh] at h1
    have h2 := hb.2 (h1.mono (fun y hy => (op_other rfl h12 y).1 hy))
    rw [h] at h2; cases h2
  · intro h
    cases q : brB ts k
    · obtain ⟨W, hW, e⟩ := wy_of_reach x.frm (k : Int) ((hb.1 q).mono (fun y hy => (op_other rfl h12 y).2 hy))
      exact absurd e (h W hW)
    · rfl
/-- the shifts and lengths of a way, added up -/
def sumW (ts : List Lg) : List (Int × Int) → Sf → Sf
  | [], z => z
  | (s, i) :: W, z => sumW ts W (add3 z (along ts i s))
theorem sumW_is (ts : List Lg) (e : Int) : ∀ (l : List Int) (a : Int) (W : List (Int × Int)) (z : Sf), W.map Prod.fst = stops ts a l → W.map Prod.snd = l ++ [e] → sumW ts W z = sumS ts a (l ++ [e]) z
  | [], a, W, z, h1, h2 => by
    cases W with
    | nil => cases h2
    | cons p W =>
      obtain ⟨s, i⟩ := p
      rw [List.map_cons] at h1 h2
      injection h1 with a1 a2
      injection h2 with b1 b2
      have : W = [] := List.map_eq_nil_iff.1 a2
      simp only [] at a1 b1
      rw [this, a1, b1]; rfl
  | j :: l, a, W, z, h1, h2 => by
    cases W with
    | nil => cases h2
    | cons p W =>
      obtain ⟨s, i⟩ := p
      rw [stops, List.map_cons] at h1
      rw [List.map_cons, List.cons_append] at h2
      injection h1 with a1 a2
      injection h2 with b1 b2
      simp only [] at a1 b1
      rw [a1, b1, List.cons_append, sumW, sumS]
      exact sumW_is ts e l _ W _ a2 b2
theorem wy_mis {ts : List Lg} {i : Int} (h : lpOk ts i = true) {W : List (Int × Int)} (h1 : W.map Prod.snd = lpIds ts i) (h2 : W.map Prod.fst = lpSt ts i) : sumW ts W zero3 = misV ts i := by
  rw [lpIds_is h] at h1
  rw [lpSt_is h] at h2
  rw [sumW_is ts i _ _ W zero3 h2 h1]
  unfold misV
  rw [if_pos h, lpIds_is h]
#print axioms need_is
#print axioms wy_tree
#print axioms wy_mis
end Go.Proofs.YtkeepfkjhcmhlaaDoor.lp
