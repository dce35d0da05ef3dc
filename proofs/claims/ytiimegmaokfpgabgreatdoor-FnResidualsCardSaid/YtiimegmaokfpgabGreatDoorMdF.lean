/-
  The legs of a network as the equations of its stations (pure mathematics): what one leg adds to a matrix.
  Conditions: none but those that a theorem names.
-/
import Derived.Test.YtiimegmaokfpgabGreatDoorMdM
import Derived.Test.YtiimegmaokfpgabGreatDoorMlB
namespace Go.Proofs.YtiimegmaokfpgabGreatDoor.dt
open Go.RowKit
open reads base ty lg hs nt ml mt
set_option linter.unusedVariables false

def lgAt (ts : List Lg) (i : Int) : Lg := (ts[i.toNat]?).getD ⟨0, 0, 0, 0, 0⟩
theorem lgAt_is {ts : List Lg} {k : Nat} {x : Lg} (h : ts[k]? = some x) : lgAt ts (k : Int) = x := by unfold lgAt; rw [Int.toNat_natCast, h]; rfl
def edOf (ax : Int) (x : Lg) : Ed := ⟨x.frm.toNat, x.to_.toNat, msA x ax⟩
def eds (ts : List Lg) (ax : Int) (U : List Int) : List Ed := U.map (fun i => edOf ax (lgAt ts i))
theorem edOf_ok {x : Lg} (h : okLg x = true) (ax : Int) : EdOk (edOf ax x) := by
  obtain ⟨⟨a0, a1⟩, ⟨b0, b1⟩, c, -⟩ := okLg_lim h
  have := msA_bd h ax
  refine ⟨?_, ?_, ?_, this.1, this.2⟩ <;> (simp only [edOf]; omega)
/-- the placed legs are legs -/
theorem plN_mem {ts : List Lg} : ∀ {k : Nat} {i : Int}, i ∈ plN ts k → ∃ j : Nat, i = j ∧ j < k ∧ ∃ x, ts[j]? = some x ∧ mem (net ts).ps x.frm = true
  | 0, i, h => by simp [plN, rowi.idxs] at h
  | k + 1, i, h => by
    cases e : ts[k]? with
    | none =>
      have e1 : plN ts (k + 1) = plN ts k := by unfold plN; rw [rowi.idxs, e]
      rw [e1] at h
      obtain ⟨j, h1, h2, h3⟩ := plN_mem h
      exact ⟨j, h1, by omega, h3⟩
    | some x =>
      cases q : mem (net ts).ps x.frm
      · have e1 : plN ts (k + 1) = plN ts k := rowi.idxs_no e q
        rw [e1] at h
        obtain ⟨j, h1, h2, h3⟩ := plN_mem h
        exact ⟨j, h1, by omega, h3⟩
      · have e1 : plN ts (k + 1) = plN ts k ++ [(k : Int)] := rowi.idxs_yes e q
        rw [e1] at h
        rcases List.mem_append.1 h with z | z
        · obtain ⟨j, h1, h2, h3⟩ := plN_mem z
          exact ⟨j, h1, by omega, h3⟩
        · exact ⟨k, by simpa using z, by omega, x, e, q⟩
theorem plIds_at {ts : List Lg} {i : Int} (h : i ∈ plIds ts) : ∃ j : Nat, i = j ∧ ∃ x, ts[j]? = some x ∧ mem (net ts).ps x.frm = true := by
  obtain ⟨j, h1, -, h3⟩ := plN_mem h
  exact ⟨j, h1, h3⟩
theorem plIds_len' (ts : List Lg) : (plIds ts).length ≤ ts.length := rowi.idxs_len _ _ _
theorem eds_ok {ts : List Lg} (hg : goodLg ts = true) (ax : Int) {U : List Int} (hU : ∀ i ∈ U, i ∈ plIds ts) : ∀ x ∈ eds ts ax U, EdOk x := by
  intro x hx
  obtain ⟨i, hi, e⟩ := List.mem_map.1 hx
  obtain ⟨j, e1, y, hy, -⟩ := plIds_at (hU i hi)
  rw [← e, e1, lgAt_is hy]
  exact edOf_ok (goodLg_at hg hy) ax
theorem eds_take {ts : List Lg} {ax : Int} {U : List Int} {k : Nat} {i : Int} (h : U[k]? = some i) : eds ts ax (U.take (k + 1)) = eds ts ax (U.take k) ++ [edOf ax (lgAt ts i)] := by
  unfold eds; rw [take_snoc h, List.map_append]; rfl
theorem ent_le {x : Ed} (h : EdOk x) (s c : Nat) : -500 ≤ ent x s c ∧ ent x s c ≤ 500 := by
  obtain ⟨h1, h2, h3, h4, h5⟩ := h
  have q : -500 ≤ dl c x.t - dl c x.f + x.mu * dl c 8 ∧ dl c x.t - dl c x.f + x.mu * dl c 8 ≤ 500 := by
    have a := dl_range c x.t
    have b := dl_range c x.f
    by_cases e : c = 8
    · rw [e, dl_self, dl_ne (a := 8) (b := x.t) (by omega), dl_ne (a := 8) (b := x.f) (by omega)]; omega
    · rw [dl_ne e]; omega
  obtain ⟨y, hy⟩ : ∃ y, y = dl c x.t - dl c x.f + x.mu * dl c 8 := ⟨_, rfl⟩
  have a := dl_range s x.t
  have b := dl_range s x.f
  unfold ent
  rw [← hy] at q ⊢
  have p : dl s x.t - dl s x.f = 0 ∨ dl s x.t - dl s x.f = 1 ∨ dl s x.t - dl s x.f = -1 := by omega
  rcases p with p | p | p <;> rw [p] <;> omega
theorem AA_le {us : List Ed} (hu : ∀ x ∈ us, EdOk x) (s c : Nat) : -(500 * (us.length : Int)) ≤ AA us s c ∧ AA us s c ≤ 500 * us.length := by
  induction us with
  | nil => simp [AA]
  | cons x us ih =>
    have a := ih (fun y hy => hu y (List.mem_cons_of_mem _ hy))
    have b := ent_le (hu x (List.mem_cons_self ..)) s c
    simp only [AA, List.length_cons]; omega

/-! what one leg adds -/
def sAt (st : List Int) (a : Nat) : Nat := ((st[a]?).getD 0).toNat
theorem sAt_is {st : List Int} {a : Nat} {s : Int} (h : st[a]? = some s) : sAt st a = s.toNat := by unfold sAt; rw [h]; rfl
def StOk (st : List Int) : Prop := st.Nodup ∧ ∀ s ∈ st, 1 ≤ s ∧ s ≤ 7
theorem sAt_inj {st : List Int} (h : StOk st) {i j : Nat} (hi : i < st.length) (hj : j < st.length) (e : sAt st i = sAt st j) : i = j := by
  have e1 := List.getElem?_eq_getElem hi
  have e2 := List.getElem?_eq_getElem hj
  rw [sAt_is e1, sAt_is e2] at e
  have a := h.2 _ (List.getElem_mem hi)
  have b := h.2 _ (List.getElem_mem hj)
  have : st[i] = st[j] := by omega
  exact (List.getElem?_inj hi h.1).1 (by rw [e1, e2, this])
theorem sAt_ne {st : List Int} (h : StOk st) {s : Int} (hs : s ∉ st) (h0 : 0 ≤ s) {i : Nat} (hi : i < st.length) : sAt st i ≠ s.toNat := fun e => by
  have e1 := List.getElem?_eq_getElem hi
  rw [sAt_is e1] at e
  have a := h.2 _ (List.getElem_mem hi)
  exact hs (by rw [show s = st[i] by omega]; exact List.getElem_mem hi)
theorem sAt_8 {st : List Int} (h : StOk st) {i : Nat} (hi : i < st.length) : sAt st i < 8 := by
  have e1 := List.getElem?_eq_getElem hi
  rw [sAt_is e1]
  have a := h.2 _ (List.getElem_mem hi)
  omega
section
variable {st : List Int} {x : Ed} {M : Nat → Nat → Int} {r : Nat → Int} {a b : Nat}
/-- both ends are unknown -/
theorem add_both (h : StOk st) (hx : x.f ≠ x.t) (ha : a < st.length) (hb : b < st.length) (ea : sAt st a = x.f) (eb : sAt st b = x.t) {i j : Nat} (hi : i < st.length) (hj : j < st.length) :
    upd2 (upd2 (upd2 (upd2 M a a (M a a + 1)) b b (M b b + 1)) a b (M a b - 1)) b a (M b a - 1) i j = M i j + ent x (sAt st i) (sAt st j) := by
  have hab : a ≠ b := fun e => hx (by rw [← ea, ← eb, e])
  have h8 := sAt_8 h hj
  simp only [upd2_at]
  unfold ent
  rw [← ea, ← eb, dl_ne (a := sAt st j) (b := 8) (by omega)]
  have d : ∀ p q : Nat, p < st.length → q < st.length → dl (sAt st p) (sAt st q) = if p = q then 1 else 0 := fun p q hp hq => by
    by_cases e : p = q
    · rw [if_pos e, e, dl_self]
    · rw [if_neg e, dl_ne (fun z => e (sAt_inj h hp hq z))]
  rw [d i b hi hb, d i a hi ha, d j b hj hb, d j a hj ha]
  by_cases i1 : i = a <;> by_cases i2 : i = b <;> by_cases j1 : j = a <;> by_cases j2 : j = b <;> simp_all <;> omega
theorem add_from (h : StOk st) (ha : a < st.length) (ea : sAt st a = x.f) (ht : ∀ i, i < st.length → sAt st i ≠ x.t) {i j : Nat} (hi : i < st.length) (hj : j < st.length) :
    upd2 M a a (M a a + 1) i j = M i j + ent x (sAt st i) (sAt st j) := by
  have h8 := sAt_8 h hj
  simp only [upd2_at]
  unfold ent
  rw [← ea, dl_ne (ht i hi), dl_ne (ht j hj), dl_ne (a := sAt st j) (b := 8) (by omega)]
  have d : ∀ p q : Nat, p < st.length → q < st.length → dl (sAt st p) (sAt st q) = if p = q then 1 else 0 := fun p q hp hq => by
    by_cases e : p = q
    · rw [if_pos e, e, dl_self]
    · rw [if_neg e, dl_ne (fun z => e (sAt_inj h hp hq z))]
  rw [d i a hi ha, d j a hj ha]
  by_cases i1 : i = a <;> by_cases j1 : j = a <;> simp_all
theorem add_to (h : StOk st) (hb : b < st.length) (eb : sAt st b = x.t) (hf : ∀ i, i < st.length → sAt st i ≠ x.f) {i j : Nat} (hi : i < st.length) (hj : j < st.length) :
    upd2 M b b (M b b + 1) i j = M i j + ent x (sAt st i) (sAt st j) := by
  have h8 := sAt_8 h hj
  simp only [upd2_at]
  unfold ent
  rw [← eb, dl_ne (hf i hi), dl_ne (hf j hj), dl_ne (a := sAt st j) (b := 8) (by omega)]
  have d : ∀ p q : Nat, p < st.length → q < st.length → dl (sAt st p) (sAt st q) = if p = q then 1 else 0 := fun p q hp hq => by
    by_cases e : p = q
    · rw [if_pos e, e, dl_self]
    · rw [if_neg e, dl_ne (fun z => e (sAt_inj h hp hq z))]
  rw [d i b hi hb, d j b hj hb]
  by_cases i1 : i = b <;> by_cases j1 : j = b <;> simp_all
theorem ent8 (hx : EdOk x) (s : Nat) : ent x s 8 = (dl s x.t - dl s x.f) * x.mu := by
  obtain ⟨h1, h2, -⟩ := hx
  unfold ent; rw [dl_ne (a := 8) (b := x.t) (by omega), dl_ne (a := 8) (b := x.f) (by omega), dl_self]; grind
theorem rt_both (h : StOk st) (hx : EdOk x) (ha : a < st.length) (hb : b < st.length) (ea : sAt st a = x.f) (eb : sAt st b = x.t) {i : Nat} (hi : i < st.length) :
    upd (upd r a (r a - x.mu)) b (r b + x.mu) i = r i + ent x (sAt st i) 8 := by
  have hab : a ≠ b := fun e => hx.2.2.1 (by rw [← ea, ← eb, e])
  rw [ent8 hx, ← ea, ← eb]
  have d : ∀ p q : Nat, p < st.length → q < st.length → dl (sAt st p) (sAt st q) = if p = q then 1 else 0 := fun p q hp hq => by
    by_cases e : p = q
    · rw [if_pos e, e, dl_self]
    · rw [if_neg e, dl_ne (fun z => e (sAt_inj h hp hq z))]
  rw [d i b hi hb, d i a hi ha]
  unfold upd
  by_cases i1 : i = a <;> by_cases i2 : i = b <;> simp_all <;> omega
theorem rt_from (h : StOk st) (hx : EdOk x) (ha : a < st.length) (ea : sAt st a = x.f) (ht : ∀ i, i < st.length → sAt st i ≠ x.t) {i : Nat} (hi : i < st.length) :
    upd r a (r a - x.mu) i = r i + ent x (sAt st i) 8 := by
  rw [ent8 hx, ← ea, dl_ne (ht i hi)]
  unfold upd
  by_cases i1 : i = a
  · subst i1; rw [if_pos rfl, dl_self]; omega
  · rw [if_neg i1, dl_ne (fun z => i1 (sAt_inj h hi ha z))]; omega
theorem rt_to (h : StOk st) (hx : EdOk x) (hb : b < st.length) (eb : sAt st b = x.t) (hf : ∀ i, i < st.length → sAt st i ≠ x.f) {i : Nat} (hi : i < st.length) :
    upd r b (r b + x.mu) i = r i + ent x (sAt st i) 8 := by
  rw [ent8 hx, ← eb, dl_ne (hf i hi)]
  unfold upd
  by_cases i1 : i = b
  · subst i1; rw [if_pos rfl, dl_self]; omega
  · rw [if_neg i1, dl_ne (fun z => i1 (sAt_inj h hi hb z))]; omega
end
end Go.Proofs.YtiimegmaokfpgabGreatDoor.dt
