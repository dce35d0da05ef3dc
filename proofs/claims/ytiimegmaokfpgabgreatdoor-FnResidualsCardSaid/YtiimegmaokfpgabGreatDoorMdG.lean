/-
  The network of legs as a balanced one (pure mathematics): its stations, its legs, its determinants.
  Conditions: the legs are valid.
-/
import Derived.Test.YtiimegmaokfpgabGreatDoorMdF
namespace Go.Proofs.YtiimegmaokfpgabGreatDoor.dt
open Go.RowKit
open reads base ty lg hs nt ml mt
set_option linter.unusedVariables false

/-! whatever is the same at both ends of the legs is the same at all placed stations -/
def Cn (ts : List Lg) (s : Net) : Prop := ∀ y : Int → Int, (∀ (i : Nat) (x : Lg), ts[i]? = some x → x.frm ∈ s.ps → x.to_ ∈ s.ps → y x.frm = y x.to_) → ∀ c ∈ s.ps, y c = y 0
theorem cn_leg {ts : List Lg} {s : Net} {k : Nat} {x : Lg} (h : Cn ts s) (hx : ts[k]? = some x) : Cn ts (leg1 x k s) := by
  unfold leg1
  by_cases h1 : x.frm ∈ s.ps ∧ x.to_ ∉ s.ps
  · rw [if_pos h1]
    intro y hy c hc
    have old := h y (fun i z hz a b => hy i z hz (mem_put.2 (.inr a)) (mem_put.2 (.inr b)))
    rcases mem_put.1 hc with e | e
    · rw [e, ← hy k x hx (mem_put.2 (.inr h1.1)) (mem_put.2 (.inl rfl))]; exact old _ h1.1
    · exact old c e
  · rw [if_neg h1]
    by_cases h2 : x.to_ ∈ s.ps ∧ x.frm ∉ s.ps
    · rw [if_pos h2]
      intro y hy c hc
      have old := h y (fun i z hz a b => hy i z hz (mem_put.2 (.inr a)) (mem_put.2 (.inr b)))
      rcases mem_put.1 hc with e | e
      · rw [e, hy k x hx (mem_put.2 (.inl rfl)) (mem_put.2 (.inr h2.1))]; exact old _ h2.1
      · exact old c e
    · rw [if_neg h2]; exact h
theorem cn_legsN {ts : List Lg} {s : Net} (h : Cn ts s) : ∀ k, Cn ts (legsN ts s k)
  | 0 => h
  | k + 1 => by
    cases e : ts[k]? with
    | none => rw [show legsN ts s (k + 1) = legsN ts s k by rw [legsN, e]]; exact cn_legsN h k
    | some x => rw [legsN_succ e]; exact cn_leg (cn_legsN h k) e
theorem cn_passes {ts : List Lg} : ∀ k, Cn ts (passes ts k)
  | 0 => fun y _ c hc => by
    have : c = 0 := by simpa using (show c ∈ [(0 : Int)] from hc)
    rw [this]
  | k + 1 => cn_legsN (cn_passes k) _
theorem cn_net (ts : List Lg) : Cn ts (net ts) := cn_passes 9

/-! the unknown stations -/
theorem ps_split {ts : List Lg} (hg : goodLg ts = true) : (net ts).ps = 0 :: unk ts ∧ StOk (unk ts) := by
  have ho := ok_net hg
  have h0 := ho.2.2.2.2.2.1
  have ha := ho.2.1
  have hb := ho.2.2.1
  unfold unk
  obtain ⟨ps, hp⟩ : ∃ p, (net ts).ps = p := ⟨_, rfl⟩
  rw [hp] at h0 ha hb ⊢
  cases ps with
  | nil => cases h0
  | cons a t =>
    have hc := List.pairwise_cons.1 ha
    have a0 : a = 0 := by
      rcases List.mem_cons.1 h0 with e | e
      · exact e.symm
      · have := hc.1 0 e
        have := (hb a (List.mem_cons_self ..)).1; omega
    subst a0
    refine ⟨rfl, ?_, fun s hs => ?_⟩
    · exact hc.2.imp (fun h => by omega)
    · have := hc.1 s hs
      have := (hb s (List.mem_cons_of_mem _ hs)).2; omega
theorem unk_len {ts : List Lg} (hg : goodLg ts = true) : (unk ts).length ≤ 7 := by
  have := (ok_net hg).ps_len
  rw [(ps_split hg).1, List.length_cons] at this; omega
theorem pl_ends {ts : List Lg} (hg : goodLg ts = true) {i : Int} (hi : i ∈ plIds ts) : ((lgAt ts i).frm ∈ unk ts ∨ (lgAt ts i).frm = 0) ∧ ((lgAt ts i).to_ ∈ unk ts ∨ (lgAt ts i).to_ = 0) := by
  obtain ⟨j, e, x, hx, hm⟩ := plIds_at hi
  rw [e, lgAt_is hx]
  have h2 := net_ends hg hx
  rw [hm] at h2
  have a := mem_iff.1 hm
  have b := mem_iff.1 h2.symm
  rw [(ps_split hg).1] at a b
  exact ⟨(List.mem_cons.1 a).symm, (List.mem_cons.1 b).symm⟩
def stN (ts : List Lg) : List Nat := (unk ts).map Int.toNat
theorem mem_stN {ts : List Lg} (hg : goodLg ts = true) {s : Int} (h0 : 0 ≤ s) : s.toNat ∈ stN ts ↔ s ∈ unk ts := by
  unfold stN
  rw [List.mem_map]
  constructor
  · rintro ⟨a, ha, e⟩
    have := (ps_split hg).2.2 a ha
    rw [show s = a by omega]; exact ha
  · exact fun h => ⟨s, h, rfl⟩
theorem pl_all {ts : List Lg} {k : Nat} {x : Lg} (hx : ts[k]? = some x) (h : mem (net ts).ps x.frm = true) : (k : Int) ∈ plIds ts := by
  have key : ∀ n, k < n → (k : Int) ∈ plN ts n := by
    intro n hn
    induction n with
    | zero => omega
    | succ n ih =>
      cases e : ts[n]? with
      | none =>
        rw [show plN ts (n + 1) = plN ts n by unfold plN; rw [rowi.idxs, e]]
        refine ih ?_
        have : k ≠ n := fun q => by rw [q, e] at hx; cases hx
        omega
      | some z =>
        by_cases q : k = n
        · subst q
          rw [hx] at e
          obtain rfl := Option.some.inj e
          rw [show plN ts (k + 1) = plN ts k ++ [(k : Int)] from rowi.idxs_yes hx h]
          simp
        · have := ih (by omega)
          cases hm : mem (net ts).ps z.frm
          · rw [show plN ts (n + 1) = plN ts n from rowi.idxs_no e hm]; exact this
          · rw [show plN ts (n + 1) = plN ts n ++ [(n : Int)] from rowi.idxs_yes e hm]; exact List.mem_append_left _ this
  exact key _ (lt_at hx)
/-- the placed legs of a network and its placed stations but 0 -/
def US (ts : List Lg) (ax : Int) : List Ed := eds ts ax (plIds ts)
theorem nw_net {ts : List Lg} (hg : goodLg ts = true) (ax : Int) : Nw (US ts ax) (stN ts) where
  hn := by
    unfold stN
    have h := (ps_split hg).2
    rw [List.Nodup, List.pairwise_map]
    exact List.Pairwise.imp_of_mem (fun {a b} ha hb q e => q (by have := h.2 a ha; have := h.2 b hb; omega)) h.1
  h0 := fun h => by
    obtain ⟨a, ha, e⟩ := List.mem_map.1 h
    have := (ps_split hg).2.2 a ha; omega
  h8 := fun s h => by
    obtain ⟨a, ha, e⟩ := List.mem_map.1 h
    have := (ps_split hg).2.2 a ha; omega
  hu := eds_ok hg ax (fun i hi => hi)
  hin := fun x hx => by
    obtain ⟨i, hi, e⟩ := List.mem_map.1 hx
    obtain ⟨a, b⟩ := pl_ends hg hi
    rw [← e]
    refine ⟨?_, ?_⟩
    · rcases b with q | q
      · exact .inr (List.mem_map.2 ⟨_, q, rfl⟩)
      · exact .inl (by show (lgAt ts i).to_.toNat = 0; rw [q]; rfl)
    · rcases a with q | q
      · exact .inr (List.mem_map.2 ⟨_, q, rfl⟩)
      · exact .inl (by show (lgAt ts i).frm.toNat = 0; rw [q]; rfl)
  hr := fun y h0 hy s => by
    by_cases hs : s ∈ stN ts
    · have h := cn_net ts (fun c => y c.toNat) (fun i x hx a b => by
        have hm := pl_all hx (mem_iff.2 a)
        exact (hy (edOf ax x) (List.mem_map.2 ⟨(i : Int), hm, by rw [lgAt_is hx]⟩)).symm)
      obtain ⟨a, ha, e⟩ := List.mem_map.1 hs
      have := h a (by rw [(ps_split hg).1]; exact List.mem_cons_of_mem _ ha)
      rw [e] at this
      rw [this]
      refine h0 _ (fun q => ?_)
      obtain ⟨b, hb, e2⟩ := List.mem_map.1 q
      have := (ps_split hg).2.2 b hb
      have e3 : b.toNat = (0 : Int).toNat := e2
      omega
    · exact h0 s hs

/-! the model's matrices -/
theorem rv_sAt (st : List Int) : (rv st.length).map (sAt st) = (st.map Int.toNat).reverse := by
  unfold rv
  rw [List.map_reverse]
  congr 1
  apply List.ext_getElem?
  intro i
  rw [List.getElem?_map, List.getElem?_map]
  by_cases h : i < st.length
  · rw [List.getElem?_range h, List.getElem?_eq_getElem h]
    simp only [Option.map_some]
    rw [sAt_is (List.getElem?_eq_getElem h)]
  · rw [List.getElem?_eq_none (by simpa using h), List.getElem?_eq_none (by omega)]; rfl
theorem dt_at (us : List Ed) (st : List Int) (g : Nat → Nat) (is cs : List Nat) : dt (is.map (fun i j => AA us (sAt st i) (g j))) cs = dt ((is.map (sAt st)).map (AA us)) (cs.map g) := by
  rw [← dt_ren, List.map_map, List.map_map]; rfl
theorem det_DD (us : List Ed) (st : List Int) : dt ((rv st.length).map (fun i j => AA us (sAt st i) (sAt st j))) (rv st.length) = DD us (st.map Int.toNat) := by
  rw [dt_at, rv_sAt]
  show DD us (st.map Int.toNat).reverse = _
  exact DD_perm (List.reverse_perm _)
theorem det_XX (us : List Ed) {st : List Int} (h : StOk st) {col : Nat} (hc : col < st.length) : dt ((rv st.length).map (fun i j => AA us (sAt st i) (if j = col then 8 else sAt st j))) (rv st.length) = XX us (st.map Int.toNat) (sAt st col) := by
  rw [dt_at us st (fun j => if j = col then 8 else sAt st j)]
  have e : (rv st.length).map (fun j => if j = col then 8 else sAt st j) = ((rv st.length).map (sAt st)).map (pl 8 (sAt st col)) := by
    rw [List.map_map]
    refine List.map_congr_left (fun j hj => ?_)
    have hj := mem_rv.1 hj
    show _ = pl 8 (sAt st col) (sAt st j)
    unfold pl
    by_cases q : j = col
    · rw [if_pos q, q, if_pos rfl]
    · rw [if_neg q, if_neg (fun z => q (sAt_inj h hj hc z))]
  rw [e, rv_sAt]
  have m : sAt st col ∈ st.map Int.toNat := by
    rw [sAt_is (List.getElem?_eq_getElem hc)]; exact List.mem_map_of_mem (List.getElem_mem hc)
  rw [← XX_perm (List.reverse_perm (st.map Int.toNat)) (sAt st col)]
  unfold XX
  rw [if_pos (List.mem_reverse.2 m)]
theorem bdd_at {us : List Ed} (hu : ∀ x ∈ us, EdOk x) (hl : us.length ≤ 12) {st : List Int} (h : StOk st) (h7 : st.length ≤ 7) (g : Nat → Nat) (hi : ∀ i j, i < st.length → j < st.length → g i = g j → i = j) : Bdd st.length (fun i j => AA us (sAt st i) (g j)) BB := by
  intro is cs n1 n2 l1 l2
  rw [dt_at]
  refine (AA_bound hu hl ?_ ?_ ?_).1
  · rw [List.Nodup, List.pairwise_map]
    exact List.Pairwise.imp_of_mem (fun {a b} ha hb q e => q (sAt_inj h (l1 a ha) (l1 b hb) e)) n1
  · rw [List.length_map]
    have h2 : ((List.range st.length).filter (fun x => decide (x ∈ is))).Perm is := by
      rw [List.perm_ext_iff_of_nodup (List.nodup_range.filter _) n1]
      intro a
      rw [List.mem_filter, List.mem_range, decide_eq_true_eq]
      exact ⟨fun q => q.2, fun q => ⟨l1 a q, q⟩⟩
    have h3 := h2.length_eq
    have h4 := List.length_filter_le (fun x => decide (x ∈ is)) (List.range st.length)
    rw [List.length_range] at h4; omega
  · rw [List.Nodup, List.pairwise_map]
    exact List.Pairwise.imp_of_mem (fun {a b} ha hb q e => q (hi a b (l2 a ha) (l2 b hb) e)) n2
/-- the number of trees -/
def TC (ts : List Lg) : Int := DD (US ts 0) (stN ts)
theorem DD_ax {ts : List Lg} (hg : goodLg ts = true) (ax : Int) : DD (US ts ax) (stN ts) = TC ts := by
  unfold TC DD
  refine dt_rows (fun i _ c hc => ?_)
  have h8 : c ≠ 8 := by have := (nw_net hg 0).h8 c hc; omega
  unfold US
  obtain ⟨U, hU⟩ : ∃ U, plIds ts = U := ⟨_, rfl⟩
  rw [hU]
  clear hU hc
  induction U with
  | nil => rfl
  | cons a U ih =>
    show AA (edOf ax (lgAt ts a) :: eds ts ax U) i c = AA (edOf 0 (lgAt ts a) :: eds ts 0 U) i c
    simp only [AA]
    rw [ih]
    congr 1
    unfold ent
    rw [dl_ne h8]; simp only [edOf]; simp
def XC (ts : List Lg) (ax : Int) (s : Nat) : Int := XX (US ts ax) (stN ts) s
theorem US_len {ts : List Lg} (hg : goodLg ts = true) (ax : Int) : (US ts ax).length ≤ 12 := by
  unfold US eds; rw [List.length_map]
  have := plIds_len' ts
  have := goodLg_len hg; omega
theorem TC_pos {ts : List Lg} (hg : goodLg ts = true) : 1 ≤ TC ts := (nw_net hg 0).pos
theorem XC_out {ts : List Lg} {ax : Int} {s : Nat} (h : s ∉ stN ts) : XC ts ax s = 0 := XX_out h
theorem TC_le {ts : List Lg} (hg : goodLg ts = true) : TC ts ≤ 663552 := by
  have h := nw_net hg 0
  have := (AA_bound (L := stN ts) (C := stN ts) h.hu (US_len hg 0) h.hn (by unfold stN; rw [List.length_map]; exact unk_len hg) h.hn).2 h.n8
  exact this.2
theorem XC_le {ts : List Lg} (hg : goodLg ts = true) (ax : Int) (s : Nat) : -1161216000 ≤ XC ts ax s ∧ XC ts ax s ≤ 1161216000 := by
  have h := nw_net hg ax
  unfold XC XX
  by_cases q : s ∈ stN ts
  · rw [if_pos q]
    refine (AA_bound (L := stN ts) h.hu (US_len hg ax) h.hn (by unfold stN; rw [List.length_map]; exact unk_len hg) ?_).1
    rw [List.Nodup, List.pairwise_map]
    refine List.Pairwise.imp_of_mem (fun {a b} ha hb z e => z ?_) h.hn
    have ha8 := h.h8 a ha
    have hb8 := h.h8 b hb
    unfold pl at e
    split at e <;> split at e <;> omega
  · rw [if_neg q]; omega
end Go.Proofs.YtiimegmaokfpgabGreatDoor.dt
