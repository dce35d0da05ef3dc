/-
  The loop of a closing leg: its legs, its stations, its length, its misclosure; bridges (pure mathematics).
  Conditions: the legs are valid.
-/
import Derived.Test.YtkeepfkjhcmhlaaDoorKuA
import Derived.Test.YtkeepfkjhcmhlaaDoorNtZ
namespace Go.Proofs.YtkeepfkjhcmhlaaDoor.lp
open Go.RowKit
open reads base ty lg hs nt
set_option linter.unusedVariables false

/-- the legs of E from a to b, not along the last one at first -/
def wayF (ts : List Lg) (E : List Int) : Nat → Int → Int → Int → Option (List Int)
  | 0, _, _, _ => none
  | f + 1, last, a, b => if a = b then some [] else E.findSome? fun i =>
    if i = last then none else match ts[i.toNat]? with
      | some x => if x.frm = a ∨ x.to_ = a then (wayF ts E f i (x.frm + x.to_ - a) b).map (i :: ·) else none
      | none => none
theorem wayF_nb {ts : List Lg} {E : List Int} (hE : ∀ i ∈ E, 0 ≤ i) : ∀ (f : Nat) {last a b : Int} {l : List Int}, wayF ts E f last a b = some l → NB ts E last a l b
  | 0, _, _, _, _, h => by simp [wayF] at h
  | f + 1, last, a, b, l, h => by
    rw [wayF] at h
    by_cases e : a = b
    · rw [if_pos e] at h
      obtain rfl := Option.some.inj h
      exact e
    · rw [if_neg e] at h
      obtain ⟨i, hi, h⟩ := List.exists_of_findSome?_eq_some h
      by_cases hl : i = last
      · rw [if_pos hl] at h; cases h
      · rw [if_neg hl] at h
        cases hx : ts[i.toNat]? with
        | none => rw [hx] at h; cases h
        | some x =>
          rw [hx] at h
          simp only [] at h
          split at h
          · rename_i hc
            obtain ⟨m, hm, rfl⟩ := Option.map_eq_some_iff.1 h
            refine ⟨hi, hl, _, ⟨hE i hi, x, hx, ?_⟩, wayF_nb hE f hm⟩
            unfold Jo; omega
          · cases h
theorem wayF_some {ts : List Lg} {E : List Int} : ∀ (f : Nat) {last a b : Int} {l : List Int}, NB ts E last a l b → l.length < f → (wayF ts E f last a b).isSome = true
  | 0, _, _, _, l, _, hl => by omega
  | f + 1, last, a, b, l, h, hl => by
    rw [wayF]
    by_cases e : a = b
    · rw [if_pos e]; rfl
    · rw [if_neg e]
      cases l with
      | nil => exact absurd h e
      | cons i l =>
        obtain ⟨hi, hn, o, ⟨h0, x, hx, hj⟩, h2⟩ := h
        rw [List.findSome?_isSome_iff]
        refine ⟨i, hi, ?_⟩
        rw [if_neg hn, hx]
        have hc : x.frm = a ∨ x.to_ = a := by unfold Jo at hj; omega
        simp only []
        rw [if_pos hc, Option.isSome_map, ← hj.far]
        exact wayF_some f h2 (by simp at hl; omega)
/-- the leg with an index -/
def legAt (ts : List Lg) (i : Int) : Lg := (ts[i.toNat]?).getD ⟨0, 0, 0, 0, 0⟩
theorem legAt_is {ts : List Lg} {i : Int} {x : Lg} (h : ts[i.toNat]? = some x) : legAt ts i = x := by unfold legAt; rw [h]; rfl
/-- the tree legs of a loop -/
def pathOf (ts : List Lg) (i : Int) : List Int := (wayF ts (net ts).tr 13 (-1) (legAt ts i).to_ (legAt ts i).frm).getD []
def lpOk (ts : List Lg) (i : Int) : Bool := goodLg ts && mem (clIds ts) i
theorem clN_iff {ts : List Lg} {s : Net} : ∀ k, k ≤ ts.length → ∀ i, i ∈ clN ts s k ↔ (0 ≤ i ∧ i < k ∧ ∃ x, ts[i.toNat]? = some x ∧ x.frm ∈ s.ps ∧ i ∉ s.tr)
  | 0, _, i => by simp [clN]; omega
  | k + 1, hk, i => by
    have ih := clN_iff (ts := ts) (s := s) k (by omega) i
    obtain ⟨x, e⟩ : ∃ x, ts[k]? = some x := ⟨_, List.getElem?_eq_getElem (by omega)⟩
    have tob : ∀ {l : List Int} {a : Int}, mem l a = false ↔ a ∉ l := fun {l a} => by
      rw [← mem_iff]; cases mem l a <;> simp
    cases h : (mem s.ps x.frm && !mem s.tr (k : Int))
    · rw [clN_no e h, ih]
      constructor
      · rintro ⟨a, b, c⟩; exact ⟨a, by omega, c⟩
      · rintro ⟨a, b, y, hy, c, d⟩
        refine ⟨a, ?_, y, hy, c, d⟩
        have : i ≠ k := by
          rintro rfl
          rw [Int.toNat_natCast, e] at hy
          obtain rfl := Option.some.inj hy
          rw [mem_iff.2 c, tob.2 d] at h; cases h
        omega
    · rw [Bool.and_eq_true, Bool.not_eq_true'] at h
      rw [clN_yes e h.1 h.2, List.mem_append, ih, List.mem_singleton]
      constructor
      · rintro (⟨a, b, c⟩ | rfl)
        · exact ⟨a, by omega, c⟩
        · exact ⟨by omega, by omega, x, by rw [Int.toNat_natCast]; exact e, mem_iff.1 h.1, tob.1 h.2⟩
      · rintro ⟨a, b, y, hy, c, d⟩
        by_cases q : i = k
        · exact .inr q
        · exact .inl ⟨a, by omega, y, hy, c, d⟩
/-- a closing leg -/
theorem lp_leg {ts : List Lg} {i : Int} (h : lpOk ts i = true) : goodLg ts = true ∧ 0 ≤ i ∧ i < ts.length ∧ ∃ x, ts[i.toNat]? = some x ∧ legAt ts i = x ∧ okLg x = true ∧ x.frm ∈ (net ts).ps ∧ x.to_ ∈ (net ts).ps ∧ i ∉ (net ts).tr := by
  unfold lpOk clIds at h
  rw [Bool.and_eq_true] at h
  obtain ⟨hg, hm⟩ := h
  rw [hg] at hm
  obtain ⟨h0, h1, x, hx, hf, ht⟩ := (clN_iff _ (Nat.le_refl _) i).1 (mem_iff.1 hm)
  refine ⟨hg, h0, h1, x, hx, legAt_is hx, goodLg_at hg hx, hf, ?_, ht⟩
  have := net_ends hg hx
  rw [mem_iff.2 hf] at this
  exact mem_iff.1 this.symm
/-- two placed stations are joined by tree legs -/
theorem tree_joins {ts : List Lg} {a b : Int} (ha : a ∈ (net ts).ps) (hb : b ∈ (net ts).ps) : Rc (By ts (· ∈ (net ts).tr)) a b := (tree_reach ha).symm.trans (tree_reach hb)
theorem tree_way {ts : List Lg} {a b : Int} (ha : a ∈ (net ts).ps) (hb : b ∈ (net ts).ps) : ∃ l, NB ts (net ts).tr (-1) a l b := by
  obtain ⟨W, hW, e⟩ := wy_of_reach b 0 (tree_joins ha hb)
  obtain ⟨l, -, -, h⟩ := hW.nb0
  rw [e] at h
  exact ⟨l, h⟩
theorem path_nb {ts : List Lg} {i : Int} (h : lpOk ts i = true) : NB ts (net ts).tr (-1) (legAt ts i).to_ (pathOf ts i) (legAt ts i).frm := by
  obtain ⟨hg, h0, h1, x, hx, e, ho, hf, ht, hn⟩ := lp_leg h
  obtain ⟨l, hl⟩ := tree_way ht hf
  have hs := wayF_some 13 hl (by have h1 := (nb_once hl).2; have h2 := (ok_net hg).tr_len; omega)
  unfold pathOf
  rw [e]
  cases hw : wayF ts (net ts).tr 13 (-1) x.to_ x.frm with
  | none => rw [hw] at hs; cases hs
  | some m => exact wayF_nb (fun j hj => (tr_pos hj).1) 13 hw
theorem path_is {ts : List Lg} {i : Int} (h : lpOk ts i = true) {l : List Int} (hl : NB ts (net ts).tr (-1) (legAt ts i).to_ l (legAt ts i).frm) : l = pathOf ts i := nb_uniq hl (path_nb h)
theorem path_len {ts : List Lg} {i : Int} (h : lpOk ts i = true) : (pathOf ts i).length ≤ 12 := by
  have h1 := (nb_once (path_nb h)).2
  have h2 := (ok_net (lp_leg h).1).tr_len
  omega
/-- LoopLegs' and LoopOf's numbers -/
def lpIds (ts : List Lg) (i : Int) : List Int := if lpOk ts i then pathOf ts i ++ [i] else []
def lpSt (ts : List Lg) (i : Int) : List Int := if lpOk ts i then stops ts (legAt ts i).to_ (pathOf ts i) else []
theorem lpIds_is {ts : List Lg} {i : Int} (h : lpOk ts i = true) : lpIds ts i = pathOf ts i ++ [i] := if_pos h
theorem lpSt_is {ts : List Lg} {i : Int} (h : lpOk ts i = true) : lpSt ts i = stops ts (legAt ts i).to_ (pathOf ts i) := if_pos h
theorem lpIds_len {ts : List Lg} {i : Int} : (lpIds ts i).length ≤ 13 := by
  cases h : lpOk ts i
  · unfold lpIds; rw [h]; exact Nat.zero_le _
  · rw [lpIds_is h, List.length_append]; have := path_len h; simp; omega
/-- the legs of a loop lead from station to station, all of them legs of the list -/
theorem nb_legs {ts : List Lg} {E : List Int} : ∀ {l : List Int} {last a b : Int}, NB ts E last a l b → ∀ j ∈ l, 0 ≤ j ∧ ∃ x, ts[j.toNat]? = some x
  | [], _, _, _, _, j, hj => by cases hj
  | i :: l, last, a, b, h, j, hj => by
    obtain ⟨h1, -, o, ⟨h0, x, hx, -⟩, h2⟩ := h
    rcases List.mem_cons.1 hj with e | e
    · rw [e]; exact ⟨h0, x, hx⟩
    · exact nb_legs h2 j e
theorem lp_legs {ts : List Lg} {i : Int} (h : lpOk ts i = true) : ∀ j ∈ lpIds ts i, 0 ≤ j ∧ ∃ x, ts[j.toNat]? = some x := by
  rw [lpIds_is h]
  intro j hj
  rcases List.mem_append.1 hj with q | q
  · exact nb_legs (path_nb h) j q
  · rw [List.mem_singleton.1 q]
    obtain ⟨-, h0, -, x, hx, -⟩ := lp_leg h
    exact ⟨h0, x, hx⟩
/-- lengths, added up -/
def tapes (ts : List Lg) : List Int → Int
  | [] => 0
  | i :: l => (legAt ts i).tape + tapes ts l
theorem tapes_app (ts : List Lg) : ∀ (l m : List Int), tapes ts (l ++ m) = tapes ts l + tapes ts m
  | [], m => by simp [tapes]
  | i :: l, m => by rw [List.cons_append, tapes, tapes, tapes_app ts l m]; omega
theorem tape_bd {ts : List Lg} (hg : goodLg ts = true) (i : Int) : 0 ≤ (legAt ts i).tape ∧ (legAt ts i).tape ≤ 500 := by
  unfold legAt
  cases e : ts[i.toNat]? with
  | none => simp
  | some x => have := okLg_lim (goodLg_at hg e); simp; omega
theorem tapes_bd {ts : List Lg} (hg : goodLg ts = true) : ∀ l, 0 ≤ tapes ts l ∧ tapes ts l ≤ 500 * l.length
  | [] => by simp [tapes]
  | i :: l => by
    have h1 := tapes_bd hg l
    have h2 := tape_bd hg i
    rw [tapes, List.length_cons]; push_cast; omega
/-- LoopLength's number -/
def lenV (ts : List Lg) (i : Int) : Int := tapes ts (lpIds ts i)
/-- a shift along a way -/
def along (ts : List Lg) (i a : Int) : Sf := if (legAt ts i).frm = a then shf (legAt ts i) else sub3 zero3 (shf (legAt ts i))
def sumS (ts : List Lg) : Int → List Int → Sf → Sf
  | _, [], s => s
  | a, i :: l, s => sumS ts (farOf ts i a) l (add3 s (along ts i a))
theorem sumS_app (ts : List Lg) : ∀ (l m : List Int) (a : Int) (s : Sf), sumS ts a (l ++ m) s = sumS ts ((stops ts a l).getLast?.getD 0) m (sumS ts a l s)
  | [], m, a, s => rfl
  | i :: l, m, a, s => by
    rw [List.cons_append, sumS, sumS_app ts l m, sumS]
    congr 2
    rw [stops]
    cases hq : stops ts (farOf ts i a) l with
    | nil => have := stops_len ts l (farOf ts i a); rw [hq] at this; simp at this
    | cons p q => rw [List.getLast?_cons_cons]
theorem stops_last {ts : List Lg} {E : List Int} : ∀ {l : List Int} {last a b : Int}, NB ts E last a l b → (stops ts a l).getLast?.getD 0 = b
  | [], _, a, b, h => h
  | i :: l, last, a, b, h => by
    obtain ⟨-, -, o, ho, h2⟩ := h
    rw [stops, farOf_is ho]
    have ih := stops_last h2
    cases hq : stops ts o l with
    | nil => have := stops_len ts l o; rw [hq] at this; simp at this
    | cons p q => rw [hq] at ih; rw [List.getLast?_cons_cons]; exact ih
/-- MisclosureOf's shift -/
def misV (ts : List Lg) (i : Int) : Sf := if lpOk ts i then sumS ts (legAt ts i).to_ (lpIds ts i) zero3 else zero3
theorem shf_at {ts : List Lg} (hg : goodLg ts = true) (i a : Int) : (-500 ≤ (along ts i a).east ∧ (along ts i a).east ≤ 500) ∧ (-500 ≤ (along ts i a).north ∧ (along ts i a).north ≤ 500) ∧ (-500 ≤ (along ts i a).up ∧ (along ts i a).up ≤ 500) := by
  have hz : (-500 ≤ (shf (legAt ts i)).east ∧ (shf (legAt ts i)).east ≤ 500) ∧ (-500 ≤ (shf (legAt ts i)).north ∧ (shf (legAt ts i)).north ≤ 500) ∧ (-500 ≤ (shf (legAt ts i)).up ∧ (shf (legAt ts i)).up ≤ 500) := by
    unfold legAt
    cases e : ts[i.toNat]? with
    | none => decide
    | some x => exact shf_bd (goodLg_at hg e)
  unfold along
  split
  · exact hz
  · unfold sub3 zero3; simp only []; omega
def BdN (k : Nat) (s : Sf) : Prop := (-(500 * (k : Int)) ≤ s.east ∧ s.east ≤ 500 * k) ∧ (-(500 * (k : Int)) ≤ s.north ∧ s.north ≤ 500 * k) ∧ (-(500 * (k : Int)) ≤ s.up ∧ s.up ≤ 500 * k)
theorem bdN_step {ts : List Lg} (hg : goodLg ts = true) {k : Nat} {s : Sf} (h : BdN k s) (i a : Int) : BdN (k + 1) (add3 s (along ts i a)) := by
  have hb := shf_at hg i a
  unfold BdN add3 at *
  simp only []
  omega
theorem bdN_zero : BdN 0 zero3 := by unfold BdN zero3; decide
theorem sumS_bd {ts : List Lg} (hg : goodLg ts = true) : ∀ (l : List Int) (a : Int) {k : Nat} {s : Sf}, BdN k s → BdN (k + l.length) (sumS ts a l s)
  | [], a, k, s, h => h
  | i :: l, a, k, s, h => by
    rw [sumS, List.length_cons, show k + (l.length + 1) = (k + 1) + l.length by omega]
    exact sumS_bd hg l _ (bdN_step hg h i a)
theorem misV_bd {ts : List Lg} {i : Int} : BdN 13 (misV ts i) := by
  unfold misV
  cases h : lpOk ts i
  · rw [if_neg (by simp)]; unfold BdN zero3; decide
  · rw [if_pos rfl]
    have h1 := sumS_bd (lp_leg h).1 (lpIds ts i) (legAt ts i).to_ bdN_zero
    have h2 := lpIds_len (ts := ts) (i := i)
    unfold BdN at *
    omega
/-- the misclosure of a loop is the error of its closing leg -/
theorem add3_sub (a b : Sf) : add3 a (sub3 zero3 b) = sub3 a b := sf_ext (by unfold add3 sub3 zero3; simp only []; omega) (by unfold add3 sub3 zero3; simp only []; omega) (by unfold add3 sub3 zero3; simp only []; omega)
theorem tree_along {ts : List Lg} (hg : goodLg ts = true) {i a b : Int} (hi : i ∈ (net ts).tr) (hj : Jn ts i a b) : along ts i a = sub3 (at_ (net ts).pl b) (at_ (net ts).pl a) := by
  obtain ⟨y, hy, -, -, -, -, e⟩ := (tr_net hg).2.2 i hi
  obtain ⟨h0, x, hx, hJ⟩ := hj
  rw [hx] at hy
  obtain rfl := Option.some.inj hy
  unfold along
  rw [legAt_is hx]
  have e1 : (shf x).east - (at_ (net ts).pl x.to_).east + (at_ (net ts).pl x.frm).east = 0 := congrArg Sf.east e
  have e2 : (shf x).north - (at_ (net ts).pl x.to_).north + (at_ (net ts).pl x.frm).north = 0 := congrArg Sf.north e
  have e3 : (shf x).up - (at_ (net ts).pl x.to_).up + (at_ (net ts).pl x.frm).up = 0 := congrArg Sf.up e
  have hne := (okLg_lim (goodLg_at hg hx)).2.2.1
  rcases hJ with ⟨rfl, rfl⟩ | ⟨rfl, rfl⟩
  · rw [if_pos rfl]
    exact sf_ext (by unfold sub3; simp only []; omega) (by unfold sub3; simp only []; omega) (by unfold sub3; simp only []; omega)
  · rw [if_neg hne]
    exact sf_ext (by unfold sub3 zero3; simp only []; omega) (by unfold sub3 zero3; simp only []; omega) (by unfold sub3 zero3; simp only []; omega)
theorem sum_tree {ts : List Lg} (hg : goodLg ts = true) : ∀ {l : List Int} {last a b : Int} (s : Sf), NB ts (net ts).tr last a l b → sumS ts a l s = add3 s (sub3 (at_ (net ts).pl b) (at_ (net ts).pl a))
  | [], last, a, b, s, h => by
    have e : a = b := h
    rw [sumS, e]
    exact sf_ext (by unfold add3 sub3; simp only []; omega) (by unfold add3 sub3; simp only []; omega) (by unfold add3 sub3; simp only []; omega)
  | i :: l, last, a, b, s, h => by
    obtain ⟨h1, -, o, ho, h2⟩ := h
    rw [sumS, farOf_is ho, sum_tree hg _ h2, tree_along hg h1 ho]
    exact sf_ext (by unfold add3 sub3; simp only []; omega) (by unfold add3 sub3; simp only []; omega) (by unfold add3 sub3; simp only []; omega)
theorem mis_error {ts : List Lg} {i : Int} (h : lpOk ts i = true) : misV ts i = add3 (sub3 (shf (legAt ts i)) (at_ (net ts).pl (legAt ts i).to_)) (at_ (net ts).pl (legAt ts i).frm) := by
  have hp := path_nb h
  unfold misV
  rw [if_pos h, lpIds_is h, sumS_app, stops_last hp, sum_tree (lp_leg h).1 _ hp]
  show add3 _ (along ts i (legAt ts i).frm) = _
  unfold along
  rw [if_pos rfl]
  exact sf_ext (by unfold add3 sub3 zero3; simp only []; omega) (by unfold add3 sub3 zero3; simp only []; omega) (by unfold add3 sub3 zero3; simp only []; omega)

/-- the legs without one of them -/
def less (ts : List Lg) (k : Nat) : List Lg := ts.take k ++ ts.drop (k + 1)
theorem less_good {ts : List Lg} (hg : goodLg ts = true) (k : Nat) : goodLg (less ts k) = true := by
  unfold goodLg
  rw [Bool.and_eq_true, List.all_eq_true, decide_eq_true_eq]
  refine ⟨fun x hx => ?_, ?_⟩
  · rcases List.mem_append.1 hx with q | q
    · obtain ⟨j, hj⟩ := List.getElem?_of_mem (List.mem_of_mem_take q)
      exact goodLg_at hg hj
    · obtain ⟨j, hj⟩ := List.getElem?_of_mem (List.mem_of_mem_drop q)
      exact goodLg_at hg hj
  · have := goodLg_len hg
    unfold less
    rw [List.length_append, List.length_take, List.length_drop]; omega
/-- all legs but one -/
def other (k : Nat) (i : Int) : Prop := i ≠ k
theorem less_mem {ts : List Lg} {k : Nat} (hk : k < ts.length) (x : Lg) : x ∈ less ts k ↔ By ts (other k) x := by
  unfold less
  rw [List.mem_append]
  constructor
  · rintro (h | h)
    · obtain ⟨j, hj⟩ := List.getElem?_of_mem h
      have hjk : j < k := by have := (List.getElem?_eq_some_iff.1 hj).1; rw [List.length_take] at this; omega
      rw [List.getElem?_take_of_lt hjk] at hj
      exact ⟨(j : Int), by unfold other; omega, by omega, by rw [Int.toNat_natCast]; exact hj⟩
    · obtain ⟨j, hj⟩ := List.getElem?_of_mem h
      rw [List.getElem?_drop] at hj
      refine ⟨((k + 1 + j : Nat) : Int), by unfold other; omega, by omega, by rw [Int.toNat_natCast]; exact hj⟩
  · rintro ⟨i, hi, h0, hx⟩
    obtain ⟨j, rfl⟩ := Int.eq_ofNat_of_zero_le h0
    rw [Int.toNat_natCast] at hx
    unfold other at hi
    rcases Nat.lt_or_ge j k with q | q
    · exact .inl (List.mem_of_getElem? (by rw [List.getElem?_take_of_lt q]; exact hx))
    · refine .inr (List.mem_of_getElem? (i := j - (k + 1)) ?_)
      rw [List.getElem?_drop, show k + 1 + (j - (k + 1)) = j by omega]; exact hx
/-- whether a leg with placed ends is a bridge -/
def brB (ts : List Lg) (k : Nat) : Bool := !mem (net (less ts k)).ps (legAt ts k).frm || !mem (net (less ts k)).ps (legAt ts k).to_
theorem br_iff {ts : List Lg} (hg : goodLg ts = true) {k : Nat} {x : Lg} (hx : ts[k]? = some x) (hf : x.frm ∈ (net ts).ps) : brB ts k = false ↔ Rc (By ts (other k)) x.to_ x.frm := by
  have hk : k < ts.length := (List.getElem?_eq_some_iff.1 hx).1
  have hl : legAt ts (k : Int) = x := legAt_is (by rw [Int.toNat_natCast]; exact hx)
  have hgl := less_good hg k
  unfold brB
  rw [hl, Bool.or_eq_false_iff, Bool.not_eq_false', Bool.not_eq_false', mem_iff, mem_iff, placed_iff hgl, placed_iff hgl]
  have to_ : ∀ {a b}, Rc (· ∈ less ts k) a b ↔ Rc (By ts (other k)) a b := fun {a b} => ⟨fun h => h.mono (fun y hy => (less_mem hk y).1 hy), fun h => h.mono (fun y hy => (less_mem hk y).2 hy)⟩
  rw [to_, to_]
  constructor
  · rintro ⟨h1, h2⟩; exact h2.symm.trans h1
  · intro h
    have all : Rc (By ts (other k)) 0 x.frm := ((placed_iff hg x.frm).1 hf).over (fun y hy => by
      obtain ⟨j, hj⟩ := List.getElem?_of_mem hy
      by_cases e : j = k
      · subst e
        rw [hx] at hj
        obtain rfl := Option.some.inj hj
        exact h.symm
      · exact .one ⟨(j : Int), by unfold other; omega, by omega, by rw [Int.toNat_natCast]; exact hj⟩ (.inl ⟨rfl, rfl⟩))
    exact ⟨all, all.trans h.symm⟩
def brAt (ts : List Lg) (i : Int) : Bool := match ts[i.toNat]? with
  | some x => mem (net ts).ps x.frm
  | none => false
def brOk (ts : List Lg) (i : Int) : Bool := goodLg ts && (btw 0 i ((ts.length : Int) - 1) && brAt ts i)
/-- IsBridge's word -/
def brV (ts : List Lg) (i : Int) : Bool := brOk ts i && brB ts i.toNat
/-- BridgesOf's numbers -/
def brN (ts : List Lg) : Nat → List Int
  | 0 => []
  | k + 1 => if brAt ts (k : Int) && brB ts k then brN ts k ++ [(k : Int)] else brN ts k
theorem brN_yes {ts : List Lg} {k : Nat} (h : brAt ts (k : Int) = true) (h2 : brB ts k = true) : brN ts (k + 1) = brN ts k ++ [(k : Int)] := by rw [brN, h, h2]; rfl
theorem brN_no {ts : List Lg} {k : Nat} (h : (brAt ts (k : Int) && brB ts k) = false) : brN ts (k + 1) = brN ts k := by rw [brN, h]; rfl
theorem brN_len (ts : List Lg) : ∀ k, (brN ts k).length ≤ k
  | 0 => Nat.le_refl _
  | k + 1 => by
    have := brN_len ts k
    rw [brN]
    split
    · rw [List.length_append]; simp; omega
    · omega
def brIds (ts : List Lg) : List Int := if goodLg ts then brN ts ts.length else []
/-- LoopsThrough's numbers -/
def thrOk (ts : List Lg) (i : Int) : Bool := goodLg ts && btw 0 i ((ts.length : Int) - 1)
def thrL (ts : List Lg) (i : Int) : List Int → List Int
  | [] => []
  | c :: l => if mem (lpIds ts c) i then c :: thrL ts i l else thrL ts i l
theorem thrL_app (ts : List Lg) (i : Int) : ∀ (l m : List Int), thrL ts i (l ++ m) = thrL ts i l ++ thrL ts i m
  | [], m => rfl
  | c :: l, m => by
    rw [List.cons_append, thrL, thrL, thrL_app ts i l m]
    split <;> rfl
theorem thrL_len (ts : List Lg) (i : Int) : ∀ l : List Int, (thrL ts i l).length ≤ l.length
  | [] => Nat.le_refl _
  | c :: l => by
    have := thrL_len ts i l
    rw [thrL]
    split <;> (simp; omega)
theorem thr_step {ts : List Lg} {i : Int} {l : List Int} {k : Nat} {c : Int} (h : l[k]? = some c) : thrL ts i (l.take (k + 1)) = if mem (lpIds ts c) i then thrL ts i (l.take k) ++ [c] else thrL ts i (l.take k) := by
  rw [take_snoc h, thrL_app]
  show _ ++ (if mem (lpIds ts c) i then [c] else []) = _
  split
  · rfl
  · rw [List.append_nil]
def thrIds (ts : List Lg) (i : Int) : List Int := if thrOk ts i then thrL ts i (clIds ts) else []
/-- the greatest whole number whose square is at most n -/
def rt : Nat → Int
  | 0 => 0
  | n + 1 => if ((n + 1 : Nat) : Int) < (rt n + 1) * (rt n + 1) then rt n else rt n + 1
theorem rt_is : ∀ n : Nat, len.IsRoot (n : Int) (rt n)
  | 0 => ⟨by decide, by decide, by decide⟩
  | n + 1 => by
    obtain ⟨h0, h1, h2⟩ := rt_is n
    rw [rt]
    split
    · rename_i h; exact ⟨h0, by push_cast; omega, h⟩
    · rename_i h
      refine ⟨by omega, by omega, ?_⟩
      have e : (rt n + 1 + 1) * (rt n + 1 + 1) = (rt n + 1) * (rt n + 1) + 2 * rt n + 3 := by
        rw [Int.mul_add, Int.add_mul]; omega
      rw [e]; push_cast; omega
/-- what a loop misses -/
def missV (ts : List Lg) (i : Int) : Int := rt (sq3 (misV ts i)).toNat
theorem sq3_pos (d : Sf) : 0 ≤ sq3 d := by
  have sq : ∀ a : Int, 0 ≤ a * a := fun a => by
    rcases Int.le_total 0 a with k | k
    · exact Int.mul_nonneg k k
    · have := Int.mul_nonneg (show 0 ≤ -a by omega) (show 0 ≤ -a by omega)
      rw [Int.neg_mul_neg] at this; exact this
  have a := sq d.east; have b := sq d.north; have c := sq d.up
  unfold sq3; omega
theorem missV_root (ts : List Lg) (i : Int) : len.IsRoot (sq3 (misV ts i)) (missV ts i) := by
  have h := rt_is (sq3 (misV ts i)).toNat
  rw [Int.toNat_of_nonneg (sq3_pos _)] at h
  exact h
theorem sq_lim {a : Int} (h0 : -6500 ≤ a) (h1 : a ≤ 6500) : a * a ≤ 42250000 := by
  have h : (a * a).natAbs ≤ 6500 * 6500 := by rw [Int.natAbs_mul]; exact Nat.mul_le_mul (by omega) (by omega)
  omega
theorem missV_bd (ts : List Lg) (i : Int) : 0 ≤ missV ts i ∧ missV ts i ≤ 12000 := by
  obtain ⟨h0, h1, h2⟩ := missV_root ts i
  have hb : BdN 13 (misV ts i) := misV_bd
  have hs : sq3 (misV ts i) ≤ 126750000 := by
    unfold BdN at hb
    have a := sq_lim (a := (misV ts i).east) (by omega) (by omega)
    have b := sq_lim (a := (misV ts i).north) (by omega) (by omega)
    have c := sq_lim (a := (misV ts i).up) (by omega) (by omega)
    unfold sq3; omega
  refine ⟨h0, ?_⟩
  rcases Int.lt_or_le 12000 (missV ts i) with q | q
  · have := len.sq_mono (show (0 : Int) ≤ 12000 by omega) (Int.le_of_lt q); omega
  · exact q
theorem lenV_bd (ts : List Lg) (i : Int) : 0 ≤ lenV ts i ∧ lenV ts i ≤ 6500 := by
  unfold lenV
  cases h : lpOk ts i
  · unfold lpIds; rw [h]; simp [tapes]
  · have h1 := tapes_bd (lp_leg h).1 (lpIds ts i)
    have h2 := lpIds_len (ts := ts) (i := i)
    omega
theorem prod_lim {a b : Int} (a0 : 0 ≤ a) (a1 : a ≤ 12000) (b0 : 0 ≤ b) (b1 : b ≤ 6500) : 0 ≤ a * b ∧ a * b ≤ 78000000 := by
  have h0 := Int.mul_nonneg a0 b0
  have h : (a * b).natAbs ≤ 12000 * 6500 := by rw [Int.natAbs_mul]; exact Nat.mul_le_mul (by omega) (by omega)
  omega
/-- whether a loop is worse than another one -/
def worse (ts : List Lg) (c b : Int) : Bool := decide (missV ts b * lenV ts c < missV ts c * lenV ts b)
/-- the worst of the first loops -/
def wrK (ts : List Lg) (cl : List Int) : Nat → Int
  | 0 => 0
  | k + 1 => match cl[k]? with
    | some c => if k = 0 then c else if worse ts c (wrK ts cl k) then c else wrK ts cl k
    | none => wrK ts cl k
theorem wrK_one {ts : List Lg} {cl : List Int} {c : Int} (h : cl[0]? = some c) : wrK ts cl 1 = c := by
  show (match cl[0]? with | some c => _ | none => _) = _
  rw [h]; rfl
theorem wrK_succ {ts : List Lg} {cl : List Int} {k : Nat} {c : Int} (h : cl[k + 1]? = some c) : wrK ts cl (k + 2) = if worse ts c (wrK ts cl (k + 1)) then c else wrK ts cl (k + 1) := by
  show (match cl[k + 1]? with | some c => _ | none => _) = _
  rw [h]; simp only []; rw [if_neg (by omega)]
theorem wrK_mem {ts : List Lg} {cl : List Int} : ∀ k, k < cl.length → wrK ts cl (k + 1) ∈ cl
  | 0, h => by
    have e := List.getElem?_eq_getElem h
    rw [wrK_one e]; exact List.getElem_mem h
  | k + 1, h => by
    have e := List.getElem?_eq_getElem h
    rw [wrK_succ e]
    split
    · exact List.getElem_mem h
    · exact wrK_mem k (by omega)
def wrOk (ts : List Lg) : Bool := goodLg ts && decide (0 < (clIds ts).length)
def wrV (ts : List Lg) : Int := if wrOk ts then wrK ts (clIds ts) (clIds ts).length else 0
#print axioms mis_error
#print axioms br_iff
end Go.Proofs.YtkeepfkjhcmhlaaDoor.lp
