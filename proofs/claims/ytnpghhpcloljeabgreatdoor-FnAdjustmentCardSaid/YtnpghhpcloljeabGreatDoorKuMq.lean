/-
  Trees of legs and the ways along them (pure mathematics).
  The loop of a closing leg: its legs, its stations, its length, its misclosure; bridges (pure mathematics).
  Legs one after the other: the stations between them, the sum of their shifts, of their lengths (pure mathematics).
  Ways as the program grows them: exits, what a search shows, loops and bridges told by ways (pure mathematics).
  Leaving out a leg that is no bridge (pure mathematics): the placed stations stay, and the strain is no greater; without closing legs there is none.
  A network without closing legs has one tree and no residuals; a bridge has none (pure mathematics).
  Conditions: those that each theorem names.
-/
import Derived.Test.YtnpghhpcloljeabGreatDoorNtCq
import Derived.Test.YtnpghhpcloljeabGreatDoorPhAq
namespace Go.Proofs.YtnpghhpcloljeabGreatDoor.lp
open Go.RowKit
open reads base ty lg hs nt
set_option linter.unusedVariables false
def Jo (x : Lg) (a b : Int) : Prop := (x.frm = a ∧ x.to_ = b) ∨ (x.to_ = a ∧ x.frm = b)
theorem Jo.symm {x : Lg} {a b : Int} (h : Jo x a b) : Jo x b a := by
  rcases h with ⟨h1, h2⟩ | ⟨h1, h2⟩
  · exact .inr ⟨h2, h1⟩
  · exact .inl ⟨h2, h1⟩
theorem Jo.far {x : Lg} {a b : Int} (h : Jo x a b) : b = x.frm + x.to_ - a := by unfold Jo at h; omega
theorem Jo.ends {x : Lg} {a b c d : Int} (h : Jo x a b) (k : Jo x c d) : (c = a ∧ d = b) ∨ (c = b ∧ d = a) := by unfold Jo at h k; omega
def Jn (ts : List Lg) (i a b : Int) : Prop := 0 ≤ i ∧ ∃ x, ts[i.toNat]? = some x ∧ Jo x a b
theorem Jn.symm {ts : List Lg} {i a b : Int} (h : Jn ts i a b) : Jn ts i b a := by
  obtain ⟨h0, x, hx, hj⟩ := h
  exact ⟨h0, x, hx, hj.symm⟩
theorem Jn.ends {ts : List Lg} {i a b c d : Int} (h : Jn ts i a b) (k : Jn ts i c d) : (c = a ∧ d = b) ∨ (c = b ∧ d = a) := by
  obtain ⟨h0, x, hx, hj⟩ := h
  obtain ⟨-, y, hy, kj⟩ := k
  rw [hx] at hy
  obtain rfl := Option.some.inj hy
  exact hj.ends kj
inductive Grow (ts : List Lg) : List Int → List Int → Prop
  | zero : Grow ts [0] []
  | more {V E : List Int} {i p c : Int} : Grow ts V E → p ∈ V → c ∉ V → Jn ts i p c → Grow ts (c :: V) (i :: E)
theorem Grow.ends {ts : List Lg} {V E : List Int} (h : Grow ts V E) : ∀ {i a b : Int}, i ∈ E → Jn ts i a b → a ∈ V ∧ b ∈ V := by
  induction h with
  | zero => intro i a b hi; cases hi
  | more hg hp hc hj ih =>
    intro j a b hi hk
    rcases List.mem_cons.1 hi with e | hi
    · rw [e] at hk
      rcases hj.ends hk with ⟨e1, e2⟩ | ⟨e1, e2⟩
      · rw [e1, e2]; exact ⟨List.mem_cons_of_mem _ hp, List.mem_cons_self ..⟩
      · rw [e1, e2]; exact ⟨List.mem_cons_self .., List.mem_cons_of_mem _ hp⟩
    · have := ih hi hk
      exact ⟨List.mem_cons_of_mem _ this.1, List.mem_cons_of_mem _ this.2⟩
theorem Grow.new {ts : List Lg} {V E : List Int} (h : Grow ts V E) {i p c : Int} (hc : c ∉ V) (hj : Jn ts i p c) : i ∉ E := fun hi => hc (h.ends hi hj).2
section
variable {ts : List Lg} {V E : List Int} {i p c : Int}
end
def Gr (ts : List Lg) (s : Net) : Prop := ∃ V E, Grow ts V E ∧ (∀ v, v ∈ V ↔ v ∈ s.ps) ∧ (∀ i, i ∈ E ↔ i ∈ s.tr) ∧ E.length = s.tr.length
theorem gr_start (ts : List Lg) : Gr ts nt.start := ⟨[0], [], .zero, fun v => Iff.rfl, fun i => Iff.rfl, rfl⟩
theorem gr_leg {ts : List Lg} {s : Net} {k : Nat} {x : Lg} (h : Gr ts s) (hx : ts[k]? = some x) : Gr ts (leg1 x k s) := by
  obtain ⟨V, E, hg, hV, hE, hl⟩ := h
  have grow : ∀ {p c : Int} {P : List Sf}, p ∈ s.ps → c ∉ s.ps → Jo x p c → Gr ts ⟨P, put s.ps c, put s.tr (k : Int)⟩ := fun {p c P} hp hc hj => by
    have hc' : c ∉ V := fun q => hc ((hV c).1 q)
    have hJ : Jn ts (k : Int) p c := ⟨by omega, x, by rw [Int.toNat_natCast]; exact hx, hj⟩
    have hn := hg.new hc' hJ
    refine ⟨c :: V, (k : Int) :: E, hg.more ((hV p).2 hp) hc' hJ, fun v => ?_, fun i => ?_, ?_⟩
    · rw [List.mem_cons, hV v]; exact mem_put.symm
    · rw [List.mem_cons, hE i]; exact mem_put.symm
    · show _ = (put s.tr (k : Int)).length
      rw [put_len_new (fun q => hn ((hE _).2 q)), List.length_cons, hl]
  cases ha : mem s.ps x.frm
  · cases hb : mem s.ps x.to_
    · rw [leg1_no (by rw [does_marks ha hb]; rfl)]; exact ⟨V, E, hg, hV, hE, hl⟩
    · rw [leg1_bwd ha hb]
      exact grow (mem_iff.1 hb) (fun q => by rw [mem_iff.2 q] at ha; cases ha) (.inr ⟨rfl, rfl⟩)
  · cases hb : mem s.ps x.to_
    · rw [leg1_fwd ha hb]
      exact grow (mem_iff.1 ha) (fun q => by rw [mem_iff.2 q] at hb; cases hb) (.inl ⟨rfl, rfl⟩)
    · rw [leg1_no (by rw [does_marks ha hb]; rfl)]; exact ⟨V, E, hg, hV, hE, hl⟩
theorem gr_legs {ts : List Lg} {s : Net} (h : Gr ts s) : ∀ k, Gr ts (legsN ts s k)
  | 0 => h
  | k + 1 => by
    cases e : ts[k]? with
    | none => have e2 : legsN ts s (k + 1) = legsN ts s k := by show (match ts[k]? with | some x => _ | none => _) = _; rw [e]
              rw [e2]; exact gr_legs h k
    | some x => rw [legsN_succ e]; exact gr_leg (gr_legs h k) e
theorem gr_passes (ts : List Lg) : ∀ k, Gr ts (passes ts k)
  | 0 => gr_start ts
  | k + 1 => gr_legs (gr_passes ts k) _
theorem gr_net (ts : List Lg) : Gr ts (net ts) := gr_passes ts 9
inductive Rc (L : Lg → Prop) : Int → Int → Prop
  | refl (a : Int) : Rc L a a
  | step {x : Lg} {a o b : Int} : L x → Jo x a o → Rc L o b → Rc L a b
theorem Rc.one {L : Lg → Prop} {x : Lg} {a b : Int} (h : L x) (hj : Jo x a b) : Rc L a b := .step h hj (.refl b)
theorem Rc.trans {L : Lg → Prop} {a b c : Int} (h : Rc L a b) (k : Rc L b c) : Rc L a c := by
  induction h with
  | refl a => exact k
  | step hx hj _ ih => exact .step hx hj (ih k)
theorem Rc.symm {L : Lg → Prop} {a b : Int} (h : Rc L a b) : Rc L b a := by
  induction h with
  | refl a => exact .refl a
  | step hx hj _ ih => exact ih.trans (.one hx hj.symm)
theorem Rc.mono {L M : Lg → Prop} (hm : ∀ x, L x → M x) {a b : Int} (h : Rc L a b) : Rc M a b := by
  induction h with
  | refl a => exact .refl a
  | step hx hj _ ih => exact .step (hm _ hx) hj ih
theorem Rc.over {L M : Lg → Prop} (hm : ∀ x, L x → Rc M x.frm x.to_) {a b : Int} (h : Rc L a b) : Rc M a b := by
  induction h with
  | refl a => exact .refl a
  | step hx hj _ ih =>
    rcases hj with ⟨e1, e2⟩ | ⟨e1, e2⟩
    · rw [← e1]; rw [← e2] at ih; exact (hm _ hx).trans ih
    · rw [← e1]; rw [← e2] at ih; exact (hm _ hx).symm.trans ih
def By (ts : List Lg) (O : Int → Prop) (x : Lg) : Prop := ∃ i : Int, O i ∧ 0 ≤ i ∧ ts[i.toNat]? = some x
theorem Grow.reach {ts : List Lg} {V E : List Int} (h : Grow ts V E) : ∀ v ∈ V, Rc (By ts (· ∈ E)) 0 v := by
  induction h with
  | zero =>
    intro v hv
    have : v = 0 := by simpa using hv
    rw [this]; exact .refl 0
  | @more V E i p c hg hp hc hj ih =>
    intro v hv
    have up : ∀ x, By ts (· ∈ E) x → By ts (· ∈ i :: E) x := fun x ⟨k, hk, r⟩ => ⟨k, List.mem_cons_of_mem _ hk, r⟩
    rcases List.mem_cons.1 hv with e | e
    · rw [e]
      obtain ⟨h0, x, hx, hJ⟩ := hj
      exact ((ih p hp).mono up).trans (.one ⟨i, List.mem_cons_self .., h0, hx⟩ hJ)
    · exact (ih v e).mono up
theorem tree_reach {ts : List Lg} {v : Int} (h : v ∈ (net ts).ps) : Rc (By ts (· ∈ (net ts).tr)) 0 v := by
  obtain ⟨V, E, hg, hV, hE, -⟩ := gr_net ts
  exact (hg.reach v ((hV v).2 h)).mono (fun x ⟨k, hk, r⟩ => ⟨k, (hE k).1 hk, r⟩)
theorem reach_placed {ts : List Lg} (hg : goodLg ts = true) {a b : Int} (h : Rc (· ∈ ts) a b) : a ∈ (net ts).ps → b ∈ (net ts).ps := by
  induction h with
  | refl a => exact id
  | @step x a o b hx hj _ ih =>
    intro ha
    obtain ⟨i, hi⟩ := List.getElem?_of_mem hx
    have k := net_ends hg hi
    apply ih
    rcases hj with ⟨e1, e2⟩ | ⟨e1, e2⟩
    · rw [← e2]; rw [← e1] at ha; exact mem_iff.1 (by rw [← k]; exact mem_iff.2 ha)
    · rw [← e2]; rw [← e1] at ha; exact mem_iff.1 (by rw [k]; exact mem_iff.2 ha)
theorem placed_iff {ts : List Lg} (hg : goodLg ts = true) (v : Int) : v ∈ (net ts).ps ↔ Rc (· ∈ ts) 0 v :=
  ⟨fun h => (tree_reach h).mono (fun x ⟨k, _, _, r⟩ => List.mem_of_getElem? r), fun h => reach_placed hg h (ok_net hg).2.2.2.2.2.1⟩
inductive Wy (ts : List Lg) (O : Int → Prop) (z e : Int) : List (Int × Int) → Prop
  | one : Wy ts O z e [(z, e)]
  | more {t j s i : Int} {P : List (Int × Int)} : O j → Jn ts j t s → t ∉ ((s, i) :: P).map Prod.fst → Wy ts O z e ((s, i) :: P) → Wy ts O z e ((t, j) :: (s, i) :: P)
def hd : List (Int × Int) → Int
  | [] => 0
  | p :: _ => p.1
section
variable {ts : List Lg} {O : Int → Prop} {z e : Int}
theorem Wy.ne {W : List (Int × Int)} (h : Wy ts O z e W) : W ≠ [] := by cases h <;> simp
theorem Wy.nodup {W : List (Int × Int)} (h : Wy ts O z e W) : (W.map Prod.fst).Nodup := by
  induction h with
  | one => simp
  | more _ _ hn _ ih => rw [List.map_cons]; exact List.nodup_cons.2 ⟨hn, ih⟩
theorem Wy.tail : ∀ {Q P : List (Int × Int)}, P ≠ [] → Wy ts O z e (Q ++ P) → Wy ts O z e P
  | [], _, _, h => h
  | [q], P, hp, h => by
    cases P with
    | nil => exact absurd rfl hp
    | cons p P => cases h with
      | more _ _ _ h => exact h
  | q :: r :: Q, P, hp, h => by
    cases h with
    | more _ _ _ h => exact Wy.tail (Q := _ :: Q) hp h
theorem Wy.reach {W : List (Int × Int)} (h : Wy ts O z e W) : Rc (By ts O) (hd W) z := by
  induction h with
  | one => exact .refl z
  | more ho hj _ _ ih =>
    obtain ⟨h0, x, hx, hJ⟩ := hj
    exact .step ⟨_, ho, h0, hx⟩ hJ ih
theorem Wy.from {W : List (Int × Int)} (h : Wy ts O z e W) : ∀ a, a ∈ W.map Prod.fst → ∃ W', Wy ts O z e W' ∧ hd W' = a := by
  induction h with
  | one => intro a ha; exact ⟨_, .one, by simpa [hd] using (show a = z by simpa using ha).symm⟩
  | @more t j s i P ho hj hn h ih =>
    intro a ha
    rw [List.map_cons] at ha
    rcases List.mem_cons.1 ha with e1 | e1
    · exact ⟨_, .more ho hj hn h, e1.symm⟩
    · exact ih a e1
theorem wy_of_reach (z e : Int) {a : Int} (h : Rc (By ts O) a z) : ∃ W, Wy ts O z e W ∧ hd W = a := by
  induction h with
  | refl z => exact ⟨_, .one, rfl⟩
  | @step x a o z hx hj _ ih =>
    obtain ⟨W, hW, ho⟩ := ih
    by_cases ha : a ∈ W.map Prod.fst
    · exact hW.from a ha
    · obtain ⟨i, hi, h0, hx⟩ := hx
      cases W with
      | nil => exact absurd rfl hW.ne
      | cons p P =>
        obtain ⟨s, k⟩ := p
        have es : s = o := ho
        exact ⟨(a, i) :: (s, k) :: P, .more hi ⟨h0, x, hx, by rw [es]; exact hj⟩ ha hW, rfl⟩
end
end Go.Proofs.YtnpghhpcloljeabGreatDoor.lp
namespace Go.Proofs.YtnpghhpcloljeabGreatDoor.lp
open Go.RowKit
open reads base ty lg hs nt
set_option linter.unusedVariables false
def legAt (ts : List Lg) (i : Int) : Lg := (ts[i.toNat]?).getD ⟨0, 0, 0, 0, 0⟩
theorem legAt_is {ts : List Lg} {i : Int} {x : Lg} (h : ts[i.toNat]? = some x) : legAt ts i = x := by unfold legAt; rw [h]; rfl
theorem clN_iff {ts : List Lg} {s : Net} : ∀ k, k ≤ ts.length → ∀ i, i ∈ clN ts s k ↔ (0 ≤ i ∧ i < k ∧ ∃ x, ts[i.toNat]? = some x ∧ x.frm ∈ s.ps ∧ i ∉ s.tr)
  | 0, _, i => by simp [clN]; omega
  | k + 1, hk, i => by
    have ih := clN_iff (ts := ts) (s := s) k (by omega) i
    obtain ⟨x, e⟩ : ∃ x, ts[k]? = some x := ⟨_, List.getElem?_eq_getElem (by omega)⟩
    have tob : ∀ {l : List Int} {a : Int}, mem l a = false ↔ a ∉ l := fun {l a} => by
      rw [← mem_iff]; cases mem l a <;> simp
    cases h : (mem s.ps x.frm && !mem s.tr (k : Int))
    · rw [clN_no e h, ih]
      constructor
      · rintro ⟨a, b, c⟩; exact ⟨a, by omega, c⟩
      · rintro ⟨a, b, y, hy, c, d⟩
        refine ⟨a, ?_, y, hy, c, d⟩
        have : i ≠ k := by
          rintro rfl
          rw [Int.toNat_natCast, e] at hy
          obtain rfl := Option.some.inj hy
          rw [mem_iff.2 c, tob.2 d] at h; cases h
        omega
    · rw [Bool.and_eq_true, Bool.not_eq_true'] at h
      rw [clN_yes e h.1 h.2, List.mem_append, ih, List.mem_singleton]
      constructor
      · rintro (⟨a, b, c⟩ | rfl)
        · exact ⟨a, by omega, c⟩
        · exact ⟨by omega, by omega, x, by rw [Int.toNat_natCast]; exact e, mem_iff.1 h.1, tob.1 h.2⟩
      · rintro ⟨a, b, y, hy, c, d⟩
        by_cases q : i = k
        · exact .inr q
        · exact .inl ⟨a, by omega, y, hy, c, d⟩
def along (ts : List Lg) (i a : Int) : Sf := if (legAt ts i).frm = a then shf (legAt ts i) else sub3 zero3 (shf (legAt ts i))
def less (ts : List Lg) (k : Nat) : List Lg := ts.take k ++ ts.drop (k + 1)
theorem less_good {ts : List Lg} (hg : goodLg ts = true) (k : Nat) : goodLg (less ts k) = true := by
  unfold goodLg
  rw [Bool.and_eq_true, List.all_eq_true, decide_eq_true_eq]
  refine ⟨fun x hx => ?_, ?_⟩
  · rcases List.mem_append.1 hx with q | q
    · obtain ⟨j, hj⟩ := List.getElem?_of_mem (List.mem_of_mem_take q)
      exact goodLg_at hg hj
    · obtain ⟨j, hj⟩ := List.getElem?_of_mem (List.mem_of_mem_drop q)
      exact goodLg_at hg hj
  · have := goodLg_len hg
    unfold less
    rw [List.length_append, List.length_take, List.length_drop]; omega
def other (k : Nat) (i : Int) : Prop := i ≠ k
theorem less_mem {ts : List Lg} {k : Nat} (hk : k < ts.length) (x : Lg) : x ∈ less ts k ↔ By ts (other k) x := by
  unfold less
  rw [List.mem_append]
  constructor
  · rintro (h | h)
    · obtain ⟨j, hj⟩ := List.getElem?_of_mem h
      have hjk : j < k := by have := (List.getElem?_eq_some_iff.1 hj).1; rw [List.length_take] at this; omega
      rw [List.getElem?_take_of_lt hjk] at hj
      exact ⟨(j : Int), by unfold other; omega, by omega, by rw [Int.toNat_natCast]; exact hj⟩
    · obtain ⟨j, hj⟩ := List.getElem?_of_mem h
      rw [List.getElem?_drop] at hj
      refine ⟨((k + 1 + j : Nat) : Int), by unfold other; omega, by omega, by rw [Int.toNat_natCast]; exact hj⟩
  · rintro ⟨i, hi, h0, hx⟩
    obtain ⟨j, rfl⟩ := Int.eq_ofNat_of_zero_le h0
    rw [Int.toNat_natCast] at hx
    unfold other at hi
    rcases Nat.lt_or_ge j k with q | q
    · exact .inl (List.mem_of_getElem? (by rw [List.getElem?_take_of_lt q]; exact hx))
    · refine .inr (List.mem_of_getElem? (i := j - (k + 1)) ?_)
      rw [List.getElem?_drop, show k + 1 + (j - (k + 1)) = j by omega]; exact hx
def brB (ts : List Lg) (k : Nat) : Bool := !mem (net (less ts k)).ps (legAt ts k).frm || !mem (net (less ts k)).ps (legAt ts k).to_
theorem br_iff {ts : List Lg} (hg : goodLg ts = true) {k : Nat} {x : Lg} (hx : ts[k]? = some x) (hf : x.frm ∈ (net ts).ps) : brB ts k = false ↔ Rc (By ts (other k)) x.to_ x.frm := by
  have hk : k < ts.length := (List.getElem?_eq_some_iff.1 hx).1
  have hl : legAt ts (k : Int) = x := legAt_is (by rw [Int.toNat_natCast]; exact hx)
  have hgl := less_good hg k
  unfold brB
  rw [hl, Bool.or_eq_false_iff, Bool.not_eq_false', Bool.not_eq_false', mem_iff, mem_iff, placed_iff hgl, placed_iff hgl]
  have to_ : ∀ {a b}, Rc (· ∈ less ts k) a b ↔ Rc (By ts (other k)) a b := fun {a b} => ⟨fun h => h.mono (fun y hy => (less_mem hk y).1 hy), fun h => h.mono (fun y hy => (less_mem hk y).2 hy)⟩
  rw [to_, to_]
  constructor
  · rintro ⟨h1, h2⟩; exact h2.symm.trans h1
  · intro h
    have all : Rc (By ts (other k)) 0 x.frm := ((placed_iff hg x.frm).1 hf).over (fun y hy => by
      obtain ⟨j, hj⟩ := List.getElem?_of_mem hy
      by_cases e : j = k
      · subst e
        rw [hx] at hj
        obtain rfl := Option.some.inj hj
        exact h.symm
      · exact .one ⟨(j : Int), by unfold other; omega, by omega, by rw [Int.toNat_natCast]; exact hj⟩ (.inl ⟨rfl, rfl⟩))
    exact ⟨all, all.trans h.symm⟩
def brAt (ts : List Lg) (i : Int) : Bool := match ts[i.toNat]? with
  | some x => mem (net ts).ps x.frm
  | none => false
def brN (ts : List Lg) : Nat → List Int
  | 0 => []
  | k + 1 => if brAt ts (k : Int) && brB ts k then brN ts k ++ [(k : Int)] else brN ts k
theorem brN_yes {ts : List Lg} {k : Nat} (h : brAt ts (k : Int) = true) (h2 : brB ts k = true) : brN ts (k + 1) = brN ts k ++ [(k : Int)] := by rw [brN, h, h2]; rfl
theorem brN_no {ts : List Lg} {k : Nat} (h : (brAt ts (k : Int) && brB ts k) = false) : brN ts (k + 1) = brN ts k := by rw [brN, h]; rfl
theorem brN_len (ts : List Lg) : ∀ k, (brN ts k).length ≤ k
  | 0 => Nat.le_refl _
  | k + 1 => by
    have := brN_len ts k
    rw [brN]
    split
    · rw [List.length_append]; simp; omega
    · omega
def brIds (ts : List Lg) : List Int := if goodLg ts then brN ts ts.length else []
end Go.Proofs.YtnpghhpcloljeabGreatDoor.lp
namespace Go.Proofs.YtnpghhpcloljeabGreatDoor.lp
open Go.RowKit
open reads base ty lg hs nt
set_option linter.unusedVariables false
theorem Jn.bd {ts : List Lg} (hg : goodLg ts = true) {j s t : Int} (h : Jn ts j s t) : (0 ≤ s ∧ s ≤ 7) ∧ (0 ≤ t ∧ t ≤ 7) := by
  obtain ⟨-, x, hx, hJ⟩ := h
  obtain ⟨l1, l2, -⟩ := okLg_lim (goodLg_at hg hx)
  unfold Jo at hJ
  omega
end Go.Proofs.YtnpghhpcloljeabGreatDoor.lp
namespace Go.Proofs.YtnpghhpcloljeabGreatDoor.lp
open Go.RowKit
open reads base ty lg hs nt
set_option linter.unusedVariables false
def Opn (bs : List Bool) (j : Int) : Prop := bs[j.toNat]? = some true
def exR (ts : List Lg) (bs : List Bool) : Nat → Int → List (Int × Int)
  | 0, _ => []
  | k + 1, s => match ts[k]?, bs[k]? with
    | some x, some true => if x.frm = s then exR ts bs k s ++ [((k : Int), x.to_)] else if x.to_ = s then exR ts bs k s ++ [((k : Int), x.frm)] else exR ts bs k s
    | _, _ => exR ts bs k s
section
variable {ts : List Lg} {bs : List Bool} {k : Nat} {s : Int} {x : Lg}
theorem exR_shut (hx : ts[k]? = some x) (hb : bs[k]? = some false) : exR ts bs (k + 1) s = exR ts bs k s := by
  rw [exR, hx, hb]
theorem exR_frm (hx : ts[k]? = some x) (hb : bs[k]? = some true) (h : x.frm = s) : exR ts bs (k + 1) s = exR ts bs k s ++ [((k : Int), x.to_)] := by
  rw [exR, hx, hb]; exact if_pos h
theorem exR_to (hx : ts[k]? = some x) (hb : bs[k]? = some true) (h : ¬ x.frm = s) (h2 : x.to_ = s) : exR ts bs (k + 1) s = exR ts bs k s ++ [((k : Int), x.frm)] := by
  rw [exR, hx, hb]; exact (if_neg h).trans (if_pos h2)
theorem exR_no (hx : ts[k]? = some x) (hb : bs[k]? = some true) (h : ¬ x.frm = s) (h2 : ¬ x.to_ = s) : exR ts bs (k + 1) s = exR ts bs k s := by
  rw [exR, hx, hb]; exact (if_neg h).trans (if_neg h2)
end
theorem exR_len (ts : List Lg) (bs : List Bool) (s : Int) : ∀ k, (exR ts bs k s).length ≤ k
  | 0 => Nat.le_refl _
  | k + 1 => by
    have ih := exR_len ts bs s k
    rw [exR]
    split
    · split
      · rw [List.length_append]; simp; omega
      · split
        · rw [List.length_append]; simp; omega
        · omega
    · omega
theorem exR_mem {ts : List Lg} {bs : List Bool} {s : Int} (hne : ∀ x ∈ ts, ¬ x.frm = x.to_) : ∀ k, k ≤ ts.length → ∀ j t, (j, t) ∈ exR ts bs k s ↔ (Opn bs j ∧ j < k ∧ Jn ts j s t)
  | 0, _, j, t => by
    constructor
    · intro h; cases h
    · rintro ⟨-, h, h0, -⟩; omega
  | k + 1, hk, j, t => by
    have ih := exR_mem (bs := bs) (s := s) hne k (by omega) j t
    obtain ⟨x, hx⟩ : ∃ x, ts[k]? = some x := ⟨_, List.getElem?_eq_getElem (by omega)⟩
    have hxn := hne x (List.mem_of_getElem? hx)
    have more : (Opn bs j ∧ j < (k : Int) ∧ Jn ts j s t) → (Opn bs j ∧ j < ((k + 1 : Nat) : Int) ∧ Jn ts j s t) := fun ⟨a, b, c⟩ => ⟨a, by omega, c⟩
    have less_ : (Opn bs j ∧ j < ((k + 1 : Nat) : Int) ∧ Jn ts j s t) → j = k ∨ (Opn bs j ∧ j < (k : Int) ∧ Jn ts j s t) := fun ⟨a, b, c⟩ => by
      by_cases e : j = k
      · exact .inl e
      · exact .inr ⟨a, by omega, c⟩
    have own_ : Jn ts (k : Int) s t → Jo x s t := fun ⟨_, y, hy, hj⟩ => by
      rw [Int.toNat_natCast, hx] at hy
      obtain rfl := Option.some.inj hy
      exact hj
    have mk : Jo x s t → bs[k]? = some true → (Opn bs (k : Int) ∧ (k : Int) < ((k + 1 : Nat) : Int) ∧ Jn ts (k : Int) s t) := fun hj hb => ⟨by unfold Opn; rw [Int.toNat_natCast]; exact hb, by omega, by omega, x, by rw [Int.toNat_natCast]; exact hx, hj⟩
    have shut : ¬ bs[k]? = some true → exR ts bs (k + 1) s = exR ts bs k s := fun hb => by
      rw [exR, hx]
      split
      · rename_i h1 h2; exact absurd h2 hb
      · rfl
    by_cases hb : bs[k]? = some true
    · by_cases hf : x.frm = s
      · rw [exR_frm hx hb hf, List.mem_append, ih, List.mem_singleton]
        constructor
        · rintro (h | h)
          · exact more h
          · obtain ⟨rfl, rfl⟩ := Prod.mk.inj h
            exact mk (.inl ⟨hf, rfl⟩) hb
        · intro h
          rcases less_ h with rfl | h2
          · have := (own_ h.2.2).far
            exact .inr (by rw [show t = x.to_ by omega])
          · exact .inl h2
      · by_cases ht : x.to_ = s
        · rw [exR_to hx hb hf ht, List.mem_append, ih, List.mem_singleton]
          constructor
          · rintro (h | h)
            · exact more h
            · obtain ⟨rfl, rfl⟩ := Prod.mk.inj h
              exact mk (.inr ⟨ht, rfl⟩) hb
          · intro h
            rcases less_ h with rfl | h2
            · have := (own_ h.2.2).far
              exact .inr (by rw [show t = x.frm by omega])
            · exact .inl h2
        · rw [exR_no hx hb hf ht, ih]
          constructor
          · exact more
          · intro h
            rcases less_ h with rfl | h2
            · have := own_ h.2.2
              unfold Jo at this; omega
            · exact h2
    · rw [shut hb, ih]
      constructor
      · exact more
      · intro h
        rcases less_ h with rfl | h2
        · exfalso
          have := h.1
          unfold Opn at this
          rw [Int.toNat_natCast] at this
          exact hb this
        · exact h2
theorem good_ne {ts : List Lg} (hg : goodLg ts = true) : ∀ x ∈ ts, ¬ x.frm = x.to_ := fun x hx => by
  obtain ⟨i, hi⟩ := List.getElem?_of_mem hx
  exact (okLg_lim (goodLg_at hg hi)).2.2.1
section
variable {ts : List Lg} {O : Int → Prop} {z e : Int}
theorem Wy.last {W : List (Int × Int)} (h : Wy ts O z e W) : ∃ Q, W = Q ++ [(z, e)] := by
  induction h with
  | one => exact ⟨[], rfl⟩
  | @more t j s i P h1 h2 h3 _ ih =>
    obtain ⟨Q, hQ⟩ := ih
    exact ⟨(t, j) :: Q, by rw [hQ]; rfl⟩
theorem Wy.bd (hg : goodLg ts = true) (hz : 0 ≤ z ∧ z ≤ 7) {W : List (Int × Int)} (h : Wy ts O z e W) : ∀ s ∈ W.map Prod.fst, 0 ≤ s ∧ s ≤ 7 := by
  induction h with
  | one => intro s hs; rw [show s = z by simpa using hs]; exact hz
  | more h1 h2 h3 _ ih =>
    intro s hs
    rw [List.map_cons] at hs
    rcases List.mem_cons.1 hs with q | q
    · rw [q]; exact (h2.bd hg).1
    · exact ih s q
theorem nodup_len : ∀ (n : Nat) (l : List Int), l.Nodup → (∀ s ∈ l, 0 ≤ s ∧ s < n) → l.length ≤ n
  | 0, l, _, h => by
    cases l with
    | nil => exact Nat.le_refl _
    | cons a l => have := h a (List.mem_cons_self ..); omega
  | n + 1, l, hn, h => by
    by_cases hm : (n : Int) ∈ l
    · have h1 := nodup_len n (l.erase (n : Int)) (hn.erase _) (fun s hs => by
        have h2 := (hn.mem_erase_iff).1 hs
        have := h s h2.2
        have := h2.1
        omega)
      rw [List.length_erase_of_mem hm] at h1
      omega
    · have := nodup_len n l hn (fun s hs => by
        have := h s hs
        have : s ≠ n := fun e => hm (by rw [← e]; exact hs)
        omega)
      omega
theorem Wy.len (hg : goodLg ts = true) (hz : 0 ≤ z ∧ z ≤ 7) {W : List (Int × Int)} (h : Wy ts O z e W) : W.length ≤ 8 := by
  have h1 := nodup_len 8 _ h.nodup (fun s hs => by have := h.bd hg hz s hs; omega)
  rwa [List.length_map] at h1
def NoWay (ts : List Lg) (O : Int → Prop) (z e st : Int) (P : List (Int × Int)) : Prop := ∀ Q, Wy ts O z e (Q ++ P) → ¬ hd (Q ++ P) = st
theorem shut_all {st s i : Int} {P : List (Int × Int)} (hne : ¬ s = st) (h : ∀ j t, O j → Jn ts j s t → t ∉ ((s, i) :: P).map Prod.fst → NoWay ts O z e st ((t, j) :: (s, i) :: P)) : NoWay ts O z e st ((s, i) :: P) := by
  intro Q hQ hh
  rcases List.eq_nil_or_concat Q with q | ⟨Q', p, q⟩
  · rw [q] at hh; exact hne hh
  · obtain ⟨t, j⟩ := p
    have e1 : Q ++ (s, i) :: P = Q' ++ (t, j) :: (s, i) :: P := by rw [q]; simp
    rw [e1] at hQ hh
    have h1 := Wy.tail (by simp) hQ
    cases h1 with
    | more h1 h2 h3 _ => exact h j t h1 h2.symm h3 Q' hQ hh
theorem shut_seen {st t j : Int} {P : List (Int × Int)} (h : t ∈ P.map Prod.fst) : NoWay ts O z e st ((t, j) :: P) := by
  intro Q hQ
  exfalso
  have h1 := (Wy.tail (by simp) hQ).nodup
  rw [List.map_cons, List.nodup_cons] at h1
  exact h1.1 h
end
def otherB (n k : Nat) : List Bool := (List.range 12).map fun q => decide (q < n) && !decide (q = k)
theorem op_other {ts : List Lg} {n k : Nat} (hL : ts.length = n) (hn : n ≤ 12) : ∀ x, By ts (Opn (otherB n k)) x ↔ By ts (other k) x := fun x => by
  constructor
  · rintro ⟨i, hi, h0, hx⟩
    refine ⟨i, ?_, h0, hx⟩
    obtain ⟨q, rfl⟩ := Int.eq_ofNat_of_zero_le h0
    unfold Opn otherB at hi
    rw [Int.toNat_natCast, List.getElem?_map] at hi
    obtain ⟨a, ha, hb⟩ := Option.map_eq_some_iff.1 hi
    have : a = q := by have := (List.getElem?_eq_some_iff.1 ha).2; simpa using this.symm
    subst this
    unfold other
    simp at hb
    omega
  · rintro ⟨i, hi, h0, hx⟩
    refine ⟨i, ?_, h0, hx⟩
    obtain ⟨q, rfl⟩ := Int.eq_ofNat_of_zero_le h0
    have hq : q < ts.length := by rw [Int.toNat_natCast] at hx; exact lt_at hx
    unfold other at hi
    unfold Opn otherB
    rw [Int.toNat_natCast, List.getElem?_map, List.getElem?_range (by omega)]
    simp; omega
theorem need_is {ts : List Lg} (hg : goodLg ts = true) {k : Nat} {x : Lg} (hx : ts[k]? = some x) (hf : x.frm ∈ (net ts).ps) : brB ts k = true ↔ ∀ W, Wy ts (Opn (otherB ts.length k)) x.frm (k : Int) W → ¬ hd W = x.to_ := by
  have hb := br_iff hg hx hf
  have h12 := goodLg_len hg
  constructor
  · intro h W hW hh
    have h1 := hW.reach
    rw [hh] at h1
    have h2 := hb.2 (h1.mono (fun y hy => (op_other rfl h12 y).1 hy))
    rw [h] at h2; cases h2
  · intro h
    cases q : brB ts k
    · obtain ⟨W, hW, e⟩ := wy_of_reach x.frm (k : Int) ((hb.1 q).mono (fun y hy => (op_other rfl h12 y).2 hy))
      exact absurd e (h W hW)
    · rfl
end Go.Proofs.YtnpghhpcloljeabGreatDoor.lp

namespace Go.Proofs.YtnpghhpcloljeabGreatDoor.bl
open Go.RowKit
open reads base ty lg lgi win hs nt nq rowi sn mt ml dt pg ph lp
set_option linter.unusedVariables false
set_option linter.unusedSimpArgs false
theorem US_filter (ts : List Lg) (ax : Int) : US ts ax = (ts.filter (fun x => mem (net ts).ps x.frm)).map (edOf ax) := by
  have key : ∀ k, k ≤ ts.length → eds ts ax (plN ts k) = ((ts.take k).filter (fun x => mem (net ts).ps x.frm)).map (edOf ax) := by
    intro k hk
    induction k with
    | zero => rfl
    | succ k ih =>
      have ih := ih (by omega)
      obtain ⟨x, hx⟩ := at_lt rfl (show k < ts.length by omega)
      rw [take_snoc hx, List.filter_append, List.map_append, ← ih]
      cases q : mem (net ts).ps x.frm
      · rw [show plN ts (k + 1) = plN ts k from rowi.idxs_no hx q]; simp [q]
      · rw [show plN ts (k + 1) = plN ts k ++ [(k : Int)] from rowi.idxs_yes hx q]
        unfold eds; rw [List.map_append]; simp [q, lgAt_is hx]
  have h := key ts.length (Nat.le_refl _)
  rw [List.take_length] at h; exact h
theorem asc_ext : ∀ {a b : List Int}, a.Pairwise (· < ·) → b.Pairwise (· < ·) → (∀ x, x ∈ a ↔ x ∈ b) → a = b
  | [], [], _, _, _ => rfl
  | [], y :: b, _, _, h => absurd ((h y).2 (List.mem_cons_self ..)) (by simp)
  | x :: a, [], _, _, h => absurd ((h x).1 (List.mem_cons_self ..)) (by simp)
  | x :: a, y :: b, ha, hb, h => by
    have a1 := List.pairwise_cons.1 ha
    have b1 := List.pairwise_cons.1 hb
    have e : x = y := by
      rcases List.mem_cons.1 ((h x).1 (List.mem_cons_self ..)) with q | q
      · exact q
      · rcases List.mem_cons.1 ((h y).2 (List.mem_cons_self ..)) with r | r
        · exact r.symm
        · have := b1.1 x q; have := a1.1 y r; omega
    subst e
    rw [asc_ext a1.2 b1.2 (fun z => ?_)]
    constructor
    · intro hz
      rcases List.mem_cons.1 ((h z).1 (List.mem_cons_of_mem _ hz)) with q | q
      · have := a1.1 z hz; omega
      · exact q
    · intro hz
      rcases List.mem_cons.1 ((h z).2 (List.mem_cons_of_mem _ hz)) with q | q
      · have := b1.1 z hz; omega
      · exact q
theorem split_at {ts : List Lg} {k : Nat} {x : Lg} (hx : ts[k]? = some x) : ts = ts.take k ++ x :: ts.drop (k + 1) := by
  have h := List.take_append_drop (k + 1) ts
  rw [take_snoc hx, List.append_assoc] at h
  exact h.symm
end Go.Proofs.YtnpghhpcloljeabGreatDoor.bl

namespace Go.Proofs.YtnpghhpcloljeabGreatDoor.bl
open Go.RowKit
open reads base ty lg lgi win hs nt nq rowi sn mt ml dt pg ph lp
set_option linter.unusedVariables false
set_option linter.unusedSimpArgs false
def TrN (ts : List Lg) (s : Net) : Prop := ∃ l us, dt.Tr l us ∧ l.Nodup ∧ (∀ c : Nat, c ∈ l ↔ ((c : Int) ∈ s.ps ∧ c ≠ 0)) ∧ us.Perm (s.tr.map (fun i => edOf 0 (lgAt ts i)))
theorem asc_nodup {l : List Int} (h : l.Pairwise (· < ·)) : l.Nodup := h.imp (fun q e => by omega)
theorem put_perm {l : List Int} {n : Int} (h : (put l n).Pairwise (· < ·)) (hl : l.Pairwise (· < ·)) (hn : n ∉ l) : (put l n).Perm (n :: l) :=
  (List.perm_ext_iff_of_nodup (asc_nodup h) (List.nodup_cons.2 ⟨hn, asc_nodup hl⟩)).2 (fun x => by rw [mem_put, List.mem_cons])
theorem trn_one {ts : List Lg} {s s' : Net} {i : Nat} {x : Lg} {p c : Int} (hg : goodLg ts = true) (ho : Ok s) (ho' : Ok s') (ht : nt.Tr ts s) (h : TrN ts s) (hx : ts[i]? = some x) (hps : s'.ps = put s.ps c) (htr : s'.tr = put s.tr (i : Int)) (hp : p ∈ s.ps) (hc : c ∉ s.ps) (he : x.frm = p ∧ x.to_ = c ∨ x.to_ = p ∧ x.frm = c) : TrN ts s' := by
  obtain ⟨l, us, h1, h2, h3, h4⟩ := h
  have hok := okLg_lim (goodLg_at hg hx)
  have bp := ho.2.2.1 p hp
  have bc : 0 ≤ c ∧ c ≤ 7 := by rcases he with ⟨-, e⟩ | ⟨-, e⟩ <;> omega
  have c0 : c ≠ 0 := fun e => hc (by rw [e]; exact ho.2.2.2.2.2.1)
  have hcl : c.toNat ∉ l := fun q => hc (by have := (h3 _).1 q; rw [show ((c.toNat : Nat) : Int) = c by omega] at this; exact this.1)
  have hit : (i : Int) ∉ s.tr := fun q => by
    obtain ⟨y, hy, -, -, f1, f2, -⟩ := ht.2.2 _ q
    rw [Int.toNat_natCast, hx] at hy
    obtain rfl := Option.some.inj hy
    rcases he with ⟨-, e⟩ | ⟨-, e⟩
    · rw [e] at f2; exact hc f2
    · rw [e] at f1; exact hc f1
  refine ⟨c.toNat :: l, edOf 0 x :: us, .more (p := p.toNat) h1 ?_ (by omega) (by omega) (by omega) hcl ?_, List.nodup_cons.2 ⟨hcl, h2⟩, ?_, ?_⟩
  · by_cases e : p = 0
    · exact .inl (by omega)
    · exact .inr ((h3 _).2 ⟨by rw [show ((p.toNat : Nat) : Int) = p by omega]; exact hp, by omega⟩)
  · rcases he with ⟨e1, e2⟩ | ⟨e1, e2⟩
    · exact .inl ⟨by show x.frm.toNat = _; rw [e1], by show x.to_.toNat = _; rw [e2]⟩
    · exact .inr ⟨by show x.to_.toNat = _; rw [e1], by show x.frm.toNat = _; rw [e2]⟩
  · intro a
    rw [List.mem_cons, h3, hps, mem_put]
    constructor
    · rintro (e | ⟨q, z⟩)
      · exact ⟨.inl (by omega), by omega⟩
      · exact ⟨.inr q, z⟩
    · rintro ⟨e | q, z⟩
      · exact .inl (by omega)
      · exact .inr ⟨q, z⟩
  · have hq : (put s.tr (i : Int)).Perm ((i : Int) :: s.tr) := put_perm (by rw [← htr]; exact ho'.2.2.2.1) ho.2.2.2.1 hit
    rw [htr]
    refine List.Perm.trans ?_ (hq.map _).symm
    rw [List.map_cons, lgAt_is hx]
    exact h4.cons _
theorem trn_leg {ts : List Lg} {s : Net} {i : Nat} {x : Lg} (hg : goodLg ts = true) (ho : Ok s) (ht : nt.Tr ts s) (h : TrN ts s) (hx : ts[i]? = some x) : TrN ts (leg1 x i s) := by
  have hi : i < 12 := by have := lt_at hx; have := goodLg_len hg; omega
  have ho' := ok_leg (i := i) ho (goodLg_at hg hx) hi
  unfold leg1 at ho' ⊢
  by_cases h1 : x.frm ∈ s.ps ∧ x.to_ ∉ s.ps
  · rw [if_pos h1] at ho' ⊢
    exact trn_one hg ho ho' ht h hx rfl rfl h1.1 h1.2 (.inl ⟨rfl, rfl⟩)
  · rw [if_neg h1] at ho' ⊢
    by_cases h2 : x.to_ ∈ s.ps ∧ x.frm ∉ s.ps
    · rw [if_pos h2] at ho' ⊢
      exact trn_one hg ho ho' ht h hx rfl rfl h2.1 h2.2 (.inr ⟨rfl, rfl⟩)
    · rw [if_neg h2]; exact h
theorem trn_legs {ts : List Lg} {s : Net} (hg : goodLg ts = true) (ho : Ok s) (ht : nt.Tr ts s) (h : TrN ts s) : ∀ k, TrN ts (legsN ts s k)
  | 0 => h
  | k + 1 => by
    cases e : ts[k]? with
    | none =>
      have e2 : legsN ts s (k + 1) = legsN ts s k := by show (match ts[k]? with | some x => _ | none => _) = _; rw [e]
      rw [e2]; exact trn_legs hg ho ht h k
    | some x => rw [legsN_succ e]; exact trn_leg hg (ok_legs hg ho k) (tr_legs hg ho ht k) (trn_legs hg ho ht h k) e
theorem trn_passes {ts : List Lg} (hg : goodLg ts = true) : ∀ k, TrN ts (passes ts k)
  | 0 => ⟨[], [], .nil, List.nodup_nil, fun c => by
      show c ∈ [] ↔ ((c : Int) ∈ [(0 : Int)] ∧ c ≠ 0)
      rw [List.mem_singleton]
      constructor
      · intro h; cases h
      · rintro ⟨a, b⟩; omega, List.Perm.nil⟩
  | k + 1 => trn_legs hg (ok_passes hg k) (tr_passes hg k) (trn_passes hg k) _
theorem plN_asc {ts : List Lg} : ∀ k, (plN ts k).Pairwise (· < ·)
  | 0 => by simp [plN, rowi.idxs]
  | k + 1 => by
    cases e : ts[k]? with
    | none => rw [show plN ts (k + 1) = plN ts k by unfold plN; rw [rowi.idxs, e]]; exact plN_asc k
    | some x =>
      cases q : mem (net ts).ps x.frm
      · rw [show plN ts (k + 1) = plN ts k from rowi.idxs_no e q]; exact plN_asc k
      · rw [show plN ts (k + 1) = plN ts k ++ [(k : Int)] from rowi.idxs_yes e q, List.pairwise_append]
        refine ⟨plN_asc k, List.pairwise_singleton _ _, fun a ha b hb => ?_⟩
        obtain ⟨j, rfl, hj, -⟩ := plN_mem ha
        rw [List.mem_singleton] at hb; omega
theorem pl_tree {ts : List Lg} (hg : goodLg ts = true) (hc : clIds ts = []) : plIds ts = (net ts).tr := by
  have ho := ok_net hg
  refine asc_ext (plN_asc _) ho.2.2.2.1 (fun i => ?_)
  constructor
  · intro h
    obtain ⟨j, rfl, x, hx, hm⟩ := plIds_at h
    by_cases q : (j : Int) ∈ (net ts).tr
    · exact q
    · exfalso
      have hj := lt_at hx
      have : (j : Int) ∈ clIds ts := by
        unfold clIds; rw [if_pos hg]
        exact (clN_iff _ (Nat.le_refl _) _).2 ⟨by omega, by omega, x, by rw [Int.toNat_natCast]; exact hx, mem_iff.1 hm, q⟩
      rw [hc] at this; cases this
  · intro h
    obtain ⟨y, hy, i0, i1, f1, -⟩ := (tr_passes hg 9).2.2 _ h
    obtain ⟨j, rfl⟩ := Int.eq_ofNat_of_zero_le i0
    rw [Int.toNat_natCast] at hy
    exact pl_all hy (mem_iff.2 f1)
theorem TC_one {ts : List Lg} (hg : goodLg ts = true) (hc : clIds ts = []) : TC ts = 1 := by
  obtain ⟨l, us, h1, h2, h3, h4⟩ := trn_passes hg 9
  have hw := nw_net hg 0
  have e1 : US ts 0 = (net ts).tr.map (fun i => edOf 0 (lgAt ts i)) := by unfold US eds; rw [pl_tree hg hc]
  have hp : us.Perm (US ts 0) := by rw [e1]; exact h4
  have hl : l.Perm (stN ts) := (List.perm_ext_iff_of_nodup h2 hw.hn).2 (fun c => by
    rw [h3]
    show ((c : Int) ∈ (net ts).ps ∧ c ≠ 0) ↔ c ∈ stN ts
    rw [(ps_split hg).1, List.mem_cons]
    have m := mem_stN (s := (c : Int)) hg (by omega)
    rw [Int.toNat_natCast] at m
    rw [m]
    constructor
    · rintro ⟨e | q, z⟩
      · omega
      · exact q
    · intro q
      have := (ps_split hg).2.2 _ q
      exact ⟨.inr q, by omega⟩)
  have h8 : 8 ∉ l := fun q => hw.n8 (hl.mem_iff.1 q)
  have d := h1.one h8
  unfold TC
  rw [← DD_perm hl, ← d]
  unfold DD
  exact dt_rows (fun i _ c _ => (AA_perm hp i c).symm)
theorem br_side {ts : List Lg} (hg : goodLg ts = true) {k : Nat} {x : Lg} (hx : ts[k]? = some x) (hf : x.frm ∈ (net ts).ps) (hb : brB ts k = true) : mem (net (less ts k)).ps x.frm ≠ mem (net (less ts k)).ps x.to_ := by
  have hk : k < ts.length := (List.getElem?_eq_some_iff.1 hx).1
  have hgl := less_good hg k
  have hl : legAt ts (k : Int) = x := legAt_is (by rw [Int.toNat_natCast]; exact hx)
  intro e
  unfold brB at hb
  rw [hl, ← e, Bool.or_self, Bool.not_eq_true'] at hb
  have n1 : x.frm ∉ (net (less ts k)).ps := fun q => by rw [mem_iff.2 q] at hb; cases hb
  have n2 : x.to_ ∉ (net (less ts k)).ps := fun q => by have := mem_iff.2 q; rw [← e, hb] at this; cases this
  have key : ∀ {a b : Int}, Rc (· ∈ ts) a b → a ∈ (net (less ts k)).ps → b ∈ (net (less ts k)).ps := by
    intro a b h
    induction h with
    | refl => exact fun q => q
    | @step y a o b hy hj _ ih =>
      intro q
      refine ih ?_
      obtain ⟨j, hjj⟩ := List.getElem?_of_mem hy
      by_cases ej : j = k
      · subst ej
        rw [hx] at hjj
        obtain rfl := Option.some.inj hjj
        rcases hj with ⟨e1, e2⟩ | ⟨e1, e2⟩
        · rw [← e1] at q; exact absurd q n1
        · rw [← e1] at q; exact absurd q n2
      · have hm : y ∈ less ts k := (less_mem hk y).2 ⟨(j : Int), by unfold other; omega, by omega, by rw [Int.toNat_natCast]; exact hjj⟩
        obtain ⟨m, hm2⟩ := List.getElem?_of_mem hm
        have en := net_ends hgl hm2
        rcases hj with ⟨e1, e2⟩ | ⟨e1, e2⟩
        · rw [← e1] at q
          rw [← e2]
          exact mem_iff.1 (by rw [← en]; exact mem_iff.2 q)
        · rw [← e1] at q
          rw [← e2]
          exact mem_iff.1 (by rw [en]; exact mem_iff.2 q)
  exact n1 (key ((placed_iff hg x.frm).1 hf) (ok_net hgl).2.2.2.2.2.1)
theorem res_bridge {ts : List Lg} (hg : goodLg ts = true) {k : Nat} {x : Lg} (hx : ts[k]? = some x) (hf : x.frm ∈ (net ts).ps) (hb : brB ts k = true) (ax : Int) : resV ts ax (k : Int) = 0 := by
  have hgl := less_good hg k
  have hi := pl_all hx (mem_iff.2 hf)
  rw [resV_res hg ax hi, lgAt_is hx]
  have hm : mem (net ts).ps x.frm = true := mem_iff.2 hf
  have e := split_at hx
  have hU : US ts ax = ((ts.take k).filter (fun x => mem (net ts).ps x.frm)).map (edOf ax) ++ edOf ax x :: ((ts.drop (k + 1)).filter (fun x => mem (net ts).ps x.frm)).map (edOf ax) := by
    rw [US_filter]
    obtain ⟨p, hp⟩ : ∃ p, (fun x : Lg => mem (net ts).ps x.frm) = p := ⟨_, rfl⟩
    have hm2 : p x = true := by rw [← hp]; exact hm
    rw [hp]
    conv => lhs; rw [e]
    rw [List.filter_append, List.map_append, List.filter_cons_of_pos hm2]; rfl
  refine (nw_net hg ax).bridge hU (fun s => mem (net (less ts k)).ps (s : Int)) (fun z hz => ?_) ?_
  · have hz2 : ∃ y ∈ less ts k, edOf ax y = z := by
      rcases List.mem_append.1 hz with q | q
      · obtain ⟨y, hy, e⟩ := List.mem_map.1 q
        exact ⟨y, List.mem_append_left _ (List.mem_filter.1 hy).1, e⟩
      · obtain ⟨y, hy, e⟩ := List.mem_map.1 q
        exact ⟨y, List.mem_append_right _ (List.mem_filter.1 hy).1, e⟩
    obtain ⟨y, hy, rfl⟩ := hz2
    obtain ⟨m, hm2⟩ := List.getElem?_of_mem hy
    obtain ⟨⟨a0, -⟩, ⟨b0, -⟩, -⟩ := okLg_lim (goodLg_at hgl hm2)
    show mem _ ((y.to_.toNat : Nat) : Int) = mem _ ((y.frm.toNat : Nat) : Int)
    rw [show ((y.to_.toNat : Nat) : Int) = y.to_ by omega, show ((y.frm.toNat : Nat) : Int) = y.frm by omega]
    exact (net_ends hgl hm2).symm
  · obtain ⟨⟨a0, -⟩, ⟨b0, -⟩, -⟩ := okLg_lim (goodLg_at hg hx)
    show mem _ ((x.to_.toNat : Nat) : Int) ≠ mem _ ((x.frm.toNat : Nat) : Int)
    rw [show ((x.to_.toNat : Nat) : Int) = x.to_ by omega, show ((x.frm.toNat : Nat) : Int) = x.frm by omega]
    exact fun q => br_side hg hx hf hb q.symm
end Go.Proofs.YtnpghhpcloljeabGreatDoor.bl
