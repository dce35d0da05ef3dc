/-
  Trees of legs and the ways along them (pure mathematics).
  The loop of a closing leg: its legs, its stations, its length, its misclosure; bridges (pure mathematics).
  Legs one after the other: the stations between them, the sum of their shifts, of their lengths (pure mathematics).
  Ways as the program grows them: exits, what a search shows, loops and bridges told by ways (pure mathematics).
  Leaving out a leg that is no bridge (pure mathematics): the placed stations stay, and the strain is no greater; without closing legs there is none.
  A list of ints in memory, from the beginning of a block on.
  The length of a shift, by the model.
  Whether legs place a station, closing legs, by the model.
  The way between two stations by tree legs, and the legs of a loop, by the model.
  The legs of a loop, by the model.
  LoopLegs and LoopOf, by the model.
  The length and the misclosure of a loop, by the model.
  Misclosures, the worst loop, the loops through a leg, their number, by the model.
  Bridges, by the model.
  IsBridge, BridgesOf, LoopsThrough and CountLoops, by the model.
  Conditions: those that each theorem names.
-/
import Derived.Test.YtjlkgijaceplcabGreatDoorNtR
import Derived.Test.YtjlkgijaceplcabGreatDoorNtZ
import Derived.Test.YtjlkgijaceplcabGreatDoorBlA
import Derived.Test.YtjlkgijaceplcabGreatDoorBase
import Derived.Test.YtjlkgijaceplcabGreatDoorIntV
import Derived.Test.YtjlkgijaceplcabGreatDoorLen
import Derived.Test.YtjlkgijaceplcabGreatDoorNtC
import Derived.Deep.RegionHeld3
import Derived.Deep.DeepCutAuto
import Derived.OwnWalk
import Derived.Deep.QuietTactic
import Derived.BigQuiet
import Derived.Deep.RegionWith
namespace Go.Proofs.YtjlkgijaceplcabGreatDoor.lp
open Go.RowKit
open reads base ty lg hs nt
set_option linter.unusedVariables false
def Jo (x : Lg) (a b : Int) : Prop := (x.frm = a ∧ x.to_ = b) ∨ (x.to_ = a ∧ x.frm = b)
theorem Jo.symm {x : Lg} {a b : Int} (h : Jo x a b) : Jo x b a := by
  rcases h with ⟨h1, h2⟩ | ⟨h1, h2⟩
  · exact .inr ⟨h2, h1⟩
  · exact .inl ⟨h2, h1⟩
theorem Jo.far {x : Lg} {a b : Int} (h : Jo x a b) : b = x.frm + x.to_ - a := by unfold Jo at h; omega
theorem Jo.ends {x : Lg} {a b c d : Int} (h : Jo x a b) (k : Jo x c d) : (c = a ∧ d = b) ∨ (c = b ∧ d = a) := by unfold Jo at h k; omega
def Jn (ts : List Lg) (i a b : Int) : Prop := 0 ≤ i ∧ ∃ x, ts[i.toNat]? = some x ∧ Jo x a b
theorem Jn.symm {ts : List Lg} {i a b : Int} (h : Jn ts i a b) : Jn ts i b a := by
  obtain ⟨h0, x, hx, hj⟩ := h
  exact ⟨h0, x, hx, hj.symm⟩
theorem Jn.ends {ts : List Lg} {i a b c d : Int} (h : Jn ts i a b) (k : Jn ts i c d) : (c = a ∧ d = b) ∨ (c = b ∧ d = a) := by
  obtain ⟨h0, x, hx, hj⟩ := h
  obtain ⟨-, y, hy, kj⟩ := k
  rw [hx] at hy
  obtain rfl := Option.some.inj hy
  exact hj.ends kj
inductive Grow (ts : List Lg) : List Int → List Int → Prop
  | zero : Grow ts [0] []
  | more {V E : List Int} {i p c : Int} : Grow ts V E → p ∈ V → c ∉ V → Jn ts i p c → Grow ts (c :: V) (i :: E)
theorem Grow.ends {ts : List Lg} {V E : List Int} (h : Grow ts V E) : ∀ {i a b : Int}, i ∈ E → Jn ts i a b → a ∈ V ∧ b ∈ V := by
  induction h with
  | zero => intro i a b hi; cases hi
  | more hg hp hc hj ih =>
    intro j a b hi hk
    rcases List.mem_cons.1 hi with e | hi
    · rw [e] at hk
      rcases hj.ends hk with ⟨e1, e2⟩ | ⟨e1, e2⟩
      · rw [e1, e2]; exact ⟨List.mem_cons_of_mem _ hp, List.mem_cons_self ..⟩
      · rw [e1, e2]; exact ⟨List.mem_cons_self .., List.mem_cons_of_mem _ hp⟩
    · have := ih hi hk
      exact ⟨List.mem_cons_of_mem _ this.1, List.mem_cons_of_mem _ this.2⟩
theorem Grow.new {ts : List Lg} {V E : List Int} (h : Grow ts V E) {i p c : Int} (hc : c ∉ V) (hj : Jn ts i p c) : i ∉ E := fun hi => hc (h.ends hi hj).2
section
variable {ts : List Lg} {V E : List Int} {i p c : Int}
end
def Gr (ts : List Lg) (s : Net) : Prop := ∃ V E, Grow ts V E ∧ (∀ v, v ∈ V ↔ v ∈ s.ps) ∧ (∀ i, i ∈ E ↔ i ∈ s.tr) ∧ E.length = s.tr.length
theorem gr_start (ts : List Lg) : Gr ts nt.start := ⟨[0], [], .zero, fun v => Iff.rfl, fun i => Iff.rfl, rfl⟩
theorem gr_leg {ts : List Lg} {s : Net} {k : Nat} {x : Lg} (h : Gr ts s) (hx : ts[k]? = some x) : Gr ts (leg1 x k s) := by
  obtain ⟨V, E, hg, hV, hE, hl⟩ := h
  have grow : ∀ {p c : Int} {P : List Sf}, p ∈ s.ps → c ∉ s.ps → Jo x p c → Gr ts ⟨P, put s.ps c, put s.tr (k : Int)⟩ := fun {p c P} hp hc hj => by
    have hc' : c ∉ V := fun q => hc ((hV c).1 q)
    have hJ : Jn ts (k : Int) p c := ⟨by omega, x, by rw [Int.toNat_natCast]; exact hx, hj⟩
    have hn := hg.new hc' hJ
    refine ⟨c :: V, (k : Int) :: E, hg.more ((hV p).2 hp) hc' hJ, fun v => ?_, fun i => ?_, ?_⟩
    · rw [List.mem_cons, hV v]; exact mem_put.symm
    · rw [List.mem_cons, hE i]; exact mem_put.symm
    · show _ = (put s.tr (k : Int)).length
      rw [put_len_new (fun q => hn ((hE _).2 q)), List.length_cons, hl]
  cases ha : mem s.ps x.frm
  · cases hb : mem s.ps x.to_
    · rw [leg1_no (by rw [does_marks ha hb]; rfl)]; exact ⟨V, E, hg, hV, hE, hl⟩
    · rw [leg1_bwd ha hb]
      exact grow (mem_iff.1 hb) (fun q => by rw [mem_iff.2 q] at ha; cases ha) (.inr ⟨rfl, rfl⟩)
  · cases hb : mem s.ps x.to_
    · rw [leg1_fwd ha hb]
      exact grow (mem_iff.1 ha) (fun q => by rw [mem_iff.2 q] at hb; cases hb) (.inl ⟨rfl, rfl⟩)
    · rw [leg1_no (by rw [does_marks ha hb]; rfl)]; exact ⟨V, E, hg, hV, hE, hl⟩
theorem gr_legs {ts : List Lg} {s : Net} (h : Gr ts s) : ∀ k, Gr ts (legsN ts s k)
  | 0 => h
  | k + 1 => by
    cases e : ts[k]? with
    | none => have e2 : legsN ts s (k + 1) = legsN ts s k := by show (match ts[k]? with | some x => _ | none => _) = _; rw [e]
              rw [e2]; exact gr_legs h k
    | some x => rw [legsN_succ e]; exact gr_leg (gr_legs h k) e
theorem gr_passes (ts : List Lg) : ∀ k, Gr ts (passes ts k)
  | 0 => gr_start ts
  | k + 1 => gr_legs (gr_passes ts k) _
theorem gr_net (ts : List Lg) : Gr ts (net ts) := gr_passes ts 9
inductive Rc (L : Lg → Prop) : Int → Int → Prop
  | refl (a : Int) : Rc L a a
  | step {x : Lg} {a o b : Int} : L x → Jo x a o → Rc L o b → Rc L a b
theorem Rc.one {L : Lg → Prop} {x : Lg} {a b : Int} (h : L x) (hj : Jo x a b) : Rc L a b := .step h hj (.refl b)
theorem Rc.trans {L : Lg → Prop} {a b c : Int} (h : Rc L a b) (k : Rc L b c) : Rc L a c := by
  induction h with
  | refl a => exact k
  | step hx hj _ ih => exact .step hx hj (ih k)
theorem Rc.symm {L : Lg → Prop} {a b : Int} (h : Rc L a b) : Rc L b a := by
  induction h with
  | refl a => exact .refl a
  | step hx hj _ ih => exact ih.trans (.one hx hj.symm)
theorem Rc.mono {L M : Lg → Prop} (hm : ∀ x, L x → M x) {a b : Int} (h : Rc L a b) : Rc M a b := by
  induction h with
  | refl a => exact .refl a
  | step hx hj _ ih => exact .step (hm _ hx) hj ih
theorem Rc.over {L M : Lg → Prop} (hm : ∀ x, L x → Rc M x.frm x.to_) {a b : Int} (h : Rc L a b) : Rc M a b := by
  induction h with
  | refl a => exact .refl a
  | step hx hj _ ih =>
    rcases hj with ⟨e1, e2⟩ | ⟨e1, e2⟩
    · rw [← e1]; rw [← e2] at ih; exact (hm _ hx).trans ih
    · rw [← e1]; rw [← e2] at ih; exact (hm _ hx).symm.trans ih
def By (ts : List Lg) (O : Int → Prop) (x : Lg) : Prop := ∃ i : Int, O i ∧ 0 ≤ i ∧ ts[i.toNat]? = some x
theorem Grow.reach {ts : List Lg} {V E : List Int} (h : Grow ts V E) : ∀ v ∈ V, Rc (By ts (· ∈ E)) 0 v := by
  induction h with
  | zero =>
    intro v hv
    have : v = 0 := by simpa using hv
    rw [this]; exact .refl 0
  | @more V E i p c hg hp hc hj ih =>
    intro v hv
    have up : ∀ x, By ts (· ∈ E) x → By ts (· ∈ i :: E) x := fun x ⟨k, hk, r⟩ => ⟨k, List.mem_cons_of_mem _ hk, r⟩
    rcases List.mem_cons.1 hv with e | e
    · rw [e]
      obtain ⟨h0, x, hx, hJ⟩ := hj
      exact ((ih p hp).mono up).trans (.one ⟨i, List.mem_cons_self .., h0, hx⟩ hJ)
    · exact (ih v e).mono up
theorem tree_reach {ts : List Lg} {v : Int} (h : v ∈ (net ts).ps) : Rc (By ts (· ∈ (net ts).tr)) 0 v := by
  obtain ⟨V, E, hg, hV, hE, -⟩ := gr_net ts
  exact (hg.reach v ((hV v).2 h)).mono (fun x ⟨k, hk, r⟩ => ⟨k, (hE k).1 hk, r⟩)
theorem reach_placed {ts : List Lg} (hg : goodLg ts = true) {a b : Int} (h : Rc (· ∈ ts) a b) : a ∈ (net ts).ps → b ∈ (net ts).ps := by
  induction h with
  | refl a => exact id
  | @step x a o b hx hj _ ih =>
    intro ha
    obtain ⟨i, hi⟩ := List.getElem?_of_mem hx
    have k := net_ends hg hi
    apply ih
    rcases hj with ⟨e1, e2⟩ | ⟨e1, e2⟩
    · rw [← e2]; rw [← e1] at ha; exact mem_iff.1 (by rw [← k]; exact mem_iff.2 ha)
    · rw [← e2]; rw [← e1] at ha; exact mem_iff.1 (by rw [k]; exact mem_iff.2 ha)
theorem placed_iff {ts : List Lg} (hg : goodLg ts = true) (v : Int) : v ∈ (net ts).ps ↔ Rc (· ∈ ts) 0 v :=
  ⟨fun h => (tree_reach h).mono (fun x ⟨k, _, _, r⟩ => List.mem_of_getElem? r), fun h => reach_placed hg h (ok_net hg).2.2.2.2.2.1⟩
inductive Wy (ts : List Lg) (O : Int → Prop) (z e : Int) : List (Int × Int) → Prop
  | one : Wy ts O z e [(z, e)]
  | more {t j s i : Int} {P : List (Int × Int)} : O j → Jn ts j t s → t ∉ ((s, i) :: P).map Prod.fst → Wy ts O z e ((s, i) :: P) → Wy ts O z e ((t, j) :: (s, i) :: P)
def hd : List (Int × Int) → Int
  | [] => 0
  | p :: _ => p.1
section
variable {ts : List Lg} {O : Int → Prop} {z e : Int}
theorem Wy.ne {W : List (Int × Int)} (h : Wy ts O z e W) : W ≠ [] := by cases h <;> simp
theorem Wy.nodup {W : List (Int × Int)} (h : Wy ts O z e W) : (W.map Prod.fst).Nodup := by
  induction h with
  | one => simp
  | more _ _ hn _ ih => rw [List.map_cons]; exact List.nodup_cons.2 ⟨hn, ih⟩
theorem Wy.tail : ∀ {Q P : List (Int × Int)}, P ≠ [] → Wy ts O z e (Q ++ P) → Wy ts O z e P
  | [], _, _, h => h
  | [q], P, hp, h => by
    cases P with
    | nil => exact absurd rfl hp
    | cons p P => cases h with
      | more _ _ _ h => exact h
  | q :: r :: Q, P, hp, h => by
    cases h with
    | more _ _ _ h => exact Wy.tail (Q := _ :: Q) hp h
theorem Wy.reach {W : List (Int × Int)} (h : Wy ts O z e W) : Rc (By ts O) (hd W) z := by
  induction h with
  | one => exact .refl z
  | more ho hj _ _ ih =>
    obtain ⟨h0, x, hx, hJ⟩ := hj
    exact .step ⟨_, ho, h0, hx⟩ hJ ih
theorem Wy.from {W : List (Int × Int)} (h : Wy ts O z e W) : ∀ a, a ∈ W.map Prod.fst → ∃ W', Wy ts O z e W' ∧ hd W' = a := by
  induction h with
  | one => intro a ha; exact ⟨_, .one, by simpa [hd] using (show a = z by simpa using ha).symm⟩
  | @more t j s i P ho hj hn h ih =>
    intro a ha
    rw [List.map_cons] at ha
    rcases List.mem_cons.1 ha with e1 | e1
    · exact ⟨_, .more ho hj hn h, e1.symm⟩
    · exact ih a e1
theorem wy_of_reach (z e : Int) {a : Int} (h : Rc (By ts O) a z) : ∃ W, Wy ts O z e W ∧ hd W = a := by
  induction h with
  | refl z => exact ⟨_, .one, rfl⟩
  | @step x a o z hx hj _ ih =>
    obtain ⟨W, hW, ho⟩ := ih
    by_cases ha : a ∈ W.map Prod.fst
    · exact hW.from a ha
    · obtain ⟨i, hi, h0, hx⟩ := hx
      cases W with
      | nil => exact absurd rfl hW.ne
      | cons p P =>
        obtain ⟨s, k⟩ := p
        have es : s = o := ho
        exact ⟨(a, i) :: (s, k) :: P, .more hi ⟨h0, x, hx, by rw [es]; exact hj⟩ ha hW, rfl⟩
end
end Go.Proofs.YtjlkgijaceplcabGreatDoor.lp
namespace Go.Proofs.YtjlkgijaceplcabGreatDoor.lp
open Go.RowKit
open reads base ty lg hs nt
set_option linter.unusedVariables false
def legAt (ts : List Lg) (i : Int) : Lg := (ts[i.toNat]?).getD ⟨0, 0, 0, 0, 0⟩
theorem legAt_is {ts : List Lg} {i : Int} {x : Lg} (h : ts[i.toNat]? = some x) : legAt ts i = x := by unfold legAt; rw [h]; rfl
theorem clN_iff {ts : List Lg} {s : Net} : ∀ k, k ≤ ts.length → ∀ i, i ∈ clN ts s k ↔ (0 ≤ i ∧ i < k ∧ ∃ x, ts[i.toNat]? = some x ∧ x.frm ∈ s.ps ∧ i ∉ s.tr)
  | 0, _, i => by simp [clN]; omega
  | k + 1, hk, i => by
    have ih := clN_iff (ts := ts) (s := s) k (by omega) i
    obtain ⟨x, e⟩ : ∃ x, ts[k]? = some x := ⟨_, List.getElem?_eq_getElem (by omega)⟩
    have tob : ∀ {l : List Int} {a : Int}, mem l a = false ↔ a ∉ l := fun {l a} => by
      rw [← mem_iff]; cases mem l a <;> simp
    cases h : (mem s.ps x.frm && !mem s.tr (k : Int))
    · rw [clN_no e h, ih]
      constructor
      · rintro ⟨a, b, c⟩; exact ⟨a, by omega, c⟩
      · rintro ⟨a, b, y, hy, c, d⟩
        refine ⟨a, ?_, y, hy, c, d⟩
        have : i ≠ k := by
          rintro rfl
          rw [Int.toNat_natCast, e] at hy
          obtain rfl := Option.some.inj hy
          rw [mem_iff.2 c, tob.2 d] at h; cases h
        omega
    · rw [Bool.and_eq_true, Bool.not_eq_true'] at h
      rw [clN_yes e h.1 h.2, List.mem_append, ih, List.mem_singleton]
      constructor
      · rintro (⟨a, b, c⟩ | rfl)
        · exact ⟨a, by omega, c⟩
        · exact ⟨by omega, by omega, x, by rw [Int.toNat_natCast]; exact e, mem_iff.1 h.1, tob.1 h.2⟩
      · rintro ⟨a, b, y, hy, c, d⟩
        by_cases q : i = k
        · exact .inr q
        · exact .inl ⟨a, by omega, y, hy, c, d⟩
def along (ts : List Lg) (i a : Int) : Sf := if (legAt ts i).frm = a then shf (legAt ts i) else sub3 zero3 (shf (legAt ts i))
def less (ts : List Lg) (k : Nat) : List Lg := ts.take k ++ ts.drop (k + 1)
theorem less_good {ts : List Lg} (hg : goodLg ts = true) (k : Nat) : goodLg (less ts k) = true := by
  unfold goodLg
  rw [Bool.and_eq_true, List.all_eq_true, decide_eq_true_eq]
  refine ⟨fun x hx => ?_, ?_⟩
  · rcases List.mem_append.1 hx with q | q
    · obtain ⟨j, hj⟩ := List.getElem?_of_mem (List.mem_of_mem_take q)
      exact goodLg_at hg hj
    · obtain ⟨j, hj⟩ := List.getElem?_of_mem (List.mem_of_mem_drop q)
      exact goodLg_at hg hj
  · have := goodLg_len hg
    unfold less
    rw [List.length_append, List.length_take, List.length_drop]; omega
def other (k : Nat) (i : Int) : Prop := i ≠ k
theorem less_mem {ts : List Lg} {k : Nat} (hk : k < ts.length) (x : Lg) : x ∈ less ts k ↔ By ts (other k) x := by
  unfold less
  rw [List.mem_append]
  constructor
  · rintro (h | h)
    · obtain ⟨j, hj⟩ := List.getElem?_of_mem h
      have hjk : j < k := by have := (List.getElem?_eq_some_iff.1 hj).1; rw [List.length_take] at this; omega
      rw [List.getElem?_take_of_lt hjk] at hj
      exact ⟨(j : Int), by unfold other; omega, by omega, by rw [Int.toNat_natCast]; exact hj⟩
    · obtain ⟨j, hj⟩ := List.getElem?_of_mem h
      rw [List.getElem?_drop] at hj
      refine ⟨((k + 1 + j : Nat) : Int), by unfold other; omega, by omega, by rw [Int.toNat_natCast]; exact hj⟩
  · rintro ⟨i, hi, h0, hx⟩
    obtain ⟨j, rfl⟩ := Int.eq_ofNat_of_zero_le h0
    rw [Int.toNat_natCast] at hx
    unfold other at hi
    rcases Nat.lt_or_ge j k with q | q
    · exact .inl (List.mem_of_getElem? (by rw [List.getElem?_take_of_lt q]; exact hx))
    · refine .inr (List.mem_of_getElem? (i := j - (k + 1)) ?_)
      rw [List.getElem?_drop, show k + 1 + (j - (k + 1)) = j by omega]; exact hx
def brB (ts : List Lg) (k : Nat) : Bool := !mem (net (less ts k)).ps (legAt ts k).frm || !mem (net (less ts k)).ps (legAt ts k).to_
theorem br_iff {ts : List Lg} (hg : goodLg ts = true) {k : Nat} {x : Lg} (hx : ts[k]? = some x) (hf : x.frm ∈ (net ts).ps) : brB ts k = false ↔ Rc (By ts (other k)) x.to_ x.frm := by
  have hk : k < ts.length := (List.getElem?_eq_some_iff.1 hx).1
  have hl : legAt ts (k : Int) = x := legAt_is (by rw [Int.toNat_natCast]; exact hx)
  have hgl := less_good hg k
  unfold brB
  rw [hl, Bool.or_eq_false_iff, Bool.not_eq_false', Bool.not_eq_false', mem_iff, mem_iff, placed_iff hgl, placed_iff hgl]
  have to_ : ∀ {a b}, Rc (· ∈ less ts k) a b ↔ Rc (By ts (other k)) a b := fun {a b} => ⟨fun h => h.mono (fun y hy => (less_mem hk y).1 hy), fun h => h.mono (fun y hy => (less_mem hk y).2 hy)⟩
  rw [to_, to_]
  constructor
  · rintro ⟨h1, h2⟩; exact h2.symm.trans h1
  · intro h
    have all : Rc (By ts (other k)) 0 x.frm := ((placed_iff hg x.frm).1 hf).over (fun y hy => by
      obtain ⟨j, hj⟩ := List.getElem?_of_mem hy
      by_cases e : j = k
      · subst e
        rw [hx] at hj
        obtain rfl := Option.some.inj hj
        exact h.symm
      · exact .one ⟨(j : Int), by unfold other; omega, by omega, by rw [Int.toNat_natCast]; exact hj⟩ (.inl ⟨rfl, rfl⟩))
    exact ⟨all, all.trans h.symm⟩
def brAt (ts : List Lg) (i : Int) : Bool := match ts[i.toNat]? with
  | some x => mem (net ts).ps x.frm
  | none => false
def brOk (ts : List Lg) (i : Int) : Bool := goodLg ts && (btw 0 i ((ts.length : Int) - 1) && brAt ts i)
end Go.Proofs.YtjlkgijaceplcabGreatDoor.lp
namespace Go.Proofs.YtjlkgijaceplcabGreatDoor.lp
open Go.RowKit
open reads base ty lg hs nt
set_option linter.unusedVariables false
theorem Jn.bd {ts : List Lg} (hg : goodLg ts = true) {j s t : Int} (h : Jn ts j s t) : (0 ≤ s ∧ s ≤ 7) ∧ (0 ≤ t ∧ t ≤ 7) := by
  obtain ⟨-, x, hx, hJ⟩ := h
  obtain ⟨l1, l2, -⟩ := okLg_lim (goodLg_at hg hx)
  unfold Jo at hJ
  omega
end Go.Proofs.YtjlkgijaceplcabGreatDoor.lp
namespace Go.Proofs.YtjlkgijaceplcabGreatDoor.lp
open Go.RowKit
open reads base ty lg hs nt
set_option linter.unusedVariables false
def Opn (bs : List Bool) (j : Int) : Prop := bs[j.toNat]? = some true
def exR (ts : List Lg) (bs : List Bool) : Nat → Int → List (Int × Int)
  | 0, _ => []
  | k + 1, s => match ts[k]?, bs[k]? with
    | some x, some true => if x.frm = s then exR ts bs k s ++ [((k : Int), x.to_)] else if x.to_ = s then exR ts bs k s ++ [((k : Int), x.frm)] else exR ts bs k s
    | _, _ => exR ts bs k s
section
variable {ts : List Lg} {bs : List Bool} {k : Nat} {s : Int} {x : Lg}
theorem exR_shut (hx : ts[k]? = some x) (hb : bs[k]? = some false) : exR ts bs (k + 1) s = exR ts bs k s := by
  rw [exR, hx, hb]
theorem exR_frm (hx : ts[k]? = some x) (hb : bs[k]? = some true) (h : x.frm = s) : exR ts bs (k + 1) s = exR ts bs k s ++ [((k : Int), x.to_)] := by
  rw [exR, hx, hb]; exact if_pos h
theorem exR_to (hx : ts[k]? = some x) (hb : bs[k]? = some true) (h : ¬ x.frm = s) (h2 : x.to_ = s) : exR ts bs (k + 1) s = exR ts bs k s ++ [((k : Int), x.frm)] := by
  rw [exR, hx, hb]; exact (if_neg h).trans (if_pos h2)
theorem exR_no (hx : ts[k]? = some x) (hb : bs[k]? = some true) (h : ¬ x.frm = s) (h2 : ¬ x.to_ = s) : exR ts bs (k + 1) s = exR ts bs k s := by
  rw [exR, hx, hb]; exact (if_neg h).trans (if_neg h2)
end
theorem exR_len (ts : List Lg) (bs : List Bool) (s : Int) : ∀ k, (exR ts bs k s).length ≤ k
  | 0 => Nat.le_refl _
  | k + 1 => by
    have ih := exR_len ts bs s k
    rw [exR]
    split
    · split
      · rw [List.length_append]; simp; omega
      · split
        · rw [List.length_append]; simp; omega
        · omega
    · omega
theorem exR_mem {ts : List Lg} {bs : List Bool} {s : Int} (hne : ∀ x ∈ ts, ¬ x.frm = x.to_) : ∀ k, k ≤ ts.length → ∀ j t, (j, t) ∈ exR ts bs k s ↔ (Opn bs j ∧ j < k ∧ Jn ts j s t)
  | 0, _, j, t => by
    constructor
    · intro h; cases h
    · rintro ⟨-, h, h0, -⟩; omega
  | k + 1, hk, j, t => by
    have ih := exR_mem (bs := bs) (s := s) hne k (by omega) j t
    obtain ⟨x, hx⟩ : ∃ x, ts[k]? = some x := ⟨_, List.getElem?_eq_getElem (by omega)⟩
    have hxn := hne x (List.mem_of_getElem? hx)
    have more : (Opn bs j ∧ j < (k : Int) ∧ Jn ts j s t) → (Opn bs j ∧ j < ((k + 1 : Nat) : Int) ∧ Jn ts j s t) := fun ⟨a, b, c⟩ => ⟨a, by omega, c⟩
    have less_ : (Opn bs j ∧ j < ((k + 1 : Nat) : Int) ∧ Jn ts j s t) → j = k ∨ (Opn bs j ∧ j < (k : Int) ∧ Jn ts j s t) := fun ⟨a, b, c⟩ => by
      by_cases e : j = k
      · exact .inl e
      · exact .inr ⟨a, by omega, c⟩
    have own_ : Jn ts (k : Int) s t → Jo x s t := fun ⟨_, y, hy, hj⟩ => by
      rw [Int.toNat_natCast, hx] at hy
      obtain rfl := Option.some.inj hy
      exact hj
    have mk : Jo x s t → bs[k]? = some true → (Opn bs (k : Int) ∧ (k : Int) < ((k + 1 : Nat) : Int) ∧ Jn ts (k : Int) s t) := fun hj hb => ⟨by unfold Opn; rw [Int.toNat_natCast]; exact hb, by omega, by omega, x, by rw [Int.toNat_natCast]; exact hx, hj⟩
    have shut : ¬ bs[k]? = some true → exR ts bs (k + 1) s = exR ts bs k s := fun hb => by
      rw [exR, hx]
      split
      · rename_i h1 h2; exact absurd h2 hb
      · rfl
    by_cases hb : bs[k]? = some true
    · by_cases hf : x.frm = s
      · rw [exR_frm hx hb hf, List.mem_append, ih, List.mem_singleton]
        constructor
        · rintro (h | h)
          · exact more h
          · obtain ⟨rfl, rfl⟩ := Prod.mk.inj h
            exact mk (.inl ⟨hf, rfl⟩) hb
        · intro h
          rcases less_ h with rfl | h2
          · have := (own_ h.2.2).far
            exact .inr (by rw [show t = x.to_ by omega])
          · exact .inl h2
      · by_cases ht : x.to_ = s
        · rw [exR_to hx hb hf ht, List.mem_append, ih, List.mem_singleton]
          constructor
          · rintro (h | h)
            · exact more h
            · obtain ⟨rfl, rfl⟩ := Prod.mk.inj h
              exact mk (.inr ⟨ht, rfl⟩) hb
          · intro h
            rcases less_ h with rfl | h2
            · have := (own_ h.2.2).far
              exact .inr (by rw [show t = x.frm by omega])
            · exact .inl h2
        · rw [exR_no hx hb hf ht, ih]
          constructor
          · exact more
          · intro h
            rcases less_ h with rfl | h2
            · have := own_ h.2.2
              unfold Jo at this; omega
            · exact h2
    · rw [shut hb, ih]
      constructor
      · exact more
      · intro h
        rcases less_ h with rfl | h2
        · exfalso
          have := h.1
          unfold Opn at this
          rw [Int.toNat_natCast] at this
          exact hb this
        · exact h2
theorem good_ne {ts : List Lg} (hg : goodLg ts = true) : ∀ x ∈ ts, ¬ x.frm = x.to_ := fun x hx => by
  obtain ⟨i, hi⟩ := List.getElem?_of_mem hx
  exact (okLg_lim (goodLg_at hg hi)).2.2.1
section
variable {ts : List Lg} {O : Int → Prop} {z e : Int}
theorem Wy.last {W : List (Int × Int)} (h : Wy ts O z e W) : ∃ Q, W = Q ++ [(z, e)] := by
  induction h with
  | one => exact ⟨[], rfl⟩
  | @more t j s i P h1 h2 h3 _ ih =>
    obtain ⟨Q, hQ⟩ := ih
    exact ⟨(t, j) :: Q, by rw [hQ]; rfl⟩
theorem Wy.bd (hg : goodLg ts = true) (hz : 0 ≤ z ∧ z ≤ 7) {W : List (Int × Int)} (h : Wy ts O z e W) : ∀ s ∈ W.map Prod.fst, 0 ≤ s ∧ s ≤ 7 := by
  induction h with
  | one => intro s hs; rw [show s = z by simpa using hs]; exact hz
  | more h1 h2 h3 _ ih =>
    intro s hs
    rw [List.map_cons] at hs
    rcases List.mem_cons.1 hs with q | q
    · rw [q]; exact (h2.bd hg).1
    · exact ih s q
theorem nodup_len : ∀ (n : Nat) (l : List Int), l.Nodup → (∀ s ∈ l, 0 ≤ s ∧ s < n) → l.length ≤ n
  | 0, l, _, h => by
    cases l with
    | nil => exact Nat.le_refl _
    | cons a l => have := h a (List.mem_cons_self ..); omega
  | n + 1, l, hn, h => by
    by_cases hm : (n : Int) ∈ l
    · have h1 := nodup_len n (l.erase (n : Int)) (hn.erase _) (fun s hs => by
        have h2 := (hn.mem_erase_iff).1 hs
        have := h s h2.2
        have := h2.1
        omega)
      rw [List.length_erase_of_mem hm] at h1
      omega
    · have := nodup_len n l hn (fun s hs => by
        have := h s hs
        have : s ≠ n := fun e => hm (by rw [← e]; exact hs)
        omega)
      omega
theorem Wy.len (hg : goodLg ts = true) (hz : 0 ≤ z ∧ z ≤ 7) {W : List (Int × Int)} (h : Wy ts O z e W) : W.length ≤ 8 := by
  have h1 := nodup_len 8 _ h.nodup (fun s hs => by have := h.bd hg hz s hs; omega)
  rwa [List.length_map] at h1
def NoWay (ts : List Lg) (O : Int → Prop) (z e st : Int) (P : List (Int × Int)) : Prop := ∀ Q, Wy ts O z e (Q ++ P) → ¬ hd (Q ++ P) = st
theorem shut_all {st s i : Int} {P : List (Int × Int)} (hne : ¬ s = st) (h : ∀ j t, O j → Jn ts j s t → t ∉ ((s, i) :: P).map Prod.fst → NoWay ts O z e st ((t, j) :: (s, i) :: P)) : NoWay ts O z e st ((s, i) :: P) := by
  intro Q hQ hh
  rcases List.eq_nil_or_concat Q with q | ⟨Q', p, q⟩
  · rw [q] at hh; exact hne hh
  · obtain ⟨t, j⟩ := p
    have e1 : Q ++ (s, i) :: P = Q' ++ (t, j) :: (s, i) :: P := by rw [q]; simp
    rw [e1] at hQ hh
    have h1 := Wy.tail (by simp) hQ
    cases h1 with
    | more h1 h2 h3 _ => exact h j t h1 h2.symm h3 Q' hQ hh
theorem shut_seen {st t j : Int} {P : List (Int × Int)} (h : t ∈ P.map Prod.fst) : NoWay ts O z e st ((t, j) :: P) := by
  intro Q hQ
  exfalso
  have h1 := (Wy.tail (by simp) hQ).nodup
  rw [List.map_cons, List.nodup_cons] at h1
  exact h1.1 h
end
def otherB (n k : Nat) : List Bool := (List.range 12).map fun q => decide (q < n) && !decide (q = k)
theorem op_other {ts : List Lg} {n k : Nat} (hL : ts.length = n) (hn : n ≤ 12) : ∀ x, By ts (Opn (otherB n k)) x ↔ By ts (other k) x := fun x => by
  constructor
  · rintro ⟨i, hi, h0, hx⟩
    refine ⟨i, ?_, h0, hx⟩
    obtain ⟨q, rfl⟩ := Int.eq_ofNat_of_zero_le h0
    unfold Opn otherB at hi
    rw [Int.toNat_natCast, List.getElem?_map] at hi
    obtain ⟨a, ha, hb⟩ := Option.map_eq_some_iff.1 hi
    have : a = q := by have := (List.getElem?_eq_some_iff.1 ha).2; simpa using this.symm
    subst this
    unfold other
    simp at hb
    omega
  · rintro ⟨i, hi, h0, hx⟩
    refine ⟨i, ?_, h0, hx⟩
    obtain ⟨q, rfl⟩ := Int.eq_ofNat_of_zero_le h0
    have hq : q < ts.length := by rw [Int.toNat_natCast] at hx; exact lt_at hx
    unfold other at hi
    unfold Opn otherB
    rw [Int.toNat_natCast, List.getElem?_map, List.getElem?_range (by omega)]
    simp; omega
theorem need_is {ts : List Lg} (hg : goodLg ts = true) {k : Nat} {x : Lg} (hx : ts[k]? = some x) (hf : x.frm ∈ (net ts).ps) : brB ts k = true ↔ ∀ W, Wy ts (Opn (otherB ts.length k)) x.frm (k : Int) W → ¬ hd W = x.to_ := by
  have hb := br_iff hg hx hf
  have h12 := goodLg_len hg
  constructor
  · intro h W hW hh
    have h1 := hW.reach
    rw [hh] at h1
    have h2 := hb.2 (h1.mono (fun y hy => (op_other rfl h12 y).1 hy))
    rw [h] at h2; cases h2
  · intro h
    cases q : brB ts k
    · obtain ⟨W, hW, e⟩ := wy_of_reach x.frm (k : Int) ((hb.1 q).mono (fun y hy => (op_other rfl h12 y).2 hy))
      exact absurd e (h W hW)
    · rfl
end Go.Proofs.YtjlkgijaceplcabGreatDoor.lp
namespace Go.Proofs.YtjlkgijaceplcabGreatDoor.bl
open Go.RowKit
open reads base ty lg lgi win hs nt nq rowi sn mt ml dt pg ph lp
set_option linter.unusedVariables false
set_option linter.unusedSimpArgs false
theorem US_filter (ts : List Lg) (ax : Int) : US ts ax = (ts.filter (fun x => mem (net ts).ps x.frm)).map (edOf ax) := by
  have key : ∀ k, k ≤ ts.length → eds ts ax (plN ts k) = ((ts.take k).filter (fun x => mem (net ts).ps x.frm)).map (edOf ax) := by
    intro k hk
    induction k with
    | zero => rfl
    | succ k ih =>
      have ih := ih (by omega)
      obtain ⟨x, hx⟩ := at_lt rfl (show k < ts.length by omega)
      rw [take_snoc hx, List.filter_append, List.map_append, ← ih]
      cases q : mem (net ts).ps x.frm
      · rw [show plN ts (k + 1) = plN ts k from rowi.idxs_no hx q]; simp [q]
      · rw [show plN ts (k + 1) = plN ts k ++ [(k : Int)] from rowi.idxs_yes hx q]
        unfold eds; rw [List.map_append]; simp [q, lgAt_is hx]
  have h := key ts.length (Nat.le_refl _)
  rw [List.take_length] at h; exact h
theorem asc_ext : ∀ {a b : List Int}, a.Pairwise (· < ·) → b.Pairwise (· < ·) → (∀ x, x ∈ a ↔ x ∈ b) → a = b
  | [], [], _, _, _ => rfl
  | [], y :: b, _, _, h => absurd ((h y).2 (List.mem_cons_self ..)) (by simp)
  | x :: a, [], _, _, h => absurd ((h x).1 (List.mem_cons_self ..)) (by simp)
  | x :: a, y :: b, ha, hb, h => by
    have a1 := List.pairwise_cons.1 ha
    have b1 := List.pairwise_cons.1 hb
    have e : x = y := by
      rcases List.mem_cons.1 ((h x).1 (List.mem_cons_self ..)) with q | q
      · exact q
      · rcases List.mem_cons.1 ((h y).2 (List.mem_cons_self ..)) with r | r
        · exact r.symm
        · have := b1.1 x q; have := a1.1 y r; omega
    subst e
    rw [asc_ext a1.2 b1.2 (fun z => ?_)]
    constructor
    · intro hz
      rcases List.mem_cons.1 ((h z).1 (List.mem_cons_of_mem _ hz)) with q | q
      · have := a1.1 z hz; omega
      · exact q
    · intro hz
      rcases List.mem_cons.1 ((h z).2 (List.mem_cons_of_mem _ hz)) with q | q
      · have := b1.1 z hz; omega
      · exact q
theorem less_ps {ts : List Lg} (hg : goodLg ts = true) {k : Nat} {x : Lg} (hx : ts[k]? = some x) (hf : x.frm ∈ (net ts).ps) (hb : brB ts k = false) : (net (less ts k)).ps = (net ts).ps := by
  have hk : k < ts.length := (List.getElem?_eq_some_iff.1 hx).1
  have hgl := less_good hg k
  have h := (br_iff hg hx hf).1 hb
  refine asc_ext (ok_net hgl).2.1 (ok_net hg).2.1 (fun v => ?_)
  rw [placed_iff hgl, placed_iff hg]
  constructor
  · intro q
    exact q.mono (fun y hy => by
      rcases List.mem_append.1 hy with z | z
      · exact List.mem_of_mem_take z
      · exact List.mem_of_mem_drop z)
  · intro q
    refine q.over (fun y hy => ?_)
    obtain ⟨j, hj⟩ := List.getElem?_of_mem hy
    by_cases e : j = k
    · subst e
      rw [hx] at hj
      obtain rfl := Option.some.inj hj
      exact h.symm.mono (fun y hy => (less_mem hk y).2 hy)
    · exact .one ((less_mem hk y).2 ⟨(j : Int), by unfold other; omega, by omega, by rw [Int.toNat_natCast]; exact hj⟩) (.inl ⟨rfl, rfl⟩)
theorem split_at {ts : List Lg} {k : Nat} {x : Lg} (hx : ts[k]? = some x) : ts = ts.take k ++ x :: ts.drop (k + 1) := by
  have h := List.take_append_drop (k + 1) ts
  rw [take_snoc hx, List.append_assoc] at h
  exact h.symm
theorem US_less {ts : List Lg} (hg : goodLg ts = true) {k : Nat} {x : Lg} (hx : ts[k]? = some x) (hf : x.frm ∈ (net ts).ps) (hb : brB ts k = false) (ax : Int) :
    ∃ a b e, US ts ax = a ++ e :: b ∧ US (less ts k) ax = a ++ b ∧ stN (less ts k) = stN ts := by
  have hp := less_ps hg hx hf hb
  refine ⟨((ts.take k).filter (fun x => mem (net ts).ps x.frm)).map (edOf ax), ((ts.drop (k + 1)).filter (fun x => mem (net ts).ps x.frm)).map (edOf ax), edOf ax x, ?_, ?_, ?_⟩
  · rw [US_filter]
    have hm : mem (net ts).ps x.frm = true := mem_iff.2 hf
    have e := split_at hx
    obtain ⟨p, hp⟩ : ∃ p, (fun x : Lg => mem (net ts).ps x.frm) = p := ⟨_, rfl⟩
    have hm2 : p x = true := by rw [← hp]; exact hm
    rw [hp]
    conv => lhs; rw [e]
    rw [List.filter_append, List.map_append, List.filter_cons_of_pos hm2]; rfl
  · rw [US_filter, hp]
    unfold less
    rw [List.filter_append, List.map_append]
  · unfold stN unk; rw [hp]
theorem sme_app (a b : List Ed) (g : Ed → Int) : sme (a ++ b) g = sme a g + sme b g := by unfold sme; rw [List.map_append, List.sum_append]
theorem nw_less {a b : List Ed} {e : Ed} {l : List Nat} (h : Nw (a ++ e :: b) l) (h' : Nw (a ++ b) l) :
    DD (a ++ e :: b) l * DD (a ++ e :: b) l * sme (a ++ b) (fun x => res (a ++ b) l x * res (a ++ b) l x) ≤ DD (a ++ b) l * DD (a ++ b) l * sme (a ++ e :: b) (fun x => res (a ++ e :: b) l x * res (a ++ e :: b) l x) := by
  obtain ⟨us, hus⟩ : ∃ us, a ++ e :: b = us := ⟨_, rfl⟩
  obtain ⟨vs, hvs⟩ : ∃ vs, a ++ b = vs := ⟨_, rfl⟩
  have mono : ∀ g : Ed → Int, sme vs (fun x => g x * g x) ≤ sme us (fun x => g x * g x) := by
    intro g
    rw [← hus, ← hvs, sme_app, sme_app, sme_cons]
    have : 0 ≤ g e * g e := by rcases Int.le_total 0 (g e) with q | q; exact Int.mul_nonneg q q; exact Int.mul_nonneg_of_nonpos_of_nonpos q q
    omega
  rw [hus] at h ⊢
  rw [hvs] at h' ⊢
  have hb := h'.balanced_with (fun s => DD us l * XX vs l s - DD vs l * XX us l s)
  have hs := sme_sq_nonneg vs (fun x => (DD us l * XX vs l x.t - DD vs l * XX us l x.t) - (DD us l * XX vs l x.f - DD vs l * XX us l x.f))
  have key : ∀ x, DD vs l * res us l x = DD us l * res vs l x + ((DD us l * XX vs l x.t - DD vs l * XX us l x.t) - (DD us l * XX vs l x.f - DD vs l * XX us l x.f)) := by
    intro x; unfold res; grind
  have m := mono (res us l)
  obtain ⟨D, hD⟩ : ∃ D, DD us l = D := ⟨_, rfl⟩
  obtain ⟨E, hE⟩ : ∃ E, DD vs l = E := ⟨_, rfl⟩
  rw [hD] at hb hs key ⊢
  rw [hE] at hb hs key ⊢
  obtain ⟨z, hz⟩ : ∃ z : Ed → Int, (fun x : Ed => (D * XX vs l x.t - E * XX us l x.t) - (D * XX vs l x.f - E * XX us l x.f)) = z := ⟨_, rfl⟩
  have hz2 : ∀ x : Ed, (D * XX vs l x.t - E * XX us l x.t) - (D * XX vs l x.f - E * XX us l x.f) = z x := fun x => by rw [← hz]
  simp only [hz2] at hb hs key
  have e1 : E * E * sme vs (fun x => res us l x * res us l x) = D * D * sme vs (fun x => res vs l x * res vs l x) + 2 * D * sme vs (fun x => z x * res vs l x) + sme vs (fun x => z x * z x) := by
    have q1 : E * E * sme vs (fun x => res us l x * res us l x) = sme vs (fun x => (E * E) * (res us l x * res us l x) + 0 * (res us l x)) := by rw [sme_lin]; omega
    have q2 : sme vs (fun x => (E * E) * (res us l x * res us l x) + 0 * (res us l x)) = sme vs (fun x => 1 * ((D * D) * (res vs l x * res vs l x) + (2 * D) * (z x * res vs l x)) + 1 * (z x * z x)) := sme_congr (fun x _ => by
      have k := key x
      have k2 : (E * res us l x) * (E * res us l x) = (D * res vs l x + z x) * (D * res vs l x + z x) := by rw [k]
      grind)
    rw [q1, q2, sme_lin, sme_lin]; omega
  rw [hb] at e1
  have e2 : E * E * sme vs (fun x => res us l x * res us l x) ≤ E * E * sme us (fun x => res us l x * res us l x) := by
    refine Int.mul_le_mul_of_nonneg_left m ?_
    rcases Int.le_total 0 E with q | q
    · exact Int.mul_nonneg q q
    · exact Int.mul_nonneg_of_nonpos_of_nonpos q q
  omega
theorem EE_less {ts : List Lg} (hg : goodLg ts = true) {k : Nat} {x : Lg} (hx : ts[k]? = some x) (hf : x.frm ∈ (net ts).ps) (hb : brB ts k = false) (ax : Int) : EE (less ts k) ax * TC ts ≤ EE ts ax * TC (less ts k) := by
  have hgl := less_good hg k
  obtain ⟨a, b, e, e1, e2, e3⟩ := US_less hg hx hf hb ax
  have h := nw_net hg ax
  have h' := nw_net hgl ax
  have d := DD_ax hg ax
  have d' := DD_ax hgl ax
  have s := SQ_sme hg ax
  have s' := SQ_sme hgl ax
  rw [SQ_EE hg ax] at s
  rw [SQ_EE hgl ax] at s'
  rw [e3] at h' d' s'
  rw [e1] at h d s
  rw [e2] at h' d' s'
  have q := nw_less h h'
  rw [← s, ← s', d, d'] at q
  have p := TC_pos hg
  have p' := TC_pos hgl
  obtain ⟨T, hT⟩ : ∃ T, TC ts = T := ⟨_, rfl⟩
  obtain ⟨U, hU⟩ : ∃ U, TC (less ts k) = U := ⟨_, rfl⟩
  rw [hT, hU] at q
  rw [hT] at p
  rw [hU] at p'
  rw [hT, hU]
  refine Int.le_of_mul_le_mul_left (a := T * U) ?_ (Int.mul_pos (by omega) (by omega))
  grind
theorem EK_less {ts : List Lg} (hg : goodLg ts = true) {k : Nat} {x : Lg} (hx : ts[k]? = some x) (hf : x.frm ∈ (net ts).ps) (hb : brB ts k = false) : ∀ j, EK (less ts k) j * TC ts ≤ EK ts j * TC (less ts k)
  | 0 => by simp [EK]
  | j + 1 => by
    have a := EK_less hg hx hf hb j
    have b := EE_less hg hx hf hb (j : Int)
    simp only [EK]
    rw [Int.add_mul, Int.add_mul]; omega
theorem cpI_mul {x y c : Int} (hc : 0 < c) : cpI (x * c) (y * c) = cpI x y := by
  have a : x * c < y * c ↔ x < y := ⟨fun h => Int.lt_of_mul_lt_mul_right h (by omega), fun h => Int.mul_lt_mul_of_pos_right h hc⟩
  have b : y * c < x * c ↔ y < x := ⟨fun h => Int.lt_of_mul_lt_mul_right h (by omega), fun h => Int.mul_lt_mul_of_pos_right h hc⟩
  unfold cpI; simp only [a, b]
theorem cpS_is {ts us : List Lg} (hg : goodLg ts = true) (hu : goodLg us = true) : cpS ts us = cpI (EK ts 3 * TC us) (EK us 3 * TC ts) := by
  have r1 := red_is (EK_bd hg 3 (by omega)).1 (TC_pos hg)
  have r2 := red_is (EK_bd hu 3 (by omega)).1 (TC_pos hu)
  have p1 := TC_pos hg
  have p2 := TC_pos hu
  unfold cpS snV sdV kn kd
  obtain ⟨n, hn⟩ : ∃ n, redN (EK ts 3) (TC ts) = n := ⟨_, rfl⟩
  obtain ⟨d, hd⟩ : ∃ d, redD (EK ts 3) (TC ts) = d := ⟨_, rfl⟩
  obtain ⟨m, hm⟩ : ∃ n, redN (EK us 3) (TC us) = n := ⟨_, rfl⟩
  obtain ⟨f, hf⟩ : ∃ d, redD (EK us 3) (TC us) = d := ⟨_, rfl⟩
  rw [hn, hd] at r1 ⊢
  rw [hm, hf] at r2 ⊢
  obtain ⟨e1, -, -, d0, -⟩ := r1
  obtain ⟨e2, -, -, f0, -⟩ := r2
  rw [← cpI_mul (c := TC ts * TC us) (Int.mul_pos (by omega) (by omega)), ← cpI_mul (x := EK ts 3 * TC us) (c := d * f) (Int.mul_pos (by omega) (by omega))]
  congr 1
  · rw [show n * f * (TC ts * TC us) = n * TC ts * (f * TC us) by grind, e1]; grind
  · rw [show m * d * (TC ts * TC us) = m * TC us * (d * TC ts) by grind, e2]; grind
theorem less_strain {ts : List Lg} (hg : goodLg ts = true) {k : Nat} {x : Lg} (hx : ts[k]? = some x) (hf : x.frm ∈ (net ts).ps) (hb : brB ts k = false) : cpS (less ts k) ts ≤ 0 := by
  rw [cpS_is (less_good hg k) hg]
  have h := EK_less hg hx hf hb 3
  unfold cpI
  split
  · omega
  · split <;> omega
theorem cpS_trans {a b c : List Lg} (ha : goodLg a = true) (hb : goodLg b = true) (hc : goodLg c = true) (h1 : cpS a b ≤ 0) (h2 : cpS b c ≤ 0) : cpS a c ≤ 0 ∧ (cpS a b < 0 ∨ cpS b c < 0 → cpS a c < 0) := by
  rw [cpS_is ha hb] at h1 ⊢
  rw [cpS_is hb hc] at h2 ⊢
  rw [cpS_is ha hc]
  have le : ∀ x y : Int, cpI x y ≤ 0 ↔ x ≤ y := fun x y => by unfold cpI; split; omega; split <;> omega
  have p1 := TC_pos ha
  have p2 := TC_pos hb
  have p3 := TC_pos hc
  rw [le] at h1 h2
  rw [le, cpI_lt, cpI_lt, cpI_lt]
  obtain ⟨A, hA⟩ : ∃ A, EK a 3 = A := ⟨_, rfl⟩
  obtain ⟨B, hB⟩ : ∃ A, EK b 3 = A := ⟨_, rfl⟩
  obtain ⟨C, hC⟩ : ∃ A, EK c 3 = A := ⟨_, rfl⟩
  obtain ⟨s, hs⟩ : ∃ A, TC a = A := ⟨_, rfl⟩
  obtain ⟨t, ht⟩ : ∃ A, TC b = A := ⟨_, rfl⟩
  obtain ⟨u, hu⟩ : ∃ A, TC c = A := ⟨_, rfl⟩
  simp only [hA, hB, hC, hs, ht, hu] at h1 h2 p1 p2 p3 ⊢
  have m1 := Int.mul_le_mul_of_nonneg_right h1 (show 0 ≤ u by omega)
  have m2 := Int.mul_le_mul_of_nonneg_right h2 (show 0 ≤ s by omega)
  have e : B * s * u = B * u * s := by grind
  refine ⟨Int.le_of_mul_le_mul_right (a := t) ?_ (by omega), fun q => Int.lt_of_mul_lt_mul_right (a := t) ?_ (by omega)⟩
  · have f1 : A * u * t = A * t * u := by grind
    have f2 : C * s * t = C * t * s := by grind
    omega
  · have f1 : A * u * t = A * t * u := by grind
    have f2 : C * s * t = C * t * s := by grind
    rcases q with q | q
    · have := Int.mul_lt_mul_of_pos_right q (show 0 < u by omega)
      omega
    · have := Int.mul_lt_mul_of_pos_right q (show 0 < s by omega)
      omega
end Go.Proofs.YtjlkgijaceplcabGreatDoor.bl
namespace Go.Proofs.YtjlkgijaceplcabGreatDoor.ty
open Go.RowKit
open reads base
set_option linter.unusedVariables false
end Go.Proofs.YtjlkgijaceplcabGreatDoor.ty
namespace Go.Proofs.YtjlkgijaceplcabGreatDoor.nt
open Go.RowKit
open reads base ty lg rowi hs
set_option linter.unusedVariables false
set_option linter.unusedSimpArgs false
end Go.Proofs.YtjlkgijaceplcabGreatDoor.nt
namespace Go.Proofs.YtjlkgijaceplcabGreatDoor.nt
open Go.RowKit
open reads base ty lg rowi hs
set_option linter.unusedVariables false
set_option linter.unusedSimpArgs false
def IPo (xs : List Int) (w : World) (e : Ending) (w' : World) : Prop :=
  ∃ v, e = .returned v ∧ w'.ownsRow w.heap.size 3 1 v xs.length (ints.intsV xs) ∧ Below w.heap.size w w'
set_option maxHeartbeats 8000000 in
set_option maxRecDepth 100000 in
theorem closing_any (A : Option Addr) (n cap : Nat) (ts : List Lg) (N : Net) (HNN : Hid (net ts = N)) (w : World) (hg : Hid (goodLg ts = true)) (hts : Hid (LgAt w w.heap.size A n ts)) :
    Calls Tryz.prog 121 #[.slice A n cap] w (IPo (clN ts N ts.length) w) := by
  obtain ⟨i0, hi, hz0, hz1, hz2⟩ := info_parts infoI
  have HL := Lib.hid hts.out.1
  have hn12 := len12 HL.out hg.out
  have HON := Lib.hid (ok_net hg.out)
  have hp8 := HON.out.ps_len
  have ht12 := HON.out.tr_len
  have HA := Lib.hid (hts.out.alloc (.cells #[] 3))
  have HR0 := Lib.hid (show (w.alloc (.cells #[] 3)).ownsRow w.heap.size 3 1 (.slice (some ⟨w.heap.size, 0, none⟩) 0 0) 0 [] from World.ownsRow_made w #[] 0 (Nat.le_refl _) (by decide) (by simp))
  have HB0 := Lib.hid ((Below.refl w.heap.size w).alloc (Nat.le_refl _) (.cells #[] 3))
  go_enter Tryz.func121, Tryz.ntmps121
  go_wp2_with fail
  refine (place_any A n cap ts _ hg HA).mono ?_
  rintro e w1 ⟨g1, g2, c2, g3, c3, rfl, hN⟩
  rw [HNN.out] at hN hp8 ht12 ⊢
  obtain ⟨m2, HM2⟩ : ∃ m, Hid (N.ps.length = m) := ⟨_, Lib.hid rfl⟩
  obtain ⟨m3, HM3⟩ : ∃ m, Hid (N.tr.length = m) := ⟨_, Lib.hid rfl⟩
  rw [HM2.out] at hN hp8 ⊢
  rw [HM3.out] at hN ht12 ⊢
  have HB1 := Lib.hid (HB0.out.trans (hN.1.mono HB0.out.size))
  have HR1 := Lib.hid (row_below HR0.out hN.1)
  have HP1 := Lib.hid hN.2.2.1
  have HT1 := Lib.hid hN.2.2.2
  have hgs : w.heap.size < (w.alloc (.cells #[] 3)).heap.size := by simp
  have HUP := Lib.hid (show w.heap.size + 1 ≤ g2 ∧ w.heap.size + 1 ≤ g3 by have h1 := (hN.2.2.1.lt g2 rfl).1; have h2 := (hN.2.2.2.lt g3 rfl).1; simp at h1 h2; omega)
  obtain ⟨sb, HSB⟩ : ∃ s, Hid ((w.alloc (.cells #[] 3)).heap.size = s) := ⟨_, Lib.hid rfl⟩
  rw [HSB.out] at HP1 HT1
  have HNE0 := Lib.hid (show ∀ g, (Value.slice (some ⟨w.heap.size, 0, none⟩) 0 0).ownBlock = some g → ¬ g = g2 ∧ ¬ g = g3 from fun g e => by
    have h1 := HUP.out
    have e2 : w.heap.size = g := by simpa [Value.ownBlock] using e
    omega)
  clear hN HB0 HR0 HA hgs
  go_wp2_with fail
  go_loopw [3, 7] (fun v i wr => ∃ (k m c : Nat) (A2 : Option Addr), k ≤ n ∧ i = .int .i64 (k : Nat) ∧ m ≤ k ∧ v = .slice A2 m c ∧ Hid ((clN ts N k).length = m) ∧ (∀ g, (Value.slice A2 m c).ownBlock = some g → ¬ g = g2 ∧ ¬ g = g3) ∧ wr.ownsRow w.heap.size 3 1 (.slice A2 m c) m (ints.intsV (clN ts N k)) ∧ wr.ownsRow sb 3 1 (.slice (some ⟨g2, 0, none⟩) m2 c2) m2 (ints.intsV N.ps) ∧ wr.ownsRow sb 3 1 (.slice (some ⟨g3, 0, none⟩) m3 c3) m3 (ints.intsV N.tr) ∧ Below w.heap.size w wr) (fun _ i _ => n - (intOf i).toNat)
  case atStart => exact ⟨0, 0, 0, _, Nat.zero_le _, rfl, Nat.le_refl _, rfl, Lib.hid rfl, HNE0.out, HR1.out, HP1.out, HT1.out, HB1.out⟩
  case round =>
    obtain ⟨k, m, c, A2, hk, rfl, hmk, rfl, HM, hne, hO, hP, hT, hB⟩ := hrel
    have HO := Lib.hid hO
    have HP := Lib.hid hP
    have HT := Lib.hid hT
    have HB := Lib.hid hB
    have HNE := Lib.hid hne
    have hBs := hB.size
    clear hO hP hT hB hne HR1 HP1 HT1 HB1
    have hk0 : (0 : Int) ≤ (k : Int) := by omega
    by_cases hlt : k < n
    · obtain ⟨x, hx⟩ := at_lt HL.out hlt
      obtain ⟨gL, rfl, hgL, e0, e1, e2, e3, e4⟩ := (hts.out.below HB.out).2 k x hx
      have HX := Lib.hid hx
      clear hx e1 e2 e3 e4
      have hki : (k : Int) < (n : Int) := by omega
      have hkd : decide (k < n) = true := by simpa using hlt
      cases hfa : mem N.ps x.frm
      · have HFA := Lib.hid hfa
        have HC := Lib.hid (clN_no (s := N) HX.out (by rw [hfa]; rfl))
        clear hfa
        go_wp2_with fail
        refine (has_is (some ⟨g2, 0, none⟩) m2 c2 N.ps x.frm false HFA _ (by omega) (Lib.hid (ints.IL.of_own HP.out))).mono ?_
        rintro e w9 ⟨rfl, rfl⟩
        go_wp2_with fail
        go_roundw
        case rel => exact ⟨k + 1, m, c, A2, by omega, by go_num, by omega, rfl, Lib.hid (by rw [HC.out]; exact HM.out), HNE.out, by rw [HC.out]; exact HO.out, HP.out, HT.out, HB.out⟩
        case measure => simp [intOf]; omega
      · have HFA := Lib.hid hfa
        cases hfb : mem N.tr (k : Int)
        · have HFB := Lib.hid hfb
          have HC := Lib.hid (clN_yes (s := N) HX.out hfa hfb)
          clear hfa hfb
          go_wp2_with fail
          refine (has_is (some ⟨g2, 0, none⟩) m2 c2 N.ps x.frm true HFA _ (by omega) (Lib.hid (ints.IL.of_own HP.out))).mono ?_
          rintro e w9 ⟨rfl, rfl⟩
          go_wp2_with fail
          refine (has_is (some ⟨g3, 0, none⟩) m3 c3 N.tr (k : Int) false HFB _ (by omega) (Lib.hid (ints.IL.of_own HT.out))).mono ?_
          rintro e w9 ⟨rfl, rfl⟩
          go_wp2_with (at_builtin; refine wpList_append_lies _ rfl _ _ 27 rfl w.heap.size 3 i0 (.int .i64 0) 1 8 Tryz.underlying27 hi hz0 hz1 hz2 rfl (by decide) _ _ _ rfl (HO.out.alloc _) ⟨wr.heap.size, 0, none⟩ 1 1 [.int .i64 (k : Int)] rfl rfl (cell_one_new _ _ _) (by simp [Value.oneCell']) (by decide) (by unfold maxLen; omega) (by omega) (by simp; omega) _ rfl ?_; intro g9 c9 w3 hown' hgrow hat hlt9)
          have hg2 := (HP.out.lt g2 rfl).2
          have hg3 := (HT.out.lt g3 rfl).2
          have HNE9 := Lib.hid (show ¬ g9 = g2 ∧ ¬ g9 = g3 by
            rcases hat with q | q
            · exact HNE.out g9 q
            · simp at q; omega)
          have HAL := Lib.hid ((Below.refl wr.heap.size wr).alloc (Nat.le_refl _) (.cells #[.int .i64 (k : Int)] 3))
          have HP9 := Lib.hid ((row_below HP.out HAL.out).kept hgrow (.inr (fun e => by have := (HNE.out g2 e.symm).1; exact this rfl)))
          have HT9 := Lib.hid ((row_below HT.out HAL.out).kept hgrow (.inr (fun e => by have := (HNE.out g3 e.symm).2; exact this rfl)))
          have HB9 := Lib.hid ((HB.out.trans (HAL.out.mono hBs)).grown hgrow (by simp; omega) (fun g e => (HO.out.lt g e).1))
          have HO9 := Lib.hid (show w3.ownsRow w.heap.size 3 1 (.slice (some ⟨g9, 0, none⟩) (m + 1) c9) (m + 1) (ints.intsV (clN ts N (k + 1))) by rw [HC.out, intsV_app]; exact hown')
          clear hown' hgrow hat
          go_wp2_with fail
          go_roundw
          case rel => exact ⟨k + 1, m + 1, c9, some ⟨g9, 0, none⟩, by omega, by go_num, by omega, rfl, Lib.hid (by rw [HC.out, List.length_append, HM.out]; rfl), fun g e => by
            have e2 : g9 = g := by simpa [Value.ownBlock] using e
            subst e2; exact HNE9.out, HO9.out, HP9.out, HT9.out, HB9.out⟩
          case measure => simp [intOf]; omega
        · have HFB := Lib.hid hfb
          have HC := Lib.hid (clN_no (s := N) HX.out (by rw [hfa, hfb]; rfl))
          clear hfa hfb
          go_wp2_with fail
          refine (has_is (some ⟨g2, 0, none⟩) m2 c2 N.ps x.frm true HFA _ (by omega) (Lib.hid (ints.IL.of_own HP.out))).mono ?_
          rintro e w9 ⟨rfl, rfl⟩
          go_wp2_with fail
          refine (has_is (some ⟨g3, 0, none⟩) m3 c3 N.tr (k : Int) true HFB _ (by omega) (Lib.hid (ints.IL.of_own HT.out))).mono ?_
          rintro e w9 ⟨rfl, rfl⟩
          go_wp2_with fail
          go_roundw
          case rel => exact ⟨k + 1, m, c, A2, by omega, by go_num, by omega, rfl, Lib.hid (by rw [HC.out]; exact HM.out), HNE.out, by rw [HC.out]; exact HO.out, HP.out, HT.out, HB.out⟩
          case measure => simp [intOf]; omega
    · have hkd : decide (k < n) = false := by simpa using hlt
      obtain rfl : n = k := by omega
      have HFIN := Lib.hid (show wr.ownsRow w.heap.size 3 1 (.slice A2 m c) (clN ts N ts.length).length (ints.intsV (clN ts N ts.length)) by rw [HL.out, HM.out]; exact HO.out)
      clear hlt
      go_wp2_with fail
      go_ret
      exact ⟨_, rfl, HFIN.out, HB.out⟩
end Go.Proofs.YtjlkgijaceplcabGreatDoor.nt
namespace Go.Proofs.YtjlkgijaceplcabGreatDoor.lp
open Go.RowKit
open reads base ty lg rowi hs nt
set_option linter.unusedVariables false
set_option linter.unusedSimpArgs false
end Go.Proofs.YtjlkgijaceplcabGreatDoor.lp
namespace Go.Proofs.YtjlkgijaceplcabGreatDoor.lp
open Go.RowKit
open reads base ty lg rowi hs nt
set_option linter.unusedVariables false
set_option linter.unusedSimpArgs false
end Go.Proofs.YtjlkgijaceplcabGreatDoor.lp
namespace Go.Proofs.YtjlkgijaceplcabGreatDoor.lp
open Go.RowKit
open reads base ty lg rowi hs nt
set_option linter.unusedVariables false
set_option linter.unusedSimpArgs false
end Go.Proofs.YtjlkgijaceplcabGreatDoor.lp
namespace Go.Proofs.YtjlkgijaceplcabGreatDoor.lp
open Go.RowKit
open reads base ty lg rowi hs nt
set_option linter.unusedVariables false
set_option linter.unusedSimpArgs false
section
variable {w v v' : World} {B g m X : Nat} {L : List Int} {s : Sf} {y : Lg}
end
end Go.Proofs.YtjlkgijaceplcabGreatDoor.lp
namespace Go.Proofs.YtjlkgijaceplcabGreatDoor.lp
open Go.RowKit
open reads base ty lg rowi hs nt
set_option linter.unusedVariables false
set_option linter.unusedSimpArgs false
end Go.Proofs.YtjlkgijaceplcabGreatDoor.lp
namespace Go.Proofs.YtjlkgijaceplcabGreatDoor.lp
open Go.RowKit
open reads base ty lg rowi hs nt
set_option linter.unusedVariables false
set_option linter.unusedSimpArgs false
theorem flatLg_append (a b : List Lg) : flatLg (a ++ b) = flatLg a ++ flatLg b := by simp [flatLg]
theorem flat_one (ts : List Lg) : ∀ u ∈ flatLg ts, u.oneCell' = true := by
  intro u hu
  unfold flatLg at hu
  obtain ⟨t, -, h⟩ := List.mem_flatMap.1 hu
  simp at h
  rcases h with rfl | rfl | rfl | rfl | rfl <;> rfl
theorem flat_cell {w : World} {B g n : Nat} {ts : List Lg} (h : LgAt w B (some ⟨g, 0, none⟩) n ts) : ∀ (q : Nat) u, (flatLg ts)[q]? = some u → w.cell? ⟨g, q, none⟩ = some u := by
  intro q u hu
  have hq : q < n * 5 := by have := lt_at hu; rw [flatLg_len, h.1] at this; exact this
  obtain ⟨t, ht⟩ := at_lt h.1 (show q / 5 < n by omega)
  obtain ⟨f0, f1, f2, f3, f4⟩ := flatLg_at ts (q / 5) t ht
  obtain ⟨g', e, -, c0, c1, c2, c3, c4⟩ := h.2 (q / 5) t ht
  obtain rfl : g = g' := by injection e with e; injection e
  have hr : q % 5 = 0 ∨ q % 5 = 1 ∨ q % 5 = 2 ∨ q % 5 = 3 ∨ q % 5 = 4 := by omega
  rcases hr with r | r | r | r | r
  · rw [show q / 5 * 5 = q by omega] at f0 c0; rw [c0, ← f0, hu]
  · rw [show q / 5 * 5 + 1 = q by omega] at f1 c1; rw [c1, ← f1, hu]
  · rw [show q / 5 * 5 + 2 = q by omega] at f2 c2; rw [c2, ← f2, hu]
  · rw [show q / 5 * 5 + 3 = q by omega] at f3 c3; rw [c3, ← f3, hu]
  · rw [show q / 5 * 5 + 4 = q by omega] at f4 c4; rw [c4, ← f4, hu]
theorem flat_take {w : World} {B g n : Nat} {ts : List Lg} (h : LgAt w B (some ⟨g, 0, none⟩) n ts) (k : Nat) : ∀ (q : Nat) u, (flatLg (ts.take k))[q]? = some u → w.cell? ((⟨g, 0, none⟩ : Addr).add q) = some u := by
  intro q u hu
  have e : (⟨g, 0, none⟩ : Addr).add q = ⟨g, q, none⟩ := by unfold Addr.add; by_cases hj : q = 0 <;> simp [hj]
  rw [e]
  refine flat_cell h q u ?_
  have := lt_at hu
  rw [← List.take_append_drop k ts, flatLg_append, List.getElem?_append_left this]
  exact hu
theorem flat_drop {w : World} {B g n : Nat} {ts : List Lg} (h : LgAt w B (some ⟨g, 0, none⟩) n ts) (k : Nat) (hk : k ≤ n) : ∀ (q : Nat) u, (flatLg (ts.drop k))[q]? = some u → w.cell? ((⟨g, k * 5, none⟩ : Addr).add q) = some u := by
  intro q u hu
  have e : (⟨g, k * 5, none⟩ : Addr).add q = ⟨g, k * 5 + q, none⟩ := by unfold Addr.add; by_cases hj : q = 0 <;> simp [hj]
  rw [e]
  refine flat_cell h (k * 5 + q) u ?_
  have hl : (flatLg (ts.take k)).length = k * 5 := by rw [flatLg_len, List.length_take, h.1]; congr 1; omega
  rw [← List.take_append_drop k ts, flatLg_append, List.getElem?_append_right (by omega), hl, Nat.add_sub_cancel_left]
  exact hu
theorem step_legs {ops : Array Oper} {o : Oper} {a : Act} {w : World} {K : Act → World → Prop} {Q : Exit → Act → World → Prop} {E : Prop} (hgd : o.guard = none) (s x : Operand) (ho : o.op = .call { callee := .builtin .append, args := #[s, x], argTypes := #[24, 24] })
    {bs n m c : Nat} {v : Value} {xs news : List Value} {ad : Addr} (hs : a.eval s = v) (hown : w.ownsRow bs 87 5 v n xs) (hx : a.eval x = .slice (some ad) m c) (hl : news.length = m * 5) (hnews : ∀ j u, news[j]? = some u → w.cell? (ad.add j) = some u) (h1 : ∀ u ∈ news, u.oneCell' = true) (h6 : n + m ≤ 1000000) (hb : bs ≤ w.heap.size)
    (h : ∀ v' w', w'.ownsRow bs 87 5 v' (n + m) (xs ++ news) → w.grownBy w' v.ownBlock → K (a.put o.dst v') w') :
    if Region.wanted o (yielded ops a.tmps) = true then Oper.wp Tryz.prog o a w K Q else E := by
  obtain ⟨i0, hi, hz0, hz1, hz2⟩ := info_parts infoLg
  rw [if_pos (show Region.wanted o (yielded ops a.tmps) = true by simp [Region.wanted, hgd])]
  exact wp_append_own w s x _ ho bs 87 i0 (.agg #[.int .i64 0, .int .i64 0, .int .i64 0, .int .i64 0, .int .i64 0]) 5 40 Tryz.underlying24 hi hz0 hz1 hz2 rfl (by decide) v n xs hs hown ad m c news hx hl hnews h1 (by unfold maxLen; omega) (by omega) hb (fun v' w' h1 h2 _ => h v' w' h1 h2)
set_option maxHeartbeats 16000000 in
set_option maxRecDepth 100000 in
theorem bridge8_any (gL n cap : Nat) (ts : List Lg) (j : Nat) (x : Lg) (t : Bool) (w : World) (hg : Hid (goodLg ts = true)) (hx : Hid (ts[j]? = some x)) (ht : Hid (brB ts j = t)) (hcap : n ≤ cap) (hts : Hid (LgAt w w.heap.size (some ⟨gL, 0, none⟩) n ts)) :
    Calls Tryz.prog 101 #[.slice (some ⟨gL, 0, none⟩) n cap, .int .i64 (j : Int)] w (BPost t w) := by
  have HL := Lib.hid hts.out.1
  have HX := hx
  have hjn : j < n := by have := lt_at hx.out; rw [HL.out] at this; exact this
  have hn12 := len12 HL.out hg.out
  have HLA := Lib.hid (show legAt ts (j : Int) = x from legAt_is (by rw [Int.toNat_natCast]; exact hx.out))
  have HGL := Lib.hid (less_good hg.out j)
  have HTK := Lib.hid (fun (v : World) (hv : Below w.heap.size w v) => flat_take (hts.out.below hv) j)
  have HDK := Lib.hid (fun (v : World) (hv : Below w.heap.size w v) => flat_drop (hts.out.below hv) (j + 1) (by omega))
  have hji : (j : Int) < (n : Int) := by omega
  have hj0 : (0 : Int) ≤ (j : Int) := by omega
  have hjc : (j : Int) ≤ (cap : Int) := by omega
  have hjc' : j ≤ cap := by omega
  have hj1n : (j : Int) + 1 ≤ (n : Int) := by omega
  have hj1 : (0 : Int) ≤ (j : Int) + 1 := by omega
  have hjt : ((j : Int) + 1).toNat = j + 1 := by omega
  have hncap : (n : Int) ≤ (cap : Int) := by omega
  have hj1w : IntKind.i64.wrap ((j : Int) + 1) = (j : Int) + 1 := IntWalk.i64_in _ (by omega)
  by_cases hcj : cap = j + 1
  · obtain rfl : n = j + 1 := by omega
    obtain rfl : cap = j + 1 := by omega
    have hjj : (j : Int) ≤ (j : Int) + 1 := by omega
    go_enter Tryz.func101, Tryz.ntmps101
    go_upto_region 1 with fail
    refine wp_region_held_drew (S := (fun _ => True)) (by kernel_rfl) trivial (fun hHeld => ?_)
    obtain ⟨V0, HV0⟩ : ∃ V, Hid (w.drew = V) := ⟨_, Lib.hid rfl⟩
    have HB0 := Lib.hid (show Below w.heap.size w V0 by rw [← HV0.out]; exact (Below.refl _ _).drew)
    rw [HV0.out]
    clear HV0
    refine' wpAnyH_take (i := 1) (v := ?vb1_1) rfl (by kernel_rfl) (by kernel_rfl) (by kernel_rfl) (fun _ _ _ h => h) (Or.inl ⟨by rfl, ?hyb1_1⟩) (by assumption) ?restb1_1
    case hyb1_1 => (intro w hSw; (try dsimp only at hSw); go_simp; try (with_reducible rfl))
    simp only [Act.put, List.getElem_toArray, List.getElem_cons_succ, List.getElem_cons_zero, List.setIfInBounds_toArray, List.set_cons_zero, List.set_cons_succ]
    refine' wpAnyH_take (i := 2) (v := ?vb2_2) rfl (by kernel_rfl) (by kernel_rfl) (by kernel_rfl) (fun _ _ _ h => h) (Or.inl ⟨by rfl, ?hyb2_2⟩) (by assumption) ?restb2_2
    case hyb2_2 => (intro w hSw; (try dsimp only at hSw); go_simp; try (with_reducible rfl))
    simp only [Act.put, List.getElem_toArray, List.getElem_cons_succ, List.getElem_cons_zero, List.setIfInBounds_toArray, List.set_cons_zero, List.set_cons_succ]
    refine' wpAnyH_take (i := 3) (v := ?vb3_3) rfl (by kernel_rfl) (by kernel_rfl) (by kernel_rfl) (fun _ _ _ h => h) (Or.inl ⟨by rfl, ?hyb3_3⟩) (by assumption) ?restb3_3
    case hyb3_3 => (intro w hSw; (try dsimp only at hSw); go_simp; try (with_reducible rfl))
    simp only [Act.put, List.getElem_toArray, List.getElem_cons_succ, List.getElem_cons_zero, List.setIfInBounds_toArray, List.set_cons_zero, List.set_cons_succ]
    refine' wpAnyH_take (i := 5) (v := ?vb4_5) rfl (by kernel_rfl) (by kernel_rfl) (by kernel_rfl) (fun _ _ _ h => h) (Or.inl ⟨by rfl, ?hyb4_5⟩) (by assumption) ?restb4_5
    case hyb4_5 => (intro w hSw; (try dsimp only at hSw); go_simp; try (with_reducible rfl))
    simp only [Act.put, List.getElem_toArray, List.getElem_cons_succ, List.getElem_cons_zero, List.setIfInBounds_toArray, List.set_cons_zero, List.set_cons_succ]
    refine' wpAnyH_take (i := 6) (v := ?vb5_6) rfl (by kernel_rfl) (by kernel_rfl) (by kernel_rfl) (fun _ _ _ h => h) (Or.inl ⟨by rfl, ?hyb5_6⟩) (by assumption) ?restb5_6
    case hyb5_6 => (intro w hSw; (try dsimp only at hSw); go_simp; try (with_reducible rfl))
    simp only [Act.put, List.getElem_toArray, List.getElem_cons_succ, List.getElem_cons_zero, List.setIfInBounds_toArray, List.set_cons_zero, List.set_cons_succ]
    refine' wpAnyH_take (i := 7) (v := ?vb6_7) rfl (by kernel_rfl) (by kernel_rfl) (by kernel_rfl) (fun _ _ _ h => h) (Or.inl ⟨by rfl, ?hyb6_7⟩) (by assumption) ?restb6_7
    case hyb6_7 => (intro w hSw; (try dsimp only at hSw); go_simp; try (with_reducible rfl))
    simp only [Act.put, List.getElem_toArray, List.getElem_cons_succ, List.getElem_cons_zero, List.setIfInBounds_toArray, List.set_cons_zero, List.set_cons_succ]
    refine' wpAnyH_take (i := 8) (v := ?vb7_8) rfl (by kernel_rfl) (by kernel_rfl) (by kernel_rfl) (fun _ _ _ h => h) (Or.inl ⟨by rfl, ?hyb7_8⟩) (by assumption) ?restb7_8
    case hyb7_8 => (intro w hSw; (try dsimp only at hSw); go_simp; try (with_reducible rfl))
    simp only [Act.put, List.getElem_toArray, List.getElem_cons_succ, List.getElem_cons_zero, List.setIfInBounds_toArray, List.set_cons_zero, List.set_cons_succ]
    refine wpAnyH_ready (rs := [0]) (by kernel_rfl) (by simp) ?_
    refine AllReadyH.cons rfl (fun K hK => ?_) AllReadyH.nil
    go_simp
    refine hK.out _ _ trivial (fun hHeld1 => ?_)
    clear hK K hHeld
    have hHeld := hHeld1
    clear hHeld1
    try simp only [Act.put, List.getElem_toArray, List.getElem_cons_succ, List.getElem_cons_zero, List.setIfInBounds_toArray, List.set_cons_zero, List.set_cons_succ]
    obtain ⟨G0, HG0⟩ : ∃ G, Hid (V0.heap.size = G) := ⟨_, Lib.hid rfl⟩
    obtain ⟨V1, HW⟩ : ∃ Wx, Hid (V0.alloc (.cells #[] 87) = Wx) := ⟨_, Lib.hid rfl⟩
    have HB1 := Lib.hid (show Below w.heap.size w V1 by rw [← HW.out]; exact HB0.out.alloc HB0.out.size _)
    have HO1 := Lib.hid (show V1.ownsRow w.heap.size 87 5 (.slice (some ⟨G0, 0, none⟩) 0 0) 0 (flatLg []) by rw [← HW.out, ← HG0.out]; exact World.ownsRow_made V0 #[] 0 HB0.out.size (by decide) (by simp))
    rw [HW.out]
    try rw [HG0.out]
    clear HW
    refine wpAnyH_ready (rs := [4]) (by kernel_rfl) (by simp) ?_
    refine AllReadyH.cons rfl (fun K hK => ?_) AllReadyH.nil
    refine step_legs (news := flatLg (ts.take j)) (m := j) rfl _ _ rfl rfl HO1.out rfl (by rw [flatLg_len, List.length_take, HL.out]; omega) (HTK.out V1 HB1.out) (flat_one _) (by omega) HB1.out.size ?_
    intro v2 V2 ho hg
    have HB2 := Lib.hid (HB1.out.grown hg HB1.out.size (fun g e => (HO1.out.lt g e).1))
    have HO2 := Lib.hid (show V2.ownsRow w.heap.size 87 5 v2 (0 + j) (flatLg [] ++ flatLg (ts.take j)) from ho)
    refine hK.out _ _ trivial (fun hHeld1 => ?_)
    clear ho hg
    clear hK K hHeld
    have hHeld := hHeld1
    clear hHeld1
    try simp only [Act.put, List.getElem_toArray, List.getElem_cons_succ, List.getElem_cons_zero, List.setIfInBounds_toArray, List.set_cons_zero, List.set_cons_succ]
    refine wpAnyH_ready (rs := [9]) (by kernel_rfl) (by simp) ?_
    refine AllReadyH.cons rfl (fun K hK => ?_) AllReadyH.nil
    refine step_legs (news := []) (m := 0) rfl _ _ rfl rfl HO2.out rfl rfl (fun q u h => by simp at h) (fun u h => by simp at h) (by omega) HB2.out.size ?_
    intro v3 V3 ho hg
    have HB3 := Lib.hid (HB2.out.grown hg HB2.out.size (fun g e => (HO2.out.lt g e).1))
    have HO3 := Lib.hid (show V3.ownsRow w.heap.size 87 5 v3 (j + 1 - 1) (flatLg (less ts j)) by
      have h : V3.ownsRow w.heap.size 87 5 v3 (0 + j + 0) (flatLg [] ++ flatLg (ts.take j) ++ []) := ho
      rw [show 0 + j + 0 = j + 1 - 1 by omega] at h
      have e : flatLg (less ts j) = flatLg [] ++ flatLg (ts.take j) ++ [] := by unfold less; rw [flatLg_append, List.drop_of_length_le (by rw [HL.out]; omega)]; rfl
      rw [e]; exact h)
    refine hK.out _ _ trivial (fun hHeld1 => ?_)
    clear ho hg
    clear hK K hHeld
    have hHeld := hHeld1
    clear hHeld1
    try simp only [Act.put, List.getElem_toArray, List.getElem_cons_succ, List.getElem_cons_zero, List.setIfInBounds_toArray, List.set_cons_zero, List.set_cons_succ]
    refine' wpAnyH_take (i := 10) (v := ?vb8_10) rfl (by kernel_rfl) (by kernel_rfl) (by kernel_rfl) (fun _ _ _ h => h) (Or.inl ⟨by rfl, ?hyb8_10⟩) (by assumption) ?restb8_10
    case hyb8_10 => (intro w hSw; (try dsimp only at hSw); go_simp; try (with_reducible rfl))
    simp only [Act.put, List.getElem_toArray, List.getElem_cons_succ, List.getElem_cons_zero, List.setIfInBounds_toArray, List.set_cons_zero, List.set_cons_succ]
    refine wpAnyH_done (by kernel_rfl) ?_ _
    clear hHeld HB1 HB2 HO1 HO2 HB0
    obtain ⟨A3, c3, rfl⟩ := row_slice HO3.out
    have HS := Lib.hid (own_Lg (show (less ts j).length = j + 1 - 1 by unfold less; rw [List.length_append, List.length_take, List.length_drop, HL.out]; omega) HO3.out)
    go_wp2_with fail
    refine (place_any A3 (j + 1 - 1) c3 (less ts j) _ HGL HS).mono ?_
    rintro e w4 ⟨g1, g2, c2, g3, c4, rfl, hN⟩
    obtain ⟨N, HNN⟩ : ∃ N, Hid (net (less ts j) = N) := ⟨_, Lib.hid rfl⟩
    rw [HNN.out] at hN ⊢
    obtain ⟨m2, HM2⟩ : ∃ m, Hid (N.ps.length = m) := ⟨_, Lib.hid rfl⟩
    obtain ⟨m3, HM3⟩ : ∃ m, Hid (N.tr.length = m) := ⟨_, Lib.hid rfl⟩
    have hp8 : m2 ≤ 8 := by rw [← HM2.out, ← HNN.out]; exact (ok_net HGL.out).ps_len
    rw [HM2.out, HM3.out] at hN ⊢
    have HP := Lib.hid (ints.IL.of_own hN.2.2.1)
    have HB4 := Lib.hid (HB3.out.trans (hN.1.mono HB3.out.size))
    clear hN
    obtain ⟨gX, eX, hgX, e0, e1, -, -, -⟩ := (hts.out.below HB4.out).2 j x HX.out
    obtain rfl : gL = gX := by injection eX with eX; injection eX
    clear eX
    have HT := Lib.hid (show (!mem N.ps x.frm || !mem N.ps x.to_) = t by rw [← ht.out]; unfold brB; rw [HLA.out, HNN.out])
    cases hfa : mem N.ps x.frm
    · obtain rfl : t = true := by rw [← HT.out, hfa]; rfl
      have HFA := Lib.hid hfa
      clear hfa
      go_wp2_with fail
      refine (has_is (some ⟨g2, 0, none⟩) m2 c2 N.ps x.frm false HFA _ (by omega) HP).mono ?_
      rintro e w9 ⟨rfl, rfl⟩
      go_wp2_with fail
      go_ret
      exact ⟨rfl, HB4.out⟩
    · obtain ⟨tt, HTT⟩ : ∃ b, Hid (mem N.ps x.to_ = b) := ⟨_, Lib.hid rfl⟩
      have HFA := Lib.hid hfa
      have htv : (!tt) = t := by rw [← HT.out, hfa, HTT.out]; rfl
      clear hfa HT ht
      subst htv
      go_wp2_with fail
      refine (has_is (some ⟨g2, 0, none⟩) m2 c2 N.ps x.frm true HFA _ (by omega) HP).mono ?_
      rintro e w9 ⟨rfl, rfl⟩
      go_wp2_with fail
      refine (has_is (some ⟨g2, 0, none⟩) m2 c2 N.ps x.to_ tt HTT _ (by omega) HP).mono ?_
      rintro e w9 ⟨rfl, rfl⟩
      go_wp2_with fail
      go_ret
      exact ⟨rfl, HB4.out⟩
  · have hcj' : ¬ ((cap : Int) = (j : Int) + 1) := by omega
    go_enter Tryz.func101, Tryz.ntmps101
    go_upto_region 1 with fail
    refine wp_region_held_drew (S := (fun _ => True)) (by kernel_rfl) trivial (fun hHeld => ?_)
    obtain ⟨V0, HV0⟩ : ∃ V, Hid (w.drew = V) := ⟨_, Lib.hid rfl⟩
    have HB0 := Lib.hid (show Below w.heap.size w V0 by rw [← HV0.out]; exact (Below.refl _ _).drew)
    rw [HV0.out]
    clear HV0
    refine' wpAnyH_take (i := 1) (v := ?vb9_1) rfl (by kernel_rfl) (by kernel_rfl) (by kernel_rfl) (fun _ _ _ h => h) (Or.inl ⟨by rfl, ?hyb9_1⟩) (by assumption) ?restb9_1
    case hyb9_1 => (intro w hSw; (try dsimp only at hSw); go_simp; try (with_reducible rfl))
    simp only [Act.put, List.getElem_toArray, List.getElem_cons_succ, List.getElem_cons_zero, List.setIfInBounds_toArray, List.set_cons_zero, List.set_cons_succ]
    refine' wpAnyH_take (i := 2) (v := ?vb10_2) rfl (by kernel_rfl) (by kernel_rfl) (by kernel_rfl) (fun _ _ _ h => h) (Or.inl ⟨by rfl, ?hyb10_2⟩) (by assumption) ?restb10_2
    case hyb10_2 => (intro w hSw; (try dsimp only at hSw); go_simp; try (with_reducible rfl))
    simp only [Act.put, List.getElem_toArray, List.getElem_cons_succ, List.getElem_cons_zero, List.setIfInBounds_toArray, List.set_cons_zero, List.set_cons_succ]
    refine' wpAnyH_take (i := 3) (v := ?vb11_3) rfl (by kernel_rfl) (by kernel_rfl) (by kernel_rfl) (fun _ _ _ h => h) (Or.inl ⟨by rfl, ?hyb11_3⟩) (by assumption) ?restb11_3
    case hyb11_3 => (intro w hSw; (try dsimp only at hSw); go_simp; try (with_reducible rfl))
    simp only [Act.put, List.getElem_toArray, List.getElem_cons_succ, List.getElem_cons_zero, List.setIfInBounds_toArray, List.set_cons_zero, List.set_cons_succ]
    refine' wpAnyH_take (i := 5) (v := ?vb12_5) rfl (by kernel_rfl) (by kernel_rfl) (by kernel_rfl) (fun _ _ _ h => h) (Or.inl ⟨by rfl, ?hyb12_5⟩) (by assumption) ?restb12_5
    case hyb12_5 => (intro w hSw; (try dsimp only at hSw); go_simp; try (with_reducible rfl))
    simp only [Act.put, List.getElem_toArray, List.getElem_cons_succ, List.getElem_cons_zero, List.setIfInBounds_toArray, List.set_cons_zero, List.set_cons_succ]
    refine' wpAnyH_take (i := 6) (v := ?vb13_6) rfl (by kernel_rfl) (by kernel_rfl) (by kernel_rfl) (fun _ _ _ h => h) (Or.inl ⟨by rfl, ?hyb13_6⟩) (by assumption) ?restb13_6
    case hyb13_6 => (intro w hSw; (try dsimp only at hSw); go_simp; try (with_reducible rfl))
    simp only [Act.put, List.getElem_toArray, List.getElem_cons_succ, List.getElem_cons_zero, List.setIfInBounds_toArray, List.set_cons_zero, List.set_cons_succ]
    refine' wpAnyH_take (i := 7) (v := ?vb14_7) rfl (by kernel_rfl) (by kernel_rfl) (by kernel_rfl) (fun _ _ _ h => h) (Or.inl ⟨by rfl, ?hyb14_7⟩) (by assumption) ?restb14_7
    case hyb14_7 => (intro w hSw; (try dsimp only at hSw); go_simp; try (with_reducible rfl))
    simp only [Act.put, List.getElem_toArray, List.getElem_cons_succ, List.getElem_cons_zero, List.setIfInBounds_toArray, List.set_cons_zero, List.set_cons_succ]
    refine' wpAnyH_take (i := 8) (v := ?vb15_8) rfl (by kernel_rfl) (by kernel_rfl) (by kernel_rfl) (fun _ _ _ h => h) (Or.inl ⟨by rfl, ?hyb15_8⟩) (by assumption) ?restb15_8
    case hyb15_8 => (intro w hSw; (try dsimp only at hSw); go_simp; try (with_reducible rfl))
    simp only [Act.put, List.getElem_toArray, List.getElem_cons_succ, List.getElem_cons_zero, List.setIfInBounds_toArray, List.set_cons_zero, List.set_cons_succ]
    refine wpAnyH_ready (rs := [0]) (by kernel_rfl) (by simp) ?_
    refine AllReadyH.cons rfl (fun K hK => ?_) AllReadyH.nil
    go_simp
    refine hK.out _ _ trivial (fun hHeld1 => ?_)
    clear hK K hHeld
    have hHeld := hHeld1
    clear hHeld1
    try simp only [Act.put, List.getElem_toArray, List.getElem_cons_succ, List.getElem_cons_zero, List.setIfInBounds_toArray, List.set_cons_zero, List.set_cons_succ]
    obtain ⟨G0, HG0⟩ : ∃ G, Hid (V0.heap.size = G) := ⟨_, Lib.hid rfl⟩
    obtain ⟨V1, HW⟩ : ∃ Wx, Hid (V0.alloc (.cells #[] 87) = Wx) := ⟨_, Lib.hid rfl⟩
    have HB1 := Lib.hid (show Below w.heap.size w V1 by rw [← HW.out]; exact HB0.out.alloc HB0.out.size _)
    have HO1 := Lib.hid (show V1.ownsRow w.heap.size 87 5 (.slice (some ⟨G0, 0, none⟩) 0 0) 0 (flatLg []) by rw [← HW.out, ← HG0.out]; exact World.ownsRow_made V0 #[] 0 HB0.out.size (by decide) (by simp))
    rw [HW.out]
    try rw [HG0.out]
    clear HW
    refine wpAnyH_ready (rs := [4]) (by kernel_rfl) (by simp) ?_
    refine AllReadyH.cons rfl (fun K hK => ?_) AllReadyH.nil
    refine step_legs (news := flatLg (ts.take j)) (m := j) rfl _ _ rfl rfl HO1.out rfl (by rw [flatLg_len, List.length_take, HL.out]; omega) (HTK.out V1 HB1.out) (flat_one _) (by omega) HB1.out.size ?_
    intro v2 V2 ho hg
    have HB2 := Lib.hid (HB1.out.grown hg HB1.out.size (fun g e => (HO1.out.lt g e).1))
    have HO2 := Lib.hid (show V2.ownsRow w.heap.size 87 5 v2 (0 + j) (flatLg [] ++ flatLg (ts.take j)) from ho)
    refine hK.out _ _ trivial (fun hHeld1 => ?_)
    clear ho hg
    clear hK K hHeld
    have hHeld := hHeld1
    clear hHeld1
    try simp only [Act.put, List.getElem_toArray, List.getElem_cons_succ, List.getElem_cons_zero, List.setIfInBounds_toArray, List.set_cons_zero, List.set_cons_succ]
    refine wpAnyH_ready (rs := [9]) (by kernel_rfl) (by simp) ?_
    refine AllReadyH.cons rfl (fun K hK => ?_) AllReadyH.nil
    refine step_legs (news := flatLg (ts.drop (j + 1))) (m := (n - (j + 1))) rfl _ _ rfl rfl HO2.out rfl (by rw [flatLg_len, List.length_drop, HL.out]) (HDK.out V2 HB2.out) (flat_one _) (by omega) HB2.out.size ?_
    intro v3 V3 ho hg
    have HB3 := Lib.hid (HB2.out.grown hg HB2.out.size (fun g e => (HO2.out.lt g e).1))
    have HO3 := Lib.hid (show V3.ownsRow w.heap.size 87 5 v3 (n - 1) (flatLg (less ts j)) by
      have h : V3.ownsRow w.heap.size 87 5 v3 (0 + j + (n - (j + 1))) (flatLg [] ++ flatLg (ts.take j) ++ flatLg (ts.drop (j + 1))) := ho
      rw [show 0 + j + (n - (j + 1)) = n - 1 by omega] at h
      have e : flatLg (less ts j) = flatLg [] ++ flatLg (ts.take j) ++ flatLg (ts.drop (j + 1)) := by unfold less; rw [flatLg_append]; rfl
      rw [e]; exact h)
    refine hK.out _ _ trivial (fun hHeld1 => ?_)
    clear ho hg
    clear hK K hHeld
    have hHeld := hHeld1
    clear hHeld1
    try simp only [Act.put, List.getElem_toArray, List.getElem_cons_succ, List.getElem_cons_zero, List.setIfInBounds_toArray, List.set_cons_zero, List.set_cons_succ]
    refine' wpAnyH_take (i := 10) (v := ?vb16_10) rfl (by kernel_rfl) (by kernel_rfl) (by kernel_rfl) (fun _ _ _ h => h) (Or.inl ⟨by rfl, ?hyb16_10⟩) (by assumption) ?restb16_10
    case hyb16_10 => (intro w hSw; (try dsimp only at hSw); go_simp; try (with_reducible rfl))
    simp only [Act.put, List.getElem_toArray, List.getElem_cons_succ, List.getElem_cons_zero, List.setIfInBounds_toArray, List.set_cons_zero, List.set_cons_succ]
    refine wpAnyH_done (by kernel_rfl) ?_ _
    clear hHeld HB1 HB2 HO1 HO2 HB0
    obtain ⟨A3, c3, rfl⟩ := row_slice HO3.out
    have HS := Lib.hid (own_Lg (show (less ts j).length = n - 1 by unfold less; rw [List.length_append, List.length_take, List.length_drop, HL.out]; omega) HO3.out)
    go_wp2_with fail
    refine (place_any A3 (n - 1) c3 (less ts j) _ HGL HS).mono ?_
    rintro e w4 ⟨g1, g2, c2, g3, c4, rfl, hN⟩
    obtain ⟨N, HNN⟩ : ∃ N, Hid (net (less ts j) = N) := ⟨_, Lib.hid rfl⟩
    rw [HNN.out] at hN ⊢
    obtain ⟨m2, HM2⟩ : ∃ m, Hid (N.ps.length = m) := ⟨_, Lib.hid rfl⟩
    obtain ⟨m3, HM3⟩ : ∃ m, Hid (N.tr.length = m) := ⟨_, Lib.hid rfl⟩
    have hp8 : m2 ≤ 8 := by rw [← HM2.out, ← HNN.out]; exact (ok_net HGL.out).ps_len
    rw [HM2.out, HM3.out] at hN ⊢
    have HP := Lib.hid (ints.IL.of_own hN.2.2.1)
    have HB4 := Lib.hid (HB3.out.trans (hN.1.mono HB3.out.size))
    clear hN
    obtain ⟨gX, eX, hgX, e0, e1, -, -, -⟩ := (hts.out.below HB4.out).2 j x HX.out
    obtain rfl : gL = gX := by injection eX with eX; injection eX
    clear eX
    have HT := Lib.hid (show (!mem N.ps x.frm || !mem N.ps x.to_) = t by rw [← ht.out]; unfold brB; rw [HLA.out, HNN.out])
    cases hfa : mem N.ps x.frm
    · obtain rfl : t = true := by rw [← HT.out, hfa]; rfl
      have HFA := Lib.hid hfa
      clear hfa
      go_wp2_with fail
      refine (has_is (some ⟨g2, 0, none⟩) m2 c2 N.ps x.frm false HFA _ (by omega) HP).mono ?_
      rintro e w9 ⟨rfl, rfl⟩
      go_wp2_with fail
      go_ret
      exact ⟨rfl, HB4.out⟩
    · obtain ⟨tt, HTT⟩ : ∃ b, Hid (mem N.ps x.to_ = b) := ⟨_, Lib.hid rfl⟩
      have HFA := Lib.hid hfa
      have htv : (!tt) = t := by rw [← HT.out, hfa, HTT.out]; rfl
      clear hfa HT ht
      subst htv
      go_wp2_with fail
      refine (has_is (some ⟨g2, 0, none⟩) m2 c2 N.ps x.frm true HFA _ (by omega) HP).mono ?_
      rintro e w9 ⟨rfl, rfl⟩
      go_wp2_with fail
      refine (has_is (some ⟨g2, 0, none⟩) m2 c2 N.ps x.to_ tt HTT _ (by omega) HP).mono ?_
      rintro e w9 ⟨rfl, rfl⟩
      go_wp2_with fail
      go_ret
      exact ⟨rfl, HB4.out⟩
end Go.Proofs.YtjlkgijaceplcabGreatDoor.lp
namespace Go.Proofs.YtjlkgijaceplcabGreatDoor.lp
open Go.RowKit
open reads base inn ty lg rowi hs nt
set_option linter.unusedVariables false
set_option linter.unusedSimpArgs false
def ansBr (ts : List Lg) (i : Int) : Value := if brOk ts i then .tuple #[.bool (brB ts i.toNat), .bool true] else .tuple #[.bool false, .bool false]
def ansCo (ts : List Lg) : Value := .tuple #[.int .i64 ((clIds ts).length : Nat), .bool (goodLg ts)]
end Go.Proofs.YtjlkgijaceplcabGreatDoor.lp
