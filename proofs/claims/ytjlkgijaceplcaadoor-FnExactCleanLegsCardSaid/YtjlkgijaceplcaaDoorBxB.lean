/-
  Trees of legs and the ways along them (pure mathematics).
  The loop of a closing leg: its legs, its stations, its length, its misclosure; bridges (pure mathematics).
  Legs one after the other: the stations between them, the sum of their shifts, of their lengths (pure mathematics).
  Ways as the program grows them: exits, what a search shows, loops and bridges told by ways (pure mathematics).
  Leaving out a leg that is no bridge (pure mathematics): the placed stations stay, and the strain is no greater; without closing legs there is none.
  A list of ints in memory, from the beginning of a block on.
  The length of a shift, by the model.
  Whether legs place a station, closing legs, by the model.
  The way between two stations by tree legs, and the legs of a loop, by the model.
  The legs of a loop, by the model.
  LoopLegs and LoopOf, by the model.
  The length and the misclosure of a loop, by the model.
  Misclosures, the worst loop, the loops through a leg, their number, by the model.
  Bridges, by the model.
  IsBridge, BridgesOf, LoopsThrough and CountLoops, by the model.
  Conditions: those that each theorem names.
-/
import Derived.Test.YtjlkgijaceplcaaDoorNtR
import Derived.Test.YtjlkgijaceplcaaDoorNtZ
import Derived.Test.YtjlkgijaceplcaaDoorBlA
import Derived.Test.YtjlkgijaceplcaaDoorBase
import Derived.Test.YtjlkgijaceplcaaDoorIntV
import Derived.Test.YtjlkgijaceplcaaDoorLen
import Derived.Test.YtjlkgijaceplcaaDoorNtC
import Derived.Deep.RegionHeld3
import Derived.Deep.DeepCutAuto
import Derived.OwnWalk
import Derived.Deep.QuietTactic
import Derived.BigQuiet
import Derived.Deep.RegionWith
namespace Go.Proofs.YtjlkgijaceplcaaDoor.lp
open Go.RowKit
open reads base ty lg hs nt
set_option linter.unusedVariables false

/-- a leg joins two stations -/
def Jo (x : Lg) (a b : Int) : Prop := (x.frm = a ∧ x.to_ = b) ∨ (x.to_ = a ∧ x.frm = b)
theorem Jo.symm {x : Lg} {a b : Int} (h : Jo x a b) : Jo x b a := by
  rcases h with ⟨h1, h2⟩ | ⟨h1, h2⟩
  · exact .inr ⟨h2, h1⟩
  · exact .inl ⟨h2, h1⟩
theorem Jo.far {x : Lg} {a b : Int} (h : Jo x a b) : b = x.frm + x.to_ - a := by unfold Jo at h; omega
theorem Jo.uniq {x : Lg} {a b c : Int} (h : Jo x a b) (k : Jo x a c) : b = c := by rw [h.far, k.far]
theorem Jo.ends {x : Lg} {a b c d : Int} (h : Jo x a b) (k : Jo x c d) : (c = a ∧ d = b) ∨ (c = b ∧ d = a) := by unfold Jo at h k; omega
/-- the leg with an index joins two stations -/
def Jn (ts : List Lg) (i a b : Int) : Prop := 0 ≤ i ∧ ∃ x, ts[i.toNat]? = some x ∧ Jo x a b
theorem Jn.symm {ts : List Lg} {i a b : Int} (h : Jn ts i a b) : Jn ts i b a := by
  obtain ⟨h0, x, hx, hj⟩ := h
  exact ⟨h0, x, hx, hj.symm⟩
theorem Jn.ends {ts : List Lg} {i a b c d : Int} (h : Jn ts i a b) (k : Jn ts i c d) : (c = a ∧ d = b) ∨ (c = b ∧ d = a) := by
  obtain ⟨h0, x, hx, hj⟩ := h
  obtain ⟨-, y, hy, kj⟩ := k
  rw [hx] at hy
  obtain rfl := Option.some.inj hy
  exact hj.ends kj
theorem Jn.uniq {ts : List Lg} {i a b c : Int} (h : Jn ts i a b) (k : Jn ts i a c) : b = c := by
  obtain ⟨h0, x, hx, hj⟩ := h
  obtain ⟨-, y, hy, kj⟩ := k
  rw [hx] at hy
  obtain rfl := Option.some.inj hy
  exact hj.uniq kj

/-- stations and the legs that placed them, one after the other -/
inductive Grow (ts : List Lg) : List Int → List Int → Prop
  | zero : Grow ts [0] []
  | more {V E : List Int} {i p c : Int} : Grow ts V E → p ∈ V → c ∉ V → Jn ts i p c → Grow ts (c :: V) (i :: E)
theorem Grow.ends {ts : List Lg} {V E : List Int} (h : Grow ts V E) : ∀ {i a b : Int}, i ∈ E → Jn ts i a b → a ∈ V ∧ b ∈ V := by
  induction h with
  | zero => intro i a b hi; cases hi
  | more hg hp hc hj ih =>
    intro j a b hi hk
    rcases List.mem_cons.1 hi with e | hi
    · rw [e] at hk
      rcases hj.ends hk with ⟨e1, e2⟩ | ⟨e1, e2⟩
      · rw [e1, e2]; exact ⟨List.mem_cons_of_mem _ hp, List.mem_cons_self ..⟩
      · rw [e1, e2]; exact ⟨List.mem_cons_self .., List.mem_cons_of_mem _ hp⟩
    · have := ih hi hk
      exact ⟨List.mem_cons_of_mem _ this.1, List.mem_cons_of_mem _ this.2⟩
theorem Grow.new {ts : List Lg} {V E : List Int} (h : Grow ts V E) {i p c : Int} (hc : c ∉ V) (hj : Jn ts i p c) : i ∉ E := fun hi => hc (h.ends hi hj).2
theorem Grow.pos {ts : List Lg} {V E : List Int} (h : Grow ts V E) : ∀ i ∈ E, 0 ≤ i ∧ ∃ x, ts[i.toNat]? = some x := by
  induction h with
  | zero => intro i hi; cases hi
  | more hg hp hc hj ih =>
    intro j hi
    rcases List.mem_cons.1 hi with e | hi
    · rw [e]; obtain ⟨h0, x, hx, -⟩ := hj; exact ⟨h0, x, hx⟩
    · exact ih j hi

/-- a way by legs of E from a to b that never turns back; 'last' is the leg before it -/
def NB (ts : List Lg) (E : List Int) : Int → Int → List Int → Int → Prop
  | _, a, [], b => a = b
  | last, a, i :: l, b => i ∈ E ∧ i ≠ last ∧ ∃ o, Jn ts i a o ∧ NB ts E i o l b
theorem NB.weak {ts : List Lg} {E : List Int} {last z a b : Int} {l : List Int} (h : NB ts E last a l b) (hz : ∀ i ∈ E, i ≠ z) : NB ts E z a l b := by
  cases l with
  | nil => exact h
  | cons i l => exact ⟨h.1, hz i h.1, h.2.2⟩
theorem NB.mem {ts : List Lg} {E : List Int} : ∀ {l : List Int} {last a b : Int}, NB ts E last a l b → ∀ j ∈ l, j ∈ E
  | [], _, _, _, _, j, hj => by cases hj
  | i :: l, last, a, b, h, j, hj => by
    obtain ⟨h1, -, o, -, h2⟩ := h
    rcases List.mem_cons.1 hj with e | e
    · rw [e]; exact h1
    · exact NB.mem h2 j e
theorem NB.congr {ts : List Lg} {E F : List Int} (he : ∀ i, i ∈ E → i ∈ F) : ∀ {l : List Int} {last a b : Int}, NB ts E last a l b → NB ts F last a l b
  | [], _, _, _, h => h
  | i :: l, last, a, b, h => by
    obtain ⟨h1, hn, o, ho, h2⟩ := h
    exact ⟨he i h1, hn, o, ho, NB.congr he h2⟩

section
variable {ts : List Lg} {V E : List Int} {i p c : Int}
theorem leaf_end (hg : Grow ts V E) (hc : c ∉ V) {l : List Int} {b : Int} (h : NB ts (i :: E) i c l b) : l = [] ∧ b = c := by
  cases l with
  | nil => exact ⟨rfl, h.symm⟩
  | cons k l =>
    obtain ⟨h1, hn, o, ho, -⟩ := h
    rcases List.mem_cons.1 h1 with e | e
    · exact absurd e hn
    · exact absurd (hg.ends e ho).1 hc
theorem grow_in (hg : Grow ts V E) (hc : c ∉ V) (hj : Jn ts i p c) : ∀ {l : List Int} {last a b : Int}, a ≠ c → b ≠ c → NB ts (i :: E) last a l b → NB ts E last a l b
  | [], _, _, _, _, _, h => h
  | j :: l, last, a, b, ha, hb, h => by
    obtain ⟨h1, hn, o, ho, h2⟩ := h
    rcases List.mem_cons.1 h1 with e | e
    · rw [e] at ho h2
      rcases hj.ends ho with ⟨e1, e2⟩ | ⟨e1, e2⟩
      · rw [e2] at h2
        exact absurd (leaf_end hg hc h2).2 hb
      · exact absurd e1 ha
    · have k := hg.ends e ho
      exact ⟨e, hn, o, ho, grow_in hg hc hj (fun q => hc (by rw [← q]; exact k.2)) hb h2⟩
theorem grow_from (hg : Grow ts V E) (hp : p ∈ V) (hc : c ∉ V) (hj : Jn ts i p c) {l : List Int} {last b : Int} (h : NB ts (i :: E) last c l b) (hl : l ≠ []) : ∃ l', l = i :: l' ∧ NB ts (i :: E) i p l' b := by
  cases l with
  | nil => exact absurd rfl hl
  | cons j l =>
    obtain ⟨h1, hn, o, ho, h2⟩ := h
    rcases List.mem_cons.1 h1 with e | e
    · rw [e] at ho h2
      rcases hj.ends ho with ⟨e1, e2⟩ | ⟨e1, e2⟩
      · exact absurd (by rw [e1]; exact hp) hc
      · rw [e2] at h2; exact ⟨l, by rw [e], h2⟩
    · exact absurd (hg.ends e ho).1 hc
theorem grow_to (hg : Grow ts V E) (hc : c ∉ V) (hj : Jn ts i p c) : ∀ {l : List Int} {last a : Int}, a ≠ c → NB ts (i :: E) last a l c → ∃ l', l = l' ++ [i] ∧ NB ts E last a l' p
  | [], _, a, ha, h => absurd h ha
  | j :: l, last, a, ha, h => by
    obtain ⟨h1, hn, o, ho, h2⟩ := h
    rcases List.mem_cons.1 h1 with e | e
    · rw [e] at ho h2
      rcases hj.ends ho with ⟨e1, e2⟩ | ⟨e1, e2⟩
      · rw [e2] at h2
        have k := (leaf_end hg hc h2).1
        exact ⟨[], by rw [e, k]; rfl, e1⟩
      · exact absurd e1 ha
    · have k := hg.ends e ho
      obtain ⟨l', e3, h3⟩ := grow_to hg hc hj (fun q => hc (by rw [← q]; exact k.2)) h2
      exact ⟨j :: l', by rw [e3]; rfl, e, hn, o, ho, h3⟩
end
theorem Grow.weak {ts : List Lg} {V E : List Int} (hg : Grow ts V E) {l : List Int} {last a b : Int} (h : NB ts E last a l b) : NB ts E (-1) a l b :=
  h.weak (fun i hi => by have := (hg.pos i hi).1; omega)
theorem grow_round {ts : List Lg} {V E : List Int} {i p c : Int} (hg : Grow ts V E) (hp : p ∈ V) (hc : c ∉ V) (hj : Jn ts i p c) (ih : ∀ {l m : List Int} {a b : Int}, NB ts E (-1) a l b → NB ts E (-1) a m b → l = m) {l : List Int} {last : Int} (h : NB ts (i :: E) last c l c) : l = [] := by
  cases hl : l with
  | nil => rfl
  | cons j l0 =>
    exfalso
    obtain ⟨l1, e1, h1⟩ := grow_from hg hp hc hj h (by rw [hl]; intro q; cases q)
    have hpc : p ≠ c := fun q => hc (by rw [← q]; exact hp)
    obtain ⟨l2, e2, h2⟩ := grow_to hg hc hj hpc h1
    have e3 : l2 = [] := ih (hg.weak h2) (show NB ts E (-1) p [] p from rfl)
    rw [e2, e3] at h1
    exact h1.2.1 rfl
theorem Grow.uniq {ts : List Lg} {V E : List Int} (h : Grow ts V E) : ∀ {l m : List Int} {a b : Int}, NB ts E (-1) a l b → NB ts E (-1) a m b → l = m := by
  induction h with
  | zero =>
    intro l m a b h1 h2
    cases l with
    | nil => cases m with
      | nil => rfl
      | cons j m => cases h2.1
    | cons j l => cases h1.1
  | @more V E i p c hg hp hc hj ih =>
    intro l m a b h1 h2
    have hpc : p ≠ c := fun q => hc (by rw [← q]; exact hp)
    by_cases ha : a = c
    · rw [ha] at h1 h2
      by_cases hb : b = c
      · rw [hb] at h1 h2
        rw [grow_round hg hp hc hj ih h1, grow_round hg hp hc hj ih h2]
      · have nl : ∀ {q : List Int}, NB ts (i :: E) (-1) c q b → q ≠ [] := fun {q} hq e => by
          rw [e] at hq; exact hb hq.symm
        obtain ⟨l1, e1, k1⟩ := grow_from hg hp hc hj h1 (nl h1)
        obtain ⟨m1, e2, k2⟩ := grow_from hg hp hc hj h2 (nl h2)
        rw [e1, e2, ih (hg.weak (grow_in hg hc hj hpc hb k1)) (hg.weak (grow_in hg hc hj hpc hb k2))]
    · by_cases hb : b = c
      · rw [hb] at h1 h2
        obtain ⟨l1, e1, k1⟩ := grow_to hg hc hj ha h1
        obtain ⟨m1, e2, k2⟩ := grow_to hg hc hj ha h2
        rw [e1, e2, ih k1 k2]
      · exact ih (grow_in hg hc hj ha hb h1) (grow_in hg hc hj ha hb h2)
theorem Grow.once {ts : List Lg} {V E : List Int} (h : Grow ts V E) : ∀ {l : List Int} {last a b : Int}, NB ts E last a l b → l.Nodup ∧ l.length ≤ E.length := by
  induction h with
  | zero =>
    intro l last a b h1
    cases l with
    | nil => exact ⟨List.nodup_nil, Nat.le_refl _⟩
    | cons j l => cases h1.1
  | @more V E i p c hg hp hc hj ih =>
    intro l last a b h1
    have hpc : p ≠ c := fun q => hc (by rw [← q]; exact hp)
    have hn : i ∉ E := hg.new hc hj
    by_cases ha : a = c
    · rw [ha] at h1
      by_cases hb : b = c
      · rw [hb] at h1
        rw [grow_round hg hp hc hj hg.uniq h1]; exact ⟨List.nodup_nil, Nat.zero_le _⟩
      · obtain ⟨l1, e1, k1⟩ := grow_from hg hp hc hj h1 (fun e => by rw [e] at h1; exact hb h1.symm)
        have k2 := grow_in hg hc hj hpc hb k1
        have := ih k2
        rw [e1]
        exact ⟨List.nodup_cons.2 ⟨fun q => hn (k2.mem i q), this.1⟩, by simp; omega⟩
    · by_cases hb : b = c
      · rw [hb] at h1
        obtain ⟨l1, e1, k1⟩ := grow_to hg hc hj ha h1
        have := ih k1
        rw [e1]
        refine ⟨List.nodup_append.2 ⟨this.1, by simp, fun x hx y hy e => ?_⟩, by simp; omega⟩
        have : y = i := by simpa using hy
        exact hn (k1.mem i (by rw [← this, ← e]; exact hx))
      · have := ih (grow_in hg hc hj ha hb h1)
        exact ⟨this.1, by simp; omega⟩

/-- one comes from a station to another one by legs of L -/
inductive Rc (L : Lg → Prop) : Int → Int → Prop
  | refl (a : Int) : Rc L a a
  | step {x : Lg} {a o b : Int} : L x → Jo x a o → Rc L o b → Rc L a b
theorem Rc.one {L : Lg → Prop} {x : Lg} {a b : Int} (h : L x) (hj : Jo x a b) : Rc L a b := .step h hj (.refl b)
theorem Rc.trans {L : Lg → Prop} {a b c : Int} (h : Rc L a b) (k : Rc L b c) : Rc L a c := by
  induction h with
  | refl a => exact k
  | step hx hj _ ih => exact .step hx hj (ih k)
theorem Rc.symm {L : Lg → Prop} {a b : Int} (h : Rc L a b) : Rc L b a := by
  induction h with
  | refl a => exact .refl a
  | step hx hj _ ih => exact ih.trans (.one hx hj.symm)
theorem Rc.mono {L M : Lg → Prop} (hm : ∀ x, L x → M x) {a b : Int} (h : Rc L a b) : Rc M a b := by
  induction h with
  | refl a => exact .refl a
  | step hx hj _ ih => exact .step (hm _ hx) hj ih
/-- a way along which every leg can be replaced -/
theorem Rc.over {L M : Lg → Prop} (hm : ∀ x, L x → Rc M x.frm x.to_) {a b : Int} (h : Rc L a b) : Rc M a b := by
  induction h with
  | refl a => exact .refl a
  | step hx hj _ ih =>
    rcases hj with ⟨e1, e2⟩ | ⟨e1, e2⟩
    · rw [← e1]; rw [← e2] at ih; exact (hm _ hx).trans ih
    · rw [← e1]; rw [← e2] at ih; exact (hm _ hx).symm.trans ih
/-- ways as the program has them, from their first station on to the last step (z, e); no station twice -/
inductive Wy (ts : List Lg) (O : Int → Prop) (z e : Int) : List (Int × Int) → Prop
  | one : Wy ts O z e [(z, e)]
  | more {t j s i : Int} {P : List (Int × Int)} : O j → Jn ts j t s → t ∉ ((s, i) :: P).map Prod.fst → Wy ts O z e ((s, i) :: P) → Wy ts O z e ((t, j) :: (s, i) :: P)
def hd : List (Int × Int) → Int
  | [] => 0
  | p :: _ => p.1
section
variable {ts : List Lg} {O : Int → Prop} {z e : Int}
theorem Wy.ne {W : List (Int × Int)} (h : Wy ts O z e W) : W ≠ [] := by cases h <;> simp
theorem Wy.nodup {W : List (Int × Int)} (h : Wy ts O z e W) : (W.map Prod.fst).Nodup := by
  induction h with
  | one => simp
  | more _ _ hn _ ih => rw [List.map_cons]; exact List.nodup_cons.2 ⟨hn, ih⟩
theorem Wy.tail : ∀ {Q P : List (Int × Int)}, P ≠ [] → Wy ts O z e (Q ++ P) → Wy ts O z e P
  | [], _, _, h => h
  | [q], P, hp, h => by
    cases P with
    | nil => exact absurd rfl hp
    | cons p P => cases h with
      | more _ _ _ h => exact h
  | q :: r :: Q, P, hp, h => by
    cases h with
    | more _ _ _ h => exact Wy.tail (Q := _ :: Q) hp h
theorem Wy.from {W : List (Int × Int)} (h : Wy ts O z e W) : ∀ a, a ∈ W.map Prod.fst → ∃ W', Wy ts O z e W' ∧ hd W' = a := by
  induction h with
  | one => intro a ha; exact ⟨_, .one, by simpa [hd] using (show a = z by simpa using ha).symm⟩
  | @more t j s i P ho hj hn h ih =>
    intro a ha
    rw [List.map_cons] at ha
    rcases List.mem_cons.1 ha with e1 | e1
    · exact ⟨_, .more ho hj hn h, e1.symm⟩
    · exact ih a e1
end
end Go.Proofs.YtjlkgijaceplcaaDoor.lp

namespace Go.Proofs.YtjlkgijaceplcaaDoor.lp
open Go.RowKit
open reads base ty lg hs nt
set_option linter.unusedVariables false

/-- the leg with an index -/
def legAt (ts : List Lg) (i : Int) : Lg := (ts[i.toNat]?).getD ⟨0, 0, 0, 0, 0⟩
theorem legAt_is {ts : List Lg} {i : Int} {x : Lg} (h : ts[i.toNat]? = some x) : legAt ts i = x := by unfold legAt; rw [h]; rfl
/-- a shift along a way -/
def along (ts : List Lg) (i a : Int) : Sf := if (legAt ts i).frm = a then shf (legAt ts i) else sub3 zero3 (shf (legAt ts i))
/-- the legs without one of them -/
def less (ts : List Lg) (k : Nat) : List Lg := ts.take k ++ ts.drop (k + 1)
/-- all legs but one -/
def other (k : Nat) (i : Int) : Prop := i ≠ k
/-- the greatest whole number whose square is at most n -/
def rt : Nat → Int
  | 0 => 0
  | n + 1 => if ((n + 1 : Nat) : Int) < (rt n + 1) * (rt n + 1) then rt n else rt n + 1
end Go.Proofs.YtjlkgijaceplcaaDoor.lp

namespace Go.Proofs.YtjlkgijaceplcaaDoor.lp
open Go.RowKit
open reads base ty lg hs nt
set_option linter.unusedVariables false

/-- the ends of a leg are stations -/
theorem Jn.bd {ts : List Lg} (hg : goodLg ts = true) {j s t : Int} (h : Jn ts j s t) : (0 ≤ s ∧ s ≤ 7) ∧ (0 ≤ t ∧ t ≤ 7) := by
  obtain ⟨-, x, hx, hJ⟩ := h
  obtain ⟨l1, l2, -⟩ := okLg_lim (goodLg_at hg hx)
  unfold Jo at hJ
  omega
theorem Jn.leg {ts : List Lg} {j s t : Int} (h : Jn ts j s t) : ∃ (q : Nat) (x : Lg), j = (q : Int) ∧ ts[q]? = some x ∧ legAt ts j = x ∧ Jo x s t := by
  obtain ⟨h0, x, hx, hJ⟩ := h
  obtain ⟨q, rfl⟩ := Int.eq_ofNat_of_zero_le h0
  exact ⟨q, x, rfl, by rwa [Int.toNat_natCast] at hx, legAt_is hx, hJ⟩
end Go.Proofs.YtjlkgijaceplcaaDoor.lp

namespace Go.Proofs.YtjlkgijaceplcaaDoor.lp
open Go.RowKit
open reads base ty lg hs nt
set_option linter.unusedVariables false

section
variable {ts : List Lg} {bs : List Bool} {k : Nat} {s : Int} {x : Lg}
end
section
variable {ts : List Lg} {O : Int → Prop} {z e : Int}
theorem Wy.congr {O' : Int → Prop} (ho : ∀ j s t, O j → Jn ts j s t → O' j) {W : List (Int × Int)} (h : Wy ts O z e W) : Wy ts O' z e W := by
  induction h with
  | one => exact .one
  | more h1 h2 h3 _ ih => exact .more (ho _ _ _ h1 h2) h2 h3 ih
theorem Wy.last {W : List (Int × Int)} (h : Wy ts O z e W) : ∃ Q, W = Q ++ [(z, e)] := by
  induction h with
  | one => exact ⟨[], rfl⟩
  | @more t j s i P h1 h2 h3 _ ih =>
    obtain ⟨Q, hQ⟩ := ih
    exact ⟨(t, j) :: Q, by rw [hQ]; rfl⟩
theorem Wy.bd (hg : goodLg ts = true) (hz : 0 ≤ z ∧ z ≤ 7) {W : List (Int × Int)} (h : Wy ts O z e W) : ∀ s ∈ W.map Prod.fst, 0 ≤ s ∧ s ≤ 7 := by
  induction h with
  | one => intro s hs; rw [show s = z by simpa using hs]; exact hz
  | more h1 h2 h3 _ ih =>
    intro s hs
    rw [List.map_cons] at hs
    rcases List.mem_cons.1 hs with q | q
    · rw [q]; exact (h2.bd hg).1
    · exact ih s q
theorem nodup_len : ∀ (n : Nat) (l : List Int), l.Nodup → (∀ s ∈ l, 0 ≤ s ∧ s < n) → l.length ≤ n
  | 0, l, _, h => by
    cases l with
    | nil => exact Nat.le_refl _
    | cons a l => have := h a (List.mem_cons_self ..); omega
  | n + 1, l, hn, h => by
    by_cases hm : (n : Int) ∈ l
    · have h1 := nodup_len n (l.erase (n : Int)) (hn.erase _) (fun s hs => by
        have h2 := (hn.mem_erase_iff).1 hs
        have := h s h2.2
        have := h2.1
        omega)
      rw [List.length_erase_of_mem hm] at h1
      omega
    · have := nodup_len n l hn (fun s hs => by
        have := h s hs
        have : s ≠ n := fun e => hm (by rw [← e]; exact hs)
        omega)
      omega
theorem Wy.len (hg : goodLg ts = true) (hz : 0 ≤ z ∧ z ≤ 7) {W : List (Int × Int)} (h : Wy ts O z e W) : W.length ≤ 8 := by
  have h1 := nodup_len 8 _ h.nodup (fun s hs => by have := h.bd hg hz s hs; omega)
  rwa [List.length_map] at h1
/-- behind a way no other one of the kind that is asked for -/
def NoWay (ts : List Lg) (O : Int → Prop) (z e st : Int) (P : List (Int × Int)) : Prop := ∀ Q, Wy ts O z e (Q ++ P) → ¬ hd (Q ++ P) = st
end
end Go.Proofs.YtjlkgijaceplcaaDoor.lp

namespace Go.Proofs.YtjlkgijaceplcaaDoor.bl
open Go.RowKit
open reads base ty lg lgi win hs nt nq rowi sn mt ml dt pg ph lp
set_option linter.unusedVariables false
set_option linter.unusedSimpArgs false

theorem asc_ext : ∀ {a b : List Int}, a.Pairwise (· < ·) → b.Pairwise (· < ·) → (∀ x, x ∈ a ↔ x ∈ b) → a = b
  | [], [], _, _, _ => rfl
  | [], y :: b, _, _, h => absurd ((h y).2 (List.mem_cons_self ..)) (by simp)
  | x :: a, [], _, _, h => absurd ((h x).1 (List.mem_cons_self ..)) (by simp)
  | x :: a, y :: b, ha, hb, h => by
    have a1 := List.pairwise_cons.1 ha
    have b1 := List.pairwise_cons.1 hb
    have e : x = y := by
      rcases List.mem_cons.1 ((h x).1 (List.mem_cons_self ..)) with q | q
      · exact q
      · rcases List.mem_cons.1 ((h y).2 (List.mem_cons_self ..)) with r | r
        · exact r.symm
        · have := b1.1 x q; have := a1.1 y r; omega
    subst e
    rw [asc_ext a1.2 b1.2 (fun z => ?_)]
    constructor
    · intro hz
      rcases List.mem_cons.1 ((h z).1 (List.mem_cons_of_mem _ hz)) with q | q
      · have := a1.1 z hz; omega
      · exact q
    · intro hz
      rcases List.mem_cons.1 ((h z).2 (List.mem_cons_of_mem _ hz)) with q | q
      · have := b1.1 z hz; omega
      · exact q
theorem cpI_mul {x y c : Int} (hc : 0 < c) : cpI (x * c) (y * c) = cpI x y := by
  have a : x * c < y * c ↔ x < y := ⟨fun h => Int.lt_of_mul_lt_mul_right h (by omega), fun h => Int.mul_lt_mul_of_pos_right h hc⟩
  have b : y * c < x * c ↔ y < x := ⟨fun h => Int.lt_of_mul_lt_mul_right h (by omega), fun h => Int.mul_lt_mul_of_pos_right h hc⟩
  unfold cpI; simp only [a, b]
/-- the order of the strains, by the numbers of trees -/
theorem cpS_is {ts us : List Lg} (hg : goodLg ts = true) (hu : goodLg us = true) : cpS ts us = cpI (EK ts 3 * TC us) (EK us 3 * TC ts) := by
  have r1 := red_is (EK_bd hg 3 (by omega)).1 (TC_pos hg)
  have r2 := red_is (EK_bd hu 3 (by omega)).1 (TC_pos hu)
  have p1 := TC_pos hg
  have p2 := TC_pos hu
  unfold cpS snV sdV kn kd
  obtain ⟨n, hn⟩ : ∃ n, redN (EK ts 3) (TC ts) = n := ⟨_, rfl⟩
  obtain ⟨d, hd⟩ : ∃ d, redD (EK ts 3) (TC ts) = d := ⟨_, rfl⟩
  obtain ⟨m, hm⟩ : ∃ n, redN (EK us 3) (TC us) = n := ⟨_, rfl⟩
  obtain ⟨f, hf⟩ : ∃ d, redD (EK us 3) (TC us) = d := ⟨_, rfl⟩
  rw [hn, hd] at r1 ⊢
  rw [hm, hf] at r2 ⊢
  obtain ⟨e1, -, -, d0, -⟩ := r1
  obtain ⟨e2, -, -, f0, -⟩ := r2
  rw [← cpI_mul (c := TC ts * TC us) (Int.mul_pos (by omega) (by omega)), ← cpI_mul (x := EK ts 3 * TC us) (c := d * f) (Int.mul_pos (by omega) (by omega))]
  congr 1
  · rw [show n * f * (TC ts * TC us) = n * TC ts * (f * TC us) by grind, e1]; grind
  · rw [show m * d * (TC ts * TC us) = m * TC us * (d * TC ts) by grind, e2]; grind
/-- the order of the strains is one -/
theorem cpS_trans {a b c : List Lg} (ha : goodLg a = true) (hb : goodLg b = true) (hc : goodLg c = true) (h1 : cpS a b ≤ 0) (h2 : cpS b c ≤ 0) : cpS a c ≤ 0 ∧ (cpS a b < 0 ∨ cpS b c < 0 → cpS a c < 0) := by
  rw [cpS_is ha hb] at h1 ⊢
  rw [cpS_is hb hc] at h2 ⊢
  rw [cpS_is ha hc]
  have le : ∀ x y : Int, cpI x y ≤ 0 ↔ x ≤ y := fun x y => by unfold cpI; split; omega; split <;> omega
  have p1 := TC_pos ha
  have p2 := TC_pos hb
  have p3 := TC_pos hc
  rw [le] at h1 h2
  rw [le, cpI_lt, cpI_lt, cpI_lt]
  obtain ⟨A, hA⟩ : ∃ A, EK a 3 = A := ⟨_, rfl⟩
  obtain ⟨B, hB⟩ : ∃ A, EK b 3 = A := ⟨_, rfl⟩
  obtain ⟨C, hC⟩ : ∃ A, EK c 3 = A := ⟨_, rfl⟩
  obtain ⟨s, hs⟩ : ∃ A, TC a = A := ⟨_, rfl⟩
  obtain ⟨t, ht⟩ : ∃ A, TC b = A := ⟨_, rfl⟩
  obtain ⟨u, hu⟩ : ∃ A, TC c = A := ⟨_, rfl⟩
  simp only [hA, hB, hC, hs, ht, hu] at h1 h2 p1 p2 p3 ⊢
  have m1 := Int.mul_le_mul_of_nonneg_right h1 (show 0 ≤ u by omega)
  have m2 := Int.mul_le_mul_of_nonneg_right h2 (show 0 ≤ s by omega)
  have e : B * s * u = B * u * s := by grind
  refine ⟨Int.le_of_mul_le_mul_right (a := t) ?_ (by omega), fun q => Int.lt_of_mul_lt_mul_right (a := t) ?_ (by omega)⟩
  · have f1 : A * u * t = A * t * u := by grind
    have f2 : C * s * t = C * t * s := by grind
    omega
  · have f1 : A * u * t = A * t * u := by grind
    have f2 : C * s * t = C * t * s := by grind
    rcases q with q | q
    · have := Int.mul_lt_mul_of_pos_right q (show 0 < u by omega)
      omega
    · have := Int.mul_lt_mul_of_pos_right q (show 0 < s by omega)
      omega
end Go.Proofs.YtjlkgijaceplcaaDoor.bl

namespace Go.Proofs.YtjlkgijaceplcaaDoor.ty
open Go.RowKit
open reads base
set_option linter.unusedVariables false

/-- a list of ints in memory, from the beginning of a block on -/
def InAt (w : World) (B : Nat) (A : Option Addr) (n : Nat) (xs : List Int) : Prop :=
  xs.length = n ∧ ∀ (k : Nat) x, xs[k]? = some x → ∃ g, A = some ⟨g, 0, none⟩ ∧ g < B ∧ w.cell? ⟨g, k, none⟩ = some (.int .i64 x)
theorem InAt.below {w w' : World} {B : Nat} {A : Option Addr} {n : Nat} {xs : List Int} (h : InAt w B A n xs) (hb : Below B w w') : InAt w' B A n xs :=
  ⟨h.1, fun k x hx => by
    obtain ⟨g, e, hg, h0⟩ := h.2 k x hx
    exact ⟨g, e, hg, (hb.cell (p := ⟨g, k, none⟩) hg).trans h0⟩⟩
theorem InAt.more {w : World} {B B' : Nat} {A : Option Addr} {n : Nat} {xs : List Int} (h : InAt w B A n xs) (hB : B ≤ B') : InAt w B' A n xs :=
  ⟨h.1, fun k x hx => by
    obtain ⟨g, e, hg, h0⟩ := h.2 k x hx
    exact ⟨g, e, by omega, h0⟩⟩
theorem InAt.step {w w' : World} {A : Option Addr} {n : Nat} {xs : List Int} (h : InAt w w.heap.size A n xs) (hb : Below w.heap.size w w') : InAt w' w'.heap.size A n xs := (h.below hb).more hb.size
theorem InAt.alloc {w : World} {A : Option Addr} {n : Nat} {xs : List Int} (h : InAt w w.heap.size A n xs) (o : Obj) : InAt (w.alloc o) (w.alloc o).heap.size A n xs := h.step ((Below.refl _ _).alloc (Nat.le_refl _) o)
end Go.Proofs.YtjlkgijaceplcaaDoor.ty

namespace Go.Proofs.YtjlkgijaceplcaaDoor.nt
open Go.RowKit
open reads base ty lg rowi hs
set_option linter.unusedVariables false
set_option linter.unusedSimpArgs false

end Go.Proofs.YtjlkgijaceplcaaDoor.nt

namespace Go.Proofs.YtjlkgijaceplcaaDoor.nt
open Go.RowKit
open reads base ty lg rowi hs
set_option linter.unusedVariables false
set_option linter.unusedSimpArgs false

end Go.Proofs.YtjlkgijaceplcaaDoor.nt

namespace Go.Proofs.YtjlkgijaceplcaaDoor.lp
open Go.RowKit
open reads base ty lg rowi hs nt
set_option linter.unusedVariables false
set_option linter.unusedSimpArgs false

end Go.Proofs.YtjlkgijaceplcaaDoor.lp

namespace Go.Proofs.YtjlkgijaceplcaaDoor.lp
open Go.RowKit
open reads base ty lg rowi hs nt
set_option linter.unusedVariables false
set_option linter.unusedSimpArgs false

end Go.Proofs.YtjlkgijaceplcaaDoor.lp

namespace Go.Proofs.YtjlkgijaceplcaaDoor.lp
open Go.RowKit
open reads base ty lg rowi hs nt
set_option linter.unusedVariables false
set_option linter.unusedSimpArgs false

end Go.Proofs.YtjlkgijaceplcaaDoor.lp

namespace Go.Proofs.YtjlkgijaceplcaaDoor.lp
open Go.RowKit
open reads base ty lg rowi hs nt
set_option linter.unusedVariables false
set_option linter.unusedSimpArgs false

/-- the answer and the sum in their boxes -/
def CB3 (w : World) (s : Sf) (v : World) : Prop := Blk v w.heap.size 69 #[.int .i64 0, .int .i64 0, .int .i64 0] ∧ Blk v (w.heap.size + 1) 69 #[.int .i64 s.east, .int .i64 s.north, .int .i64 s.up] ∧ Below w.heap.size w v
theorem CB3.start (w : World) : CB3 w zero3 ((w.alloc (.cells #[.int .i64 0, .int .i64 0, .int .i64 0] 69)).alloc (.cells #[.int .i64 0, .int .i64 0, .int .i64 0] 69)) := by
  refine ⟨(Blk.new w _ _).alloc _, ?_, ((Below.refl _ _).alloc (Nat.le_refl _) _).alloc (by simp) _⟩
  have h := Blk.new (w.alloc (.cells #[.int .i64 0, .int .i64 0, .int .i64 0] 69)) 69 #[.int .i64 0, .int .i64 0, .int .i64 0]
  simpa [zero3] using h
theorem CB3.step {w v v' : World} {s : Sf} (h : CB3 w s v) (hb : Below v.heap.size v v') : CB3 w s v' := ⟨h.1.below hb h.1.lt, h.2.1.below hb h.2.1.lt, h.2.2.trans (hb.mono h.2.2.size)⟩
theorem CB3.drew {w v : World} {s : Sf} (h : CB3 w s v) : CB3 w s v.drew := ⟨h.1.drew, h.2.1.drew, h.2.2.drew⟩
theorem CB3.cs {w v : World} {s : Sf} (h : CB3 w s v) : v.cell? ⟨w.heap.size + 1, 0, none⟩ = some (.int .i64 s.east) ∧ v.cell? ⟨w.heap.size + 1, 1, none⟩ = some (.int .i64 s.north) ∧ v.cell? ⟨w.heap.size + 1, 2, none⟩ = some (.int .i64 s.up) := ⟨h.2.1.cell 0, h.2.1.cell 1, h.2.1.cell 2⟩
theorem CB3.zs {w v : World} {s : Sf} (h : CB3 w s v) : v.cell? ⟨w.heap.size, 0, none⟩ = some (.int .i64 0) ∧ v.cell? ⟨w.heap.size, 1, none⟩ = some (.int .i64 0) ∧ v.cell? ⟨w.heap.size, 2, none⟩ = some (.int .i64 0) := ⟨h.1.cell 0, h.1.cell 1, h.1.cell 2⟩
theorem CB3.fs {w v : World} {s : Sf} (h : CB3 w s v) : v.frozen? ⟨w.heap.size + 1, 0, none⟩ = false ∧ v.frozen? ⟨w.heap.size + 1, 1, none⟩ = false ∧ v.frozen? ⟨w.heap.size + 1, 2, none⟩ = false ∧ w.heap.size + 1 < v.heap.size := ⟨h.2.1.frozen 0, h.2.1.frozen 1, h.2.1.frozen 2, h.2.1.lt⟩
theorem CB3.gs {w v : World} {s : Sf} (h : CB3 w s v) : v.frozen? ⟨w.heap.size, 0, none⟩ = false ∧ v.frozen? ⟨w.heap.size, 1, none⟩ = false ∧ v.frozen? ⟨w.heap.size, 2, none⟩ = false ∧ w.heap.size < v.heap.size := ⟨h.1.frozen 0, h.1.frozen 1, h.1.frozen 2, h.1.lt⟩
theorem CB3.put {w v : World} {s : Sf} (h : CB3 w s v) (y : Sf) : CB3 w y (((v.setCell ⟨w.heap.size + 1, 0, none⟩ (.int .i64 y.east)).setCell ⟨w.heap.size + 1, 1, none⟩ (.int .i64 y.north)).setCell ⟨w.heap.size + 1, 2, none⟩ (.int .i64 y.up)) := by
  obtain ⟨h1, h2, h3⟩ := h
  refine ⟨((h1.far (by show _ ≠ _; simp) _).far (by show _ ≠ _; simp) _).far (by show _ ≠ _; simp) _, ?_, ((h3.setCell (by simp) _).setCell (by simp) _).setCell (by simp) _⟩
  have k := ((h2.set_ 0 (.int .i64 y.east)).set_ 1 (.int .i64 y.north)).set_ 2 (.int .i64 y.up)
  simpa using k
/-- a list of ints in a block of its own stays while the sum is written -/
theorem in_put {w v : World} {B m g : Nat} {xs : List Int} {y : Sf} (h : InAt v B (some ⟨g, 0, none⟩) m xs) (hg : w.heap.size + 1 < g) : InAt (((v.setCell ⟨w.heap.size + 1, 0, none⟩ (.int .i64 y.east)).setCell ⟨w.heap.size + 1, 1, none⟩ (.int .i64 y.north)).setCell ⟨w.heap.size + 1, 2, none⟩ (.int .i64 y.up)) B (some ⟨g, 0, none⟩) m xs :=
  ⟨h.1, fun k x hx => by
    obtain ⟨g', e, hb, hc⟩ := h.2 k x hx
    obtain rfl : g = g' := by injection e with e; injection e
    refine ⟨g, rfl, hb, ?_⟩
    have ne : ∀ o, (⟨w.heap.size + 1, o, none⟩ : Addr) ≠ ⟨g, k, none⟩ := fun o q => by injection q with q; omega
    rw [World.cell?_setCell_other _ _ _ _ (ne 2), World.cell?_setCell_other _ _ _ _ (ne 1), World.cell?_setCell_other _ _ _ _ (ne 0)]
    exact hc⟩
theorem leg5 {v : World} {X : Nat} {T : TypeId} {y : Lg} (h : Blk v X T #[.int .i64 y.frm, .int .i64 y.to_, .int .i64 y.tape, .int .i64 y.comp, .int .i64 y.slope]) : v.cell? ⟨X, 0, none⟩ = some (.int .i64 y.frm) ∧ v.cell? ⟨X, 1, none⟩ = some (.int .i64 y.to_) ∧ v.cell? ⟨X, 2, none⟩ = some (.int .i64 y.tape) ∧ v.cell? ⟨X, 3, none⟩ = some (.int .i64 y.comp) ∧ v.cell? ⟨X, 4, none⟩ = some (.int .i64 y.slope) := ⟨h.cell 0, h.cell 1, h.cell 2, h.cell 3, h.cell 4⟩
/-- what is live in the loop: the boxes of the answer and the sum, the loop's legs -/
def MB (w : World) (B g m : Nat) (L : List Int) (s : Sf) (v : World) : Prop := CB3 w s v ∧ InAt v B (some ⟨g, 0, none⟩) m L ∧ B ≤ v.heap.size ∧ w.heap.size + 1 < g
/-- the same, and the leg at hand -/
def MX (w : World) (B g m : Nat) (L : List Int) (s : Sf) (X : Nat) (y : Lg) (v : World) : Prop := MB w B g m L s v ∧ Blk v X 54 #[.int .i64 y.frm, .int .i64 y.to_, .int .i64 y.tape, .int .i64 y.comp, .int .i64 y.slope] ∧ w.heap.size + 1 < X
section
variable {w v v' : World} {B g m X : Nat} {L : List Int} {s : Sf} {y : Lg}
theorem MB.step (h : MB w B g m L s v) (hb : Below v.heap.size v v') : MB w B g m L s v' := ⟨h.1.step hb, h.2.1.below (hb.mono h.2.2.1), Nat.le_trans h.2.2.1 hb.size, h.2.2.2⟩
theorem MB.put (h : MB w B g m L s v) (z : Sf) : MB w B g m L z (((v.setCell ⟨w.heap.size + 1, 0, none⟩ (.int .i64 z.east)).setCell ⟨w.heap.size + 1, 1, none⟩ (.int .i64 z.north)).setCell ⟨w.heap.size + 1, 2, none⟩ (.int .i64 z.up)) :=
  ⟨h.1.put z, in_put h.2.1 h.2.2.2, by simpa [World.setCell] using h.2.2.1, h.2.2.2⟩
theorem MX.step (h : MX w B g m L s X y v) (hb : Below v.heap.size v v') : MX w B g m L s X y v' := ⟨h.1.step hb, h.2.1.below hb h.2.1.lt, h.2.2⟩
theorem MX.put (h : MX w B g m L s X y v) (z : Sf) : MX w B g m L z X y (((v.setCell ⟨w.heap.size + 1, 0, none⟩ (.int .i64 z.east)).setCell ⟨w.heap.size + 1, 1, none⟩ (.int .i64 z.north)).setCell ⟨w.heap.size + 1, 2, none⟩ (.int .i64 z.up)) := by
  have ne : ∀ o, X ≠ (⟨w.heap.size + 1, o, none⟩ : Addr).block := fun o => by have := h.2.2; show X ≠ w.heap.size + 1; omega
  exact ⟨h.1.put z, ((h.2.1.far (ne 0) _).far (ne 1) _).far (ne 2) _, h.2.2⟩
theorem MX.cs (h : MX w B g m L s X y v) : (v.cell? ⟨w.heap.size + 1, 0, none⟩ = some (.int .i64 s.east) ∧ v.cell? ⟨w.heap.size + 1, 1, none⟩ = some (.int .i64 s.north) ∧ v.cell? ⟨w.heap.size + 1, 2, none⟩ = some (.int .i64 s.up)) ∧ (v.cell? ⟨X, 0, none⟩ = some (.int .i64 y.frm) ∧ v.cell? ⟨X, 1, none⟩ = some (.int .i64 y.to_) ∧ v.cell? ⟨X, 2, none⟩ = some (.int .i64 y.tape) ∧ v.cell? ⟨X, 3, none⟩ = some (.int .i64 y.comp) ∧ v.cell? ⟨X, 4, none⟩ = some (.int .i64 y.slope)) ∧ X < v.heap.size ∧ (v.frozen? ⟨w.heap.size + 1, 0, none⟩ = false ∧ v.frozen? ⟨w.heap.size + 1, 1, none⟩ = false ∧ v.frozen? ⟨w.heap.size + 1, 2, none⟩ = false ∧ w.heap.size + 1 < v.heap.size) := ⟨h.1.1.cs, leg5 h.2.1, h.2.1.lt, h.1.1.fs⟩
end
end Go.Proofs.YtjlkgijaceplcaaDoor.lp

namespace Go.Proofs.YtjlkgijaceplcaaDoor.lp
open Go.RowKit
open reads base ty lg rowi hs nt
set_option linter.unusedVariables false
set_option linter.unusedSimpArgs false

end Go.Proofs.YtjlkgijaceplcaaDoor.lp

namespace Go.Proofs.YtjlkgijaceplcaaDoor.lp
open Go.RowKit
open reads base ty lg rowi hs nt
set_option linter.unusedVariables false
set_option linter.unusedSimpArgs false

theorem flatLg_append (a b : List Lg) : flatLg (a ++ b) = flatLg a ++ flatLg b := by simp [flatLg]
theorem flat_one (ts : List Lg) : ∀ u ∈ flatLg ts, u.oneCell' = true := by
  intro u hu
  unfold flatLg at hu
  obtain ⟨t, -, h⟩ := List.mem_flatMap.1 hu
  simp at h
  rcases h with rfl | rfl | rfl | rfl | rfl <;> rfl
theorem flat_cell {w : World} {B g n : Nat} {ts : List Lg} (h : LgAt w B (some ⟨g, 0, none⟩) n ts) : ∀ (q : Nat) u, (flatLg ts)[q]? = some u → w.cell? ⟨g, q, none⟩ = some u := by
  intro q u hu
  have hq : q < n * 5 := by have := lt_at hu; rw [flatLg_len, h.1] at this; exact this
  obtain ⟨t, ht⟩ := at_lt h.1 (show q / 5 < n by omega)
  obtain ⟨f0, f1, f2, f3, f4⟩ := flatLg_at ts (q / 5) t ht
  obtain ⟨g', e, -, c0, c1, c2, c3, c4⟩ := h.2 (q / 5) t ht
  obtain rfl : g = g' := by injection e with e; injection e
  have hr : q % 5 = 0 ∨ q % 5 = 1 ∨ q % 5 = 2 ∨ q % 5 = 3 ∨ q % 5 = 4 := by omega
  rcases hr with r | r | r | r | r
  · rw [show q / 5 * 5 = q by omega] at f0 c0; rw [c0, ← f0, hu]
  · rw [show q / 5 * 5 + 1 = q by omega] at f1 c1; rw [c1, ← f1, hu]
  · rw [show q / 5 * 5 + 2 = q by omega] at f2 c2; rw [c2, ← f2, hu]
  · rw [show q / 5 * 5 + 3 = q by omega] at f3 c3; rw [c3, ← f3, hu]
  · rw [show q / 5 * 5 + 4 = q by omega] at f4 c4; rw [c4, ← f4, hu]
theorem flat_take {w : World} {B g n : Nat} {ts : List Lg} (h : LgAt w B (some ⟨g, 0, none⟩) n ts) (k : Nat) : ∀ (q : Nat) u, (flatLg (ts.take k))[q]? = some u → w.cell? ((⟨g, 0, none⟩ : Addr).add q) = some u := by
  intro q u hu
  have e : (⟨g, 0, none⟩ : Addr).add q = ⟨g, q, none⟩ := by unfold Addr.add; by_cases hj : q = 0 <;> simp [hj]
  rw [e]
  refine flat_cell h q u ?_
  have := lt_at hu
  rw [← List.take_append_drop k ts, flatLg_append, List.getElem?_append_left this]
  exact hu
end Go.Proofs.YtjlkgijaceplcaaDoor.lp

namespace Go.Proofs.YtjlkgijaceplcaaDoor.lp
open Go.RowKit
open reads base inn ty lg rowi hs nt
set_option linter.unusedVariables false
set_option linter.unusedSimpArgs false

end Go.Proofs.YtjlkgijaceplcaaDoor.lp
