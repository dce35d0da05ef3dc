/-
  Trees of legs and the ways along them (pure mathematics).
  The loop of a closing leg: its legs, its stations, its length, its misclosure; bridges (pure mathematics).
  Legs one after the other: the stations between them, the sum of their shifts, of their lengths (pure mathematics).
  Ways as the program grows them: exits, what a search shows, loops and bridges told by ways (pure mathematics).
  Leaving out a leg that is no bridge (pure mathematics): the placed stations stay, and the strain is no greater; without closing legs there is none.
  A list of ints in memory, from the beginning of a block on.
  The length of a shift, by the model.
  Whether legs place a station, closing legs, by the model.
  The way between two stations by tree legs, and the legs of a loop, by the model.
  The legs of a loop, by the model.
  LoopLegs and LoopOf, by the model.
  The length and the misclosure of a loop, by the model.
  Misclosures, the worst loop, the loops through a leg, their number, by the model.
  Bridges, by the model.
  IsBridge, BridgesOf, LoopsThrough and CountLoops, by the model.
  Conditions: those that each theorem names.
-/
import Derived.Test.YtjlkgijaceplcaaDoorNtR
import Derived.Test.YtjlkgijaceplcaaDoorNtZ
import Derived.Test.YtjlkgijaceplcaaDoorBlA
import Derived.Test.YtjlkgijaceplcaaDoorBase
import Derived.Test.YtjlkgijaceplcaaDoorIntV
import Derived.Test.YtjlkgijaceplcaaDoorLen
import Derived.Test.YtjlkgijaceplcaaDoorNtC
import Derived.Deep.RegionHeld3
import Derived.Deep.DeepCutAuto
import Derived.OwnWalk
import Derived.Deep.QuietTactic
import Derived.BigQuiet
import Derived.Deep.RegionWith
namespace Go.Proofs.YtjlkgijaceplcaaDoor.lp
open Go.RowKit
open reads base ty lg hs nt
set_option linter.unusedVariables false

/-- a leg joins two stations -/
def Jo (x : Lg) (a b : Int) : Prop := (x.frm = a ∧ x.to_ = b) ∨ (x.to_ = a ∧ x.frm = b)
theorem Jo.symm {x : Lg} {a b : Int} (h : Jo x a b) : Jo x b a := by
  rcases h with ⟨h1, h2⟩ | ⟨h1, h2⟩
  · exact .inr ⟨h2, h1⟩
  · exact .inl ⟨h2, h1⟩
theorem Jo.far {x : Lg} {a b : Int} (h : Jo x a b) : b = x.frm + x.to_ - a := by unfold Jo at h; omega
theorem Jo.uniq {x : Lg} {a b c : Int} (h : Jo x a b) (k : Jo x a c) : b = c := by rw [h.far, k.far]
theorem Jo.ends {x : Lg} {a b c d : Int} (h : Jo x a b) (k : Jo x c d) : (c = a ∧ d = b) ∨ (c = b ∧ d = a) := by unfold Jo at h k; omega
/-- the leg with an index joins two stations -/
def Jn (ts : List Lg) (i a b : Int) : Prop := 0 ≤ i ∧ ∃ x, ts[i.toNat]? = some x ∧ Jo x a b
theorem Jn.symm {ts : List Lg} {i a b : Int} (h : Jn ts i a b) : Jn ts i b a := by
  obtain ⟨h0, x, hx, hj⟩ := h
  exact ⟨h0, x, hx, hj.symm⟩
theorem Jn.ends {ts : List Lg} {i a b c d : Int} (h : Jn ts i a b) (k : Jn ts i c d) : (c = a ∧ d = b) ∨ (c = b ∧ d = a) := by
  obtain ⟨h0, x, hx, hj⟩ := h
  obtain ⟨-, y, hy, kj⟩ := k
  rw [hx] at hy
  obtain rfl := Option.some.inj hy
  exact hj.ends kj
theorem Jn.uniq {ts : List Lg} {i a b c : Int} (h : Jn ts i a b) (k : Jn ts i a c) : b = c := by
  obtain ⟨h0, x, hx, hj⟩ := h
  obtain ⟨-, y, hy, kj⟩ := k
  rw [hx] at hy
  obtain rfl := Option.some.inj hy
  exact hj.uniq kj

/-- stations and the legs that placed them, one after the other -/
inductive Grow (ts : List Lg) : List Int → List Int → Prop
  | zero : Grow ts [0] []
  | more {V E : List Int} {i p c : Int} : Grow ts V E → p ∈ V → c ∉ V → Jn ts i p c → Grow ts (c :: V) (i :: E)
theorem Grow.ends {ts : List Lg} {V E : List Int} (h : Grow ts V E) : ∀ {i a b : Int}, i ∈ E → Jn ts i a b → a ∈ V ∧ b ∈ V := by
  induction h with
  | zero => intro i a b hi; cases hi
  | more hg hp hc hj ih =>
    intro j a b hi hk
    rcases List.mem_cons.1 hi with e | hi
    · rw [e] at hk
      rcases hj.ends hk with ⟨e1, e2⟩ | ⟨e1, e2⟩
      · rw [e1, e2]; exact ⟨List.mem_cons_of_mem _ hp, List.mem_cons_self ..⟩
      · rw [e1, e2]; exact ⟨List.mem_cons_self .., List.mem_cons_of_mem _ hp⟩
    · have := ih hi hk
      exact ⟨List.mem_cons_of_mem _ this.1, List.mem_cons_of_mem _ this.2⟩
theorem Grow.new {ts : List Lg} {V E : List Int} (h : Grow ts V E) {i p c : Int} (hc : c ∉ V) (hj : Jn ts i p c) : i ∉ E := fun hi => hc (h.ends hi hj).2
theorem Grow.pos {ts : List Lg} {V E : List Int} (h : Grow ts V E) : ∀ i ∈ E, 0 ≤ i ∧ ∃ x, ts[i.toNat]? = some x := by
  induction h with
  | zero => intro i hi; cases hi
  | more hg hp hc hj ih =>
    intro j hi
    rcases List.mem_cons.1 hi with e | hi
    · rw [e]; obtain ⟨h0, x, hx, -⟩ := hj; exact ⟨h0, x, hx⟩
    · exact ih j hi

/-- a way by legs of E from a to b that never turns back; 'last' is the leg before it -/
def NB (ts : List Lg) (E : List Int) : Int → Int → List Int → Int → Prop
  | _, a, [], b => a = b
  | last, a, i :: l, b => i ∈ E ∧ i ≠ last ∧ ∃ o, Jn ts i a o ∧ NB ts E i o l b
theorem NB.weak {ts : List Lg} {E : List Int} {last z a b : Int} {l : List Int} (h : NB ts E last a l b) (hz : ∀ i ∈ E, i ≠ z) : NB ts E z a l b := by
  cases l with
  | nil => exact h
  | cons i l => exact ⟨h.1, hz i h.1, h.2.2⟩
theorem NB.mem {ts : List Lg} {E : List Int} : ∀ {l : List Int} {last a b : Int}, NB ts E last a l b → ∀ j ∈ l, j ∈ E
  | [], _, _, _, _, j, hj => by cases hj
  | i :: l, last, a, b, h, j, hj => by
    obtain ⟨h1, -, o, -, h2⟩ := h
    rcases List.mem_cons.1 hj with e | e
    · rw [e]; exact h1
    · exact NB.mem h2 j e
theorem NB.congr {ts : List Lg} {E F : List Int} (he : ∀ i, i ∈ E → i ∈ F) : ∀ {l : List Int} {last a b : Int}, NB ts E last a l b → NB ts F last a l b
  | [], _, _, _, h => h
  | i :: l, last, a, b, h => by
    obtain ⟨h1, hn, o, ho, h2⟩ := h
    exact ⟨he i h1, hn, o, ho, NB.congr he h2⟩

section
variable {ts : List Lg} {V E : List Int} {i p c : Int}
theorem leaf_end (hg : Grow ts V E) (hc : c ∉ V) {l : List Int} {b : Int} (h : NB ts (i :: E) i c l b) : l = [] ∧ b = c := by
  cases l with
  | nil => exact ⟨rfl, h.symm⟩
  | cons k l =>
    obtain ⟨h1, hn, o, ho, -⟩ := h
    rcases List.mem_cons.1 h1 with e | e
    · exact absurd e hn
    · exact absurd (hg.ends e ho).1 hc
theorem grow_in (hg : Grow ts V E) (hc : c ∉ V) (hj : Jn ts i p c) : ∀ {l : List Int} {last a b : Int}, a ≠ c → b ≠ c → NB ts (i :: E) last a l b → NB ts E last a l b
  | [], _, _, _, _, _, h => h
  | j :: l, last, a, b, ha, hb, h => by
    obtain ⟨h1, hn, o, ho, h2⟩ := h
    rcases List.mem_cons.1 h1 with e | e
    · rw [e] at ho h2
      rcases hj.ends ho with ⟨e1, e2⟩ | ⟨e1, e2⟩
      · rw [e2] at h2
        exact absurd (leaf_end hg hc h2).2 hb
      · exact absurd e1 ha
    · have k := hg.ends e ho
      exact ⟨e, hn, o, ho, grow_in hg hc hj (fun q => hc (by rw [← q]; exact k.2)) hb h2⟩
theorem grow_from (hg : Grow ts V E) (hp : p ∈ V) (hc : c ∉ V) (hj : Jn ts i p c) {l : List Int} {last b : Int} (h : NB ts (i :: E) last c l b) (hl : l ≠ []) : ∃ l', l = i :: l' ∧ NB ts (i :: E) i p l' b := by
  cases l with
  | nil => exact absurd rfl hl
  | cons j l =>
    obtain ⟨h1, hn, o, ho, h2⟩ := h
    rcases List.mem_cons.1 h1 with e | e
    · rw [e] at ho h2
      rcases hj.ends ho with ⟨e1, e2⟩ | ⟨e1, e2⟩
      · exact absurd (by rw [e1]; exact hp) hc
      · rw [e2] at h2; exact ⟨l, by rw [e], h2⟩
    · exact absurd (hg.ends e ho).1 hc
theorem grow_to (hg : Grow ts V E) (hc : c ∉ V) (hj : Jn ts i p c) : ∀ {l : List Int} {last a : Int}, a ≠ c → NB ts (i :: E) last a l c → ∃ l', l = l' ++ [i] ∧ NB ts E last a l' p
  | [], _, a, ha, h => absurd h ha
  | j :: l, last, a, ha, h => by
    obtain ⟨h1, hn, o, ho, h2⟩ := h
    rcases List.mem_cons.1 h1 with e | e
    · rw [e] at ho h2
      rcases hj.ends ho with ⟨e1, e2⟩ | ⟨e1, e2⟩
      · rw [e2] at h2
        have k := (leaf_end hg hc h2).1
        exact ⟨[], by rw [e, k]; rfl, e1⟩
      · exact absurd e1 ha
    · have k := hg.ends e ho
      obtain ⟨l', e3, h3⟩ := grow_to hg hc hj (fun q => hc (by rw [← q]; exact k.2)) h2
      exact ⟨j :: l', by rw [e3]; rfl, e, hn, o, ho, h3⟩
end
theorem Grow.weak {ts : List Lg} {V E : List Int} (hg : Grow ts V E) {l : List Int} {last a b : Int} (h : NB ts E last a l b) : NB ts E (-1) a l b :=
  h.weak (fun i hi => by have := (hg.pos i hi).1; omega)
theorem grow_round {ts : List Lg} {V E : List Int} {i p c : Int} (hg : Grow ts V E) (hp : p ∈ V) (hc : c ∉ V) (hj : Jn ts i p c) (ih : ∀ {l m : List Int} {a b : Int}, NB ts E (-1) a l b → NB ts E (-1) a m b → l = m) {l : List Int} {last : Int} (h : NB ts (i :: E) last c l c) : l = [] := by
  cases hl : l with
  | nil => rfl
  | cons j l0 =>
    exfalso
    obtain ⟨l1, e1, h1⟩ := grow_from hg hp hc hj h (by rw [hl]; intro q; cases q)
    have hpc : p ≠ c := fun q => hc (by rw [← q]; exact hp)
    obtain ⟨l2, e2, h2⟩ := grow_to hg hc hj hpc h1
    have e3 : l2 = [] := ih (hg.weak h2) (show NB ts E (-1) p [] p from rfl)
    rw [e2, e3] at h1
    exact h1.2.1 rfl
theorem Grow.uniq {ts : List Lg} {V E : List Int} (h : Grow ts V E) : ∀ {l m : List Int} {a b : Int}, NB ts E (-1) a l b → NB ts E (-1) a m b → l = m := by
  induction h with
  | zero =>
    intro l m a b h1 h2
    cases l with
    | nil => cases m with
      | nil => rfl
      | cons j m => cases h2.1
    | cons j l => cases h1.1
  | @more V E i p c hg hp hc hj ih =>
    intro l m a b h1 h2
    have hpc : p ≠ c := fun q => hc (by rw [← q]; exact hp)
    by_cases ha : a = c
    · rw [ha] at h1 h2
      by_cases hb : b = c
      · rw [hb] at h1 h2
        rw [grow_round hg hp hc hj ih h1, grow_round hg hp hc hj ih h2]
      · have nl : ∀ {q : List Int}, NB ts (i :: E) (-1) c q b → q ≠ [] := fun {q} hq e => by
          rw [e] at hq; exact hb hq.symm
        obtain ⟨l1, e1, k1⟩ := grow_from hg hp hc hj h1 (nl h1)
        obtain ⟨m1, e2, k2⟩ := grow_from hg hp hc hj h2 (nl h2)
        rw [e1, e2, ih (hg.weak (grow_in hg hc hj hpc hb k1)) (hg.weak (grow_in hg hc hj hpc hb k2))]
    · by_cases hb : b = c
      · rw [hb] at h1 h2
        obtain ⟨l1, e1, k1⟩ := grow_to hg hc hj ha h1
        obtain ⟨m1, e2, k2⟩ := grow_to hg hc hj ha h2
        rw [e1, e2, ih k1 k2]
      · exact ih (grow_in hg hc hj ha hb h1) (grow_in hg hc hj ha hb h2)
theorem Grow.once {ts : List Lg} {V E : List Int} (h : Grow ts V E) : ∀ {l : List Int} {last a b : Int}, NB ts E last a l b → l.Nodup ∧ l.length ≤ E.length := by
  induction h with
  | zero =>
    intro l last a b h1
    cases l with
    | nil => exact ⟨List.nodup_nil, Nat.le_refl _⟩
    | cons j l => cases h1.1
  | @more V E i p c hg hp hc hj ih =>
    intro l last a b h1
    have hpc : p ≠ c := fun q => hc (by rw [← q]; exact hp)
    have hn : i ∉ E := hg.new hc hj
    by_cases ha : a = c
    · rw [ha] at h1
      by_cases hb : b = c
      · rw [hb] at h1
        rw [grow_round hg hp hc hj hg.uniq h1]; exact ⟨List.nodup_nil, Nat.zero_le _⟩
      · obtain ⟨l1, e1, k1⟩ := grow_from hg hp hc hj h1 (fun e => by rw [e] at h1; exact hb h1.symm)
        have k2 := grow_in hg hc hj hpc hb k1
        have := ih k2
        rw [e1]
        exact ⟨List.nodup_cons.2 ⟨fun q => hn (k2.mem i q), this.1⟩, by simp; omega⟩
    · by_cases hb : b = c
      · rw [hb] at h1
        obtain ⟨l1, e1, k1⟩ := grow_to hg hc hj ha h1
        have := ih k1
        rw [e1]
        refine ⟨List.nodup_append.2 ⟨this.1, by simp, fun x hx y hy e => ?_⟩, by simp; omega⟩
        have : y = i := by simpa using hy
        exact hn (k1.mem i (by rw [← this, ← e]; exact hx))
      · have := ih (grow_in hg hc hj ha hb h1)
        exact ⟨this.1, by simp; omega⟩

/-- what is placed has grown so -/
def Gr (ts : List Lg) (s : Net) : Prop := ∃ V E, Grow ts V E ∧ (∀ v, v ∈ V ↔ v ∈ s.ps) ∧ (∀ i, i ∈ E ↔ i ∈ s.tr) ∧ E.length = s.tr.length
theorem gr_start (ts : List Lg) : Gr ts nt.start := ⟨[0], [], .zero, fun v => Iff.rfl, fun i => Iff.rfl, rfl⟩
theorem gr_leg {ts : List Lg} {s : Net} {k : Nat} {x : Lg} (h : Gr ts s) (hx : ts[k]? = some x) : Gr ts (leg1 x k s) := by
  obtain ⟨V, E, hg, hV, hE, hl⟩ := h
  have grow : ∀ {p c : Int} {P : List Sf}, p ∈ s.ps → c ∉ s.ps → Jo x p c → Gr ts ⟨P, put s.ps c, put s.tr (k : Int)⟩ := fun {p c P} hp hc hj => by
    have hc' : c ∉ V := fun q => hc ((hV c).1 q)
    have hJ : Jn ts (k : Int) p c := ⟨by omega, x, by rw [Int.toNat_natCast]; exact hx, hj⟩
    have hn := hg.new hc' hJ
    refine ⟨c :: V, (k : Int) :: E, hg.more ((hV p).2 hp) hc' hJ, fun v => ?_, fun i => ?_, ?_⟩
    · rw [List.mem_cons, hV v]; exact mem_put.symm
    · rw [List.mem_cons, hE i]; exact mem_put.symm
    · show _ = (put s.tr (k : Int)).length
      rw [put_len_new (fun q => hn ((hE _).2 q)), List.length_cons, hl]
  cases ha : mem s.ps x.frm
  · cases hb : mem s.ps x.to_
    · rw [leg1_no (by rw [does_marks ha hb]; rfl)]; exact ⟨V, E, hg, hV, hE, hl⟩
    · rw [leg1_bwd ha hb]
      exact grow (mem_iff.1 hb) (fun q => by rw [mem_iff.2 q] at ha; cases ha) (.inr ⟨rfl, rfl⟩)
  · cases hb : mem s.ps x.to_
    · rw [leg1_fwd ha hb]
      exact grow (mem_iff.1 ha) (fun q => by rw [mem_iff.2 q] at hb; cases hb) (.inl ⟨rfl, rfl⟩)
    · rw [leg1_no (by rw [does_marks ha hb]; rfl)]; exact ⟨V, E, hg, hV, hE, hl⟩
theorem gr_legs {ts : List Lg} {s : Net} (h : Gr ts s) : ∀ k, Gr ts (legsN ts s k)
  | 0 => h
  | k + 1 => by
    cases e : ts[k]? with
    | none => have e2 : legsN ts s (k + 1) = legsN ts s k := by show (match ts[k]? with | some x => _ | none => _) = _; rw [e]
              rw [e2]; exact gr_legs h k
    | some x => rw [legsN_succ e]; exact gr_leg (gr_legs h k) e
theorem gr_passes (ts : List Lg) : ∀ k, Gr ts (passes ts k)
  | 0 => gr_start ts
  | k + 1 => gr_legs (gr_passes ts k) _
theorem gr_net (ts : List Lg) : Gr ts (net ts) := gr_passes ts 9
theorem nb_uniq {ts : List Lg} {l m : List Int} {a b : Int} (h : NB ts (net ts).tr (-1) a l b) (k : NB ts (net ts).tr (-1) a m b) : l = m := by
  obtain ⟨V, E, hg, -, hE, -⟩ := gr_net ts
  exact hg.uniq (h.congr fun i => (hE i).2) (k.congr fun i => (hE i).2)
theorem nb_once {ts : List Lg} {l : List Int} {last a b : Int} (h : NB ts (net ts).tr last a l b) : l.Nodup ∧ l.length ≤ (net ts).tr.length := by
  obtain ⟨V, E, hg, -, hE, hl⟩ := gr_net ts
  rw [← hl]
  exact hg.once (h.congr fun i => (hE i).2)
theorem nb_weak {ts : List Lg} {l : List Int} {last a b : Int} (h : NB ts (net ts).tr last a l b) : NB ts (net ts).tr (-1) a l b := by
  obtain ⟨V, E, hg, -, hE, -⟩ := gr_net ts
  exact h.weak (fun i hi => by have := (hg.pos i ((hE i).2 hi)).1; omega)
theorem tr_pos {ts : List Lg} {i : Int} (h : i ∈ (net ts).tr) : 0 ≤ i ∧ ∃ x, ts[i.toNat]? = some x := by
  obtain ⟨V, E, hg, -, hE, -⟩ := gr_net ts
  exact hg.pos i ((hE i).2 h)
theorem tr_ends {ts : List Lg} {i a b : Int} (h : i ∈ (net ts).tr) (hj : Jn ts i a b) : a ∈ (net ts).ps ∧ b ∈ (net ts).ps := by
  obtain ⟨V, E, hg, hV, hE, -⟩ := gr_net ts
  have k := hg.ends ((hE i).2 h) hj
  exact ⟨(hV a).1 k.1, (hV b).1 k.2⟩

/-- one comes from a station to another one by legs of L -/
inductive Rc (L : Lg → Prop) : Int → Int → Prop
  | refl (a : Int) : Rc L a a
  | step {x : Lg} {a o b : Int} : L x → Jo x a o → Rc L o b → Rc L a b
theorem Rc.one {L : Lg → Prop} {x : Lg} {a b : Int} (h : L x) (hj : Jo x a b) : Rc L a b := .step h hj (.refl b)
theorem Rc.trans {L : Lg → Prop} {a b c : Int} (h : Rc L a b) (k : Rc L b c) : Rc L a c := by
  induction h with
  | refl a => exact k
  | step hx hj _ ih => exact .step hx hj (ih k)
theorem Rc.symm {L : Lg → Prop} {a b : Int} (h : Rc L a b) : Rc L b a := by
  induction h with
  | refl a => exact .refl a
  | step hx hj _ ih => exact ih.trans (.one hx hj.symm)
theorem Rc.mono {L M : Lg → Prop} (hm : ∀ x, L x → M x) {a b : Int} (h : Rc L a b) : Rc M a b := by
  induction h with
  | refl a => exact .refl a
  | step hx hj _ ih => exact .step (hm _ hx) hj ih
/-- a way along which every leg can be replaced -/
theorem Rc.over {L M : Lg → Prop} (hm : ∀ x, L x → Rc M x.frm x.to_) {a b : Int} (h : Rc L a b) : Rc M a b := by
  induction h with
  | refl a => exact .refl a
  | step hx hj _ ih =>
    rcases hj with ⟨e1, e2⟩ | ⟨e1, e2⟩
    · rw [← e1]; rw [← e2] at ih; exact (hm _ hx).trans ih
    · rw [← e1]; rw [← e2] at ih; exact (hm _ hx).symm.trans ih
/-- legs by their indices -/
def By (ts : List Lg) (O : Int → Prop) (x : Lg) : Prop := ∃ i : Int, O i ∧ 0 ≤ i ∧ ts[i.toNat]? = some x
theorem Grow.reach {ts : List Lg} {V E : List Int} (h : Grow ts V E) : ∀ v ∈ V, Rc (By ts (· ∈ E)) 0 v := by
  induction h with
  | zero =>
    intro v hv
    have : v = 0 := by simpa using hv
    rw [this]; exact .refl 0
  | @more V E i p c hg hp hc hj ih =>
    intro v hv
    have up : ∀ x, By ts (· ∈ E) x → By ts (· ∈ i :: E) x := fun x ⟨k, hk, r⟩ => ⟨k, List.mem_cons_of_mem _ hk, r⟩
    rcases List.mem_cons.1 hv with e | e
    · rw [e]
      obtain ⟨h0, x, hx, hJ⟩ := hj
      exact ((ih p hp).mono up).trans (.one ⟨i, List.mem_cons_self .., h0, hx⟩ hJ)
    · exact (ih v e).mono up
theorem tree_reach {ts : List Lg} {v : Int} (h : v ∈ (net ts).ps) : Rc (By ts (· ∈ (net ts).tr)) 0 v := by
  obtain ⟨V, E, hg, hV, hE, -⟩ := gr_net ts
  exact (hg.reach v ((hV v).2 h)).mono (fun x ⟨k, hk, r⟩ => ⟨k, (hE k).1 hk, r⟩)
theorem reach_placed {ts : List Lg} (hg : goodLg ts = true) {a b : Int} (h : Rc (· ∈ ts) a b) : a ∈ (net ts).ps → b ∈ (net ts).ps := by
  induction h with
  | refl a => exact id
  | @step x a o b hx hj _ ih =>
    intro ha
    obtain ⟨i, hi⟩ := List.getElem?_of_mem hx
    have k := net_ends hg hi
    apply ih
    rcases hj with ⟨e1, e2⟩ | ⟨e1, e2⟩
    · rw [← e2]; rw [← e1] at ha; exact mem_iff.1 (by rw [← k]; exact mem_iff.2 ha)
    · rw [← e2]; rw [← e1] at ha; exact mem_iff.1 (by rw [k]; exact mem_iff.2 ha)
theorem placed_iff {ts : List Lg} (hg : goodLg ts = true) (v : Int) : v ∈ (net ts).ps ↔ Rc (· ∈ ts) 0 v :=
  ⟨fun h => (tree_reach h).mono (fun x ⟨k, _, _, r⟩ => List.mem_of_getElem? r), fun h => reach_placed hg h (ok_net hg).2.2.2.2.2.1⟩

/-- ways as the program has them, from their first station on to the last step (z, e); no station twice -/
inductive Wy (ts : List Lg) (O : Int → Prop) (z e : Int) : List (Int × Int) → Prop
  | one : Wy ts O z e [(z, e)]
  | more {t j s i : Int} {P : List (Int × Int)} : O j → Jn ts j t s → t ∉ ((s, i) :: P).map Prod.fst → Wy ts O z e ((s, i) :: P) → Wy ts O z e ((t, j) :: (s, i) :: P)
def hd : List (Int × Int) → Int
  | [] => 0
  | p :: _ => p.1
section
variable {ts : List Lg} {O : Int → Prop} {z e : Int}
theorem Wy.ne {W : List (Int × Int)} (h : Wy ts O z e W) : W ≠ [] := by cases h <;> simp
theorem Wy.nodup {W : List (Int × Int)} (h : Wy ts O z e W) : (W.map Prod.fst).Nodup := by
  induction h with
  | one => simp
  | more _ _ hn _ ih => rw [List.map_cons]; exact List.nodup_cons.2 ⟨hn, ih⟩
theorem Wy.tail : ∀ {Q P : List (Int × Int)}, P ≠ [] → Wy ts O z e (Q ++ P) → Wy ts O z e P
  | [], _, _, h => h
  | [q], P, hp, h => by
    cases P with
    | nil => exact absurd rfl hp
    | cons p P => cases h with
      | more _ _ _ h => exact h
  | q :: r :: Q, P, hp, h => by
    cases h with
    | more _ _ _ h => exact Wy.tail (Q := _ :: Q) hp h
theorem Wy.reach {W : List (Int × Int)} (h : Wy ts O z e W) : Rc (By ts O) (hd W) z := by
  induction h with
  | one => exact .refl z
  | more ho hj _ _ ih =>
    obtain ⟨h0, x, hx, hJ⟩ := hj
    exact .step ⟨_, ho, h0, hx⟩ hJ ih
theorem Wy.from {W : List (Int × Int)} (h : Wy ts O z e W) : ∀ a, a ∈ W.map Prod.fst → ∃ W', Wy ts O z e W' ∧ hd W' = a := by
  induction h with
  | one => intro a ha; exact ⟨_, .one, by simpa [hd] using (show a = z by simpa using ha).symm⟩
  | @more t j s i P ho hj hn h ih =>
    intro a ha
    rw [List.map_cons] at ha
    rcases List.mem_cons.1 ha with e1 | e1
    · exact ⟨_, .more ho hj hn h, e1.symm⟩
    · exact ih a e1
/-- where one comes, one comes without a station twice -/
theorem wy_of_reach (z e : Int) {a : Int} (h : Rc (By ts O) a z) : ∃ W, Wy ts O z e W ∧ hd W = a := by
  induction h with
  | refl z => exact ⟨_, .one, rfl⟩
  | @step x a o z hx hj _ ih =>
    obtain ⟨W, hW, ho⟩ := ih
    by_cases ha : a ∈ W.map Prod.fst
    · exact hW.from a ha
    · obtain ⟨i, hi, h0, hx⟩ := hx
      cases W with
      | nil => exact absurd rfl hW.ne
      | cons p P =>
        obtain ⟨s, k⟩ := p
        have es : s = o := ho
        exact ⟨(a, i) :: (s, k) :: P, .more hi ⟨h0, x, hx, by rw [es]; exact hj⟩ ha hW, rfl⟩
end
/-- the station behind a leg -/
def farOf (ts : List Lg) (i a : Int) : Int := match ts[i.toNat]? with
  | some x => x.frm + x.to_ - a
  | none => 0
theorem farOf_is {ts : List Lg} {i a b : Int} (h : Jn ts i a b) : farOf ts i a = b := by
  obtain ⟨h0, x, hx, hj⟩ := h
  unfold farOf
  rw [hx]; exact hj.far.symm
/-- the stations of a way -/
def stops (ts : List Lg) : Int → List Int → List Int
  | a, [] => [a]
  | a, i :: l => a :: stops ts (farOf ts i a) l
theorem stops_len (ts : List Lg) : ∀ (l : List Int) (a : Int), (stops ts a l).length = l.length + 1
  | [], _ => rfl
  | i :: l, a => by rw [stops, List.length_cons, stops_len ts l, List.length_cons]
/-- a way of the program by legs of E never turns back -/
theorem Wy.nb {ts : List Lg} {E : List Int} {z e : Int} {W : List (Int × Int)} (h : Wy ts (· ∈ E) z e W) : ∃ l, W.map Prod.snd = l ++ [e] ∧ W.map Prod.fst = stops ts (hd W) l ∧ ∀ last, (∀ t, Jn ts last t (hd W) → t ∉ W.map Prod.fst) → NB ts E last (hd W) l z := by
  induction h with
  | one => exact ⟨[], rfl, rfl, fun _ _ => rfl⟩
  | @more t j s i P ho hj hn h ih =>
    obtain ⟨l, e1, e2, h3⟩ := ih
    refine ⟨j :: l, by rw [List.map_cons, e1]; rfl, ?_, fun last hl => ⟨ho, fun q => ?_, s, hj, h3 j (fun t' ht => ?_)⟩⟩
    · rw [List.map_cons, e2]
      show _ = t :: stops ts (farOf ts j t) l
      rw [farOf_is hj]; rfl
    · have hj' := hj
      rw [q] at hj'
      exact hl s hj'.symm (by simp)
    · have : t' = t := (ht.symm).uniq hj.symm
      rw [this]; exact hn
theorem Wy.nb0 {ts : List Lg} {E : List Int} {z e : Int} {W : List (Int × Int)} (h : Wy ts (· ∈ E) z e W) : ∃ l, W.map Prod.snd = l ++ [e] ∧ W.map Prod.fst = stops ts (hd W) l ∧ NB ts E (-1) (hd W) l z := by
  obtain ⟨l, e1, e2, h⟩ := h.nb
  exact ⟨l, e1, e2, h (-1) (fun t ht => absurd ht.1 (by omega))⟩
end Go.Proofs.YtjlkgijaceplcaaDoor.lp

namespace Go.Proofs.YtjlkgijaceplcaaDoor.lp
open Go.RowKit
open reads base ty lg hs nt
set_option linter.unusedVariables false

/-- the legs of E from a to b, not along the last one at first -/
def wayF (ts : List Lg) (E : List Int) : Nat → Int → Int → Int → Option (List Int)
  | 0, _, _, _ => none
  | f + 1, last, a, b => if a = b then some [] else E.findSome? fun i =>
    if i = last then none else match ts[i.toNat]? with
      | some x => if x.frm = a ∨ x.to_ = a then (wayF ts E f i (x.frm + x.to_ - a) b).map (i :: ·) else none
      | none => none
theorem wayF_nb {ts : List Lg} {E : List Int} (hE : ∀ i ∈ E, 0 ≤ i) : ∀ (f : Nat) {last a b : Int} {l : List Int}, wayF ts E f last a b = some l → NB ts E last a l b
  | 0, _, _, _, _, h => by simp [wayF] at h
  | f + 1, last, a, b, l, h => by
    rw [wayF] at h
    by_cases e : a = b
    · rw [if_pos e] at h
      obtain rfl := Option.some.inj h
      exact e
    · rw [if_neg e] at h
      obtain ⟨i, hi, h⟩ := List.exists_of_findSome?_eq_some h
      by_cases hl : i = last
      · rw [if_pos hl] at h; cases h
      · rw [if_neg hl] at h
        cases hx : ts[i.toNat]? with
        | none => rw [hx] at h; cases h
        | some x =>
          rw [hx] at h
          simp only [] at h
          split at h
          · rename_i hc
            obtain ⟨m, hm, rfl⟩ := Option.map_eq_some_iff.1 h
            refine ⟨hi, hl, _, ⟨hE i hi, x, hx, ?_⟩, wayF_nb hE f hm⟩
            unfold Jo; omega
          · cases h
theorem wayF_some {ts : List Lg} {E : List Int} : ∀ (f : Nat) {last a b : Int} {l : List Int}, NB ts E last a l b → l.length < f → (wayF ts E f last a b).isSome = true
  | 0, _, _, _, l, _, hl => by omega
  | f + 1, last, a, b, l, h, hl => by
    rw [wayF]
    by_cases e : a = b
    · rw [if_pos e]; rfl
    · rw [if_neg e]
      cases l with
      | nil => exact absurd h e
      | cons i l =>
        obtain ⟨hi, hn, o, ⟨h0, x, hx, hj⟩, h2⟩ := h
        rw [List.findSome?_isSome_iff]
        refine ⟨i, hi, ?_⟩
        rw [if_neg hn, hx]
        have hc : x.frm = a ∨ x.to_ = a := by unfold Jo at hj; omega
        simp only []
        rw [if_pos hc, Option.isSome_map, ← hj.far]
        exact wayF_some f h2 (by simp at hl; omega)
/-- the leg with an index -/
def legAt (ts : List Lg) (i : Int) : Lg := (ts[i.toNat]?).getD ⟨0, 0, 0, 0, 0⟩
theorem legAt_is {ts : List Lg} {i : Int} {x : Lg} (h : ts[i.toNat]? = some x) : legAt ts i = x := by unfold legAt; rw [h]; rfl
/-- the tree legs of a loop -/
def pathOf (ts : List Lg) (i : Int) : List Int := (wayF ts (net ts).tr 13 (-1) (legAt ts i).to_ (legAt ts i).frm).getD []
def lpOk (ts : List Lg) (i : Int) : Bool := goodLg ts && mem (clIds ts) i
theorem clN_iff {ts : List Lg} {s : Net} : ∀ k, k ≤ ts.length → ∀ i, i ∈ clN ts s k ↔ (0 ≤ i ∧ i < k ∧ ∃ x, ts[i.toNat]? = some x ∧ x.frm ∈ s.ps ∧ i ∉ s.tr)
  | 0, _, i => by simp [clN]; omega
  | k + 1, hk, i => by
    have ih := clN_iff (ts := ts) (s := s) k (by omega) i
    obtain ⟨x, e⟩ : ∃ x, ts[k]? = some x := ⟨_, List.getElem?_eq_getElem (by omega)⟩
    have tob : ∀ {l : List Int} {a : Int}, mem l a = false ↔ a ∉ l := fun {l a} => by
      rw [← mem_iff]; cases mem l a <;> simp
    cases h : (mem s.ps x.frm && !mem s.tr (k : Int))
    · rw [clN_no e h, ih]
      constructor
      · rintro ⟨a, b, c⟩; exact ⟨a, by omega, c⟩
      · rintro ⟨a, b, y, hy, c, d⟩
        refine ⟨a, ?_, y, hy, c, d⟩
        have : i ≠ k := by
          rintro rfl
          rw [Int.toNat_natCast, e] at hy
          obtain rfl := Option.some.inj hy
          rw [mem_iff.2 c, tob.2 d] at h; cases h
        omega
    · rw [Bool.and_eq_true, Bool.not_eq_true'] at h
      rw [clN_yes e h.1 h.2, List.mem_append, ih, List.mem_singleton]
      constructor
      · rintro (⟨a, b, c⟩ | rfl)
        · exact ⟨a, by omega, c⟩
        · exact ⟨by omega, by omega, x, by rw [Int.toNat_natCast]; exact e, mem_iff.1 h.1, tob.1 h.2⟩
      · rintro ⟨a, b, y, hy, c, d⟩
        by_cases q : i = k
        · exact .inr q
        · exact .inl ⟨a, by omega, y, hy, c, d⟩
/-- a closing leg -/
theorem lp_leg {ts : List Lg} {i : Int} (h : lpOk ts i = true) : goodLg ts = true ∧ 0 ≤ i ∧ i < ts.length ∧ ∃ x, ts[i.toNat]? = some x ∧ legAt ts i = x ∧ okLg x = true ∧ x.frm ∈ (net ts).ps ∧ x.to_ ∈ (net ts).ps ∧ i ∉ (net ts).tr := by
  unfold lpOk clIds at h
  rw [Bool.and_eq_true] at h
  obtain ⟨hg, hm⟩ := h
  rw [hg] at hm
  obtain ⟨h0, h1, x, hx, hf, ht⟩ := (clN_iff _ (Nat.le_refl _) i).1 (mem_iff.1 hm)
  refine ⟨hg, h0, h1, x, hx, legAt_is hx, goodLg_at hg hx, hf, ?_, ht⟩
  have := net_ends hg hx
  rw [mem_iff.2 hf] at this
  exact mem_iff.1 this.symm
/-- two placed stations are joined by tree legs -/
theorem tree_joins {ts : List Lg} {a b : Int} (ha : a ∈ (net ts).ps) (hb : b ∈ (net ts).ps) : Rc (By ts (· ∈ (net ts).tr)) a b := (tree_reach ha).symm.trans (tree_reach hb)
theorem tree_way {ts : List Lg} {a b : Int} (ha : a ∈ (net ts).ps) (hb : b ∈ (net ts).ps) : ∃ l, NB ts (net ts).tr (-1) a l b := by
  obtain ⟨W, hW, e⟩ := wy_of_reach b 0 (tree_joins ha hb)
  obtain ⟨l, -, -, h⟩ := hW.nb0
  rw [e] at h
  exact ⟨l, h⟩
theorem path_nb {ts : List Lg} {i : Int} (h : lpOk ts i = true) : NB ts (net ts).tr (-1) (legAt ts i).to_ (pathOf ts i) (legAt ts i).frm := by
  obtain ⟨hg, h0, h1, x, hx, e, ho, hf, ht, hn⟩ := lp_leg h
  obtain ⟨l, hl⟩ := tree_way ht hf
  have hs := wayF_some 13 hl (by have h1 := (nb_once hl).2; have h2 := (ok_net hg).tr_len; omega)
  unfold pathOf
  rw [e]
  cases hw : wayF ts (net ts).tr 13 (-1) x.to_ x.frm with
  | none => rw [hw] at hs; cases hs
  | some m => exact wayF_nb (fun j hj => (tr_pos hj).1) 13 hw
theorem path_is {ts : List Lg} {i : Int} (h : lpOk ts i = true) {l : List Int} (hl : NB ts (net ts).tr (-1) (legAt ts i).to_ l (legAt ts i).frm) : l = pathOf ts i := nb_uniq hl (path_nb h)
theorem path_len {ts : List Lg} {i : Int} (h : lpOk ts i = true) : (pathOf ts i).length ≤ 12 := by
  have h1 := (nb_once (path_nb h)).2
  have h2 := (ok_net (lp_leg h).1).tr_len
  omega
/-- LoopLegs' and LoopOf's numbers -/
def lpIds (ts : List Lg) (i : Int) : List Int := if lpOk ts i then pathOf ts i ++ [i] else []
def lpSt (ts : List Lg) (i : Int) : List Int := if lpOk ts i then stops ts (legAt ts i).to_ (pathOf ts i) else []
theorem lpIds_is {ts : List Lg} {i : Int} (h : lpOk ts i = true) : lpIds ts i = pathOf ts i ++ [i] := if_pos h
theorem lpSt_is {ts : List Lg} {i : Int} (h : lpOk ts i = true) : lpSt ts i = stops ts (legAt ts i).to_ (pathOf ts i) := if_pos h
theorem lpIds_len {ts : List Lg} {i : Int} : (lpIds ts i).length ≤ 13 := by
  cases h : lpOk ts i
  · unfold lpIds; rw [h]; exact Nat.zero_le _
  · rw [lpIds_is h, List.length_append]; have := path_len h; simp; omega
/-- the legs of a loop lead from station to station, all of them legs of the list -/
theorem nb_legs {ts : List Lg} {E : List Int} : ∀ {l : List Int} {last a b : Int}, NB ts E last a l b → ∀ j ∈ l, 0 ≤ j ∧ ∃ x, ts[j.toNat]? = some x
  | [], _, _, _, _, j, hj => by cases hj
  | i :: l, last, a, b, h, j, hj => by
    obtain ⟨h1, -, o, ⟨h0, x, hx, -⟩, h2⟩ := h
    rcases List.mem_cons.1 hj with e | e
    · rw [e]; exact ⟨h0, x, hx⟩
    · exact nb_legs h2 j e
theorem lp_legs {ts : List Lg} {i : Int} (h : lpOk ts i = true) : ∀ j ∈ lpIds ts i, 0 ≤ j ∧ ∃ x, ts[j.toNat]? = some x := by
  rw [lpIds_is h]
  intro j hj
  rcases List.mem_append.1 hj with q | q
  · exact nb_legs (path_nb h) j q
  · rw [List.mem_singleton.1 q]
    obtain ⟨-, h0, -, x, hx, -⟩ := lp_leg h
    exact ⟨h0, x, hx⟩
/-- lengths, added up -/
def tapes (ts : List Lg) : List Int → Int
  | [] => 0
  | i :: l => (legAt ts i).tape + tapes ts l
theorem tapes_app (ts : List Lg) : ∀ (l m : List Int), tapes ts (l ++ m) = tapes ts l + tapes ts m
  | [], m => by simp [tapes]
  | i :: l, m => by rw [List.cons_append, tapes, tapes, tapes_app ts l m]; omega
theorem tape_bd {ts : List Lg} (hg : goodLg ts = true) (i : Int) : 0 ≤ (legAt ts i).tape ∧ (legAt ts i).tape ≤ 500 := by
  unfold legAt
  cases e : ts[i.toNat]? with
  | none => simp
  | some x => have := okLg_lim (goodLg_at hg e); simp; omega
theorem tapes_bd {ts : List Lg} (hg : goodLg ts = true) : ∀ l, 0 ≤ tapes ts l ∧ tapes ts l ≤ 500 * l.length
  | [] => by simp [tapes]
  | i :: l => by
    have h1 := tapes_bd hg l
    have h2 := tape_bd hg i
    rw [tapes, List.length_cons]; push_cast; omega
/-- LoopLength's number -/
def lenV (ts : List Lg) (i : Int) : Int := tapes ts (lpIds ts i)
/-- a shift along a way -/
def along (ts : List Lg) (i a : Int) : Sf := if (legAt ts i).frm = a then shf (legAt ts i) else sub3 zero3 (shf (legAt ts i))
def sumS (ts : List Lg) : Int → List Int → Sf → Sf
  | _, [], s => s
  | a, i :: l, s => sumS ts (farOf ts i a) l (add3 s (along ts i a))
theorem sumS_app (ts : List Lg) : ∀ (l m : List Int) (a : Int) (s : Sf), sumS ts a (l ++ m) s = sumS ts ((stops ts a l).getLast?.getD 0) m (sumS ts a l s)
  | [], m, a, s => rfl
  | i :: l, m, a, s => by
    rw [List.cons_append, sumS, sumS_app ts l m, sumS]
    congr 2
    rw [stops]
    cases hq : stops ts (farOf ts i a) l with
    | nil => have := stops_len ts l (farOf ts i a); rw [hq] at this; simp at this
    | cons p q => rw [List.getLast?_cons_cons]
theorem stops_last {ts : List Lg} {E : List Int} : ∀ {l : List Int} {last a b : Int}, NB ts E last a l b → (stops ts a l).getLast?.getD 0 = b
  | [], _, a, b, h => h
  | i :: l, last, a, b, h => by
    obtain ⟨-, -, o, ho, h2⟩ := h
    rw [stops, farOf_is ho]
    have ih := stops_last h2
    cases hq : stops ts o l with
    | nil => have := stops_len ts l o; rw [hq] at this; simp at this
    | cons p q => rw [hq] at ih; rw [List.getLast?_cons_cons]; exact ih
/-- MisclosureOf's shift -/
def misV (ts : List Lg) (i : Int) : Sf := if lpOk ts i then sumS ts (legAt ts i).to_ (lpIds ts i) zero3 else zero3
theorem shf_at {ts : List Lg} (hg : goodLg ts = true) (i a : Int) : (-500 ≤ (along ts i a).east ∧ (along ts i a).east ≤ 500) ∧ (-500 ≤ (along ts i a).north ∧ (along ts i a).north ≤ 500) ∧ (-500 ≤ (along ts i a).up ∧ (along ts i a).up ≤ 500) := by
  have hz : (-500 ≤ (shf (legAt ts i)).east ∧ (shf (legAt ts i)).east ≤ 500) ∧ (-500 ≤ (shf (legAt ts i)).north ∧ (shf (legAt ts i)).north ≤ 500) ∧ (-500 ≤ (shf (legAt ts i)).up ∧ (shf (legAt ts i)).up ≤ 500) := by
    unfold legAt
    cases e : ts[i.toNat]? with
    | none => decide
    | some x => exact shf_bd (goodLg_at hg e)
  unfold along
  split
  · exact hz
  · unfold sub3 zero3; simp only []; omega
def BdN (k : Nat) (s : Sf) : Prop := (-(500 * (k : Int)) ≤ s.east ∧ s.east ≤ 500 * k) ∧ (-(500 * (k : Int)) ≤ s.north ∧ s.north ≤ 500 * k) ∧ (-(500 * (k : Int)) ≤ s.up ∧ s.up ≤ 500 * k)
theorem bdN_step {ts : List Lg} (hg : goodLg ts = true) {k : Nat} {s : Sf} (h : BdN k s) (i a : Int) : BdN (k + 1) (add3 s (along ts i a)) := by
  have hb := shf_at hg i a
  unfold BdN add3 at *
  simp only []
  omega
theorem bdN_zero : BdN 0 zero3 := by unfold BdN zero3; decide
theorem sumS_bd {ts : List Lg} (hg : goodLg ts = true) : ∀ (l : List Int) (a : Int) {k : Nat} {s : Sf}, BdN k s → BdN (k + l.length) (sumS ts a l s)
  | [], a, k, s, h => h
  | i :: l, a, k, s, h => by
    rw [sumS, List.length_cons, show k + (l.length + 1) = (k + 1) + l.length by omega]
    exact sumS_bd hg l _ (bdN_step hg h i a)
theorem misV_bd {ts : List Lg} {i : Int} : BdN 13 (misV ts i) := by
  unfold misV
  cases h : lpOk ts i
  · rw [if_neg (by simp)]; unfold BdN zero3; decide
  · rw [if_pos rfl]
    have h1 := sumS_bd (lp_leg h).1 (lpIds ts i) (legAt ts i).to_ bdN_zero
    have h2 := lpIds_len (ts := ts) (i := i)
    unfold BdN at *
    omega
/-- the misclosure of a loop is the error of its closing leg -/
theorem add3_sub (a b : Sf) : add3 a (sub3 zero3 b) = sub3 a b := sf_ext (by unfold add3 sub3 zero3; simp only []; omega) (by unfold add3 sub3 zero3; simp only []; omega) (by unfold add3 sub3 zero3; simp only []; omega)
theorem tree_along {ts : List Lg} (hg : goodLg ts = true) {i a b : Int} (hi : i ∈ (net ts).tr) (hj : Jn ts i a b) : along ts i a = sub3 (at_ (net ts).pl b) (at_ (net ts).pl a) := by
  obtain ⟨y, hy, -, -, -, -, e⟩ := (tr_net hg).2.2 i hi
  obtain ⟨h0, x, hx, hJ⟩ := hj
  rw [hx] at hy
  obtain rfl := Option.some.inj hy
  unfold along
  rw [legAt_is hx]
  have e1 : (shf x).east - (at_ (net ts).pl x.to_).east + (at_ (net ts).pl x.frm).east = 0 := congrArg Sf.east e
  have e2 : (shf x).north - (at_ (net ts).pl x.to_).north + (at_ (net ts).pl x.frm).north = 0 := congrArg Sf.north e
  have e3 : (shf x).up - (at_ (net ts).pl x.to_).up + (at_ (net ts).pl x.frm).up = 0 := congrArg Sf.up e
  have hne := (okLg_lim (goodLg_at hg hx)).2.2.1
  rcases hJ with ⟨rfl, rfl⟩ | ⟨rfl, rfl⟩
  · rw [if_pos rfl]
    exact sf_ext (by unfold sub3; simp only []; omega) (by unfold sub3; simp only []; omega) (by unfold sub3; simp only []; omega)
  · rw [if_neg hne]
    exact sf_ext (by unfold sub3 zero3; simp only []; omega) (by unfold sub3 zero3; simp only []; omega) (by unfold sub3 zero3; simp only []; omega)
theorem sum_tree {ts : List Lg} (hg : goodLg ts = true) : ∀ {l : List Int} {last a b : Int} (s : Sf), NB ts (net ts).tr last a l b → sumS ts a l s = add3 s (sub3 (at_ (net ts).pl b) (at_ (net ts).pl a))
  | [], last, a, b, s, h => by
    have e : a = b := h
    rw [sumS, e]
    exact sf_ext (by unfold add3 sub3; simp only []; omega) (by unfold add3 sub3; simp only []; omega) (by unfold add3 sub3; simp only []; omega)
  | i :: l, last, a, b, s, h => by
    obtain ⟨h1, -, o, ho, h2⟩ := h
    rw [sumS, farOf_is ho, sum_tree hg _ h2, tree_along hg h1 ho]
    exact sf_ext (by unfold add3 sub3; simp only []; omega) (by unfold add3 sub3; simp only []; omega) (by unfold add3 sub3; simp only []; omega)
theorem mis_error {ts : List Lg} {i : Int} (h : lpOk ts i = true) : misV ts i = add3 (sub3 (shf (legAt ts i)) (at_ (net ts).pl (legAt ts i).to_)) (at_ (net ts).pl (legAt ts i).frm) := by
  have hp := path_nb h
  unfold misV
  rw [if_pos h, lpIds_is h, sumS_app, stops_last hp, sum_tree (lp_leg h).1 _ hp]
  show add3 _ (along ts i (legAt ts i).frm) = _
  unfold along
  rw [if_pos rfl]
  exact sf_ext (by unfold add3 sub3 zero3; simp only []; omega) (by unfold add3 sub3 zero3; simp only []; omega) (by unfold add3 sub3 zero3; simp only []; omega)

/-- the legs without one of them -/
def less (ts : List Lg) (k : Nat) : List Lg := ts.take k ++ ts.drop (k + 1)
theorem less_good {ts : List Lg} (hg : goodLg ts = true) (k : Nat) : goodLg (less ts k) = true := by
  unfold goodLg
  rw [Bool.and_eq_true, List.all_eq_true, decide_eq_true_eq]
  refine ⟨fun x hx => ?_, ?_⟩
  · rcases List.mem_append.1 hx with q | q
    · obtain ⟨j, hj⟩ := List.getElem?_of_mem (List.mem_of_mem_take q)
      exact goodLg_at hg hj
    · obtain ⟨j, hj⟩ := List.getElem?_of_mem (List.mem_of_mem_drop q)
      exact goodLg_at hg hj
  · have := goodLg_len hg
    unfold less
    rw [List.length_append, List.length_take, List.length_drop]; omega
/-- all legs but one -/
def other (k : Nat) (i : Int) : Prop := i ≠ k
theorem less_mem {ts : List Lg} {k : Nat} (hk : k < ts.length) (x : Lg) : x ∈ less ts k ↔ By ts (other k) x := by
  unfold less
  rw [List.mem_append]
  constructor
  · rintro (h | h)
    · obtain ⟨j, hj⟩ := List.getElem?_of_mem h
      have hjk : j < k := by have := (List.getElem?_eq_some_iff.1 hj).1; rw [List.length_take] at this; omega
      rw [List.getElem?_take_of_lt hjk] at hj
      exact ⟨(j : Int), by unfold other; omega, by omega, by rw [Int.toNat_natCast]; exact hj⟩
    · obtain ⟨j, hj⟩ := List.getElem?_of_mem h
      rw [List.getElem?_drop] at hj
      refine ⟨((k + 1 + j : Nat) : Int), by unfold other; omega, by omega, by rw [Int.toNat_natCast]; exact hj⟩
  · rintro ⟨i, hi, h0, hx⟩
    obtain ⟨j, rfl⟩ := Int.eq_ofNat_of_zero_le h0
    rw [Int.toNat_natCast] at hx
    unfold other at hi
    rcases Nat.lt_or_ge j k with q | q
    · exact .inl (List.mem_of_getElem? (by rw [List.getElem?_take_of_lt q]; exact hx))
    · refine .inr (List.mem_of_getElem? (i := j - (k + 1)) ?_)
      rw [List.getElem?_drop, show k + 1 + (j - (k + 1)) = j by omega]; exact hx
/-- whether a leg with placed ends is a bridge -/
def brB (ts : List Lg) (k : Nat) : Bool := !mem (net (less ts k)).ps (legAt ts k).frm || !mem (net (less ts k)).ps (legAt ts k).to_
theorem br_iff {ts : List Lg} (hg : goodLg ts = true) {k : Nat} {x : Lg} (hx : ts[k]? = some x) (hf : x.frm ∈ (net ts).ps) : brB ts k = false ↔ Rc (By ts (other k)) x.to_ x.frm := by
  have hk : k < ts.length := (List.getElem?_eq_some_iff.1 hx).1
  have hl : legAt ts (k : Int) = x := legAt_is (by rw [Int.toNat_natCast]; exact hx)
  have hgl := less_good hg k
  unfold brB
  rw [hl, Bool.or_eq_false_iff, Bool.not_eq_false', Bool.not_eq_false', mem_iff, mem_iff, placed_iff hgl, placed_iff hgl]
  have to_ : ∀ {a b}, Rc (· ∈ less ts k) a b ↔ Rc (By ts (other k)) a b := fun {a b} => ⟨fun h => h.mono (fun y hy => (less_mem hk y).1 hy), fun h => h.mono (fun y hy => (less_mem hk y).2 hy)⟩
  rw [to_, to_]
  constructor
  · rintro ⟨h1, h2⟩; exact h2.symm.trans h1
  · intro h
    have all : Rc (By ts (other k)) 0 x.frm := ((placed_iff hg x.frm).1 hf).over (fun y hy => by
      obtain ⟨j, hj⟩ := List.getElem?_of_mem hy
      by_cases e : j = k
      · subst e
        rw [hx] at hj
        obtain rfl := Option.some.inj hj
        exact h.symm
      · exact .one ⟨(j : Int), by unfold other; omega, by omega, by rw [Int.toNat_natCast]; exact hj⟩ (.inl ⟨rfl, rfl⟩))
    exact ⟨all, all.trans h.symm⟩
def brAt (ts : List Lg) (i : Int) : Bool := match ts[i.toNat]? with
  | some x => mem (net ts).ps x.frm
  | none => false
def brOk (ts : List Lg) (i : Int) : Bool := goodLg ts && (btw 0 i ((ts.length : Int) - 1) && brAt ts i)
/-- IsBridge's word -/
def brV (ts : List Lg) (i : Int) : Bool := brOk ts i && brB ts i.toNat
/-- BridgesOf's numbers -/
def brN (ts : List Lg) : Nat → List Int
  | 0 => []
  | k + 1 => if brAt ts (k : Int) && brB ts k then brN ts k ++ [(k : Int)] else brN ts k
theorem brN_yes {ts : List Lg} {k : Nat} (h : brAt ts (k : Int) = true) (h2 : brB ts k = true) : brN ts (k + 1) = brN ts k ++ [(k : Int)] := by rw [brN, h, h2]; rfl
theorem brN_no {ts : List Lg} {k : Nat} (h : (brAt ts (k : Int) && brB ts k) = false) : brN ts (k + 1) = brN ts k := by rw [brN, h]; rfl
theorem brN_len (ts : List Lg) : ∀ k, (brN ts k).length ≤ k
  | 0 => Nat.le_refl _
  | k + 1 => by
    have := brN_len ts k
    rw [brN]
    split
    · rw [List.length_append]; simp; omega
    · omega
def brIds (ts : List Lg) : List Int := if goodLg ts then brN ts ts.length else []
/-- LoopsThrough's numbers -/
def thrOk (ts : List Lg) (i : Int) : Bool := goodLg ts && btw 0 i ((ts.length : Int) - 1)
def thrL (ts : List Lg) (i : Int) : List Int → List Int
  | [] => []
  | c :: l => if mem (lpIds ts c) i then c :: thrL ts i l else thrL ts i l
theorem thrL_app (ts : List Lg) (i : Int) : ∀ (l m : List Int), thrL ts i (l ++ m) = thrL ts i l ++ thrL ts i m
  | [], m => rfl
  | c :: l, m => by
    rw [List.cons_append, thrL, thrL, thrL_app ts i l m]
    split <;> rfl
theorem thrL_len (ts : List Lg) (i : Int) : ∀ l : List Int, (thrL ts i l).length ≤ l.length
  | [] => Nat.le_refl _
  | c :: l => by
    have := thrL_len ts i l
    rw [thrL]
    split <;> (simp; omega)
theorem thr_step {ts : List Lg} {i : Int} {l : List Int} {k : Nat} {c : Int} (h : l[k]? = some c) : thrL ts i (l.take (k + 1)) = if mem (lpIds ts c) i then thrL ts i (l.take k) ++ [c] else thrL ts i (l.take k) := by
  rw [take_snoc h, thrL_app]
  show _ ++ (if mem (lpIds ts c) i then [c] else []) = _
  split
  · rfl
  · rw [List.append_nil]
def thrIds (ts : List Lg) (i : Int) : List Int := if thrOk ts i then thrL ts i (clIds ts) else []
/-- the greatest whole number whose square is at most n -/
def rt : Nat → Int
  | 0 => 0
  | n + 1 => if ((n + 1 : Nat) : Int) < (rt n + 1) * (rt n + 1) then rt n else rt n + 1
theorem rt_is : ∀ n : Nat, len.IsRoot (n : Int) (rt n)
  | 0 => ⟨by decide, by decide, by decide⟩
  | n + 1 => by
    obtain ⟨h0, h1, h2⟩ := rt_is n
    rw [rt]
    split
    · rename_i h; exact ⟨h0, by push_cast; omega, h⟩
    · rename_i h
      refine ⟨by omega, by omega, ?_⟩
      have e : (rt n + 1 + 1) * (rt n + 1 + 1) = (rt n + 1) * (rt n + 1) + 2 * rt n + 3 := by
        rw [Int.mul_add, Int.add_mul]; omega
      rw [e]; push_cast; omega
/-- what a loop misses -/
def missV (ts : List Lg) (i : Int) : Int := rt (sq3 (misV ts i)).toNat
theorem sq3_pos (d : Sf) : 0 ≤ sq3 d := by
  have sq : ∀ a : Int, 0 ≤ a * a := fun a => by
    rcases Int.le_total 0 a with k | k
    · exact Int.mul_nonneg k k
    · have := Int.mul_nonneg (show 0 ≤ -a by omega) (show 0 ≤ -a by omega)
      rw [Int.neg_mul_neg] at this; exact this
  have a := sq d.east; have b := sq d.north; have c := sq d.up
  unfold sq3; omega
theorem missV_root (ts : List Lg) (i : Int) : len.IsRoot (sq3 (misV ts i)) (missV ts i) := by
  have h := rt_is (sq3 (misV ts i)).toNat
  rw [Int.toNat_of_nonneg (sq3_pos _)] at h
  exact h
theorem sq_lim {a : Int} (h0 : -6500 ≤ a) (h1 : a ≤ 6500) : a * a ≤ 42250000 := by
  have h : (a * a).natAbs ≤ 6500 * 6500 := by rw [Int.natAbs_mul]; exact Nat.mul_le_mul (by omega) (by omega)
  omega
theorem missV_bd (ts : List Lg) (i : Int) : 0 ≤ missV ts i ∧ missV ts i ≤ 12000 := by
  obtain ⟨h0, h1, h2⟩ := missV_root ts i
  have hb : BdN 13 (misV ts i) := misV_bd
  have hs : sq3 (misV ts i) ≤ 126750000 := by
    unfold BdN at hb
    have a := sq_lim (a := (misV ts i).east) (by omega) (by omega)
    have b := sq_lim (a := (misV ts i).north) (by omega) (by omega)
    have c := sq_lim (a := (misV ts i).up) (by omega) (by omega)
    unfold sq3; omega
  refine ⟨h0, ?_⟩
  rcases Int.lt_or_le 12000 (missV ts i) with q | q
  · have := len.sq_mono (show (0 : Int) ≤ 12000 by omega) (Int.le_of_lt q); omega
  · exact q
theorem lenV_bd (ts : List Lg) (i : Int) : 0 ≤ lenV ts i ∧ lenV ts i ≤ 6500 := by
  unfold lenV
  cases h : lpOk ts i
  · unfold lpIds; rw [h]; simp [tapes]
  · have h1 := tapes_bd (lp_leg h).1 (lpIds ts i)
    have h2 := lpIds_len (ts := ts) (i := i)
    omega
theorem prod_lim {a b : Int} (a0 : 0 ≤ a) (a1 : a ≤ 12000) (b0 : 0 ≤ b) (b1 : b ≤ 6500) : 0 ≤ a * b ∧ a * b ≤ 78000000 := by
  have h0 := Int.mul_nonneg a0 b0
  have h : (a * b).natAbs ≤ 12000 * 6500 := by rw [Int.natAbs_mul]; exact Nat.mul_le_mul (by omega) (by omega)
  omega
/-- whether a loop is worse than another one -/
def worse (ts : List Lg) (c b : Int) : Bool := decide (missV ts b * lenV ts c < missV ts c * lenV ts b)
/-- the worst of the first loops -/
def wrK (ts : List Lg) (cl : List Int) : Nat → Int
  | 0 => 0
  | k + 1 => match cl[k]? with
    | some c => if k = 0 then c else if worse ts c (wrK ts cl k) then c else wrK ts cl k
    | none => wrK ts cl k
theorem wrK_one {ts : List Lg} {cl : List Int} {c : Int} (h : cl[0]? = some c) : wrK ts cl 1 = c := by
  show (match cl[0]? with | some c => _ | none => _) = _
  rw [h]; rfl
theorem wrK_succ {ts : List Lg} {cl : List Int} {k : Nat} {c : Int} (h : cl[k + 1]? = some c) : wrK ts cl (k + 2) = if worse ts c (wrK ts cl (k + 1)) then c else wrK ts cl (k + 1) := by
  show (match cl[k + 1]? with | some c => _ | none => _) = _
  rw [h]; simp only []; rw [if_neg (by omega)]
theorem wrK_mem {ts : List Lg} {cl : List Int} : ∀ k, k < cl.length → wrK ts cl (k + 1) ∈ cl
  | 0, h => by
    have e := List.getElem?_eq_getElem h
    rw [wrK_one e]; exact List.getElem_mem h
  | k + 1, h => by
    have e := List.getElem?_eq_getElem h
    rw [wrK_succ e]
    split
    · exact List.getElem_mem h
    · exact wrK_mem k (by omega)
def wrOk (ts : List Lg) : Bool := goodLg ts && decide (0 < (clIds ts).length)
def wrV (ts : List Lg) : Int := if wrOk ts then wrK ts (clIds ts) (clIds ts).length else 0
end Go.Proofs.YtjlkgijaceplcaaDoor.lp

namespace Go.Proofs.YtjlkgijaceplcaaDoor.lp
open Go.RowKit
open reads base ty lg hs nt
set_option linter.unusedVariables false

theorem own_eq {g g' n c : Nat} (h : (Value.slice (some ⟨g, 0, none⟩) n c).ownBlock = some g') : g = g' := by simpa [Value.ownBlock] using h
/-- legs that lead from a to b, one after the other -/
def Chn (ts : List Lg) : Int → List Int → Int → Prop
  | a, [], b => a = b
  | a, i :: l, b => ∃ o, Jn ts i a o ∧ Chn ts o l b
theorem NB.chn {ts : List Lg} {E : List Int} : ∀ {l : List Int} {last a b : Int}, NB ts E last a l b → Chn ts a l b
  | [], _, _, _, h => h
  | i :: l, last, a, b, h => by
    obtain ⟨-, -, o, ho, h2⟩ := h
    exact ⟨o, ho, NB.chn h2⟩
theorem Chn.snoc {ts : List Lg} {i b c : Int} (hj : Jn ts i b c) : ∀ {l : List Int} {a : Int}, Chn ts a l b → Chn ts a (l ++ [i]) c
  | [], a, h => by
    have e : a = b := h
    exact ⟨c, by rw [e]; exact hj, rfl⟩
  | j :: l, a, h => by
    obtain ⟨o, ho, h2⟩ := h
    exact ⟨o, ho, Chn.snoc hj h2⟩
theorem lp_chn {ts : List Lg} {i : Int} (h : lpOk ts i = true) : Chn ts (legAt ts i).to_ (lpIds ts i) (legAt ts i).to_ := by
  obtain ⟨-, h0, -, x, hx, e, -⟩ := lp_leg h
  rw [lpIds_is h]
  exact Chn.snoc ⟨h0, x, hx, by rw [e]; exact .inl ⟨rfl, rfl⟩⟩ (path_nb h).chn
theorem stops_zero (ts : List Lg) (a : Int) (l : List Int) : (stops ts a l)[0]? = some a := by cases l <;> rfl
theorem chn_at {ts : List Lg} : ∀ {l : List Int} {a b : Int} (k : Nat) {j : Int}, Chn ts a l b → l[k]? = some j → ∃ s t, (stops ts a l)[k]? = some s ∧ (stops ts a l)[k + 1]? = some t ∧ Jn ts j s t
  | [], _, _, _, _, _, h => by simp at h
  | i :: l, a, b, 0, j, h, hj => by
    obtain ⟨o, ho, h2⟩ := h
    obtain rfl : i = j := by simpa using hj
    refine ⟨a, o, rfl, ?_, ho⟩
    rw [stops, farOf_is ho]
    show (stops ts o l)[0]? = some o
    exact stops_zero ts o l
  | i :: l, a, b, k + 1, j, h, hj => by
    obtain ⟨o, ho, h2⟩ := h
    obtain ⟨s, t, h3, h4, h5⟩ := chn_at k h2 (by simpa using hj)
    refine ⟨s, t, ?_, ?_, h5⟩
    · rw [stops, farOf_is ho]; simpa using h3
    · rw [stops, farOf_is ho]; simpa using h4
theorem sumS_at {ts : List Lg} : ∀ {l : List Int} {a b : Int} (z : Sf) (k : Nat) {j s : Int}, Chn ts a l b → l[k]? = some j → (stops ts a l)[k]? = some s → sumS ts a (l.take (k + 1)) z = add3 (sumS ts a (l.take k) z) (along ts j s)
  | [], _, _, _, _, _, _, _, h, _ => by simp at h
  | i :: l, a, b, z, 0, j, s, h, hj, hs => by
    obtain rfl : i = j := by simpa using hj
    obtain rfl : a = s := by rw [stops_zero] at hs; simpa using hs
    rfl
  | i :: l, a, b, z, k + 1, j, s, h, hj, hs => by
    obtain ⟨o, ho, h2⟩ := h
    rw [stops, farOf_is ho] at hs
    have ih := sumS_at (add3 z (along ts i a)) k h2 (by simpa using hj) (by simpa using hs)
    rw [List.take_succ_cons, List.take_succ_cons, sumS, sumS, farOf_is ho]
    exact ih
theorem tapes_at {ts : List Lg} {l : List Int} {k : Nat} {j : Int} (hj : l[k]? = some j) : tapes ts (l.take (k + 1)) = tapes ts (l.take k) + (legAt ts j).tape := by
  rw [take_snoc hj, tapes_app]
  show _ + ((legAt ts j).tape + 0) = _
  omega
/-- the ends of a leg are stations -/
theorem Jn.bd {ts : List Lg} (hg : goodLg ts = true) {j s t : Int} (h : Jn ts j s t) : (0 ≤ s ∧ s ≤ 7) ∧ (0 ≤ t ∧ t ≤ 7) := by
  obtain ⟨-, x, hx, hJ⟩ := h
  obtain ⟨l1, l2, -⟩ := okLg_lim (goodLg_at hg hx)
  unfold Jo at hJ
  omega
theorem Jn.leg {ts : List Lg} {j s t : Int} (h : Jn ts j s t) : ∃ (q : Nat) (x : Lg), j = (q : Int) ∧ ts[q]? = some x ∧ legAt ts j = x ∧ Jo x s t := by
  obtain ⟨h0, x, hx, hJ⟩ := h
  obtain ⟨q, rfl⟩ := Int.eq_ofNat_of_zero_le h0
  exact ⟨q, x, rfl, by rwa [Int.toNat_natCast] at hx, legAt_is hx, hJ⟩
/-- a shift in the direction of the way, by the model's test -/
theorem along_yes {ts : List Lg} {j s : Int} {x : Lg} (hl : legAt ts j = x) (h : (x.frm == s) = true) (z : Sf) : add3 z (along ts j s) = add3 z (shf x) := by
  unfold along; rw [hl, if_pos (by simpa using h)]
theorem along_no {ts : List Lg} {j s : Int} {x : Lg} (hl : legAt ts j = x) (h : (x.frm == s) = false) (z : Sf) : add3 z (along ts j s) = sub3 z (shf x) := by
  unfold along; rw [hl, if_neg (by simpa using h), add3_sub]
theorem stops_take {ts : List Lg} {a : Int} {l : List Int} {k : Nat} {t : Int} (h : (stops ts a l)[k]? = some t) : (stops ts a l).take (k + 1) = (stops ts a l).take k ++ [t] := take_snoc h
end Go.Proofs.YtjlkgijaceplcaaDoor.lp

namespace Go.Proofs.YtjlkgijaceplcaaDoor.lp
open Go.RowKit
open reads base ty lg hs nt
set_option linter.unusedVariables false

/-- the open legs, by their marks -/
def Opn (bs : List Bool) (j : Int) : Prop := bs[j.toNat]? = some true
/-- the exits of a station by the first k legs -/
def exR (ts : List Lg) (bs : List Bool) : Nat → Int → List (Int × Int)
  | 0, _ => []
  | k + 1, s => match ts[k]?, bs[k]? with
    | some x, some true => if x.frm = s then exR ts bs k s ++ [((k : Int), x.to_)] else if x.to_ = s then exR ts bs k s ++ [((k : Int), x.frm)] else exR ts bs k s
    | _, _ => exR ts bs k s
section
variable {ts : List Lg} {bs : List Bool} {k : Nat} {s : Int} {x : Lg}
theorem exR_shut (hx : ts[k]? = some x) (hb : bs[k]? = some false) : exR ts bs (k + 1) s = exR ts bs k s := by
  rw [exR, hx, hb]
theorem exR_frm (hx : ts[k]? = some x) (hb : bs[k]? = some true) (h : x.frm = s) : exR ts bs (k + 1) s = exR ts bs k s ++ [((k : Int), x.to_)] := by
  rw [exR, hx, hb]; exact if_pos h
theorem exR_to (hx : ts[k]? = some x) (hb : bs[k]? = some true) (h : ¬ x.frm = s) (h2 : x.to_ = s) : exR ts bs (k + 1) s = exR ts bs k s ++ [((k : Int), x.frm)] := by
  rw [exR, hx, hb]; exact (if_neg h).trans (if_pos h2)
theorem exR_no (hx : ts[k]? = some x) (hb : bs[k]? = some true) (h : ¬ x.frm = s) (h2 : ¬ x.to_ = s) : exR ts bs (k + 1) s = exR ts bs k s := by
  rw [exR, hx, hb]; exact (if_neg h).trans (if_neg h2)
end
theorem exR_len (ts : List Lg) (bs : List Bool) (s : Int) : ∀ k, (exR ts bs k s).length ≤ k
  | 0 => Nat.le_refl _
  | k + 1 => by
    have ih := exR_len ts bs s k
    rw [exR]
    split
    · split
      · rw [List.length_append]; simp; omega
      · split
        · rw [List.length_append]; simp; omega
        · omega
    · omega
theorem exR_mem {ts : List Lg} {bs : List Bool} {s : Int} (hne : ∀ x ∈ ts, ¬ x.frm = x.to_) : ∀ k, k ≤ ts.length → ∀ j t, (j, t) ∈ exR ts bs k s ↔ (Opn bs j ∧ j < k ∧ Jn ts j s t)
  | 0, _, j, t => by
    constructor
    · intro h; cases h
    · rintro ⟨-, h, h0, -⟩; omega
  | k + 1, hk, j, t => by
    have ih := exR_mem (bs := bs) (s := s) hne k (by omega) j t
    obtain ⟨x, hx⟩ : ∃ x, ts[k]? = some x := ⟨_, List.getElem?_eq_getElem (by omega)⟩
    have hxn := hne x (List.mem_of_getElem? hx)
    have more : (Opn bs j ∧ j < (k : Int) ∧ Jn ts j s t) → (Opn bs j ∧ j < ((k + 1 : Nat) : Int) ∧ Jn ts j s t) := fun ⟨a, b, c⟩ => ⟨a, by omega, c⟩
    have less_ : (Opn bs j ∧ j < ((k + 1 : Nat) : Int) ∧ Jn ts j s t) → j = k ∨ (Opn bs j ∧ j < (k : Int) ∧ Jn ts j s t) := fun ⟨a, b, c⟩ => by
      by_cases e : j = k
      · exact .inl e
      · exact .inr ⟨a, by omega, c⟩
    have own_ : Jn ts (k : Int) s t → Jo x s t := fun ⟨_, y, hy, hj⟩ => by
      rw [Int.toNat_natCast, hx] at hy
      obtain rfl := Option.some.inj hy
      exact hj
    have mk : Jo x s t → bs[k]? = some true → (Opn bs (k : Int) ∧ (k : Int) < ((k + 1 : Nat) : Int) ∧ Jn ts (k : Int) s t) := fun hj hb => ⟨by unfold Opn; rw [Int.toNat_natCast]; exact hb, by omega, by omega, x, by rw [Int.toNat_natCast]; exact hx, hj⟩
    have shut : ¬ bs[k]? = some true → exR ts bs (k + 1) s = exR ts bs k s := fun hb => by
      rw [exR, hx]
      split
      · rename_i h1 h2; exact absurd h2 hb
      · rfl
    by_cases hb : bs[k]? = some true
    · by_cases hf : x.frm = s
      · rw [exR_frm hx hb hf, List.mem_append, ih, List.mem_singleton]
        constructor
        · rintro (h | h)
          · exact more h
          · obtain ⟨rfl, rfl⟩ := Prod.mk.inj h
            exact mk (.inl ⟨hf, rfl⟩) hb
        · intro h
          rcases less_ h with rfl | h2
          · have := (own_ h.2.2).far
            exact .inr (by rw [show t = x.to_ by omega])
          · exact .inl h2
      · by_cases ht : x.to_ = s
        · rw [exR_to hx hb hf ht, List.mem_append, ih, List.mem_singleton]
          constructor
          · rintro (h | h)
            · exact more h
            · obtain ⟨rfl, rfl⟩ := Prod.mk.inj h
              exact mk (.inr ⟨ht, rfl⟩) hb
          · intro h
            rcases less_ h with rfl | h2
            · have := (own_ h.2.2).far
              exact .inr (by rw [show t = x.frm by omega])
            · exact .inl h2
        · rw [exR_no hx hb hf ht, ih]
          constructor
          · exact more
          · intro h
            rcases less_ h with rfl | h2
            · have := own_ h.2.2
              unfold Jo at this; omega
            · exact h2
    · rw [shut hb, ih]
      constructor
      · exact more
      · intro h
        rcases less_ h with rfl | h2
        · exfalso
          have := h.1
          unfold Opn at this
          rw [Int.toNat_natCast] at this
          exact hb this
        · exact h2
theorem good_ne {ts : List Lg} (hg : goodLg ts = true) : ∀ x ∈ ts, ¬ x.frm = x.to_ := fun x hx => by
  obtain ⟨i, hi⟩ := List.getElem?_of_mem hx
  exact (okLg_lim (goodLg_at hg hi)).2.2.1
section
variable {ts : List Lg} {O : Int → Prop} {z e : Int}
theorem Wy.congr {O' : Int → Prop} (ho : ∀ j s t, O j → Jn ts j s t → O' j) {W : List (Int × Int)} (h : Wy ts O z e W) : Wy ts O' z e W := by
  induction h with
  | one => exact .one
  | more h1 h2 h3 _ ih => exact .more (ho _ _ _ h1 h2) h2 h3 ih
theorem Wy.last {W : List (Int × Int)} (h : Wy ts O z e W) : ∃ Q, W = Q ++ [(z, e)] := by
  induction h with
  | one => exact ⟨[], rfl⟩
  | @more t j s i P h1 h2 h3 _ ih =>
    obtain ⟨Q, hQ⟩ := ih
    exact ⟨(t, j) :: Q, by rw [hQ]; rfl⟩
theorem Wy.bd (hg : goodLg ts = true) (hz : 0 ≤ z ∧ z ≤ 7) {W : List (Int × Int)} (h : Wy ts O z e W) : ∀ s ∈ W.map Prod.fst, 0 ≤ s ∧ s ≤ 7 := by
  induction h with
  | one => intro s hs; rw [show s = z by simpa using hs]; exact hz
  | more h1 h2 h3 _ ih =>
    intro s hs
    rw [List.map_cons] at hs
    rcases List.mem_cons.1 hs with q | q
    · rw [q]; exact (h2.bd hg).1
    · exact ih s q
theorem nodup_len : ∀ (n : Nat) (l : List Int), l.Nodup → (∀ s ∈ l, 0 ≤ s ∧ s < n) → l.length ≤ n
  | 0, l, _, h => by
    cases l with
    | nil => exact Nat.le_refl _
    | cons a l => have := h a (List.mem_cons_self ..); omega
  | n + 1, l, hn, h => by
    by_cases hm : (n : Int) ∈ l
    · have h1 := nodup_len n (l.erase (n : Int)) (hn.erase _) (fun s hs => by
        have h2 := (hn.mem_erase_iff).1 hs
        have := h s h2.2
        have := h2.1
        omega)
      rw [List.length_erase_of_mem hm] at h1
      omega
    · have := nodup_len n l hn (fun s hs => by
        have := h s hs
        have : s ≠ n := fun e => hm (by rw [← e]; exact hs)
        omega)
      omega
theorem Wy.len (hg : goodLg ts = true) (hz : 0 ≤ z ∧ z ≤ 7) {W : List (Int × Int)} (h : Wy ts O z e W) : W.length ≤ 8 := by
  have h1 := nodup_len 8 _ h.nodup (fun s hs => by have := h.bd hg hz s hs; omega)
  rwa [List.length_map] at h1
/-- behind a way no other one of the kind that is asked for -/
def NoWay (ts : List Lg) (O : Int → Prop) (z e st : Int) (P : List (Int × Int)) : Prop := ∀ Q, Wy ts O z e (Q ++ P) → ¬ hd (Q ++ P) = st
/-- when all exits have been tried -/
theorem shut_all {st s i : Int} {P : List (Int × Int)} (hne : ¬ s = st) (h : ∀ j t, O j → Jn ts j s t → t ∉ ((s, i) :: P).map Prod.fst → NoWay ts O z e st ((t, j) :: (s, i) :: P)) : NoWay ts O z e st ((s, i) :: P) := by
  intro Q hQ hh
  rcases List.eq_nil_or_concat Q with q | ⟨Q', p, q⟩
  · rw [q] at hh; exact hne hh
  · obtain ⟨t, j⟩ := p
    have e1 : Q ++ (s, i) :: P = Q' ++ (t, j) :: (s, i) :: P := by rw [q]; simp
    rw [e1] at hQ hh
    have h1 := Wy.tail (by simp) hQ
    cases h1 with
    | more h1 h2 h3 _ => exact h j t h1 h2.symm h3 Q' hQ hh
theorem shut_seen {st t j : Int} {P : List (Int × Int)} (h : t ∈ P.map Prod.fst) : NoWay ts O z e st ((t, j) :: P) := by
  intro Q hQ
  exfalso
  have h1 := (Wy.tail (by simp) hQ).nodup
  rw [List.map_cons, List.nodup_cons] at h1
  exact h1.1 h
end
/-- the loop of a closing leg as the program has it -/
theorem op_tree {ts : List Lg} {j s t : Int} (hg : goodLg ts = true) (h : Opn (mks 12 (net ts).tr) j) (hj : Jn ts j s t) : j ∈ (net ts).tr := by
  obtain ⟨h0, x, hx, -⟩ := hj
  obtain ⟨q, rfl⟩ := Int.eq_ofNat_of_zero_le h0
  unfold Opn at h
  rw [Int.toNat_natCast] at h hx
  have hq : q < 12 := by have := lt_at h; rwa [mks_len] at this
  rw [mks_at _ hq] at h
  exact mem_iff.1 (Option.some.inj h)
theorem tree_op {ts : List Lg} {j : Int} (hg : goodLg ts = true) (h : j ∈ (net ts).tr) : Opn (mks 12 (net ts).tr) j := by
  have hb := (ok_net hg).2.2.2.2.1 j h
  obtain ⟨q, rfl⟩ := Int.eq_ofNat_of_zero_le hb.1
  unfold Opn
  rw [Int.toNat_natCast, mks_at _ (show q < 12 by omega), mem_iff.2 h]
theorem wy_tree {ts : List Lg} {i : Int} (h : lpOk ts i = true) {W : List (Int × Int)} (hW : Wy ts (Opn (mks 12 (net ts).tr)) (legAt ts i).frm i W) (hh : hd W = (legAt ts i).to_) : W.map Prod.snd = lpIds ts i ∧ W.map Prod.fst = lpSt ts i := by
  have hg := (lp_leg h).1
  obtain ⟨l, h1, h2, h3⟩ := (hW.congr (O' := (· ∈ (net ts).tr)) (fun j s t a b => op_tree hg a b)).nb0
  rw [hh] at h2 h3
  have e := path_is h h3
  rw [lpIds_is h, lpSt_is h, ← e]
  exact ⟨h1, h2⟩
theorem wy_tree_some {ts : List Lg} {i : Int} (h : lpOk ts i = true) : ∃ W, Wy ts (Opn (mks 12 (net ts).tr)) (legAt ts i).frm i W ∧ hd W = (legAt ts i).to_ := by
  obtain ⟨hg, h0, h1, x, hx, hl, ho, hf, ht, hn⟩ := lp_leg h
  obtain ⟨W, hW, e⟩ := wy_of_reach (legAt ts i).frm i (tree_joins (a := (legAt ts i).to_) (by rw [hl]; exact ht) (by rw [hl]; exact hf))
  exact ⟨W, hW.congr (fun j s t a _ => tree_op hg a), e⟩
/-- bridges as the program has them -/
def otherB (n k : Nat) : List Bool := (List.range 12).map fun q => decide (q < n) && !decide (q = k)
theorem op_other {ts : List Lg} {n k : Nat} (hL : ts.length = n) (hn : n ≤ 12) : ∀ x, By ts (Opn (otherB n k)) x ↔ By ts (other k) x := fun x => by
  constructor
  · rintro ⟨i, hi, h0, hx⟩
    refine ⟨i, ?_, h0, hx⟩
    obtain ⟨q, rfl⟩ := Int.eq_ofNat_of_zero_le h0
    unfold Opn otherB at hi
    rw [Int.toNat_natCast, List.getElem?_map] at hi
    obtain ⟨a, ha, hb⟩ := Option.map_eq_some_iff.1 hi
    have : a = q := by have := (List.getElem?_eq_some_iff.1 ha).2; simpa using this.symm
    subst this
    unfold other
    simp at hb
    omega
  · rintro ⟨i, hi, h0, hx⟩
    refine ⟨i, ?_, h0, hx⟩
    obtain ⟨q, rfl⟩ := Int.eq_ofNat_of_zero_le h0
    have hq : q < ts.length := by rw [Int.toNat_natCast] at hx; exact lt_at hx
    unfold other at hi
    unfold Opn otherB
    rw [Int.toNat_natCast, List.getElem?_map, List.getElem?_range (by omega)]
    simp; omega
theorem need_is {ts : List Lg} (hg : goodLg ts = true) {k : Nat} {x : Lg} (hx : ts[k]? = some x) (hf : x.frm ∈ (net ts).ps) : brB ts k = true ↔ ∀ W, Wy ts (Opn (otherB ts.length k)) x.frm (k : Int) W → ¬ hd W = x.to_ := by
  have hb := br_iff hg hx hf
  have h12 := goodLg_len hg
  constructor
  · intro h W hW hh
    have h1 := hW.reach
    rw [hh] at h1
    have h2 := hb.2 (h1.mono (fun y hy => (op_other rfl h12 y).1 hy))
    rw [h] at h2; cases h2
  · intro h
    cases q : brB ts k
    · obtain ⟨W, hW, e⟩ := wy_of_reach x.frm (k : Int) ((hb.1 q).mono (fun y hy => (op_other rfl h12 y).2 hy))
      exact absurd e (h W hW)
    · rfl
/-- the shifts and lengths of a way, added up -/
def sumW (ts : List Lg) : List (Int × Int) → Sf → Sf
  | [], z => z
  | (s, i) :: W, z => sumW ts W (add3 z (along ts i s))
theorem sumW_is (ts : List Lg) (e : Int) : ∀ (l : List Int) (a : Int) (W : List (Int × Int)) (z : Sf), W.map Prod.fst = stops ts a l → W.map Prod.snd = l ++ [e] → sumW ts W z = sumS ts a (l ++ [e]) z
  | [], a, W, z, h1, h2 => by
    cases W with
    | nil => cases h2
    | cons p W =>
      obtain ⟨s, i⟩ := p
      rw [List.map_cons] at h1 h2
      injection h1 with a1 a2
      injection h2 with b1 b2
      have : W = [] := List.map_eq_nil_iff.1 a2
      simp only [] at a1 b1
      rw [this, a1, b1]; rfl
  | j :: l, a, W, z, h1, h2 => by
    cases W with
    | nil => cases h2
    | cons p W =>
      obtain ⟨s, i⟩ := p
      rw [stops, List.map_cons] at h1
      rw [List.map_cons, List.cons_append] at h2
      injection h1 with a1 a2
      injection h2 with b1 b2
      simp only [] at a1 b1
      rw [a1, b1, List.cons_append, sumW, sumS]
      exact sumW_is ts e l _ W _ a2 b2
theorem wy_mis {ts : List Lg} {i : Int} (h : lpOk ts i = true) {W : List (Int × Int)} (h1 : W.map Prod.snd = lpIds ts i) (h2 : W.map Prod.fst = lpSt ts i) : sumW ts W zero3 = misV ts i := by
  rw [lpIds_is h] at h1
  rw [lpSt_is h] at h2
  rw [sumW_is ts i _ _ W zero3 h2 h1]
  unfold misV
  rw [if_pos h, lpIds_is h]
end Go.Proofs.YtjlkgijaceplcaaDoor.lp

namespace Go.Proofs.YtjlkgijaceplcaaDoor.bl
open Go.RowKit
open reads base ty lg lgi win hs nt nq rowi sn mt ml dt pg ph lp
set_option linter.unusedVariables false
set_option linter.unusedSimpArgs false

theorem US_filter (ts : List Lg) (ax : Int) : US ts ax = (ts.filter (fun x => mem (net ts).ps x.frm)).map (edOf ax) := by
  have key : ∀ k, k ≤ ts.length → eds ts ax (plN ts k) = ((ts.take k).filter (fun x => mem (net ts).ps x.frm)).map (edOf ax) := by
    intro k hk
    induction k with
    | zero => rfl
    | succ k ih =>
      have ih := ih (by omega)
      obtain ⟨x, hx⟩ := at_lt rfl (show k < ts.length by omega)
      rw [take_snoc hx, List.filter_append, List.map_append, ← ih]
      cases q : mem (net ts).ps x.frm
      · rw [show plN ts (k + 1) = plN ts k from rowi.idxs_no hx q]; simp [q]
      · rw [show plN ts (k + 1) = plN ts k ++ [(k : Int)] from rowi.idxs_yes hx q]
        unfold eds; rw [List.map_append]; simp [q, lgAt_is hx]
  have h := key ts.length (Nat.le_refl _)
  rw [List.take_length] at h; exact h
theorem asc_ext : ∀ {a b : List Int}, a.Pairwise (· < ·) → b.Pairwise (· < ·) → (∀ x, x ∈ a ↔ x ∈ b) → a = b
  | [], [], _, _, _ => rfl
  | [], y :: b, _, _, h => absurd ((h y).2 (List.mem_cons_self ..)) (by simp)
  | x :: a, [], _, _, h => absurd ((h x).1 (List.mem_cons_self ..)) (by simp)
  | x :: a, y :: b, ha, hb, h => by
    have a1 := List.pairwise_cons.1 ha
    have b1 := List.pairwise_cons.1 hb
    have e : x = y := by
      rcases List.mem_cons.1 ((h x).1 (List.mem_cons_self ..)) with q | q
      · exact q
      · rcases List.mem_cons.1 ((h y).2 (List.mem_cons_self ..)) with r | r
        · exact r.symm
        · have := b1.1 x q; have := a1.1 y r; omega
    subst e
    rw [asc_ext a1.2 b1.2 (fun z => ?_)]
    constructor
    · intro hz
      rcases List.mem_cons.1 ((h z).1 (List.mem_cons_of_mem _ hz)) with q | q
      · have := a1.1 z hz; omega
      · exact q
    · intro hz
      rcases List.mem_cons.1 ((h z).2 (List.mem_cons_of_mem _ hz)) with q | q
      · have := b1.1 z hz; omega
      · exact q
theorem less_ps {ts : List Lg} (hg : goodLg ts = true) {k : Nat} {x : Lg} (hx : ts[k]? = some x) (hf : x.frm ∈ (net ts).ps) (hb : brB ts k = false) : (net (less ts k)).ps = (net ts).ps := by
  have hk : k < ts.length := (List.getElem?_eq_some_iff.1 hx).1
  have hgl := less_good hg k
  have h := (br_iff hg hx hf).1 hb
  refine asc_ext (ok_net hgl).2.1 (ok_net hg).2.1 (fun v => ?_)
  rw [placed_iff hgl, placed_iff hg]
  constructor
  · intro q
    exact q.mono (fun y hy => by
      rcases List.mem_append.1 hy with z | z
      · exact List.mem_of_mem_take z
      · exact List.mem_of_mem_drop z)
  · intro q
    refine q.over (fun y hy => ?_)
    obtain ⟨j, hj⟩ := List.getElem?_of_mem hy
    by_cases e : j = k
    · subst e
      rw [hx] at hj
      obtain rfl := Option.some.inj hj
      exact h.symm.mono (fun y hy => (less_mem hk y).2 hy)
    · exact .one ((less_mem hk y).2 ⟨(j : Int), by unfold other; omega, by omega, by rw [Int.toNat_natCast]; exact hj⟩) (.inl ⟨rfl, rfl⟩)
theorem split_at {ts : List Lg} {k : Nat} {x : Lg} (hx : ts[k]? = some x) : ts = ts.take k ++ x :: ts.drop (k + 1) := by
  have h := List.take_append_drop (k + 1) ts
  rw [take_snoc hx, List.append_assoc] at h
  exact h.symm
/-- the network without a leg -/
theorem US_less {ts : List Lg} (hg : goodLg ts = true) {k : Nat} {x : Lg} (hx : ts[k]? = some x) (hf : x.frm ∈ (net ts).ps) (hb : brB ts k = false) (ax : Int) :
    ∃ a b e, US ts ax = a ++ e :: b ∧ US (less ts k) ax = a ++ b ∧ stN (less ts k) = stN ts := by
  have hp := less_ps hg hx hf hb
  refine ⟨((ts.take k).filter (fun x => mem (net ts).ps x.frm)).map (edOf ax), ((ts.drop (k + 1)).filter (fun x => mem (net ts).ps x.frm)).map (edOf ax), edOf ax x, ?_, ?_, ?_⟩
  · rw [US_filter]
    have hm : mem (net ts).ps x.frm = true := mem_iff.2 hf
    have e := split_at hx
    obtain ⟨p, hp⟩ : ∃ p, (fun x : Lg => mem (net ts).ps x.frm) = p := ⟨_, rfl⟩
    have hm2 : p x = true := by rw [← hp]; exact hm
    rw [hp]
    conv => lhs; rw [e]
    rw [List.filter_append, List.map_append, List.filter_cons_of_pos hm2]; rfl
  · rw [US_filter, hp]
    unfold less
    rw [List.filter_append, List.map_append]
  · unfold stN unk; rw [hp]
theorem sme_app (a b : List Ed) (g : Ed → Int) : sme (a ++ b) g = sme a g + sme b g := by unfold sme; rw [List.map_append, List.sum_append]
theorem nw_less {a b : List Ed} {e : Ed} {l : List Nat} (h : Nw (a ++ e :: b) l) (h' : Nw (a ++ b) l) :
    DD (a ++ e :: b) l * DD (a ++ e :: b) l * sme (a ++ b) (fun x => res (a ++ b) l x * res (a ++ b) l x) ≤ DD (a ++ b) l * DD (a ++ b) l * sme (a ++ e :: b) (fun x => res (a ++ e :: b) l x * res (a ++ e :: b) l x) := by
  obtain ⟨us, hus⟩ : ∃ us, a ++ e :: b = us := ⟨_, rfl⟩
  obtain ⟨vs, hvs⟩ : ∃ vs, a ++ b = vs := ⟨_, rfl⟩
  have mono : ∀ g : Ed → Int, sme vs (fun x => g x * g x) ≤ sme us (fun x => g x * g x) := by
    intro g
    rw [← hus, ← hvs, sme_app, sme_app, sme_cons]
    have : 0 ≤ g e * g e := by rcases Int.le_total 0 (g e) with q | q; exact Int.mul_nonneg q q; exact Int.mul_nonneg_of_nonpos_of_nonpos q q
    omega
  rw [hus] at h ⊢
  rw [hvs] at h' ⊢
  have hb := h'.balanced_with (fun s => DD us l * XX vs l s - DD vs l * XX us l s)
  have hs := sme_sq_nonneg vs (fun x => (DD us l * XX vs l x.t - DD vs l * XX us l x.t) - (DD us l * XX vs l x.f - DD vs l * XX us l x.f))
  have key : ∀ x, DD vs l * res us l x = DD us l * res vs l x + ((DD us l * XX vs l x.t - DD vs l * XX us l x.t) - (DD us l * XX vs l x.f - DD vs l * XX us l x.f)) := by
    intro x; unfold res; grind
  have m := mono (res us l)
  obtain ⟨D, hD⟩ : ∃ D, DD us l = D := ⟨_, rfl⟩
  obtain ⟨E, hE⟩ : ∃ E, DD vs l = E := ⟨_, rfl⟩
  rw [hD] at hb hs key ⊢
  rw [hE] at hb hs key ⊢
  obtain ⟨z, hz⟩ : ∃ z : Ed → Int, (fun x : Ed => (D * XX vs l x.t - E * XX us l x.t) - (D * XX vs l x.f - E * XX us l x.f)) = z := ⟨_, rfl⟩
  have hz2 : ∀ x : Ed, (D * XX vs l x.t - E * XX us l x.t) - (D * XX vs l x.f - E * XX us l x.f) = z x := fun x => by rw [← hz]
  simp only [hz2] at hb hs key
  have e1 : E * E * sme vs (fun x => res us l x * res us l x) = D * D * sme vs (fun x => res vs l x * res vs l x) + 2 * D * sme vs (fun x => z x * res vs l x) + sme vs (fun x => z x * z x) := by
    have q1 : E * E * sme vs (fun x => res us l x * res us l x) = sme vs (fun x => (E * E) * (res us l x * res us l x) + 0 * (res us l x)) := by rw [sme_lin]; omega
    have q2 : sme vs (fun x => (E * E) * (res us l x * res us l x) + 0 * (res us l x)) = sme vs (fun x => 1 * ((D * D) * (res vs l x * res vs l x) + (2 * D) * (z x * res vs l x)) + 1 * (z x * z x)) := sme_congr (fun x _ => by
      have k := key x
      have k2 : (E * res us l x) * (E * res us l x) = (D * res vs l x + z x) * (D * res vs l x + z x) := by rw [k]
      grind)
    rw [q1, q2, sme_lin, sme_lin]; omega
  rw [hb] at e1
  have e2 : E * E * sme vs (fun x => res us l x * res us l x) ≤ E * E * sme us (fun x => res us l x * res us l x) := by
    refine Int.mul_le_mul_of_nonneg_left m ?_
    rcases Int.le_total 0 E with q | q
    · exact Int.mul_nonneg q q
    · exact Int.mul_nonneg_of_nonpos_of_nonpos q q
  omega
theorem EE_less {ts : List Lg} (hg : goodLg ts = true) {k : Nat} {x : Lg} (hx : ts[k]? = some x) (hf : x.frm ∈ (net ts).ps) (hb : brB ts k = false) (ax : Int) : EE (less ts k) ax * TC ts ≤ EE ts ax * TC (less ts k) := by
  have hgl := less_good hg k
  obtain ⟨a, b, e, e1, e2, e3⟩ := US_less hg hx hf hb ax
  have h := nw_net hg ax
  have h' := nw_net hgl ax
  have d := DD_ax hg ax
  have d' := DD_ax hgl ax
  have s := SQ_sme hg ax
  have s' := SQ_sme hgl ax
  rw [SQ_EE hg ax] at s
  rw [SQ_EE hgl ax] at s'
  rw [e3] at h' d' s'
  rw [e1] at h d s
  rw [e2] at h' d' s'
  have q := nw_less h h'
  rw [← s, ← s', d, d'] at q
  have p := TC_pos hg
  have p' := TC_pos hgl
  obtain ⟨T, hT⟩ : ∃ T, TC ts = T := ⟨_, rfl⟩
  obtain ⟨U, hU⟩ : ∃ U, TC (less ts k) = U := ⟨_, rfl⟩
  rw [hT, hU] at q
  rw [hT] at p
  rw [hU] at p'
  rw [hT, hU]
  refine Int.le_of_mul_le_mul_left (a := T * U) ?_ (Int.mul_pos (by omega) (by omega))
  grind
theorem EK_less {ts : List Lg} (hg : goodLg ts = true) {k : Nat} {x : Lg} (hx : ts[k]? = some x) (hf : x.frm ∈ (net ts).ps) (hb : brB ts k = false) : ∀ j, EK (less ts k) j * TC ts ≤ EK ts j * TC (less ts k)
  | 0 => by simp [EK]
  | j + 1 => by
    have a := EK_less hg hx hf hb j
    have b := EE_less hg hx hf hb (j : Int)
    simp only [EK]
    rw [Int.add_mul, Int.add_mul]; omega
theorem cpI_mul {x y c : Int} (hc : 0 < c) : cpI (x * c) (y * c) = cpI x y := by
  have a : x * c < y * c ↔ x < y := ⟨fun h => Int.lt_of_mul_lt_mul_right h (by omega), fun h => Int.mul_lt_mul_of_pos_right h hc⟩
  have b : y * c < x * c ↔ y < x := ⟨fun h => Int.lt_of_mul_lt_mul_right h (by omega), fun h => Int.mul_lt_mul_of_pos_right h hc⟩
  unfold cpI; simp only [a, b]
/-- the order of the strains, by the numbers of trees -/
theorem cpS_is {ts us : List Lg} (hg : goodLg ts = true) (hu : goodLg us = true) : cpS ts us = cpI (EK ts 3 * TC us) (EK us 3 * TC ts) := by
  have r1 := red_is (EK_bd hg 3 (by omega)).1 (TC_pos hg)
  have r2 := red_is (EK_bd hu 3 (by omega)).1 (TC_pos hu)
  have p1 := TC_pos hg
  have p2 := TC_pos hu
  unfold cpS snV sdV kn kd
  obtain ⟨n, hn⟩ : ∃ n, redN (EK ts 3) (TC ts) = n := ⟨_, rfl⟩
  obtain ⟨d, hd⟩ : ∃ d, redD (EK ts 3) (TC ts) = d := ⟨_, rfl⟩
  obtain ⟨m, hm⟩ : ∃ n, redN (EK us 3) (TC us) = n := ⟨_, rfl⟩
  obtain ⟨f, hf⟩ : ∃ d, redD (EK us 3) (TC us) = d := ⟨_, rfl⟩
  rw [hn, hd] at r1 ⊢
  rw [hm, hf] at r2 ⊢
  obtain ⟨e1, -, -, d0, -⟩ := r1
  obtain ⟨e2, -, -, f0, -⟩ := r2
  rw [← cpI_mul (c := TC ts * TC us) (Int.mul_pos (by omega) (by omega)), ← cpI_mul (x := EK ts 3 * TC us) (c := d * f) (Int.mul_pos (by omega) (by omega))]
  congr 1
  · rw [show n * f * (TC ts * TC us) = n * TC ts * (f * TC us) by grind, e1]; grind
  · rw [show m * d * (TC ts * TC us) = m * TC us * (d * TC ts) by grind, e2]; grind
/-- leaving out a leg never makes the strain greater -/
theorem less_strain {ts : List Lg} (hg : goodLg ts = true) {k : Nat} {x : Lg} (hx : ts[k]? = some x) (hf : x.frm ∈ (net ts).ps) (hb : brB ts k = false) : cpS (less ts k) ts ≤ 0 := by
  rw [cpS_is (less_good hg k) hg]
  have h := EK_less hg hx hf hb 3
  unfold cpI
  split
  · omega
  · split <;> omega
/-- the order of the strains is one -/
theorem cpS_trans {a b c : List Lg} (ha : goodLg a = true) (hb : goodLg b = true) (hc : goodLg c = true) (h1 : cpS a b ≤ 0) (h2 : cpS b c ≤ 0) : cpS a c ≤ 0 ∧ (cpS a b < 0 ∨ cpS b c < 0 → cpS a c < 0) := by
  rw [cpS_is ha hb] at h1 ⊢
  rw [cpS_is hb hc] at h2 ⊢
  rw [cpS_is ha hc]
  have le : ∀ x y : Int, cpI x y ≤ 0 ↔ x ≤ y := fun x y => by unfold cpI; split; omega; split <;> omega
  have p1 := TC_pos ha
  have p2 := TC_pos hb
  have p3 := TC_pos hc
  rw [le] at h1 h2
  rw [le, cpI_lt, cpI_lt, cpI_lt]
  obtain ⟨A, hA⟩ : ∃ A, EK a 3 = A := ⟨_, rfl⟩
  obtain ⟨B, hB⟩ : ∃ A, EK b 3 = A := ⟨_, rfl⟩
  obtain ⟨C, hC⟩ : ∃ A, EK c 3 = A := ⟨_, rfl⟩
  obtain ⟨s, hs⟩ : ∃ A, TC a = A := ⟨_, rfl⟩
  obtain ⟨t, ht⟩ : ∃ A, TC b = A := ⟨_, rfl⟩
  obtain ⟨u, hu⟩ : ∃ A, TC c = A := ⟨_, rfl⟩
  simp only [hA, hB, hC, hs, ht, hu] at h1 h2 p1 p2 p3 ⊢
  have m1 := Int.mul_le_mul_of_nonneg_right h1 (show 0 ≤ u by omega)
  have m2 := Int.mul_le_mul_of_nonneg_right h2 (show 0 ≤ s by omega)
  have e : B * s * u = B * u * s := by grind
  refine ⟨Int.le_of_mul_le_mul_right (a := t) ?_ (by omega), fun q => Int.lt_of_mul_lt_mul_right (a := t) ?_ (by omega)⟩
  · have f1 : A * u * t = A * t * u := by grind
    have f2 : C * s * t = C * t * s := by grind
    omega
  · have f1 : A * u * t = A * t * u := by grind
    have f2 : C * s * t = C * t * s := by grind
    rcases q with q | q
    · have := Int.mul_lt_mul_of_pos_right q (show 0 < u by omega)
      omega
    · have := Int.mul_lt_mul_of_pos_right q (show 0 < s by omega)
      omega
end Go.Proofs.YtjlkgijaceplcaaDoor.bl

namespace Go.Proofs.YtjlkgijaceplcaaDoor.ty
open Go.RowKit
open reads base
set_option linter.unusedVariables false

/-- a list of ints in memory, from the beginning of a block on -/
def InAt (w : World) (B : Nat) (A : Option Addr) (n : Nat) (xs : List Int) : Prop :=
  xs.length = n ∧ ∀ (k : Nat) x, xs[k]? = some x → ∃ g, A = some ⟨g, 0, none⟩ ∧ g < B ∧ w.cell? ⟨g, k, none⟩ = some (.int .i64 x)
theorem InAt.below {w w' : World} {B : Nat} {A : Option Addr} {n : Nat} {xs : List Int} (h : InAt w B A n xs) (hb : Below B w w') : InAt w' B A n xs :=
  ⟨h.1, fun k x hx => by
    obtain ⟨g, e, hg, h0⟩ := h.2 k x hx
    exact ⟨g, e, hg, (hb.cell (p := ⟨g, k, none⟩) hg).trans h0⟩⟩
theorem InAt.more {w : World} {B B' : Nat} {A : Option Addr} {n : Nat} {xs : List Int} (h : InAt w B A n xs) (hB : B ≤ B') : InAt w B' A n xs :=
  ⟨h.1, fun k x hx => by
    obtain ⟨g, e, hg, h0⟩ := h.2 k x hx
    exact ⟨g, e, by omega, h0⟩⟩
theorem InAt.step {w w' : World} {A : Option Addr} {n : Nat} {xs : List Int} (h : InAt w w.heap.size A n xs) (hb : Below w.heap.size w w') : InAt w' w'.heap.size A n xs := (h.below hb).more hb.size
theorem InAt.alloc {w : World} {A : Option Addr} {n : Nat} {xs : List Int} (h : InAt w w.heap.size A n xs) (o : Obj) : InAt (w.alloc o) (w.alloc o).heap.size A n xs := h.step ((Below.refl _ _).alloc (Nat.le_refl _) o)
theorem InAt.il {w : World} {B : Nat} {A : Option Addr} {n : Nat} {xs : List Int} (h : InAt w B A n xs) : ints.IL w A n xs :=
  ⟨h.1, fun k x hx => by
    obtain ⟨g, e, hg, h0⟩ := h.2 k x hx
    exact ⟨g, e, h0⟩⟩
theorem own_In {w : World} {base c n : Nat} {e : TypeId} {A : Option Addr} {xs : List Int} (hn : xs.length = n) (h : w.ownsRow base e 1 (.slice A n c) n (ints.intsV xs)) : InAt w w.heap.size A n xs := by
  refine ⟨hn, fun k x hx => ?_⟩
  have hk : k < xs.length := (List.getElem?_eq_some_iff.1 hx).1
  obtain ⟨g, cap, hv, -, hg⟩ := h.form (by omega)
  injection hv with hA _ hc
  subst hA hc
  exact ⟨g, rfl, hg, by rw [h.cellAt k (by omega)]; simp [ints.intsV, hx]⟩
end Go.Proofs.YtjlkgijaceplcaaDoor.ty

namespace Go.Proofs.YtjlkgijaceplcaaDoor.nt
open Go.RowKit
open reads base ty lg rowi hs
set_option linter.unusedVariables false
set_option linter.unusedSimpArgs false

end Go.Proofs.YtjlkgijaceplcaaDoor.nt

namespace Go.Proofs.YtjlkgijaceplcaaDoor.nt
open Go.RowKit
open reads base ty lg rowi hs
set_option linter.unusedVariables false
set_option linter.unusedSimpArgs false

set_option maxHeartbeats 4000000 in
set_option maxRecDepth 100000 in
theorem has6_any (A : Option Addr) (n cap : Nat) (ts : List Lg) (q : Int) (t : Bool) (w : World) (ht : Hid (has6 ts q = t)) (hn : n ≤ 2000000) (hts : Hid (LgAt w w.heap.size A n ts)) :
    Calls Tryd.prog 80 #[.slice A n cap, .int .i64 q] w (BPost t w) := by
  cases hg : goodLg ts
  · have HG := Lib.hid hg
    have HF := Lib.hid (show t = false by rw [← ht.out]; unfold has6; rw [hg]; rfl)
    clear hg
    go_enter Tryd.func80, Tryd.ntmps80
    go_wp2_with fail
    refine (legs_is A n cap ts false _ hn hts HG).mono ?_
    rintro e w1 ⟨rfl, b1⟩
    have HB := Lib.hid b1
    clear b1
    go_wp2_with fail
    go_ret
    exact ⟨ret_bool HF.out.symm, HB.out⟩
  · have HG := Lib.hid hg
    have HM := Lib.hid (show mem (net ts).ps q = t by rw [← ht.out]; unfold has6; rw [hg]; rfl)
    clear hg
    go_enter Tryd.func80, Tryd.ntmps80
    go_wp2_with fail
    refine (legs_is A n cap ts true _ hn hts HG).mono ?_
    rintro e w1 ⟨rfl, b1⟩
    have HB := Lib.hid b1
    clear b1
    go_wp2_with fail
    refine (place_any A n cap ts _ HG (Lib.hid (hts.out.step HB.out))).mono ?_
    rintro e w2 ⟨g1, g2, c2, g3, c3, rfl, hN⟩
    have HN := Lib.hid hN
    have hpl := (ok_net HG.out).ps_len
    clear hN
    obtain ⟨m2, HM2⟩ : ∃ m, Hid ((net ts).ps.length = m) := ⟨_, Lib.hid rfl⟩
    have HR := Lib.hid (show w2.ownsRow w1.heap.size 3 1 (.slice (some ⟨g2, 0, none⟩) m2 c2) m2 (ints.intsV (net ts).ps) by have h := HN.out.2.2.1; rw [HM2.out] at h; exact h)
    rw [HM2.out] at hpl ⊢
    go_wp2_with fail
    refine (has_is (some ⟨g2, 0, none⟩) m2 c2 (net ts).ps q t HM _ (by omega) (Lib.hid (ints.IL.of_own HR.out))).mono ?_
    rintro e w3 ⟨rfl, rfl⟩
    go_wp2_with fail
    go_ret
    exact ⟨rfl, HB.out.trans (HN.out.1.mono HB.out.size)⟩
/-- a list of its own -/
def IPo (xs : List Int) (w : World) (e : Ending) (w' : World) : Prop :=
  ∃ v, e = .returned v ∧ w'.ownsRow w.heap.size 3 1 v xs.length (ints.intsV xs) ∧ Below w.heap.size w w'
end Go.Proofs.YtjlkgijaceplcaaDoor.nt

namespace Go.Proofs.YtjlkgijaceplcaaDoor.lp
open Go.RowKit
open reads base ty lg rowi hs nt
set_option linter.unusedVariables false
set_option linter.unusedSimpArgs false

/-- a way by tree legs that does not turn back, if there is one -/
def WPo (ts : List Lg) (last a b : Int) (w : World) (e : Ending) (w' : World) : Prop :=
  ∃ (r : List Int) (ok : Bool) (g c m : Nat), e = .returned (.tuple #[.slice (some ⟨g, 0, none⟩) m c, .bool ok]) ∧ r.length = m ∧ m ≤ 12 ∧ w'.ownsRow w.heap.size 3 1 (.slice (some ⟨g, 0, none⟩) m c) m (ints.intsV r) ∧ Below w.heap.size w w' ∧ (if ok = true then NB ts (net ts).tr last a r b else ∀ l, ¬ NB ts (net ts).tr last a l b)
theorem jo_test {x : Lg} {a : Int} (h : (x.frm == a) = true ∨ (x.to_ == a) = true) : Jo x a (x.frm + x.to_ - a) := by
  unfold Jo
  rcases h with h | h
  · have : x.frm = a := by simpa using h
    omega
  · have : x.to_ = a := by simpa using h
    omega
theorem ints_one (xs : List Int) : ∀ u ∈ ints.intsV xs, u.oneCell' = true := by
  intro u hu
  obtain ⟨y, -, rfl⟩ := List.mem_map.1 hu
  rfl
theorem row_some {w : World} {base size n : Nat} {e : TypeId} {v : Value} {xs : List Value} (h : w.ownsRow base e size v n xs) (hn : 0 < n) : ∃ g c, v = .slice (some ⟨g, 0, none⟩) n c := by
  obtain ⟨g, cap, hv, -, -⟩ := h.form hn
  exact ⟨g, cap, hv⟩
/-- what the search has shown: no way begins with one of the first k legs -/
def Tried (ts : List Lg) (T : List Int) (last a b : Int) (k : Nat) : Prop := ∀ i l, i ∈ T.take k → ¬ NB ts (net ts).tr last a (i :: l) b
theorem tried_next {ts : List Lg} {T : List Int} {last a b : Int} {k : Nat} {i : Int} (h : Tried ts T last a b k) (hi : T[k]? = some i) (hn : ∀ l, ¬ NB ts (net ts).tr last a (i :: l) b) : Tried ts T last a b (k + 1) := fun j l hj => by
  rw [take_snoc hi] at hj
  rcases List.mem_append.1 hj with q | q
  · exact h j l q
  · rw [List.mem_singleton.1 q]; exact hn l
theorem tried_all {ts : List Lg} {last a b : Int} {m : Nat} (hm : (net ts).tr.length = m) (h : Tried ts (net ts).tr last a b m) (hab : ¬ a = b) : ∀ l, ¬ NB ts (net ts).tr last a l b := fun l hl => by
  cases l with
  | nil => exact hab hl
  | cons i l => exact h i l (by rw [← hm, List.take_length]; exact hl.1) hl
end Go.Proofs.YtjlkgijaceplcaaDoor.lp

namespace Go.Proofs.YtjlkgijaceplcaaDoor.lp
open Go.RowKit
open reads base ty lg rowi hs nt
set_option linter.unusedVariables false
set_option linter.unusedSimpArgs false

end Go.Proofs.YtjlkgijaceplcaaDoor.lp

namespace Go.Proofs.YtjlkgijaceplcaaDoor.lp
open Go.RowKit
open reads base ty lg rowi hs nt
set_option linter.unusedVariables false
set_option linter.unusedSimpArgs false

end Go.Proofs.YtjlkgijaceplcaaDoor.lp

namespace Go.Proofs.YtjlkgijaceplcaaDoor.lp
open Go.RowKit
open reads base ty lg rowi hs nt
set_option linter.unusedVariables false
set_option linter.unusedSimpArgs false

/-- the answer and the sum in their boxes -/
def CB3 (w : World) (s : Sf) (v : World) : Prop := Blk v w.heap.size 69 #[.int .i64 0, .int .i64 0, .int .i64 0] ∧ Blk v (w.heap.size + 1) 69 #[.int .i64 s.east, .int .i64 s.north, .int .i64 s.up] ∧ Below w.heap.size w v
theorem CB3.start (w : World) : CB3 w zero3 ((w.alloc (.cells #[.int .i64 0, .int .i64 0, .int .i64 0] 69)).alloc (.cells #[.int .i64 0, .int .i64 0, .int .i64 0] 69)) := by
  refine ⟨(Blk.new w _ _).alloc _, ?_, ((Below.refl _ _).alloc (Nat.le_refl _) _).alloc (by simp) _⟩
  have h := Blk.new (w.alloc (.cells #[.int .i64 0, .int .i64 0, .int .i64 0] 69)) 69 #[.int .i64 0, .int .i64 0, .int .i64 0]
  simpa [zero3] using h
theorem CB3.step {w v v' : World} {s : Sf} (h : CB3 w s v) (hb : Below v.heap.size v v') : CB3 w s v' := ⟨h.1.below hb h.1.lt, h.2.1.below hb h.2.1.lt, h.2.2.trans (hb.mono h.2.2.size)⟩
theorem CB3.drew {w v : World} {s : Sf} (h : CB3 w s v) : CB3 w s v.drew := ⟨h.1.drew, h.2.1.drew, h.2.2.drew⟩
theorem CB3.cs {w v : World} {s : Sf} (h : CB3 w s v) : v.cell? ⟨w.heap.size + 1, 0, none⟩ = some (.int .i64 s.east) ∧ v.cell? ⟨w.heap.size + 1, 1, none⟩ = some (.int .i64 s.north) ∧ v.cell? ⟨w.heap.size + 1, 2, none⟩ = some (.int .i64 s.up) := ⟨h.2.1.cell 0, h.2.1.cell 1, h.2.1.cell 2⟩
theorem CB3.zs {w v : World} {s : Sf} (h : CB3 w s v) : v.cell? ⟨w.heap.size, 0, none⟩ = some (.int .i64 0) ∧ v.cell? ⟨w.heap.size, 1, none⟩ = some (.int .i64 0) ∧ v.cell? ⟨w.heap.size, 2, none⟩ = some (.int .i64 0) := ⟨h.1.cell 0, h.1.cell 1, h.1.cell 2⟩
theorem CB3.fs {w v : World} {s : Sf} (h : CB3 w s v) : v.frozen? ⟨w.heap.size + 1, 0, none⟩ = false ∧ v.frozen? ⟨w.heap.size + 1, 1, none⟩ = false ∧ v.frozen? ⟨w.heap.size + 1, 2, none⟩ = false ∧ w.heap.size + 1 < v.heap.size := ⟨h.2.1.frozen 0, h.2.1.frozen 1, h.2.1.frozen 2, h.2.1.lt⟩
theorem CB3.gs {w v : World} {s : Sf} (h : CB3 w s v) : v.frozen? ⟨w.heap.size, 0, none⟩ = false ∧ v.frozen? ⟨w.heap.size, 1, none⟩ = false ∧ v.frozen? ⟨w.heap.size, 2, none⟩ = false ∧ w.heap.size < v.heap.size := ⟨h.1.frozen 0, h.1.frozen 1, h.1.frozen 2, h.1.lt⟩
theorem CB3.put {w v : World} {s : Sf} (h : CB3 w s v) (y : Sf) : CB3 w y (((v.setCell ⟨w.heap.size + 1, 0, none⟩ (.int .i64 y.east)).setCell ⟨w.heap.size + 1, 1, none⟩ (.int .i64 y.north)).setCell ⟨w.heap.size + 1, 2, none⟩ (.int .i64 y.up)) := by
  obtain ⟨h1, h2, h3⟩ := h
  refine ⟨((h1.far (by show _ ≠ _; simp) _).far (by show _ ≠ _; simp) _).far (by show _ ≠ _; simp) _, ?_, ((h3.setCell (by simp) _).setCell (by simp) _).setCell (by simp) _⟩
  have k := ((h2.set_ 0 (.int .i64 y.east)).set_ 1 (.int .i64 y.north)).set_ 2 (.int .i64 y.up)
  simpa using k
/-- a list of ints in a block of its own stays while the sum is written -/
theorem in_put {w v : World} {B m g : Nat} {xs : List Int} {y : Sf} (h : InAt v B (some ⟨g, 0, none⟩) m xs) (hg : w.heap.size + 1 < g) : InAt (((v.setCell ⟨w.heap.size + 1, 0, none⟩ (.int .i64 y.east)).setCell ⟨w.heap.size + 1, 1, none⟩ (.int .i64 y.north)).setCell ⟨w.heap.size + 1, 2, none⟩ (.int .i64 y.up)) B (some ⟨g, 0, none⟩) m xs :=
  ⟨h.1, fun k x hx => by
    obtain ⟨g', e, hb, hc⟩ := h.2 k x hx
    obtain rfl : g = g' := by injection e with e; injection e
    refine ⟨g, rfl, hb, ?_⟩
    have ne : ∀ o, (⟨w.heap.size + 1, o, none⟩ : Addr) ≠ ⟨g, k, none⟩ := fun o q => by injection q with q; omega
    rw [World.cell?_setCell_other _ _ _ _ (ne 2), World.cell?_setCell_other _ _ _ _ (ne 1), World.cell?_setCell_other _ _ _ _ (ne 0)]
    exact hc⟩
theorem bdN_s {k : Nat} {s : Sf} (h : BdN k s) (hk : k ≤ 20) : BdS s := by unfold BdN at h; unfold BdS; omega
/-- LoopLength's answer -/
def ansLe (ts : List Lg) (i : Int) : Value := if lpOk ts i then .tuple #[.int .i64 (lenV ts i), .bool true] else .tuple #[.int .i64 0, .bool false]
theorem leg5 {v : World} {X : Nat} {T : TypeId} {y : Lg} (h : Blk v X T #[.int .i64 y.frm, .int .i64 y.to_, .int .i64 y.tape, .int .i64 y.comp, .int .i64 y.slope]) : v.cell? ⟨X, 0, none⟩ = some (.int .i64 y.frm) ∧ v.cell? ⟨X, 1, none⟩ = some (.int .i64 y.to_) ∧ v.cell? ⟨X, 2, none⟩ = some (.int .i64 y.tape) ∧ v.cell? ⟨X, 3, none⟩ = some (.int .i64 y.comp) ∧ v.cell? ⟨X, 4, none⟩ = some (.int .i64 y.slope) := ⟨h.cell 0, h.cell 1, h.cell 2, h.cell 3, h.cell 4⟩
/-- what is live in the loop: the boxes of the answer and the sum, the loop's legs -/
def MB (w : World) (B g m : Nat) (L : List Int) (s : Sf) (v : World) : Prop := CB3 w s v ∧ InAt v B (some ⟨g, 0, none⟩) m L ∧ B ≤ v.heap.size ∧ w.heap.size + 1 < g
/-- the same, and the leg at hand -/
def MX (w : World) (B g m : Nat) (L : List Int) (s : Sf) (X : Nat) (y : Lg) (v : World) : Prop := MB w B g m L s v ∧ Blk v X 54 #[.int .i64 y.frm, .int .i64 y.to_, .int .i64 y.tape, .int .i64 y.comp, .int .i64 y.slope] ∧ w.heap.size + 1 < X
section
variable {w v v' : World} {B g m X : Nat} {L : List Int} {s : Sf} {y : Lg}
theorem MB.step (h : MB w B g m L s v) (hb : Below v.heap.size v v') : MB w B g m L s v' := ⟨h.1.step hb, h.2.1.below (hb.mono h.2.2.1), Nat.le_trans h.2.2.1 hb.size, h.2.2.2⟩
theorem MB.put (h : MB w B g m L s v) (z : Sf) : MB w B g m L z (((v.setCell ⟨w.heap.size + 1, 0, none⟩ (.int .i64 z.east)).setCell ⟨w.heap.size + 1, 1, none⟩ (.int .i64 z.north)).setCell ⟨w.heap.size + 1, 2, none⟩ (.int .i64 z.up)) :=
  ⟨h.1.put z, in_put h.2.1 h.2.2.2, by simpa [World.setCell] using h.2.2.1, h.2.2.2⟩
theorem MX.step (h : MX w B g m L s X y v) (hb : Below v.heap.size v v') : MX w B g m L s X y v' := ⟨h.1.step hb, h.2.1.below hb h.2.1.lt, h.2.2⟩
theorem MX.put (h : MX w B g m L s X y v) (z : Sf) : MX w B g m L z X y (((v.setCell ⟨w.heap.size + 1, 0, none⟩ (.int .i64 z.east)).setCell ⟨w.heap.size + 1, 1, none⟩ (.int .i64 z.north)).setCell ⟨w.heap.size + 1, 2, none⟩ (.int .i64 z.up)) := by
  have ne : ∀ o, X ≠ (⟨w.heap.size + 1, o, none⟩ : Addr).block := fun o => by have := h.2.2; show X ≠ w.heap.size + 1; omega
  exact ⟨h.1.put z, ((h.2.1.far (ne 0) _).far (ne 1) _).far (ne 2) _, h.2.2⟩
theorem MX.cs (h : MX w B g m L s X y v) : (v.cell? ⟨w.heap.size + 1, 0, none⟩ = some (.int .i64 s.east) ∧ v.cell? ⟨w.heap.size + 1, 1, none⟩ = some (.int .i64 s.north) ∧ v.cell? ⟨w.heap.size + 1, 2, none⟩ = some (.int .i64 s.up)) ∧ (v.cell? ⟨X, 0, none⟩ = some (.int .i64 y.frm) ∧ v.cell? ⟨X, 1, none⟩ = some (.int .i64 y.to_) ∧ v.cell? ⟨X, 2, none⟩ = some (.int .i64 y.tape) ∧ v.cell? ⟨X, 3, none⟩ = some (.int .i64 y.comp) ∧ v.cell? ⟨X, 4, none⟩ = some (.int .i64 y.slope)) ∧ X < v.heap.size ∧ (v.frozen? ⟨w.heap.size + 1, 0, none⟩ = false ∧ v.frozen? ⟨w.heap.size + 1, 1, none⟩ = false ∧ v.frozen? ⟨w.heap.size + 1, 2, none⟩ = false ∧ w.heap.size + 1 < v.heap.size) := ⟨h.1.1.cs, leg5 h.2.1, h.2.1.lt, h.1.1.fs⟩
end
/-- MisclosureOf's answer -/
def ansMi (ts : List Lg) (i : Int) : Value := if lpOk ts i then .tuple #[.agg #[.int .i64 (misV ts i).east, .int .i64 (misV ts i).north, .int .i64 (misV ts i).up], .bool true] else .tuple #[.agg #[.int .i64 0, .int .i64 0, .int .i64 0], .bool false]
end Go.Proofs.YtjlkgijaceplcaaDoor.lp

namespace Go.Proofs.YtjlkgijaceplcaaDoor.lp
open Go.RowKit
open reads base ty lg rowi hs nt
set_option linter.unusedVariables false
set_option linter.unusedSimpArgs false

/-- WorstLoop's answer -/
def ansWo (ts : List Lg) : Value := if wrOk ts then .tuple #[.int .i64 (wrV ts), .bool true] else .tuple #[.int .i64 0, .bool false]
end Go.Proofs.YtjlkgijaceplcaaDoor.lp

namespace Go.Proofs.YtjlkgijaceplcaaDoor.lp
open Go.RowKit
open reads base ty lg rowi hs nt
set_option linter.unusedVariables false
set_option linter.unusedSimpArgs false

theorem flatLg_append (a b : List Lg) : flatLg (a ++ b) = flatLg a ++ flatLg b := by simp [flatLg]
theorem flat_one (ts : List Lg) : ∀ u ∈ flatLg ts, u.oneCell' = true := by
  intro u hu
  unfold flatLg at hu
  obtain ⟨t, -, h⟩ := List.mem_flatMap.1 hu
  simp at h
  rcases h with rfl | rfl | rfl | rfl | rfl <;> rfl
theorem flat_cell {w : World} {B g n : Nat} {ts : List Lg} (h : LgAt w B (some ⟨g, 0, none⟩) n ts) : ∀ (q : Nat) u, (flatLg ts)[q]? = some u → w.cell? ⟨g, q, none⟩ = some u := by
  intro q u hu
  have hq : q < n * 5 := by have := lt_at hu; rw [flatLg_len, h.1] at this; exact this
  obtain ⟨t, ht⟩ := at_lt h.1 (show q / 5 < n by omega)
  obtain ⟨f0, f1, f2, f3, f4⟩ := flatLg_at ts (q / 5) t ht
  obtain ⟨g', e, -, c0, c1, c2, c3, c4⟩ := h.2 (q / 5) t ht
  obtain rfl : g = g' := by injection e with e; injection e
  have hr : q % 5 = 0 ∨ q % 5 = 1 ∨ q % 5 = 2 ∨ q % 5 = 3 ∨ q % 5 = 4 := by omega
  rcases hr with r | r | r | r | r
  · rw [show q / 5 * 5 = q by omega] at f0 c0; rw [c0, ← f0, hu]
  · rw [show q / 5 * 5 + 1 = q by omega] at f1 c1; rw [c1, ← f1, hu]
  · rw [show q / 5 * 5 + 2 = q by omega] at f2 c2; rw [c2, ← f2, hu]
  · rw [show q / 5 * 5 + 3 = q by omega] at f3 c3; rw [c3, ← f3, hu]
  · rw [show q / 5 * 5 + 4 = q by omega] at f4 c4; rw [c4, ← f4, hu]
theorem flat_take {w : World} {B g n : Nat} {ts : List Lg} (h : LgAt w B (some ⟨g, 0, none⟩) n ts) (k : Nat) : ∀ (q : Nat) u, (flatLg (ts.take k))[q]? = some u → w.cell? ((⟨g, 0, none⟩ : Addr).add q) = some u := by
  intro q u hu
  have e : (⟨g, 0, none⟩ : Addr).add q = ⟨g, q, none⟩ := by unfold Addr.add; by_cases hj : q = 0 <;> simp [hj]
  rw [e]
  refine flat_cell h q u ?_
  have := lt_at hu
  rw [← List.take_append_drop k ts, flatLg_append, List.getElem?_append_left this]
  exact hu
theorem flat_drop {w : World} {B g n : Nat} {ts : List Lg} (h : LgAt w B (some ⟨g, 0, none⟩) n ts) (k : Nat) (hk : k ≤ n) : ∀ (q : Nat) u, (flatLg (ts.drop k))[q]? = some u → w.cell? ((⟨g, k * 5, none⟩ : Addr).add q) = some u := by
  intro q u hu
  have e : (⟨g, k * 5, none⟩ : Addr).add q = ⟨g, k * 5 + q, none⟩ := by unfold Addr.add; by_cases hj : q = 0 <;> simp [hj]
  rw [e]
  refine flat_cell h (k * 5 + q) u ?_
  have hl : (flatLg (ts.take k)).length = k * 5 := by rw [flatLg_len, List.length_take, h.1]; congr 1; omega
  rw [← List.take_append_drop k ts, flatLg_append, List.getElem?_append_right (by omega), hl, Nat.add_sub_cancel_left]
  exact hu
theorem step_legs {ops : Array Oper} {o : Oper} {a : Act} {w : World} {K : Act → World → Prop} {Q : Exit → Act → World → Prop} {E : Prop} (hgd : o.guard = none) (s x : Operand) (ho : o.op = .call { callee := .builtin .append, args := #[s, x], argTypes := #[26, 26] })
    {bs n m c : Nat} {v : Value} {xs news : List Value} {ad : Addr} (hs : a.eval s = v) (hown : w.ownsRow bs 54 5 v n xs) (hx : a.eval x = .slice (some ad) m c) (hl : news.length = m * 5) (hnews : ∀ j u, news[j]? = some u → w.cell? (ad.add j) = some u) (h1 : ∀ u ∈ news, u.oneCell' = true) (h6 : n + m ≤ 1000000) (hb : bs ≤ w.heap.size)
    (h : ∀ v' w', w'.ownsRow bs 54 5 v' (n + m) (xs ++ news) → w.grownBy w' v.ownBlock → K (a.put o.dst v') w') :
    if Region.wanted o (yielded ops a.tmps) = true then Oper.wp Tryd.prog o a w K Q else E := by
  obtain ⟨i0, hi, hz0, hz1, hz2⟩ := info_parts infoLg
  rw [if_pos (show Region.wanted o (yielded ops a.tmps) = true by simp [Region.wanted, hgd])]
  exact wp_append_own w s x _ ho bs 54 i0 (.agg #[.int .i64 0, .int .i64 0, .int .i64 0, .int .i64 0, .int .i64 0]) 5 40 Tryd.underlying26 hi hz0 hz1 hz2 rfl (by decide) v n xs hs hown ad m c news hx hl hnews h1 (by unfold maxLen; omega) (by omega) hb (fun v' w' h1 h2 _ => h v' w' h1 h2)
set_option maxHeartbeats 16000000 in
set_option maxRecDepth 100000 in
theorem bridge8_any (gL n cap : Nat) (ts : List Lg) (j : Nat) (x : Lg) (t : Bool) (w : World) (hg : Hid (goodLg ts = true)) (hx : Hid (ts[j]? = some x)) (ht : Hid (brB ts j = t)) (hcap : n ≤ cap) (hts : Hid (LgAt w w.heap.size (some ⟨gL, 0, none⟩) n ts)) :
    Calls Tryd.prog 53 #[.slice (some ⟨gL, 0, none⟩) n cap, .int .i64 (j : Int)] w (BPost t w) := by
  have HL := Lib.hid hts.out.1
  have HX := hx
  have hjn : j < n := by have := lt_at hx.out; rw [HL.out] at this; exact this
  have hn12 := len12 HL.out hg.out
  have HLA := Lib.hid (show legAt ts (j : Int) = x from legAt_is (by rw [Int.toNat_natCast]; exact hx.out))
  have HGL := Lib.hid (less_good hg.out j)
  have HTK := Lib.hid (fun (v : World) (hv : Below w.heap.size w v) => flat_take (hts.out.below hv) j)
  have HDK := Lib.hid (fun (v : World) (hv : Below w.heap.size w v) => flat_drop (hts.out.below hv) (j + 1) (by omega))
  have hji : (j : Int) < (n : Int) := by omega
  have hj0 : (0 : Int) ≤ (j : Int) := by omega
  have hjc : (j : Int) ≤ (cap : Int) := by omega
  have hjc' : j ≤ cap := by omega
  have hj1n : (j : Int) + 1 ≤ (n : Int) := by omega
  have hj1 : (0 : Int) ≤ (j : Int) + 1 := by omega
  have hjt : ((j : Int) + 1).toNat = j + 1 := by omega
  have hncap : (n : Int) ≤ (cap : Int) := by omega
  have hj1w : IntKind.i64.wrap ((j : Int) + 1) = (j : Int) + 1 := IntWalk.i64_in _ (by omega)
  by_cases hcj : cap = j + 1
  · obtain rfl : n = j + 1 := by omega
    obtain rfl : cap = j + 1 := by omega
    have hjj : (j : Int) ≤ (j : Int) + 1 := by omega
    go_enter Tryd.func53, Tryd.ntmps53
    go_upto_region 1 with fail
    refine wp_region_held_drew (S := (fun _ => True)) (by kernel_rfl) trivial (fun hHeld => ?_)
    obtain ⟨V0, HV0⟩ : ∃ V, Hid (w.drew = V) := ⟨_, Lib.hid rfl⟩
    have HB0 := Lib.hid (show Below w.heap.size w V0 by rw [← HV0.out]; exact (Below.refl _ _).drew)
    rw [HV0.out]
    clear HV0
    refine' wpAnyH_take (i := 1) (v := ?vb1_1) rfl (by kernel_rfl) (by kernel_rfl) (by kernel_rfl) (fun _ _ _ h => h) (Or.inl ⟨by rfl, ?hyb1_1⟩) (by assumption) ?restb1_1
    case hyb1_1 => (intro w hSw; (try dsimp only at hSw); go_simp; try (with_reducible rfl))
    simp only [Act.put, List.getElem_toArray, List.getElem_cons_succ, List.getElem_cons_zero, List.setIfInBounds_toArray, List.set_cons_zero, List.set_cons_succ]
    refine' wpAnyH_take (i := 2) (v := ?vb2_2) rfl (by kernel_rfl) (by kernel_rfl) (by kernel_rfl) (fun _ _ _ h => h) (Or.inl ⟨by rfl, ?hyb2_2⟩) (by assumption) ?restb2_2
    case hyb2_2 => (intro w hSw; (try dsimp only at hSw); go_simp; try (with_reducible rfl))
    simp only [Act.put, List.getElem_toArray, List.getElem_cons_succ, List.getElem_cons_zero, List.setIfInBounds_toArray, List.set_cons_zero, List.set_cons_succ]
    refine' wpAnyH_take (i := 3) (v := ?vb3_3) rfl (by kernel_rfl) (by kernel_rfl) (by kernel_rfl) (fun _ _ _ h => h) (Or.inl ⟨by rfl, ?hyb3_3⟩) (by assumption) ?restb3_3
    case hyb3_3 => (intro w hSw; (try dsimp only at hSw); go_simp; try (with_reducible rfl))
    simp only [Act.put, List.getElem_toArray, List.getElem_cons_succ, List.getElem_cons_zero, List.setIfInBounds_toArray, List.set_cons_zero, List.set_cons_succ]
    refine' wpAnyH_take (i := 5) (v := ?vb4_5) rfl (by kernel_rfl) (by kernel_rfl) (by kernel_rfl) (fun _ _ _ h => h) (Or.inl ⟨by rfl, ?hyb4_5⟩) (by assumption) ?restb4_5
    case hyb4_5 => (intro w hSw; (try dsimp only at hSw); go_simp; try (with_reducible rfl))
    simp only [Act.put, List.getElem_toArray, List.getElem_cons_succ, List.getElem_cons_zero, List.setIfInBounds_toArray, List.set_cons_zero, List.set_cons_succ]
    refine' wpAnyH_take (i := 6) (v := ?vb5_6) rfl (by kernel_rfl) (by kernel_rfl) (by kernel_rfl) (fun _ _ _ h => h) (Or.inl ⟨by rfl, ?hyb5_6⟩) (by assumption) ?restb5_6
    case hyb5_6 => (intro w hSw; (try dsimp only at hSw); go_simp; try (with_reducible rfl))
    simp only [Act.put, List.getElem_toArray, List.getElem_cons_succ, List.getElem_cons_zero, List.setIfInBounds_toArray, List.set_cons_zero, List.set_cons_succ]
    refine' wpAnyH_take (i := 7) (v := ?vb6_7) rfl (by kernel_rfl) (by kernel_rfl) (by kernel_rfl) (fun _ _ _ h => h) (Or.inl ⟨by rfl, ?hyb6_7⟩) (by assumption) ?restb6_7
    case hyb6_7 => (intro w hSw; (try dsimp only at hSw); go_simp; try (with_reducible rfl))
    simp only [Act.put, List.getElem_toArray, List.getElem_cons_succ, List.getElem_cons_zero, List.setIfInBounds_toArray, List.set_cons_zero, List.set_cons_succ]
    refine' wpAnyH_take (i := 8) (v := ?vb7_8) rfl (by kernel_rfl) (by kernel_rfl) (by kernel_rfl) (fun _ _ _ h => h) (Or.inl ⟨by rfl, ?hyb7_8⟩) (by assumption) ?restb7_8
    case hyb7_8 => (intro w hSw; (try dsimp only at hSw); go_simp; try (with_reducible rfl))
    simp only [Act.put, List.getElem_toArray, List.getElem_cons_succ, List.getElem_cons_zero, List.setIfInBounds_toArray, List.set_cons_zero, List.set_cons_succ]
    refine wpAnyH_ready (rs := [0]) (by kernel_rfl) (by simp) ?_
    refine AllReadyH.cons rfl (fun K hK => ?_) AllReadyH.nil
    go_simp
    refine hK.out _ _ trivial (fun hHeld1 => ?_)
    clear hK K hHeld
    have hHeld := hHeld1
    clear hHeld1
    try simp only [Act.put, List.getElem_toArray, List.getElem_cons_succ, List.getElem_cons_zero, List.setIfInBounds_toArray, List.set_cons_zero, List.set_cons_succ]
    obtain ⟨G0, HG0⟩ : ∃ G, Hid (V0.heap.size = G) := ⟨_, Lib.hid rfl⟩
    obtain ⟨V1, HW⟩ : ∃ Wx, Hid (V0.alloc (.cells #[] 54) = Wx) := ⟨_, Lib.hid rfl⟩
    have HB1 := Lib.hid (show Below w.heap.size w V1 by rw [← HW.out]; exact HB0.out.alloc HB0.out.size _)
    have HO1 := Lib.hid (show V1.ownsRow w.heap.size 54 5 (.slice (some ⟨G0, 0, none⟩) 0 0) 0 (flatLg []) by rw [← HW.out, ← HG0.out]; exact World.ownsRow_made V0 #[] 0 HB0.out.size (by decide) (by simp))
    rw [HW.out]
    try rw [HG0.out]
    clear HW
    refine wpAnyH_ready (rs := [4]) (by kernel_rfl) (by simp) ?_
    refine AllReadyH.cons rfl (fun K hK => ?_) AllReadyH.nil
    refine step_legs (news := flatLg (ts.take j)) (m := j) rfl _ _ rfl rfl HO1.out rfl (by rw [flatLg_len, List.length_take, HL.out]; omega) (HTK.out V1 HB1.out) (flat_one _) (by omega) HB1.out.size ?_
    intro v2 V2 ho hg
    have HB2 := Lib.hid (HB1.out.grown hg HB1.out.size (fun g e => (HO1.out.lt g e).1))
    have HO2 := Lib.hid (show V2.ownsRow w.heap.size 54 5 v2 (0 + j) (flatLg [] ++ flatLg (ts.take j)) from ho)
    refine hK.out _ _ trivial (fun hHeld1 => ?_)
    clear ho hg
    clear hK K hHeld
    have hHeld := hHeld1
    clear hHeld1
    try simp only [Act.put, List.getElem_toArray, List.getElem_cons_succ, List.getElem_cons_zero, List.setIfInBounds_toArray, List.set_cons_zero, List.set_cons_succ]
    refine wpAnyH_ready (rs := [9]) (by kernel_rfl) (by simp) ?_
    refine AllReadyH.cons rfl (fun K hK => ?_) AllReadyH.nil
    refine step_legs (news := []) (m := 0) rfl _ _ rfl rfl HO2.out rfl rfl (fun q u h => by simp at h) (fun u h => by simp at h) (by omega) HB2.out.size ?_
    intro v3 V3 ho hg
    have HB3 := Lib.hid (HB2.out.grown hg HB2.out.size (fun g e => (HO2.out.lt g e).1))
    have HO3 := Lib.hid (show V3.ownsRow w.heap.size 54 5 v3 (j + 1 - 1) (flatLg (less ts j)) by
      have h : V3.ownsRow w.heap.size 54 5 v3 (0 + j + 0) (flatLg [] ++ flatLg (ts.take j) ++ []) := ho
      rw [show 0 + j + 0 = j + 1 - 1 by omega] at h
      have e : flatLg (less ts j) = flatLg [] ++ flatLg (ts.take j) ++ [] := by unfold less; rw [flatLg_append, List.drop_of_length_le (by rw [HL.out]; omega)]; rfl
      rw [e]; exact h)
    refine hK.out _ _ trivial (fun hHeld1 => ?_)
    clear ho hg
    clear hK K hHeld
    have hHeld := hHeld1
    clear hHeld1
    try simp only [Act.put, List.getElem_toArray, List.getElem_cons_succ, List.getElem_cons_zero, List.setIfInBounds_toArray, List.set_cons_zero, List.set_cons_succ]
    refine' wpAnyH_take (i := 10) (v := ?vb8_10) rfl (by kernel_rfl) (by kernel_rfl) (by kernel_rfl) (fun _ _ _ h => h) (Or.inl ⟨by rfl, ?hyb8_10⟩) (by assumption) ?restb8_10
    case hyb8_10 => (intro w hSw; (try dsimp only at hSw); go_simp; try (with_reducible rfl))
    simp only [Act.put, List.getElem_toArray, List.getElem_cons_succ, List.getElem_cons_zero, List.setIfInBounds_toArray, List.set_cons_zero, List.set_cons_succ]
    refine wpAnyH_done (by kernel_rfl) ?_ _
    clear hHeld HB1 HB2 HO1 HO2 HB0
    obtain ⟨A3, c3, rfl⟩ := row_slice HO3.out
    have HS := Lib.hid (own_Lg (show (less ts j).length = j + 1 - 1 by unfold less; rw [List.length_append, List.length_take, List.length_drop, HL.out]; omega) HO3.out)
    go_wp2_with fail
    refine (place_any A3 (j + 1 - 1) c3 (less ts j) _ HGL HS).mono ?_
    rintro e w4 ⟨g1, g2, c2, g3, c4, rfl, hN⟩
    obtain ⟨N, HNN⟩ : ∃ N, Hid (net (less ts j) = N) := ⟨_, Lib.hid rfl⟩
    rw [HNN.out] at hN ⊢
    obtain ⟨m2, HM2⟩ : ∃ m, Hid (N.ps.length = m) := ⟨_, Lib.hid rfl⟩
    obtain ⟨m3, HM3⟩ : ∃ m, Hid (N.tr.length = m) := ⟨_, Lib.hid rfl⟩
    have hp8 : m2 ≤ 8 := by rw [← HM2.out, ← HNN.out]; exact (ok_net HGL.out).ps_len
    rw [HM2.out, HM3.out] at hN ⊢
    have HP := Lib.hid (ints.IL.of_own hN.2.2.1)
    have HB4 := Lib.hid (HB3.out.trans (hN.1.mono HB3.out.size))
    clear hN
    obtain ⟨gX, eX, hgX, e0, e1, -, -, -⟩ := (hts.out.below HB4.out).2 j x HX.out
    obtain rfl : gL = gX := by injection eX with eX; injection eX
    clear eX
    have HT := Lib.hid (show (!mem N.ps x.frm || !mem N.ps x.to_) = t by rw [← ht.out]; unfold brB; rw [HLA.out, HNN.out])
    cases hfa : mem N.ps x.frm
    · obtain rfl : t = true := by rw [← HT.out, hfa]; rfl
      have HFA := Lib.hid hfa
      clear hfa
      go_wp2_with fail
      refine (has_is (some ⟨g2, 0, none⟩) m2 c2 N.ps x.frm false HFA _ (by omega) HP).mono ?_
      rintro e w9 ⟨rfl, rfl⟩
      go_wp2_with fail
      go_ret
      exact ⟨rfl, HB4.out⟩
    · obtain ⟨tt, HTT⟩ : ∃ b, Hid (mem N.ps x.to_ = b) := ⟨_, Lib.hid rfl⟩
      have HFA := Lib.hid hfa
      have htv : (!tt) = t := by rw [← HT.out, hfa, HTT.out]; rfl
      clear hfa HT ht
      subst htv
      go_wp2_with fail
      refine (has_is (some ⟨g2, 0, none⟩) m2 c2 N.ps x.frm true HFA _ (by omega) HP).mono ?_
      rintro e w9 ⟨rfl, rfl⟩
      go_wp2_with fail
      refine (has_is (some ⟨g2, 0, none⟩) m2 c2 N.ps x.to_ tt HTT _ (by omega) HP).mono ?_
      rintro e w9 ⟨rfl, rfl⟩
      go_wp2_with fail
      go_ret
      exact ⟨rfl, HB4.out⟩
  · have hcj' : ¬ ((cap : Int) = (j : Int) + 1) := by omega
    go_enter Tryd.func53, Tryd.ntmps53
    go_upto_region 1 with fail
    refine wp_region_held_drew (S := (fun _ => True)) (by kernel_rfl) trivial (fun hHeld => ?_)
    obtain ⟨V0, HV0⟩ : ∃ V, Hid (w.drew = V) := ⟨_, Lib.hid rfl⟩
    have HB0 := Lib.hid (show Below w.heap.size w V0 by rw [← HV0.out]; exact (Below.refl _ _).drew)
    rw [HV0.out]
    clear HV0
    refine' wpAnyH_take (i := 1) (v := ?vb9_1) rfl (by kernel_rfl) (by kernel_rfl) (by kernel_rfl) (fun _ _ _ h => h) (Or.inl ⟨by rfl, ?hyb9_1⟩) (by assumption) ?restb9_1
    case hyb9_1 => (intro w hSw; (try dsimp only at hSw); go_simp; try (with_reducible rfl))
    simp only [Act.put, List.getElem_toArray, List.getElem_cons_succ, List.getElem_cons_zero, List.setIfInBounds_toArray, List.set_cons_zero, List.set_cons_succ]
    refine' wpAnyH_take (i := 2) (v := ?vb10_2) rfl (by kernel_rfl) (by kernel_rfl) (by kernel_rfl) (fun _ _ _ h => h) (Or.inl ⟨by rfl, ?hyb10_2⟩) (by assumption) ?restb10_2
    case hyb10_2 => (intro w hSw; (try dsimp only at hSw); go_simp; try (with_reducible rfl))
    simp only [Act.put, List.getElem_toArray, List.getElem_cons_succ, List.getElem_cons_zero, List.setIfInBounds_toArray, List.set_cons_zero, List.set_cons_succ]
    refine' wpAnyH_take (i := 3) (v := ?vb11_3) rfl (by kernel_rfl) (by kernel_rfl) (by kernel_rfl) (fun _ _ _ h => h) (Or.inl ⟨by rfl, ?hyb11_3⟩) (by assumption) ?restb11_3
    case hyb11_3 => (intro w hSw; (try dsimp only at hSw); go_simp; try (with_reducible rfl))
    simp only [Act.put, List.getElem_toArray, List.getElem_cons_succ, List.getElem_cons_zero, List.setIfInBounds_toArray, List.set_cons_zero, List.set_cons_succ]
    refine' wpAnyH_take (i := 5) (v := ?vb12_5) rfl (by kernel_rfl) (by kernel_rfl) (by kernel_rfl) (fun _ _ _ h => h) (Or.inl ⟨by rfl, ?hyb12_5⟩) (by assumption) ?restb12_5
    case hyb12_5 => (intro w hSw; (try dsimp only at hSw); go_simp; try (with_reducible rfl))
    simp only [Act.put, List.getElem_toArray, List.getElem_cons_succ, List.getElem_cons_zero, List.setIfInBounds_toArray, List.set_cons_zero, List.set_cons_succ]
    refine' wpAnyH_take (i := 6) (v := ?vb13_6) rfl (by kernel_rfl) (by kernel_rfl) (by kernel_rfl) (fun _ _ _ h => h) (Or.inl ⟨by rfl, ?hyb13_6⟩) (by assumption) ?restb13_6
    case hyb13_6 => (intro w hSw; (try dsimp only at hSw); go_simp; try (with_reducible rfl))
    simp only [Act.put, List.getElem_toArray, List.getElem_cons_succ, List.getElem_cons_zero, List.setIfInBounds_toArray, List.set_cons_zero, List.set_cons_succ]
    refine' wpAnyH_take (i := 7) (v := ?vb14_7) rfl (by kernel_rfl) (by kernel_rfl) (by kernel_rfl) (fun _ _ _ h => h) (Or.inl ⟨by rfl, ?hyb14_7⟩) (by assumption) ?restb14_7
    case hyb14_7 => (intro w hSw; (try dsimp only at hSw); go_simp; try (with_reducible rfl))
    simp only [Act.put, List.getElem_toArray, List.getElem_cons_succ, List.getElem_cons_zero, List.setIfInBounds_toArray, List.set_cons_zero, List.set_cons_succ]
    refine' wpAnyH_take (i := 8) (v := ?vb15_8) rfl (by kernel_rfl) (by kernel_rfl) (by kernel_rfl) (fun _ _ _ h => h) (Or.inl ⟨by rfl, ?hyb15_8⟩) (by assumption) ?restb15_8
    case hyb15_8 => (intro w hSw; (try dsimp only at hSw); go_simp; try (with_reducible rfl))
    simp only [Act.put, List.getElem_toArray, List.getElem_cons_succ, List.getElem_cons_zero, List.setIfInBounds_toArray, List.set_cons_zero, List.set_cons_succ]
    refine wpAnyH_ready (rs := [0]) (by kernel_rfl) (by simp) ?_
    refine AllReadyH.cons rfl (fun K hK => ?_) AllReadyH.nil
    go_simp
    refine hK.out _ _ trivial (fun hHeld1 => ?_)
    clear hK K hHeld
    have hHeld := hHeld1
    clear hHeld1
    try simp only [Act.put, List.getElem_toArray, List.getElem_cons_succ, List.getElem_cons_zero, List.setIfInBounds_toArray, List.set_cons_zero, List.set_cons_succ]
    obtain ⟨G0, HG0⟩ : ∃ G, Hid (V0.heap.size = G) := ⟨_, Lib.hid rfl⟩
    obtain ⟨V1, HW⟩ : ∃ Wx, Hid (V0.alloc (.cells #[] 54) = Wx) := ⟨_, Lib.hid rfl⟩
    have HB1 := Lib.hid (show Below w.heap.size w V1 by rw [← HW.out]; exact HB0.out.alloc HB0.out.size _)
    have HO1 := Lib.hid (show V1.ownsRow w.heap.size 54 5 (.slice (some ⟨G0, 0, none⟩) 0 0) 0 (flatLg []) by rw [← HW.out, ← HG0.out]; exact World.ownsRow_made V0 #[] 0 HB0.out.size (by decide) (by simp))
    rw [HW.out]
    try rw [HG0.out]
    clear HW
    refine wpAnyH_ready (rs := [4]) (by kernel_rfl) (by simp) ?_
    refine AllReadyH.cons rfl (fun K hK => ?_) AllReadyH.nil
    refine step_legs (news := flatLg (ts.take j)) (m := j) rfl _ _ rfl rfl HO1.out rfl (by rw [flatLg_len, List.length_take, HL.out]; omega) (HTK.out V1 HB1.out) (flat_one _) (by omega) HB1.out.size ?_
    intro v2 V2 ho hg
    have HB2 := Lib.hid (HB1.out.grown hg HB1.out.size (fun g e => (HO1.out.lt g e).1))
    have HO2 := Lib.hid (show V2.ownsRow w.heap.size 54 5 v2 (0 + j) (flatLg [] ++ flatLg (ts.take j)) from ho)
    refine hK.out _ _ trivial (fun hHeld1 => ?_)
    clear ho hg
    clear hK K hHeld
    have hHeld := hHeld1
    clear hHeld1
    try simp only [Act.put, List.getElem_toArray, List.getElem_cons_succ, List.getElem_cons_zero, List.setIfInBounds_toArray, List.set_cons_zero, List.set_cons_succ]
    refine wpAnyH_ready (rs := [9]) (by kernel_rfl) (by simp) ?_
    refine AllReadyH.cons rfl (fun K hK => ?_) AllReadyH.nil
    refine step_legs (news := flatLg (ts.drop (j + 1))) (m := (n - (j + 1))) rfl _ _ rfl rfl HO2.out rfl (by rw [flatLg_len, List.length_drop, HL.out]) (HDK.out V2 HB2.out) (flat_one _) (by omega) HB2.out.size ?_
    intro v3 V3 ho hg
    have HB3 := Lib.hid (HB2.out.grown hg HB2.out.size (fun g e => (HO2.out.lt g e).1))
    have HO3 := Lib.hid (show V3.ownsRow w.heap.size 54 5 v3 (n - 1) (flatLg (less ts j)) by
      have h : V3.ownsRow w.heap.size 54 5 v3 (0 + j + (n - (j + 1))) (flatLg [] ++ flatLg (ts.take j) ++ flatLg (ts.drop (j + 1))) := ho
      rw [show 0 + j + (n - (j + 1)) = n - 1 by omega] at h
      have e : flatLg (less ts j) = flatLg [] ++ flatLg (ts.take j) ++ flatLg (ts.drop (j + 1)) := by unfold less; rw [flatLg_append]; rfl
      rw [e]; exact h)
    refine hK.out _ _ trivial (fun hHeld1 => ?_)
    clear ho hg
    clear hK K hHeld
    have hHeld := hHeld1
    clear hHeld1
    try simp only [Act.put, List.getElem_toArray, List.getElem_cons_succ, List.getElem_cons_zero, List.setIfInBounds_toArray, List.set_cons_zero, List.set_cons_succ]
    refine' wpAnyH_take (i := 10) (v := ?vb16_10) rfl (by kernel_rfl) (by kernel_rfl) (by kernel_rfl) (fun _ _ _ h => h) (Or.inl ⟨by rfl, ?hyb16_10⟩) (by assumption) ?restb16_10
    case hyb16_10 => (intro w hSw; (try dsimp only at hSw); go_simp; try (with_reducible rfl))
    simp only [Act.put, List.getElem_toArray, List.getElem_cons_succ, List.getElem_cons_zero, List.setIfInBounds_toArray, List.set_cons_zero, List.set_cons_succ]
    refine wpAnyH_done (by kernel_rfl) ?_ _
    clear hHeld HB1 HB2 HO1 HO2 HB0
    obtain ⟨A3, c3, rfl⟩ := row_slice HO3.out
    have HS := Lib.hid (own_Lg (show (less ts j).length = n - 1 by unfold less; rw [List.length_append, List.length_take, List.length_drop, HL.out]; omega) HO3.out)
    go_wp2_with fail
    refine (place_any A3 (n - 1) c3 (less ts j) _ HGL HS).mono ?_
    rintro e w4 ⟨g1, g2, c2, g3, c4, rfl, hN⟩
    obtain ⟨N, HNN⟩ : ∃ N, Hid (net (less ts j) = N) := ⟨_, Lib.hid rfl⟩
    rw [HNN.out] at hN ⊢
    obtain ⟨m2, HM2⟩ : ∃ m, Hid (N.ps.length = m) := ⟨_, Lib.hid rfl⟩
    obtain ⟨m3, HM3⟩ : ∃ m, Hid (N.tr.length = m) := ⟨_, Lib.hid rfl⟩
    have hp8 : m2 ≤ 8 := by rw [← HM2.out, ← HNN.out]; exact (ok_net HGL.out).ps_len
    rw [HM2.out, HM3.out] at hN ⊢
    have HP := Lib.hid (ints.IL.of_own hN.2.2.1)
    have HB4 := Lib.hid (HB3.out.trans (hN.1.mono HB3.out.size))
    clear hN
    obtain ⟨gX, eX, hgX, e0, e1, -, -, -⟩ := (hts.out.below HB4.out).2 j x HX.out
    obtain rfl : gL = gX := by injection eX with eX; injection eX
    clear eX
    have HT := Lib.hid (show (!mem N.ps x.frm || !mem N.ps x.to_) = t by rw [← ht.out]; unfold brB; rw [HLA.out, HNN.out])
    cases hfa : mem N.ps x.frm
    · obtain rfl : t = true := by rw [← HT.out, hfa]; rfl
      have HFA := Lib.hid hfa
      clear hfa
      go_wp2_with fail
      refine (has_is (some ⟨g2, 0, none⟩) m2 c2 N.ps x.frm false HFA _ (by omega) HP).mono ?_
      rintro e w9 ⟨rfl, rfl⟩
      go_wp2_with fail
      go_ret
      exact ⟨rfl, HB4.out⟩
    · obtain ⟨tt, HTT⟩ : ∃ b, Hid (mem N.ps x.to_ = b) := ⟨_, Lib.hid rfl⟩
      have HFA := Lib.hid hfa
      have htv : (!tt) = t := by rw [← HT.out, hfa, HTT.out]; rfl
      clear hfa HT ht
      subst htv
      go_wp2_with fail
      refine (has_is (some ⟨g2, 0, none⟩) m2 c2 N.ps x.frm true HFA _ (by omega) HP).mono ?_
      rintro e w9 ⟨rfl, rfl⟩
      go_wp2_with fail
      refine (has_is (some ⟨g2, 0, none⟩) m2 c2 N.ps x.to_ tt HTT _ (by omega) HP).mono ?_
      rintro e w9 ⟨rfl, rfl⟩
      go_wp2_with fail
      go_ret
      exact ⟨rfl, HB4.out⟩
end Go.Proofs.YtjlkgijaceplcaaDoor.lp

namespace Go.Proofs.YtjlkgijaceplcaaDoor.lp
open Go.RowKit
open reads base inn ty lg rowi hs nt
set_option linter.unusedVariables false
set_option linter.unusedSimpArgs false

/-- IsBridge's answer -/
def ansBr (ts : List Lg) (i : Int) : Value := if brOk ts i then .tuple #[.bool (brB ts i.toNat), .bool true] else .tuple #[.bool false, .bool false]
set_option maxHeartbeats 8000000 in
set_option maxRecDepth 100000 in
theorem bridgesOf_model (A : Option Addr) (n cap : Nat) (ts : List Lg) (w : World) (hn : n ≤ 2000000) (hcap : n ≤ cap) (hts : Hid (LgAt w w.heap.size A n ts)) :
    Calls Tryd.prog 45 #[.slice A n cap] w (LPost (brIds ts) (goodLg ts) w) := by
  obtain ⟨i0, hi, hz0, hz1, hz2⟩ := info_parts infoI
  have HL := Lib.hid hts.out.1
  have HR0 := Lib.hid (show (w.alloc (.cells #[] 3)).ownsRow w.heap.size 3 1 (.slice (some ⟨w.heap.size, 0, none⟩) 0 0) 0 [] from World.ownsRow_made w #[] 0 (Nat.le_refl _) (by decide) (by simp))
  have HB0 := Lib.hid ((Below.refl w.heap.size w).alloc (Nat.le_refl _) (.cells #[] 3))
  have HA0 := Lib.hid (hts.out.alloc (.cells #[] 3))
  cases hg : goodLg ts
  · have HG := Lib.hid hg
    have HF := Lib.hid (show brIds ts = [] by unfold brIds; rw [hg]; rfl)
    clear hg
    go_enter Tryd.func45, Tryd.ntmps45
    go_wp2_with fail
    refine (legs_is A n cap ts false _ hn HA0 HG).mono ?_
    rintro e w1 ⟨rfl, b1⟩
    have HB := Lib.hid (HB0.out.trans (b1.mono HB0.out.size))
    have HR := Lib.hid (row_below HR0.out b1)
    clear b1
    go_wp2_with fail
    go_ret2
    exact ⟨_, rfl, by rw [HF.out]; exact HR.out, HB.out⟩
  · have HG := Lib.hid hg
    have hn12 := len12 HL.out hg
    have HF := Lib.hid (show brIds ts = brN ts n by unfold brIds; rw [hg, HL.out]; rfl)
    clear hg
    go_enter Tryd.func45, Tryd.ntmps45
    go_wp2_with fail
    refine (legs_is A n cap ts true _ hn HA0 HG).mono ?_
    rintro e w1 ⟨rfl, b1⟩
    have HB1 := Lib.hid (HB0.out.trans (b1.mono HB0.out.size))
    have HR1 := Lib.hid (row_below HR0.out b1)
    clear b1 HB0 HR0 HA0
    go_wp2_with fail
    go_loopw [4, 5] (fun v i wr => ∃ (k m c : Nat) (A2 : Option Addr), k ≤ n ∧ i = .int .i64 (k : Nat) ∧ m ≤ k ∧ v = .slice A2 m c ∧ Hid ((brN ts k).length = m) ∧ wr.ownsRow w.heap.size 3 1 (.slice A2 m c) m (ints.intsV (brN ts k)) ∧ Below w.heap.size w wr) (fun _ i _ => n - (intOf i).toNat)
    case atStart => exact ⟨0, 0, 0, _, Nat.zero_le _, rfl, Nat.le_refl _, rfl, Lib.hid rfl, HR1.out, HB1.out⟩
    case round =>
      obtain ⟨k, m, c, A2, hk, rfl, hmk, rfl, HM, hO, hB⟩ := hrel
      have HO := Lib.hid hO
      have HB := Lib.hid hB
      have hBs := hB.size
      clear hO hB HR1 HB1
      have hk0 : (0 : Int) ≤ (k : Int) := by omega
      by_cases hlt : k < n
      · obtain ⟨x, hx⟩ := at_lt HL.out hlt
        obtain ⟨gL, rfl, hgL, e0, e1, e2, e3, e4⟩ := (hts.out.below HB.out).2 k x hx
        have HX := Lib.hid hx
        have hki : (k : Int) < (n : Int) := by omega
        have hkd : decide (k < n) = true := by simpa using hlt
        have HEA := Lib.hid (show brAt ts (k : Int) = mem (net ts).ps x.frm by unfold brAt; rw [Int.toNat_natCast, hx])
        clear hx e1 e2 e3 e4
        cases hfa : mem (net ts).ps x.frm
        · have HH := Lib.hid (show has6 ts x.frm = false by unfold has6; rw [HG.out, hfa]; rfl)
          have HC := Lib.hid (show brN ts (k + 1) = brN ts k from brN_no (by rw [HEA.out, hfa]; rfl))
          clear hfa
          go_wp2_with fail
          refine (has6_any _ n cap ts x.frm false _ HH hn (Lib.hid (hts.out.step HB.out))).mono ?_
          rintro e w5 ⟨rfl, b5⟩
          have HB5 := Lib.hid (HB.out.trans (b5.mono hBs))
          have HO5 := Lib.hid (row_below HO.out b5)
          clear b5 e0 hgL
          go_wp2_with fail
          go_roundw
          case rel => exact ⟨k + 1, m, c, A2, by omega, by go_num, by omega, rfl, Lib.hid (by rw [HC.out]; exact HM.out), by rw [HC.out]; exact HO5.out, HB5.out⟩
          case measure => simp [intOf]; omega
        · have HH := Lib.hid (show has6 ts x.frm = true by unfold has6; rw [HG.out, hfa]; rfl)
          cases hbb : brB ts k
          · have HBB := Lib.hid hbb
            have HC := Lib.hid (show brN ts (k + 1) = brN ts k from brN_no (by rw [HEA.out, hfa, hbb]; rfl))
            clear hfa hbb
            go_wp2_with fail
            refine (has6_any _ n cap ts x.frm true _ HH hn (Lib.hid (hts.out.step HB.out))).mono ?_
            rintro e w5 ⟨rfl, b5⟩
            have HB5 := Lib.hid (HB.out.trans (b5.mono hBs))
            have HO5 := Lib.hid (row_below HO.out b5)
            clear b5 e0 hgL
            go_wp2_with fail
            refine (bridge8_any gL n cap ts k x false _ HG HX HBB hcap (Lib.hid (hts.out.step HB5.out))).mono ?_
            rintro e w6 ⟨rfl, b6⟩
            have HB6 := Lib.hid (HB5.out.trans (b6.mono HB5.out.size))
            have HO6 := Lib.hid (row_below HO5.out b6)
            clear b6 HB5 HO5
            go_wp2_with fail
            go_roundw
            case rel => exact ⟨k + 1, m, c, A2, by omega, by go_num, by omega, rfl, Lib.hid (by rw [HC.out]; exact HM.out), by rw [HC.out]; exact HO6.out, HB6.out⟩
            case measure => simp [intOf]; omega
          · have HBB := Lib.hid hbb
            have HC := Lib.hid (show brN ts (k + 1) = brN ts k ++ [(k : Int)] from brN_yes (by rw [HEA.out, hfa]) hbb)
            clear hfa hbb
            go_wp2_with fail
            refine (has6_any _ n cap ts x.frm true _ HH hn (Lib.hid (hts.out.step HB.out))).mono ?_
            rintro e w5 ⟨rfl, b5⟩
            have HB5 := Lib.hid (HB.out.trans (b5.mono hBs))
            have HO5 := Lib.hid (row_below HO.out b5)
            clear b5 e0 hgL
            go_wp2_with fail
            refine (bridge8_any gL n cap ts k x true _ HG HX HBB hcap (Lib.hid (hts.out.step HB5.out))).mono ?_
            rintro e w6 ⟨rfl, b6⟩
            have HB6 := Lib.hid (HB5.out.trans (b6.mono HB5.out.size))
            have HO6 := Lib.hid (row_below HO5.out b6)
            have hB6s := HB6.out.size
            clear b6 HB5 HO5 HO HB
            go_wp2_with (at_builtin; refine wpList_append_lies _ rfl _ _ 43 rfl w.heap.size 3 i0 (.int .i64 0) 1 8 Tryd.underlying43 hi hz0 hz1 hz2 rfl (by decide) _ _ _ rfl (HO6.out.alloc _) ⟨w6.heap.size, 0, none⟩ 1 1 [.int .i64 (k : Int)] rfl rfl (cell_one_new _ _ _) (by simp [Value.oneCell']) (by decide) (by unfold maxLen; omega) (by omega) (by simp; omega) _ rfl ?_; intro g9 c9 w3 hown' hgrow hat hlt9)
            have HAL := Lib.hid ((Below.refl w6.heap.size w6).alloc (Nat.le_refl _) (.cells #[.int .i64 (k : Int)] 3))
            have HB9 := Lib.hid ((HB6.out.trans (HAL.out.mono hB6s)).grown hgrow (by simp; omega) (fun g e => (HO6.out.lt g e).1))
            have HO9 := Lib.hid (show w3.ownsRow w.heap.size 3 1 (.slice (some ⟨g9, 0, none⟩) (m + 1) c9) (m + 1) (ints.intsV (brN ts (k + 1))) by rw [HC.out, intsV_app]; exact hown')
            clear hown' hgrow hat
            go_wp2_with fail
            go_roundw
            case rel => exact ⟨k + 1, m + 1, c9, some ⟨g9, 0, none⟩, by omega, by go_num, by omega, rfl, Lib.hid (by rw [HC.out, List.length_append, HM.out]; rfl), HO9.out, HB9.out⟩
            case measure => simp [intOf]; omega
      · have hkd : decide (k < n) = false := by simpa using hlt
        obtain rfl : k = n := by omega
        have HFIN := Lib.hid (show wr.ownsRow w.heap.size 3 1 (.slice A2 m c) (brIds ts).length (ints.intsV (brIds ts)) by rw [HF.out, HM.out]; exact HO.out)
        clear hlt
        go_wp2_with fail
        go_ret2
        exact ⟨_, rfl, HFIN.out, HB.out⟩
/-- CountLoops' answer -/
def ansCo (ts : List Lg) : Value := .tuple #[.int .i64 ((clIds ts).length : Nat), .bool (goodLg ts)]
end Go.Proofs.YtjlkgijaceplcaaDoor.lp
