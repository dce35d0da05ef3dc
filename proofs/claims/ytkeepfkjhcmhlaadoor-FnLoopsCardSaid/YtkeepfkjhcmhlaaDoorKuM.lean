/-
  Trees of legs and the ways along them (pure mathematics).
  The loop of a closing leg: its legs, its stations, its length, its misclosure; bridges (pure mathematics).
  Legs one after the other: the stations between them, the sum of their shifts, of their lengths (pure mathematics).
  Ways as the program grows them: exits, what a search shows, loops and bridges told by ways (pure mathematics).
  Conditions: those that each theorem names.
-/
import Derived.Test.YtkeepfkjhcmhlaaDoorNtR
import Derived.Test.YtkeepfkjhcmhlaaDoorNtZ
namespace Go.Proofs.YtkeepfkjhcmhlaaDoor.lp
open Go.RowKit
open reads base ty lg hs nt
set_option linter.unusedVariables false

/-- a leg joins two stations -/
def Jo (x : Lg) (a b : Int) : Prop := (x.frm = a ∧ x.to_ = b) ∨ (x.to_ = a ∧ x.frm = b)
theorem Jo.symm {x : Lg} {a b : Int} (h : Jo x a b) : Jo x b a := by
  rcases h with ⟨h1, h2⟩ | ⟨h1, h2⟩
  · exact .inr ⟨h2, h1⟩
  · exact .inl ⟨h2, h1⟩
theorem Jo.far {x : Lg} {a b : Int} (h : Jo x a b) : b = x.frm + x.to_ - a := by unfold Jo at h; omega
theorem Jo.uniq {x : Lg} {a b c : Int} (h : Jo x a b) (k : Jo x a c) : b = c := by rw [h.far, k.far]
theorem Jo.ends {x : Lg} {a b c d : Int} (h : Jo x a b) (k : Jo x c d) : (c = a ∧ d = b) ∨ (c = b ∧ d = a) := by unfold Jo at h k; omega
/-- the leg with an index joins two stations -/
def Jn (ts : List Lg) (i a b : Int) : Prop := 0 ≤ i ∧ ∃ x, ts[i.toNat]? = some x ∧ Jo x a b
theorem Jn.symm {ts : List Lg} {i a b : Int} (h : Jn ts i a b) : Jn ts i b a := by
  obtain ⟨h0, x, hx, hj⟩ := h
  exact ⟨h0, x, hx, hj.symm⟩
theorem Jn.ends {ts : List Lg} {i a b c d : Int} (h : Jn ts i a b) (k : Jn ts i c d) : (c = a ∧ d = b) ∨ (c = b ∧ d = a) := by
  obtain ⟨h0, x, hx, hj⟩ := h
  obtain ⟨-, y, hy, kj⟩ := k
  rw [hx] at hy
  obtain rfl := Option.some.inj hy
  exact hj.ends kj
theorem Jn.uniq {ts : List Lg} {i a b c : Int} (h : Jn ts i a b) (k : Jn ts i a c) : b = c := by
  obtain ⟨h0, x, hx, hj⟩ := h
  obtain ⟨-, y, hy, kj⟩ := k
  rw [hx] at hy
  obtain rfl := Option.some.inj hy
  exact hj.uniq kj

/-- stations and the legs that placed them, one after the other -/
inductive Grow (ts : List Lg) : List Int → List Int → Prop
  | zero : Grow ts [0] []
  | more {V E : List Int} {i p c : Int} : Grow ts V E → p ∈ V → c ∉ V → Jn ts i p c → Grow ts (c :: V) (i :: E)
theorem Grow.ends {ts : List Lg} {V E : List Int} (h : Grow ts V E) : ∀ {i a b : Int}, i ∈ E → Jn ts i a b → a ∈ V ∧ b ∈ V := by
  induction h with
  | zero => intro i a b hi; cases hi
  | more hg hp hc hj ih =>
    intro j a b hi hk
    rcases List.mem_cons.1 hi with e | hi
    · rw [e] at hk
      rcases hj.ends hk with ⟨e1, e2⟩ | ⟨e1, e2⟩
      · rw [e1, e2]; exact ⟨List.mem_cons_of_mem _ hp, List.mem_cons_self ..⟩
      · rw [e1, e2]; exact ⟨List.mem_cons_self .., List.mem_cons_of_mem _ hp⟩
    · have := ih hi hk
      exact ⟨List.mem_cons_of_mem _ this.1, List.mem_cons_of_mem _ this.2⟩
theorem Grow.new {ts : List Lg} {V E : List Int} (h : Grow ts V E) {i p c : Int} (hc : c ∉ V) (hj : Jn ts i p c) : i ∉ E := fun hi => hc (h.ends hi hj).2
theorem Grow.pos {ts : List Lg} {V E : List Int} (h : Grow ts V E) : ∀ i ∈ E, 0 ≤ i ∧ ∃ x, ts[i.toNat]? = some x := by
  induction h with
  | zero => intro i hi; cases hi
  | more hg hp hc hj ih =>
    intro j hi
    rcases List.mem_cons.1 hi with e | hi
    · rw [e]; obtain ⟨h0, x, hx, -⟩ := hj; exact ⟨h0, x, hx⟩
    · exact ih j hi

/-- a way by legs of E from a to b that never turns back; 'last' is the leg before it -/
def NB (ts : List Lg) (E : List Int) : Int → Int → List Int → Int → Prop
  | _, a, [], b => a = b
  | last, a, i :: l, b => i ∈ E ∧ i ≠ last ∧ ∃ o, Jn ts i a o ∧ NB ts E i o l b
theorem NB.weak {ts : List Lg} {E : List Int} {last z a b : Int} {l : List Int} (h : NB ts E last a l b) (hz : ∀ i ∈ E, i ≠ z) : NB ts E z a l b := by
  cases l with
  | nil => exact h
  | cons i l => exact ⟨h.1, hz i h.1, h.2.2⟩
theorem NB.mem {ts : List Lg} {E : List Int} : ∀ {l : List Int} {last a b : Int}, NB ts E last a l b → ∀ j ∈ l, j ∈ E
  | [], _, _, _, _, j, hj => by cases hj
  | i :: l, last, a, b, h, j, hj => by
    obtain ⟨h1, -, o, -, h2⟩ := h
    rcases List.mem_cons.1 hj with e | e
    · rw [e]; exact h1
    · exact NB.mem h2 j e
theorem NB.congr {ts : List Lg} {E F : List Int} (he : ∀ i, i ∈ E → i ∈ F) : ∀ {l : List Int} {last a b : Int}, NB ts E last a l b → NB ts F last a l b
  | [], _, _, _, h => h
  | i :: l, last, a, b, h => by
    obtain ⟨h1, hn, o, ho, h2⟩ := h
    exact ⟨he i h1, hn, o, ho, NB.congr he h2⟩

section
variable {ts : List Lg} {V E : List Int} {i p c : Int}
theorem leaf_end (hg : Grow ts V E) (hc : c ∉ V) {l : List Int} {b : Int} (h : NB ts (i :: E) i c l b) : l = [] ∧ b = c := by
  cases l with
  | nil => exact ⟨rfl, h.symm⟩
  | cons k l =>
    obtain ⟨h1, hn, o, ho, -⟩ := h
    rcases List.mem_cons.1 h1 with e | e
    · exact absurd e hn
    · exact absurd (hg.ends e ho).1 hc
theorem grow_in (hg : Grow ts V E) (hc : c ∉ V) (hj : Jn ts i p c) : ∀ {l : List Int} {last a b : Int}, a ≠ c → b ≠ c → NB ts (i :: E) last a l b → NB ts E last a l b
  | [], _, _, _, _, _, h => h
  | j :: l, last, a, b, ha, hb, h => by
    obtain ⟨h1, hn, o, ho, h2⟩ := h
    rcases List.mem_cons.1 h1 with e | e
    · rw [e] at ho h2
      rcases hj.ends ho with ⟨e1, e2⟩ | ⟨e1, e2⟩
      · rw [e2] at h2
        exact absurd (leaf_end hg hc h2).2 hb
      · exact absurd e1 ha
    · have k := hg.ends e ho
      exact ⟨e, hn, o, ho, grow_in hg hc hj (fun q => hc (by rw [← q]; exact k.2)) hb h2⟩
theorem grow_from (hg : Grow ts V E) (hp : p ∈ V) (hc : c ∉ V) (hj : Jn ts i p c) {l : List Int} {last b : Int} (h : NB ts (i :: E) last c l b) (hl : l ≠ []) : ∃ l', l = i :: l' ∧ NB ts (i :: E) i p l' b := by
  cases l with
  | nil => exact absurd rfl hl
  | cons j l =>
    obtain ⟨h1, hn, o, ho, h2⟩ := h
    rcases List.mem_cons.1 h1 with e | e
    · rw [e] at ho h2
      rcases hj.ends ho with ⟨e1, e2⟩ | ⟨e1, e2⟩
      · exact absurd (by rw [e1]; exact hp) hc
      · rw [e2] at h2; exact ⟨l, by rw [e], h2⟩
    · exact absurd (hg.ends e ho).1 hc
theorem grow_to (hg : Grow ts V E) (hc : c ∉ V) (hj : Jn ts i p c) : ∀ {l : List Int} {last a : Int}, a ≠ c → NB ts (i :: E) last a l c → ∃ l', l = l' ++ [i] ∧ NB ts E last a l' p
  | [], _, a, ha, h => absurd h ha
  | j :: l, last, a, ha, h => by
    obtain ⟨h1, hn, o, ho, h2⟩ := h
    rcases List.mem_cons.1 h1 with e | e
    · rw [e] at ho h2
      rcases hj.ends ho with ⟨e1, e2⟩ | ⟨e1, e2⟩
      · rw [e2] at h2
        have k := (leaf_end hg hc h2).1
        exact ⟨[], by rw [e, k]; rfl, e1⟩
      · exact absurd e1 ha
    · have k := hg.ends e ho
      obtain ⟨l', e3, h3⟩ := grow_to hg hc hj (fun q => hc (by rw [← q]; exact k.2)) h2
      exact ⟨j :: l', by rw [e3]; rfl, e, hn, o, ho, h3⟩
end
theorem Grow.weak {ts : List Lg} {V E : List Int} (hg : Grow ts V E) {l : List Int} {last a b : Int} (h : NB ts E last a l b) : NB ts E (-1) a l b :=
  h.weak (fun i hi => by have := (hg.pos i hi).1; omega)
theorem grow_round {ts : List Lg} {V E : List Int} {i p c : Int} (hg : Grow ts V E) (hp : p ∈ V) (hc : c ∉ V) (hj : Jn ts i p c) (ih : ∀ {l m : List Int} {a b : Int}, NB ts E (-1) a l b → NB ts E (-1) a m b → l = m) {l : List Int} {last : Int} (h : NB ts (i :: E) last c l c) : l = [] := by
  cases hl : l with
  | nil => rfl
  | cons j l0 =>
    exfalso
    obtain ⟨l1, e1, h1⟩ := grow_from hg hp hc hj h (by rw [hl]; intro q; cases q)
    have hpc : p ≠ c := fun q => hc (by rw [← q]; exact hp)
    obtain ⟨l2, e2, h2⟩ := grow_to hg hc hj hpc h1
    have e3 : l2 = [] := ih (hg.weak h2) (show NB ts E (-1) p [] p from rfl)
    rw [e2, e3] at h1
    exact h1.2.1 rfl
theorem Grow.uniq {ts : List Lg} {V E : List Int} (h : Grow ts V E) : ∀ {l m : List Int} {a b : Int}, NB ts E (-1) a l b → NB ts E (-1) a m b → l = m := by
  induction h with
  | zero =>
    intro l m a b h1 h2
    cases l with
    | nil => cases m with
      | nil => rfl
      | cons j m => cases h2.1
    | cons j l => cases h1.1
  | @more V E i p c hg hp hc hj ih =>
    intro l m a b h1 h2
    have hpc : p ≠ c := fun q => hc (by rw [← q]; exact hp)
    by_cases ha : a = c
    · rw [ha] at h1 h2
      by_cases hb : b = c
      · rw [hb] at h1 h2
        rw [grow_round hg hp hc hj ih h1, grow_round hg hp hc hj ih h2]
      · have nl : ∀ {q : List Int}, NB ts (i :: E) (-1) c q b → q ≠ [] := fun {q} hq e => by
          rw [e] at hq; exact hb hq.symm
        obtain ⟨l1, e1, k1⟩ := grow_from hg hp hc hj h1 (nl h1)
        obtain ⟨m1, e2, k2⟩ := grow_from hg hp hc hj h2 (nl h2)
        rw [e1, e2, ih (hg.weak (grow_in hg hc hj hpc hb k1)) (hg.weak (grow_in hg hc hj hpc hb k2))]
    · by_cases hb : b = c
      · rw [hb] at h1 h2
        obtain ⟨l1, e1, k1⟩ := grow_to hg hc hj ha h1
        obtain ⟨m1, e2, k2⟩ := grow_to hg hc hj ha h2
        rw [e1, e2, ih k1 k2]
      · exact ih (grow_in hg hc hj ha hb h1) (grow_in hg hc hj ha hb h2)
theorem Grow.once {ts : List Lg} {V E : List Int} (h : Grow ts V E) : ∀ {l : List Int} {last a b : Int}, NB ts E last a l b → l.Nodup ∧ l.length ≤ E.length := by
  induction h with
  | zero =>
    intro l last a b h1
    cases l with
    | nil => exact ⟨List.nodup_nil, Nat.le_refl _⟩
    | cons j l => cases h1.1
  | @more V E i p c hg hp hc hj ih =>
    intro l last a b h1
    have hpc : p ≠ c := fun q => hc (by rw [← q]; exact hp)
    have hn : i ∉ E := hg.new hc hj
    by_cases ha : a = c
    · rw [ha] at h1
      by_cases hb : b = c
      · rw [hb] at h1
        rw [grow_round hg hp hc hj hg.uniq h1]; exact ⟨List.nodup_nil, Nat.zero_le _⟩
      · obtain ⟨l1, e1, k1⟩ := grow_from hg hp hc hj h1 (fun e => by rw [e] at h1; exact hb h1.symm)
        have k2 := grow_in hg hc hj hpc hb k1
        have := ih k2
        rw [e1]
        exact ⟨List.nodup_cons.2 ⟨fun q => hn (k2.mem i q), this.1⟩, by simp; omega⟩
    · by_cases hb : b = c
      · rw [hb] at h1
        obtain ⟨l1, e1, k1⟩ := grow_to hg hc hj ha h1
        have := ih k1
        rw [e1]
        refine ⟨List.nodup_append.2 ⟨this.1, by simp, fun x hx y hy e => ?_⟩, by simp; omega⟩
        have : y = i := by simpa using hy
        exact hn (k1.mem i (by rw [← this, ← e]; exact hx))
      · have := ih (grow_in hg hc hj ha hb h1)
        exact ⟨this.1, by simp; omega⟩

/-- what is placed has grown so -/
def Gr (ts : List Lg) (s : Net) : Prop := ∃ V E, Grow ts V E ∧ (∀ v, v ∈ V ↔ v ∈ s.ps) ∧ (∀ i, i ∈ E ↔ i ∈ s.tr) ∧ E.length = s.tr.length
theorem gr_start (ts : List Lg) : Gr ts nt.start := ⟨[0], [], .zero, fun v => Iff.rfl, fun i => Iff.rfl, rfl⟩
theorem gr_leg {ts : List Lg} {s : Net} {k : Nat} {x : Lg} (h : Gr ts s) (hx : ts[k]? = some x) : Gr ts (leg1 x k s) := by
  obtain ⟨V, E, hg, hV, hE, hl⟩ := h
  have grow : ∀ {p c : Int} {P : List Sf}, p ∈ s.ps → c ∉ s.ps → Jo x p c → Gr ts ⟨P, put s.ps c, put s.tr (k : Int)⟩ := fun {p c P} hp hc hj => by
    have hc' : c ∉ V := fun q => hc ((hV c).1 q)
    have hJ : Jn ts (k : Int) p c := ⟨by omega, x, by rw [Int.toNat_natCast]; exact hx, hj⟩
    have hn := hg.new hc' hJ
    refine ⟨c :: V, (k : Int) :: E, hg.more ((hV p).2 hp) hc' hJ, fun v => ?_, fun i => ?_, ?_⟩
    · rw [List.mem_cons, hV v]; exact mem_put.symm
    · rw [List.mem_cons, hE i]; exact mem_put.symm
    · show _ = (put s.tr (k : Int)).length
      rw [put_len_new (fun q => hn ((hE _).2 q)), List.length_cons, hl]
  cases ha : mem s.ps x.frm
  · cases hb : mem s.ps x.to_
    · rw [leg1_no (by rw [does_marks ha hb]; rfl)]; exact ⟨V, E, hg, hV, hE, hl⟩
    · rw [leg1_bwd ha hb]
      exact grow (mem_iff.1 hb) (fun q => by rw [mem_iff.2 q] at ha; cases ha) (.inr ⟨rfl, rfl⟩)
  · cases hb : mem s.ps x.to_
    · rw [leg1_fwd ha hb]
      exact grow (mem_iff.1 ha) (fun q => by rw [mem_iff.2 q] at hb; cases hb) (.inl ⟨rfl, rfl⟩)
    · rw [leg1_no (by rw [does_marks ha hb]; rfl)]; exact ⟨V, E, hg, hV, hE, hl⟩
theorem gr_legs {ts : List Lg} {s : Net} (h : Gr ts s) : ∀ k, Gr ts (legsN ts s k)
  | 0 => h
  | k + 1 => by
    cases e : ts[k]? with
    | none => have e2 : legsN ts s (k + 1) = legsN ts s k := by show (match ts[k]? with | some x => _ | none => _) = _; rw [e]
              rw [e2]; exact gr_legs h k
    | some x => rw [legsN_succ e]; exact gr_leg (gr_legs h k) e
theorem gr_passes (ts : List Lg) : ∀ k, Gr ts (passes ts k)
  | 0 => gr_start ts
  | k + 1 => gr_legs (gr_passes ts k) _
theorem gr_net (ts : List Lg) : Gr ts (net ts) := gr_passes ts 9
theorem nb_uniq {ts : List Lg} {l m : List Int} {a b : Int} (h : NB ts (net ts).tr (-1) a l b) (k : NB ts (net ts).tr (-1) a m b) : l = m := by
  obtain ⟨V, E, hg, -, hE, -⟩ := gr_net ts
  exact hg.uniq (h.congr fun i => (hE i).2) (k.congr fun i => (hE i).2)
theorem nb_once {ts : List Lg} {l : List Int} {last a b : Int} (h : NB ts (net ts).tr last a l b) : l.Nodup ∧ l.length ≤ (net ts).tr.length := by
  obtain ⟨V, E, hg, -, hE, hl⟩ := gr_net ts
  rw [← hl]
  exact hg.once (h.congr fun i => (hE i).2)
theorem nb_weak {ts : List Lg} {l : List Int} {last a b : Int} (h : NB ts (net ts).tr last a l b) : NB ts (net ts).tr (-1) a l b := by
  obtain ⟨V, E, hg, -, hE, -⟩ := gr_net ts
  exact h.weak (fun i hi => by have := (hg.pos i ((hE i).2 hi)).1; omega)
theorem tr_pos {ts : List Lg} {i : Int} (h : i ∈ (net ts).tr) : 0 ≤ i ∧ ∃ x, ts[i.toNat]? = some x := by
  obtain ⟨V, E, hg, -, hE, -⟩ := gr_net ts
  exact hg.pos i ((hE i).2 h)
theorem tr_ends {ts : List Lg} {i a b : Int} (h : i ∈ (net ts).tr) (hj : Jn ts i a b) : a ∈ (net ts).ps ∧ b ∈ (net ts).ps := by
  obtain ⟨V, E, hg, hV, hE, -⟩ := gr_net ts
  have k := hg.ends ((hE i).2 h) hj
  exact ⟨(hV a).1 k.1, (hV b).1 k.2⟩

/-- one comes from a station to another one by legs of L -/
inductive Rc (L : Lg → Prop) : Int → Int → Prop
  | refl (a : Int) : Rc L a a
  | step {x : Lg} {a o b : Int} : L x → Jo x a o → Rc L o b → Rc L a b
theorem Rc.one {L : Lg → Prop} {x : Lg} {a b : Int} (h : L x) (hj : Jo x a b) : Rc L a b := .step h hj (.refl b)
theorem Rc.trans {L : Lg → Prop} {a b c : Int} (h : Rc L a b) (k : Rc L b c) : Rc L a c := by
  induction h with
  | refl a => exact k
  | step hx hj _ ih => exact .step hx hj (ih k)
theorem Rc.symm {L : Lg → Prop} {a b : Int} (h : Rc L a b) : Rc L b a := by
  induction h with
  | refl a => exact .refl a
  | step hx hj _ ih => exact ih.trans (.one hx hj.symm)
theorem Rc.mono {L M : Lg → Prop} (hm : ∀ x, L x → M x) {a b : Int} (h : Rc L a b) : Rc M a b := by
  induction h with
  | refl a => exact .refl a
  | step hx hj _ ih => exact .step (hm _ hx) hj ih
/-- a way along which every leg can be replaced -/
theorem Rc.over {L M : Lg → Prop} (hm : ∀ x, L x → Rc M x.frm x.to_) {a b : Int} (h : Rc L a b) : Rc M a b := by
  induction h with
  | refl a => exact .refl a
  | step hx hj _ ih =>
    rcases hj with ⟨e1, e2⟩ | ⟨e1, e2⟩
    · rw [← e1]; rw [← e2] at ih; exact (hm _ hx).trans ih
    · rw [← e1]; rw [← e2] at ih; exact (hm _ hx).symm.trans ih
/-- legs by their indices -/
def By (ts : List Lg) (O : Int → Prop) (x : Lg) : Prop := ∃ i : Int, O i ∧ 0 ≤ i ∧ ts[i.toNat]? = some x
theorem Grow.reach {ts : List Lg} {V E : List Int} (h : Grow ts V E) : ∀ v ∈ V, Rc (By ts (· ∈ E)) 0 v := by
  induction h with
  | zero =>
    intro v hv
    have : v = 0 := by simpa using hv
    rw [this]; exact .refl 0
  | @more V E i p c hg hp hc hj ih =>
    intro v hv
    have up : ∀ x, By ts (· ∈ E) x → By ts (· ∈ i :: E) x := fun x ⟨k, hk, r⟩ => ⟨k, List.mem_cons_of_mem _ hk, r⟩
    rcases List.mem_cons.1 hv with e | e
    · rw [e]
      obtain ⟨h0, x, hx, hJ⟩ := hj
      exact ((ih p hp).mono up).trans (.one ⟨i, List.mem_cons_self .., h0, hx⟩ hJ)
    · exact (ih v e).mono up
theorem tree_reach {ts : List Lg} {v : Int} (h : v ∈ (net ts).ps) : Rc (By ts (· ∈ (net ts).tr)) 0 v := by
  obtain ⟨V, E, hg, hV, hE, -⟩ := gr_net ts
  exact (hg.reach v ((hV v).2 h)).mono (fun x ⟨k, hk, r⟩ => ⟨k, (hE k).1 hk, r⟩)
theorem reach_placed {ts : List Lg} (hg : goodLg ts = true) {a b : Int} (h : Rc (· ∈ ts) a b) : a ∈ (net ts).ps → b ∈ (net ts).ps := by
  induction h with
  | refl a => exact id
  | @step x a o b hx hj _ ih =>
    intro ha
    obtain ⟨i, hi⟩ := List.getElem?_of_mem hx
    have k := net_ends hg hi
    apply ih
    rcases hj with ⟨e1, e2⟩ | ⟨e1, e2⟩
    · rw [← e2]; rw [← e1] at ha; exact mem_iff.1 (by rw [← k]; exact mem_iff.2 ha)
    · rw [← e2]; rw [← e1] at ha; exact mem_iff.1 (by rw [k]; exact mem_iff.2 ha)
theorem placed_iff {ts : List Lg} (hg : goodLg ts = true) (v : Int) : v ∈ (net ts).ps ↔ Rc (· ∈ ts) 0 v :=
  ⟨fun h => (tree_reach h).mono (fun x ⟨k, _, _, r⟩ => List.mem_of_getElem? r), fun h => reach_placed hg h (ok_net hg).2.2.2.2.2.1⟩

/-- ways as the program has them, from their first station on to the last step (z, e); no station twice -/
inductive Wy (ts : List Lg) (O : Int → Prop) (z e : Int) : List (Int × Int) → Prop
  | one : Wy ts O z e [(z, e)]
  | more {t j s i : Int} {P : List (Int × Int)} : O j → Jn ts j t s → t ∉ ((s, i) :: P).map Prod.fst → Wy ts O z e ((s, i) :: P) → Wy ts O z e ((t, j) :: (s, i) :: P)
def hd : List (Int × Int) → Int
  | [] => 0
  | p :: _ => p.1
section
variable {ts : List Lg} {O : Int → Prop} {z e : Int}
theorem Wy.ne {W : List (Int × Int)} (h : Wy ts O z e W) : W ≠ [] := by cases h <;> simp
theorem Wy.nodup {W : List (Int × Int)} (h : Wy ts O z e W) : (W.map Prod.fst).Nodup := by
  induction h with
  | one => simp
  | more _ _ hn _ ih => rw [List.map_cons]; exact List.nodup_cons.2 ⟨hn, ih⟩
theorem Wy.tail : ∀ {Q P : List (Int × Int)}, P ≠ [] → Wy ts O z e (Q ++ P) → Wy ts O z e P
  | [], _, _, h => h
  | [q], P, hp, h => by
    cases P with
    | nil => exact absurd rfl hp
    | cons p P => cases h with
      | more _ _ _ h => exact h
  | q :: r :: Q, P, hp, h => by
    cases h with
    | more _ _ _ h => exact Wy.tail (Q := _ :: Q) hp h
theorem Wy.reach {W : List (Int × Int)} (h : Wy ts O z e W) : Rc (By ts O) (hd W) z := by
  induction h with
  | one => exact .refl z
  | more ho hj _ _ ih =>
    obtain ⟨h0, x, hx, hJ⟩ := hj
    exact .step ⟨_, ho, h0, hx⟩ hJ ih
theorem Wy.from {W : List (Int × Int)} (h : Wy ts O z e W) : ∀ a, a ∈ W.map Prod.fst → ∃ W', Wy ts O z e W' ∧ hd W' = a := by
  induction h with
  | one => intro a ha; exact ⟨_, .one, by simpa [hd] using (show a = z by simpa using ha).symm⟩
  | @more t j s i P ho hj hn h ih =>
    intro a ha
    rw [List.map_cons] at ha
    rcases List.mem_cons.1 ha with e1 | e1
    · exact ⟨_, .more ho hj hn h, e1.symm⟩
    · exact ih a e1
/-- where one comes, one comes without a station twice -/
theorem wy_of_reach (z e : Int) {a : Int} (h : Rc (By ts O) a z) : ∃ W, Wy ts O z e W ∧ hd W = a := by
  induction h with
  | refl z => exact ⟨_, .one, rfl⟩
  | @step x a o z hx hj _ ih =>
    obtain ⟨W, hW, ho⟩ := ih
    by_cases ha : a ∈ W.map Prod.fst
    · exact hW.from a ha
    · obtain ⟨i, hi, h0, hx⟩ := hx
      cases W with
      | nil => exact absurd rfl hW.ne
      | cons p P =>
        obtain ⟨s, k⟩ := p
        have es : s = o := ho
        exact ⟨(a, i) :: (s, k) :: P, .more hi ⟨h0, x, hx, by rw [es]; exact hj⟩ ha hW, rfl⟩
end
/-- the station behind a leg -/
def farOf (ts : List Lg) (i a : Int) : Int := match ts[i.toNat]? with
  | some x => x.frm + x.to_ - a
  | none => 0
theorem farOf_is {ts : List Lg} {i a b : Int} (h : Jn ts i a b) : farOf ts i a = b := by
  obtain ⟨h0, x, hx, hj⟩ := h
  unfold farOf
  rw [hx]; exact hj.far.symm
/-- the stations of a way -/
def stops (ts : List Lg) : Int → List Int → List Int
  | a, [] => [a]
  | a, i :: l => a :: stops ts (farOf ts i a) l
theorem stops_len (ts : List Lg) : ∀ (l : List Int) (a : Int), (stops ts a l).length = l.length + 1
  | [], _ => rfl
  | i :: l, a => by rw [stops, List.length_cons, stops_len ts l, List.length_cons]
/-- a way of the program by legs of E never turns back -/
theorem Wy.nb {ts : List Lg} {E : List Int} {z e : Int} {W : List (Int × Int)} (h : Wy ts (· ∈ E) z e W) : ∃ l, W.map Prod.snd = l ++ [e] ∧ W.map Prod.fst = stops ts (hd W) l ∧ ∀ last, (∀ t, Jn ts last t (hd W) → t ∉ W.map Prod.fst) → NB ts E last (hd W) l z := by
  induction h with
  | one => exact ⟨[], rfl, rfl, fun _ _ => rfl⟩
  | @more t j s i P ho hj hn h ih =>
    obtain ⟨l, e1, e2, h3⟩ := ih
    refine ⟨j :: l, by rw [List.map_cons, e1]; rfl, ?_, fun last hl => ⟨ho, fun q => ?_, s, hj, h3 j (fun t' ht => ?_)⟩⟩
    · rw [List.map_cons, e2]
      show _ = t :: stops ts (farOf ts j t) l
      rw [farOf_is hj]; rfl
    · have hj' := hj
      rw [q] at hj'
      exact hl s hj'.symm (by simp)
    · have : t' = t := (ht.symm).uniq hj.symm
      rw [this]; exact hn
theorem Wy.nb0 {ts : List Lg} {E : List Int} {z e : Int} {W : List (Int × Int)} (h : Wy ts (· ∈ E) z e W) : ∃ l, W.map Prod.snd = l ++ [e] ∧ W.map Prod.fst = stops ts (hd W) l ∧ NB ts E (-1) (hd W) l z := by
  obtain ⟨l, e1, e2, h⟩ := h.nb
  exact ⟨l, e1, e2, h (-1) (fun t ht => absurd ht.1 (by omega))⟩
end Go.Proofs.YtkeepfkjhcmhlaaDoor.lp

namespace Go.Proofs.YtkeepfkjhcmhlaaDoor.lp
open Go.RowKit
open reads base ty lg hs nt
set_option linter.unusedVariables false

/-- the legs of E from a to b, not along the last one at first -/
def wayF (ts : List Lg) (E : List Int) : Nat → Int → Int → Int → Option (List Int)
  | 0, _, _, _ => none
  | f + 1, last, a, b => if a = b then some [] else E.findSome? fun i =>
    if i = last then none else match ts[i.toNat]? with
      | some x => if x.frm = a ∨ x.to_ = a then (wayF ts E f i (x.frm + x.to_ - a) b).map (i :: ·) else none
      | none => none
theorem wayF_nb {ts : List Lg} {E : List Int} (hE : ∀ i ∈ E, 0 ≤ i) : ∀ (f : Nat) {last a b : Int} {l : List Int}, wayF ts E f last a b = some l → NB ts E last a l b
  | 0, _, _, _, _, h => by simp [wayF] at h
  | f + 1, last, a, b, l, h => by
    rw [wayF] at h
    by_cases e : a = b
    · rw [if_pos e] at h
      obtain rfl := Option.some.inj h
      exact e
    · rw [if_neg e] at h
      obtain ⟨i, hi, h⟩ := List.exists_of_findSome?_eq_some h
      by_cases hl : i = last
      · rw [if_pos hl] at h; cases h
      · rw [if_neg hl] at h
        cases hx : ts[i.toNat]? with
        | none => rw [hx] at h; cases h
        | some x =>
          rw [hx] at h
          simp only [] at h
          split at h
          · rename_i hc
            obtain ⟨m, hm, rfl⟩ := Option.map_eq_some_iff.1 h
            refine ⟨hi, hl, _, ⟨hE i hi, x, hx, ?_⟩, wayF_nb hE f hm⟩
            unfold Jo; omega
          · cases h
theorem wayF_some {ts : List Lg} {E : List Int} : ∀ (f : Nat) {last a b : Int} {l : List Int}, NB ts E last a l b → l.length < f → (wayF ts E f last a b).isSome = true
  | 0, _, _, _, l, _, hl => by omega
  | f + 1, last, a, b, l, h, hl => by
    rw [wayF]
    by_cases e : a = b
    · rw [if_pos e]; rfl
    · rw [if_neg e]
      cases l with
      | nil => exact absurd h e
      | cons i l =>
        obtain ⟨hi, hn, o, ⟨h0, x, hx, hj⟩, h2⟩ := h
        rw [List.findSome?_isSome_iff]
        refine ⟨i, hi, ?_⟩
        rw [if_neg hn, hx]
        have hc : x.frm = a ∨ x.to_ = a := by unfold Jo at hj; omega
        simp only []
        rw [if_pos hc, Option.isSome_map, ← hj.far]
        exact wayF_some f h2 (by simp at hl; omega)
/-- the leg with an index -/
def legAt (ts : List Lg) (i : Int) : Lg := (ts[i.toNat]?).getD ⟨0, 0, 0, 0, 0⟩
theorem legAt_is {ts : List Lg} {i : Int} {x : Lg} (h : ts[i.toNat]? = some x) : legAt ts i = x := by unfold legAt; rw [h]; rfl
/-- the tree legs of a loop -/
def pathOf (ts : List Lg) (i : Int) : List Int := (wayF ts (net ts).tr 13 (-1) (legAt ts i).to_ (legAt ts i).frm).getD []
def lpOk (ts : List Lg) (i : Int) : Bool := goodLg ts && mem (clIds ts) i
theorem clN_iff {ts : List Lg} {s : Net} : ∀ k, k ≤ ts.length → ∀ i, i ∈ clN ts s k ↔ (0 ≤ i ∧ i < k ∧ ∃ x, ts[i.toNat]? = some x ∧ x.frm ∈ s.ps ∧ i ∉ s.tr)
  | 0, _, i => by simp [clN]; omega
  | k + 1, hk, i => by
    have ih := clN_iff (ts := ts) (s := s) k (by omega) i
    obtain ⟨x, e⟩ : ∃ x, ts[k]? = some x := ⟨_, List.getElem?_eq_getElem (by omega)⟩
    have tob : ∀ {l : List Int} {a : Int}, mem l a = false ↔ a ∉ l := fun {l a} => by
      rw [← mem_iff]; cases mem l a <;> simp
    cases h : (mem s.ps x.frm && !mem s.tr (k : Int))
    · rw [clN_no e h, ih]
      constructor
      · rintro ⟨a, b, c⟩; exact ⟨a, by omega, c⟩
      · rintro ⟨a, b, y, hy, c, d⟩
        refine ⟨a, ?_, y, hy, c, d⟩
        have : i ≠ k := by
          rintro rfl
          rw [Int.toNat_natCast, e] at hy
          obtain rfl := Option.some.inj hy
          rw [mem_iff.2 c, tob.2 d] at h; cases h
        omega
    · rw [Bool.and_eq_true, Bool.not_eq_true'] at h
      rw [clN_yes e h.1 h.2, List.mem_append, ih, List.mem_singleton]
      constructor
      · rintro (⟨a, b, c⟩ | rfl)
        · exact ⟨a, by omega, c⟩
        · exact ⟨by omega, by omega, x, by rw [Int.toNat_natCast]; exact e, mem_iff.1 h.1, tob.1 h.2⟩
      · rintro ⟨a, b, y, hy, c, d⟩
        by_cases q : i = k
        · exact .inr q
        · exact .inl ⟨a, by omega, y, hy, c, d⟩
/-- a closing leg -/
theorem lp_leg {ts : List Lg} {i : Int} (h : lpOk ts i = true) : goodLg ts = true ∧ 0 ≤ i ∧ i < ts.length ∧ ∃ x, ts[i.toNat]? = some x ∧ legAt ts i = x ∧ okLg x = true ∧ x.frm ∈ (net ts).ps ∧ x.to_ ∈ (net ts).ps ∧ i ∉ (net ts).tr := by
  unfold lpOk clIds at h
  rw [Bool.and_eq_true] at h
  obtain ⟨hg, hm⟩ := h
  rw [hg] at hm
  obtain ⟨h0, h1, x, hx, hf, ht⟩ := (clN_iff _ (Nat.le_refl _) i).1 (mem_iff.1 hm)
  refine ⟨hg, h0, h1, x, hx, legAt_is hx, goodLg_at hg hx, hf, ?_, ht⟩
  have := net_ends hg hx
  rw [mem_iff.2 hf] at this
  exact mem_iff.1 this.symm
/-- two placed stations are joined by tree legs -/
theorem tree_joins {ts : List Lg} {a b : Int} (ha : a ∈ (net ts).ps) (hb : b ∈ (net ts).ps) : Rc (By ts (· ∈ (net ts).tr)) a b := (tree_reach ha).symm.trans (tree_reach hb)
theorem tree_way {ts : List Lg} {a b : Int} (ha : a ∈ (net ts).ps) (hb : b ∈ (net ts).ps) : ∃ l, NB ts (net ts).tr (-1) a l b := by
  obtain ⟨W, hW, e⟩ := wy_of_reach b 0 (tree_joins ha hb)
  obtain ⟨l, -, -, h⟩ := hW.nb0
  rw [e] at h
  exact ⟨l, h⟩
theorem path_nb {ts : List Lg} {i : Int} (h : lpOk ts i = true) : NB ts (net ts).tr (-1) (legAt ts i).to_ (pathOf ts i) (legAt ts i).frm := by
  obtain ⟨hg, h0, h1, x, hx, e, ho, hf, ht, hn⟩ := lp_leg h
  obtain ⟨l, hl⟩ := tree_way ht hf
  have hs := wayF_some 13 hl (by have h1 := (nb_once hl).2; have h2 := (ok_net hg).tr_len; omega)
  unfold pathOf
  rw [e]
  cases hw : wayF ts (net ts).tr 13 (-1) x.to_ x.frm with
  | none => rw [hw] at hs; cases hs
  | some m => exact wayF_nb (fun j hj => (tr_pos hj).1) 13 hw
theorem path_is {ts : List Lg} {i : Int} (h : lpOk ts i = true) {l : List Int} (hl : NB ts (net ts).tr (-1) (legAt ts i).to_ l (legAt ts i).frm) : l = pathOf ts i := nb_uniq hl (path_nb h)
theorem path_len {ts : List Lg} {i : Int} (h : lpOk ts i = true) : (pathOf ts i).length ≤ 12 := by
  have h1 := (nb_once (path_nb h)).2
  have h2 := (ok_net (lp_leg h).1).tr_len
  omega
/-- LoopLegs' and LoopOf's numbers -/
def lpIds (ts : List Lg) (i : Int) : List Int := if lpOk ts i then pathOf ts i ++ [i] else []
def lpSt (ts : List Lg) (i : Int) : List Int := if lpOk ts i then stops ts (legAt ts i).to_ (pathOf ts i) else []
theorem lpIds_is {ts : List Lg} {i : Int} (h : lpOk ts i = true) : lpIds ts i = pathOf ts i ++ [i] := if_pos h
theorem lpSt_is {ts : List Lg} {i : Int} (h : lpOk ts i = true) : lpSt ts i = stops ts (legAt ts i).to_ (pathOf ts i) := if_pos h
theorem lpIds_len {ts : List Lg} {i : Int} : (lpIds ts i).length ≤ 13 := by
  cases h : lpOk ts i
  · unfold lpIds; rw [h]; exact Nat.zero_le _
  · rw [lpIds_is h, List.length_append]; have := path_len h; simp; omega
/-- the legs of a loop lead from station to station, all of them legs of the list -/
theorem nb_legs {ts : List Lg} {E : List Int} : ∀ {l : List Int} {last a b : Int}, NB ts E last a l b → ∀ j ∈ l, 0 ≤ j ∧ ∃ x, ts[j.toNat]? = some x
  | [], _, _, _, _, j, hj => by cases hj
  | i :: l, last, a, b, h, j, hj => by
    obtain ⟨h1, -, o, ⟨h0, x, hx, -⟩, h2⟩ := h
    rcases List.mem_cons.1 hj with e | e
    · rw [e]; exact ⟨h0, x, hx⟩
    · exact nb_legs h2 j e
theorem lp_legs {ts : List Lg} {i : Int} (h : lpOk ts i = true) : ∀ j ∈ lpIds ts i, 0 ≤ j ∧ ∃ x, ts[j.toNat]? = some x := by
  rw [lpIds_is h]
  intro j hj
  rcases List.mem_append.1 hj with q | q
  · exact nb_legs (path_nb h) j q
  · rw [List.mem_singleton.1 q]
    obtain ⟨-, h0, -, x, hx, -⟩ := lp_leg h
    exact ⟨h0, x, hx⟩
/-- lengths, added up -/
def tapes (ts : List Lg) : List Int → Int
  | [] => 0
  | i :: l => (legAt ts i).tape + tapes ts l
theorem tapes_app (ts : List Lg) : ∀ (l m : List Int), tapes ts (l ++ m) = tapes ts l + tapes ts m
  | [], m => by simp [tapes]
  | i :: l, m => by rw [List.cons_append, tapes, tapes, tapes_app ts l m]; omega
theorem tape_bd {ts : List Lg} (hg : goodLg ts = true) (i : Int) : 0 ≤ (legAt ts i).tape ∧ (legAt ts i).tape ≤ 500 := by
  unfold legAt
  cases e : ts[i.toNat]? with
  | none => simp
  | some x => have := okLg_lim (goodLg_at hg e); simp; omega
theorem tapes_bd {ts : List Lg} (hg : goodLg ts = true) : ∀ l, 0 ≤ tapes ts l ∧ tapes ts l ≤ 500 * l.length
  | [] => by simp [tapes]
  | i :: l => by
    have h1 := tapes_bd hg l
    have h2 := tape_bd hg i
    rw [tapes, List.length_cons]; push_cast; omega
/-- LoopLength's number -/
def lenV (ts : List Lg) (i : Int) : Int := tapes ts (lpIds ts i)
/-- a shift along a way -/
def along (ts : List Lg) (i a : Int) : Sf := if (legAt ts i).frm = a then shf (legAt ts i) else sub3 zero3 (shf (legAt ts i))
def sumS (ts : List Lg) : Int → List Int → Sf → Sf
  | _, [], s => s
  | a, i :: l, s => sumS ts (farOf ts i a) l (add3 s (along ts i a))
theorem sumS_app (ts : List Lg) : ∀ (l m : List Int) (a : Int) (s : Sf), sumS ts a (l ++ m) s = sumS ts ((stops ts a l).getLast?.getD 0) m (sumS ts a l s)
  | [], m, a, s => rfl
  | i :: l, m, a, s => by
    rw [List.cons_append, sumS, sumS_app ts l m, sumS]
    congr 2
    rw [stops]
    cases hq : stops ts (farOf ts i a) l with
    | nil => have := stops_len ts l (farOf ts i a); rw [hq] at this; simp at this
    | cons p q => rw [List.getLast?_cons_cons]
theorem stops_last {ts : List Lg} {E : List Int} : ∀ {l : List Int} {last a b : Int}, NB ts E last a l b → (stops ts a l).getLast?.getD 0 = b
  | [], _, a, b, h => h
  | i :: l, last, a, b, h => by
    obtain ⟨-, -, o, ho, h2⟩ := h
    rw [stops, farOf_is ho]
    have ih := stops_last h2
    cases hq : stops ts o l with
    | nil => have := stops_len ts l o; rw [hq] at this; simp at this
    | cons p q => rw [hq] at ih; rw [List.getLast?_cons_cons]; exact ih
/-- MisclosureOf's shift -/
def misV (ts : List Lg) (i : Int) : Sf := if lpOk ts i then sumS ts (legAt ts i).to_ (lpIds ts i) zero3 else zero3
theorem shf_at {ts : List Lg} (hg : goodLg ts = true) (i a : Int) : (-500 ≤ (along ts i a).east ∧ (along ts i a).east ≤ 500) ∧ (-500 ≤ (along ts i a).north ∧ (along ts i a).north ≤ 500) ∧ (-500 ≤ (along ts i a).up ∧ (along ts i a).up ≤ 500) := by
  have hz : (-500 ≤ (shf (legAt ts i)).east ∧ (shf (legAt ts i)).east ≤ 500) ∧ (-500 ≤ (shf (legAt ts i)).north ∧ (shf (legAt ts i)).north ≤ 500) ∧ (-500 ≤ (shf (legAt ts i)).up ∧ (shf (legAt ts i)).up ≤ 500) := by
    unfold legAt
    cases e : ts[i.toNat]? with
    | none => decide
    | some x => exact shf_bd (goodLg_at hg e)
  unfold along
  split
  · exact hz
  · unfold sub3 zero3; simp only []; omega
def BdN (k : Nat) (s : Sf) : Prop := (-(500 * (k : Int)) ≤ s.east ∧ s.east ≤ 500 * k) ∧ (-(500 * (k : Int)) ≤ s.north ∧ s.north ≤ 500 * k) ∧ (-(500 * (k : Int)) ≤ s.up ∧ s.up ≤ 500 * k)
theorem bdN_step {ts : List Lg} (hg : goodLg ts = true) {k : Nat} {s : Sf} (h : BdN k s) (i a : Int) : BdN (k + 1) (add3 s (along ts i a)) := by
  have hb := shf_at hg i a
  unfold BdN add3 at *
  simp only []
  omega
theorem bdN_zero : BdN 0 zero3 := by unfold BdN zero3; decide
theorem sumS_bd {ts : List Lg} (hg : goodLg ts = true) : ∀ (l : List Int) (a : Int) {k : Nat} {s : Sf}, BdN k s → BdN (k + l.length) (sumS ts a l s)
  | [], a, k, s, h => h
  | i :: l, a, k, s, h => by
    rw [sumS, List.length_cons, show k + (l.length + 1) = (k + 1) + l.length by omega]
    exact sumS_bd hg l _ (bdN_step hg h i a)
theorem misV_bd {ts : List Lg} {i : Int} : BdN 13 (misV ts i) := by
  unfold misV
  cases h : lpOk ts i
  · rw [if_neg (by simp)]; unfold BdN zero3; decide
  · rw [if_pos rfl]
    have h1 := sumS_bd (lp_leg h).1 (lpIds ts i) (legAt ts i).to_ bdN_zero
    have h2 := lpIds_len (ts := ts) (i := i)
    unfold BdN at *
    omega
/-- the misclosure of a loop is the error of its closing leg -/
theorem add3_sub (a b : Sf) : add3 a (sub3 zero3 b) = sub3 a b := sf_ext (by unfold add3 sub3 zero3; simp only []; omega) (by unfold add3 sub3 zero3; simp only []; omega) (by unfold add3 sub3 zero3; simp only []; omega)
theorem tree_along {ts : List Lg} (hg : goodLg ts = true) {i a b : Int} (hi : i ∈ (net ts).tr) (hj : Jn ts i a b) : along ts i a = sub3 (at_ (net ts).pl b) (at_ (net ts).pl a) := by
  obtain ⟨y, hy, -, -, -, -, e⟩ := (tr_net hg).2.2 i hi
  obtain ⟨h0, x, hx, hJ⟩ := hj
  rw [hx] at hy
  obtain rfl := Option.some.inj hy
  unfold along
  rw [legAt_is hx]
  have e1 : (shf x).east - (at_ (net ts).pl x.to_).east + (at_ (net ts).pl x.frm).east = 0 := congrArg Sf.east e
  have e2 : (shf x).north - (at_ (net ts).pl x.to_).north + (at_ (net ts).pl x.frm).north = 0 := congrArg Sf.north e
  have e3 : (shf x).up - (at_ (net ts).pl x.to_).up + (at_ (net ts).pl x.frm).up = 0 := congrArg Sf.up e
  have hne := (okLg_lim (goodLg_at hg hx)).2.2.1
  rcases hJ with ⟨rfl, rfl⟩ | ⟨rfl, rfl⟩
  · rw [if_pos rfl]
    exact sf_ext (by unfold sub3; simp only []; omega) (by unfold sub3; simp only []; omega) (by unfold sub3; simp only []; omega)
  · rw [if_neg hne]
    exact sf_ext (by unfold sub3 zero3; simp only []; omega) (by unfold sub3 zero3; simp only []; omega) (by unfold sub3 zero3; simp only []; omega)
theorem sum_tree {ts : List Lg} (hg : goodLg ts = true) : ∀ {l : List Int} {last a b : Int} (s : Sf), NB ts (net ts).tr last a l b → sumS ts a l s = add3 s (sub3 (at_ (net ts).pl b) (at_ (net ts).pl a))
  | [], last, a, b, s, h => by
    have e : a = b := h
    rw [sumS, e]
    exact sf_ext (by unfold add3 sub3; simp only []; omega) (by unfold add3 sub3; simp only []; omega) (by unfold add3 sub3; simp only []; omega)
  | i :: l, last, a, b, s, h => by
    obtain ⟨h1, -, o, ho, h2⟩ := h
    rw [sumS, farOf_is ho, sum_tree hg _ h2, tree_along hg h1 ho]
    exact sf_ext (by unfold add3 sub3; simp only []; omega) (by unfold add3 sub3; simp only []; omega) (by unfold add3 sub3; simp only []; omega)
theorem mis_error {ts : List Lg} {i : Int} (h : lpOk ts i = true) : misV ts i = add3 (sub3 (shf (legAt ts i)) (at_ (net ts).pl (legAt ts i).to_)) (at_ (net ts).pl (legAt ts i).frm) := by
  have hp := path_nb h
  unfold misV
  rw [if_pos h, lpIds_is h, sumS_app, stops_last hp, sum_tree (lp_leg h).1 _ hp]
  show add3 _ (along ts i (legAt ts i).frm) = _
  unfold along
  rw [if_pos rfl]
  exact sf_ext (by unfold add3 sub3 zero3; simp only []; omega) (by unfold add3 sub3 zero3; simp only []; omega) (by unfold add3 sub3 zero3; simp only []; omega)

/-- the legs without one of them -/
def less (ts : List Lg) (k : Nat) : List Lg := ts.take k ++ ts.drop (k + 1)
theorem less_good {ts : List Lg} (hg : goodLg ts = true) (k : Nat) : goodLg (less ts k) = true := by
  unfold goodLg
  rw [Bool.and_eq_true, List.all_eq_true, decide_eq_true_eq]
  refine ⟨fun x hx => ?_, ?_⟩
  · rcases List.mem_append.1 hx with q | q
    · obtain ⟨j, hj⟩ := List.getElem?_of_mem (List.mem_of_mem_take q)
      exact goodLg_at hg hj
    · obtain ⟨j, hj⟩ := List.getElem?_of_mem (List.mem_of_mem_drop q)
      exact goodLg_at hg hj
  · have := goodLg_len hg
    unfold less
    rw [List.length_append, List.length_take, List.length_drop]; omega
/-- all legs but one -/
def other (k : Nat) (i : Int) : Prop := i ≠ k
theorem less_mem {ts : List Lg} {k : Nat} (hk : k < ts.length) (x : Lg) : x ∈ less ts k ↔ By ts (other k) x := by
  unfold less
  rw [List.mem_append]
  constructor
  · rintro (h | h)
    · obtain ⟨j, hj⟩ := List.getElem?_of_mem h
      have hjk : j < k := by have := (List.getElem?_eq_some_iff.1 hj).1; rw [List.length_take] at this; omega
      rw [List.getElem?_take_of_lt hjk] at hj
      exact ⟨(j : Int), by unfold other; omega, by omega, by rw [Int.toNat_natCast]; exact hj⟩
    · obtain ⟨j, hj⟩ := List.getElem?_of_mem h
      rw [List.getElem?_drop] at hj
      refine ⟨((k + 1 + j : Nat) : Int), by unfold other; omega, by omega, by rw [Int.toNat_natCast]; exact hj⟩
  · rintro ⟨i, hi, h0, hx⟩
    obtain ⟨j, rfl⟩ := Int.eq_ofNat_of_zero_le h0
    rw [Int.toNat_natCast] at hx
    unfold other at hi
    rcases Nat.lt_or_ge j k with q | q
    · exact .inl (List.mem_of_getElem? (by rw [List.getElem?_take_of_lt q]; exact hx))
    · refine .inr (List.mem_of_getElem? (i := j - (k + 1)) ?_)
      rw [List.getElem?_drop, show k + 1 + (j - (k + 1)) = j by omega]; exact hx
/-- whether a leg with placed ends is a bridge -/
def brB (ts : List Lg) (k : Nat) : Bool := !mem (net (less ts k)).ps (legAt ts k).frm || !mem (net (less ts k)).ps (legAt ts k).to_
theorem br_iff {ts : List Lg} (hg : goodLg ts = true) {k : Nat} {x : Lg} (hx : ts[k]? = some x) (hf : x.frm ∈ (net ts).ps) : brB ts k = false ↔ Rc (By ts (other k)) x.to_ x.frm := by
  have hk : k < ts.length := (List.getElem?_eq_some_iff.1 hx).1
  have hl : legAt ts (k : Int) = x := legAt_is (by rw [Int.toNat_natCast]; exact hx)
  have hgl := less_good hg k
  unfold brB
  rw [hl, Bool.or_eq_false_iff, Bool.not_eq_false', Bool.not_eq_false', mem_iff, mem_iff, placed_iff hgl, placed_iff hgl]
  have to_ : ∀ {a b}, Rc (· ∈ less ts k) a b ↔ Rc (By ts (other k)) a b := fun {a b} => ⟨fun h => h.mono (fun y hy => (less_mem hk y).1 hy), fun h => h.mono (fun y hy => (less_mem hk y).2 hy)⟩
  rw [to_, to_]
  constructor
  · rintro ⟨h1, h2⟩; exact h2.symm.trans h1
  · intro h
    have all : Rc (By ts (other k)) 0 x.frm := ((placed_iff hg x.frm).1 hf).over (fun y hy => by
      obtain ⟨j, hj⟩ := List.getElem?_of_mem hy
      by_cases e : j = k
      · subst e
        rw [hx] at hj
        obtain rfl := Option.some.inj hj
        exact h.symm
      · exact .one ⟨(j : Int), by unfold other; omega, by omega, by rw [Int.toNat_natCast]; exact hj⟩ (.inl ⟨rfl, rfl⟩))
    exact ⟨all, all.trans h.symm⟩
def brAt (ts : List Lg) (i : Int) : Bool := match ts[i.toNat]? with
  | some x => mem (net ts).ps x.frm
  | none => false
def brOk (ts : List Lg) (i : Int) : Bool := goodLg ts && (btw 0 i ((ts.length : Int) - 1) && brAt ts i)
/-- IsBridge's word -/
def brV (ts : List Lg) (i : Int) : Bool := brOk ts i && brB ts i.toNat
/-- BridgesOf's numbers -/
def brN (ts : List Lg) : Nat → List Int
  | 0 => []
  | k + 1 => if brAt ts (k : Int) && brB ts k then brN ts k ++ [(k : Int)] else brN ts k
theorem brN_yes {ts : List Lg} {k : Nat} (h : brAt ts (k : Int) = true) (h2 : brB ts k = true) : brN ts (k + 1) = brN ts k ++ [(k : Int)] := by rw [brN, h, h2]; rfl
theorem brN_no {ts : List Lg} {k : Nat} (h : (brAt ts (k : Int) && brB ts k) = false) : brN ts (k + 1) = brN ts k := by rw [brN, h]; rfl
theorem brN_len (ts : List Lg) : ∀ k, (brN ts k).length ≤ k
  | 0 => Nat.le_refl _
  | k + 1 => by
    have := brN_len ts k
    rw [brN]
    split
    · rw [List.length_append]; simp; omega
    · omega
def brIds (ts : List Lg) : List Int := if goodLg ts then brN ts ts.length else []
/-- LoopsThrough's numbers -/
def thrOk (ts : List Lg) (i : Int) : Bool := goodLg ts && btw 0 i ((ts.length : Int) - 1)
def thrL (ts : List Lg) (i : Int) : List Int → List Int
  | [] => []
  | c :: l => if mem (lpIds ts c) i then c :: thrL ts i l else thrL ts i l
theorem thrL_app (ts : List Lg) (i : Int) : ∀ (l m : List Int), thrL ts i (l ++ m) = thrL ts i l ++ thrL ts i m
  | [], m => rfl
  | c :: l, m => by
    rw [List.cons_append, thrL, thrL, thrL_app ts i l m]
    split <;> rfl
theorem thrL_len (ts : List Lg) (i : Int) : ∀ l : List Int, (thrL ts i l).length ≤ l.length
  | [] => Nat.le_refl _
  | c :: l => by
    have := thrL_len ts i l
    rw [thrL]
    split <;> (simp; omega)
theorem thr_step {ts : List Lg} {i : Int} {l : List Int} {k : Nat} {c : Int} (h : l[k]? = some c) : thrL ts i (l.take (k + 1)) = if mem (lpIds ts c) i then thrL ts i (l.take k) ++ [c] else thrL ts i (l.take k) := by
  rw [take_snoc h, thrL_app]
  show _ ++ (if mem (lpIds ts c) i then [c] else []) = _
  split
  · rfl
  · rw [List.append_nil]
def thrIds (ts : List Lg) (i : Int) : List Int := if thrOk ts i then thrL ts i (clIds ts) else []
/-- the greatest whole number whose square is at most n -/
def rt : Nat → Int
  | 0 => 0
  | n + 1 => if ((n + 1 : Nat) : Int) < (rt n + 1) * (rt n + 1) then rt n else rt n + 1
theorem rt_is : ∀ n : Nat, len.IsRoot (n : Int) (rt n)
  | 0 => ⟨by decide, by decide, by decide⟩
  | n + 1 => by
    obtain ⟨h0, h1, h2⟩ := rt_is n
    rw [rt]
    split
    · rename_i h; exact ⟨h0, by push_cast; omega, h⟩
    · rename_i h
      refine ⟨by omega, by omega, ?_⟩
      have e : (rt n + 1 + 1) * (rt n + 1 + 1) = (rt n + 1) * (rt n + 1) + 2 * rt n + 3 := by
        rw [Int.mul_add, Int.add_mul]; omega
      rw [e]; push_cast; omega
/-- what a loop misses -/
def missV (ts : List Lg) (i : Int) : Int := rt (sq3 (misV ts i)).toNat
theorem sq3_pos (d : Sf) : 0 ≤ sq3 d := by
  have sq : ∀ a : Int, 0 ≤ a * a := fun a => by
    rcases Int.le_total 0 a with k | k
    · exact Int.mul_nonneg k k
    · have := Int.mul_nonneg (show 0 ≤ -a by omega) (show 0 ≤ -a by omega)
      rw [Int.neg_mul_neg] at this; exact this
  have a := sq d.east; have b := sq d.north; have c := sq d.up
  unfold sq3; omega
theorem missV_root (ts : List Lg) (i : Int) : len.IsRoot (sq3 (misV ts i)) (missV ts i) := by
  have h := rt_is (sq3 (misV ts i)).toNat
  rw [Int.toNat_of_nonneg (sq3_pos _)] at h
  exact h
theorem sq_lim {a : Int} (h0 : -6500 ≤ a) (h1 : a ≤ 6500) : a * a ≤ 42250000 := by
  have h : (a * a).natAbs ≤ 6500 * 6500 := by rw [Int.natAbs_mul]; exact Nat.mul_le_mul (by omega) (by omega)
  omega
theorem missV_bd (ts : List Lg) (i : Int) : 0 ≤ missV ts i ∧ missV ts i ≤ 12000 := by
  obtain ⟨h0, h1, h2⟩ := missV_root ts i
  have hb : BdN 13 (misV ts i) := misV_bd
  have hs : sq3 (misV ts i) ≤ 126750000 := by
    unfold BdN at hb
    have a := sq_lim (a := (misV ts i).east) (by omega) (by omega)
    have b := sq_lim (a := (misV ts i).north) (by omega) (by omega)
    have c := sq_lim (a := (misV ts i).up) (by omega) (by omega)
    unfold sq3; omega
  refine ⟨h0, ?_⟩
  rcases Int.lt_or_le 12000 (missV ts i) with q | q
  · have := len.sq_mono (show (0 : Int) ≤ 12000 by omega) (Int.le_of_lt q); omega
  · exact q
theorem lenV_bd (ts : List Lg) (i : Int) : 0 ≤ lenV ts i ∧ lenV ts i ≤ 6500 := by
  unfold lenV
  cases h : lpOk ts i
  · unfold lpIds; rw [h]; simp [tapes]
  · have h1 := tapes_bd (lp_leg h).1 (lpIds ts i)
    have h2 := lpIds_len (ts := ts) (i := i)
    omega
theorem prod_lim {a b : Int} (a0 : 0 ≤ a) (a1 : a ≤ 12000) (b0 : 0 ≤ b) (b1 : b ≤ 6500) : 0 ≤ a * b ∧ a * b ≤ 78000000 := by
  have h0 := Int.mul_nonneg a0 b0
  have h : (a * b).natAbs ≤ 12000 * 6500 := by rw [Int.natAbs_mul]; exact Nat.mul_le_mul (by omega) (by omega)
  omega
/-- whether a loop is worse than another one -/
def worse (ts : List Lg) (c b : Int) : Bool := decide (missV ts b * lenV ts c < missV ts c * lenV ts b)
/-- the worst of the first loops -/
def wrK (ts : List Lg) (cl : List Int) : Nat → Int
  | 0 => 0
  | k + 1 => match cl[k]? with
    | some c => if k = 0 then c else if worse ts c (wrK ts cl k) then c else wrK ts cl k
    | none => wrK ts cl k
theorem wrK_one {ts : List Lg} {cl : List Int} {c : Int} (h : cl[0]? = some c) : wrK ts cl 1 = c := by
  show (match cl[0]? with | some c => _ | none => _) = _
  rw [h]; rfl
theorem wrK_succ {ts : List Lg} {cl : List Int} {k : Nat} {c : Int} (h : cl[k + 1]? = some c) : wrK ts cl (k + 2) = if worse ts c (wrK ts cl (k + 1)) then c else wrK ts cl (k + 1) := by
  show (match cl[k + 1]? with | some c => _ | none => _) = _
  rw [h]; simp only []; rw [if_neg (by omega)]
theorem wrK_mem {ts : List Lg} {cl : List Int} : ∀ k, k < cl.length → wrK ts cl (k + 1) ∈ cl
  | 0, h => by
    have e := List.getElem?_eq_getElem h
    rw [wrK_one e]; exact List.getElem_mem h
  | k + 1, h => by
    have e := List.getElem?_eq_getElem h
    rw [wrK_succ e]
    split
    · exact List.getElem_mem h
    · exact wrK_mem k (by omega)
def wrOk (ts : List Lg) : Bool := goodLg ts && decide (0 < (clIds ts).length)
def wrV (ts : List Lg) : Int := if wrOk ts then wrK ts (clIds ts) (clIds ts).length else 0
end Go.Proofs.YtkeepfkjhcmhlaaDoor.lp

namespace Go.Proofs.YtkeepfkjhcmhlaaDoor.lp
open Go.RowKit
open reads base ty lg hs nt
set_option linter.unusedVariables false

theorem own_eq {g g' n c : Nat} (h : (Value.slice (some ⟨g, 0, none⟩) n c).ownBlock = some g') : g = g' := by simpa [Value.ownBlock] using h
/-- legs that lead from a to b, one after the other -/
def Chn (ts : List Lg) : Int → List Int → Int → Prop
  | a, [], b => a = b
  | a, i :: l, b => ∃ o, Jn ts i a o ∧ Chn ts o l b
theorem NB.chn {ts : List Lg} {E : List Int} : ∀ {l : List Int} {last a b : Int}, NB ts E last a l b → Chn ts a l b
  | [], _, _, _, h => h
  | i :: l, last, a, b, h => by
    obtain ⟨-, -, o, ho, h2⟩ := h
    exact ⟨o, ho, NB.chn h2⟩
theorem Chn.snoc {ts : List Lg} {i b c : Int} (hj : Jn ts i b c) : ∀ {l : List Int} {a : Int}, Chn ts a l b → Chn ts a (l ++ [i]) c
  | [], a, h => by
    have e : a = b := h
    exact ⟨c, by rw [e]; exact hj, rfl⟩
  | j :: l, a, h => by
    obtain ⟨o, ho, h2⟩ := h
    exact ⟨o, ho, Chn.snoc hj h2⟩
theorem lp_chn {ts : List Lg} {i : Int} (h : lpOk ts i = true) : Chn ts (legAt ts i).to_ (lpIds ts i) (legAt ts i).to_ := by
  obtain ⟨-, h0, -, x, hx, e, -⟩ := lp_leg h
  rw [lpIds_is h]
  exact Chn.snoc ⟨h0, x, hx, by rw [e]; exact .inl ⟨rfl, rfl⟩⟩ (path_nb h).chn
theorem stops_zero (ts : List Lg) (a : Int) (l : List Int) : (stops ts a l)[0]? = some a := by cases l <;> rfl
theorem chn_at {ts : List Lg} : ∀ {l : List Int} {a b : Int} (k : Nat) {j : Int}, Chn ts a l b → l[k]? = some j → ∃ s t, (stops ts a l)[k]? = some s ∧ (stops ts a l)[k + 1]? = some t ∧ Jn ts j s t
  | [], _, _, _, _, _, h => by simp at h
  | i :: l, a, b, 0, j, h, hj => by
    obtain ⟨o, ho, h2⟩ := h
    obtain rfl : i = j := by simpa using hj
    refine ⟨a, o, rfl, ?_, ho⟩
    rw [stops, farOf_is ho]
    show (stops ts o l)[0]? = some o
    exact stops_zero ts o l
  | i :: l, a, b, k + 1, j, h, hj => by
    obtain ⟨o, ho, h2⟩ := h
    obtain ⟨s, t, h3, h4, h5⟩ := chn_at k h2 (by simpa using hj)
    refine ⟨s, t, ?_, ?_, h5⟩
    · rw [stops, farOf_is ho]; simpa using h3
    · rw [stops, farOf_is ho]; simpa using h4
theorem sumS_at {ts : List Lg} : ∀ {l : List Int} {a b : Int} (z : Sf) (k : Nat) {j s : Int}, Chn ts a l b → l[k]? = some j → (stops ts a l)[k]? = some s → sumS ts a (l.take (k + 1)) z = add3 (sumS ts a (l.take k) z) (along ts j s)
  | [], _, _, _, _, _, _, _, h, _ => by simp at h
  | i :: l, a, b, z, 0, j, s, h, hj, hs => by
    obtain rfl : i = j := by simpa using hj
    obtain rfl : a = s := by rw [stops_zero] at hs; simpa using hs
    rfl
  | i :: l, a, b, z, k + 1, j, s, h, hj, hs => by
    obtain ⟨o, ho, h2⟩ := h
    rw [stops, farOf_is ho] at hs
    have ih := sumS_at (add3 z (along ts i a)) k h2 (by simpa using hj) (by simpa using hs)
    rw [List.take_succ_cons, List.take_succ_cons, sumS, sumS, farOf_is ho]
    exact ih
theorem tapes_at {ts : List Lg} {l : List Int} {k : Nat} {j : Int} (hj : l[k]? = some j) : tapes ts (l.take (k + 1)) = tapes ts (l.take k) + (legAt ts j).tape := by
  rw [take_snoc hj, tapes_app]
  show _ + ((legAt ts j).tape + 0) = _
  omega
/-- the ends of a leg are stations -/
theorem Jn.bd {ts : List Lg} (hg : goodLg ts = true) {j s t : Int} (h : Jn ts j s t) : (0 ≤ s ∧ s ≤ 7) ∧ (0 ≤ t ∧ t ≤ 7) := by
  obtain ⟨-, x, hx, hJ⟩ := h
  obtain ⟨l1, l2, -⟩ := okLg_lim (goodLg_at hg hx)
  unfold Jo at hJ
  omega
theorem Jn.leg {ts : List Lg} {j s t : Int} (h : Jn ts j s t) : ∃ (q : Nat) (x : Lg), j = (q : Int) ∧ ts[q]? = some x ∧ legAt ts j = x ∧ Jo x s t := by
  obtain ⟨h0, x, hx, hJ⟩ := h
  obtain ⟨q, rfl⟩ := Int.eq_ofNat_of_zero_le h0
  exact ⟨q, x, rfl, by rwa [Int.toNat_natCast] at hx, legAt_is hx, hJ⟩
/-- a shift in the direction of the way, by the model's test -/
theorem along_yes {ts : List Lg} {j s : Int} {x : Lg} (hl : legAt ts j = x) (h : (x.frm == s) = true) (z : Sf) : add3 z (along ts j s) = add3 z (shf x) := by
  unfold along; rw [hl, if_pos (by simpa using h)]
theorem along_no {ts : List Lg} {j s : Int} {x : Lg} (hl : legAt ts j = x) (h : (x.frm == s) = false) (z : Sf) : add3 z (along ts j s) = sub3 z (shf x) := by
  unfold along; rw [hl, if_neg (by simpa using h), add3_sub]
theorem stops_take {ts : List Lg} {a : Int} {l : List Int} {k : Nat} {t : Int} (h : (stops ts a l)[k]? = some t) : (stops ts a l).take (k + 1) = (stops ts a l).take k ++ [t] := take_snoc h
end Go.Proofs.YtkeepfkjhcmhlaaDoor.lp

namespace Go.Proofs.YtkeepfkjhcmhlaaDoor.lp
open Go.RowKit
open reads base ty lg hs nt
set_option linter.unusedVariables false

/-- the open legs, by their marks -/
def Opn (bs : List Bool) (j : Int) : Prop := bs[j.toNat]? = some true
/-- the exits of a station by the first k legs -/
def exR (ts : List Lg) (bs : List Bool) : Nat → Int → List (Int × Int)
  | 0, _ => []
  | k + 1, s => match ts[k]?, bs[k]? with
    | some x, some true => if x.frm = s then exR ts bs k s ++ [((k : Int), x.to_)] else if x.to_ = s then exR ts bs k s ++ [((k : Int), x.frm)] else exR ts bs k s
    | _, _ => exR ts bs k s
section
variable {ts : List Lg} {bs : List Bool} {k : Nat} {s : Int} {x : Lg}
theorem exR_shut (hx : ts[k]? = some x) (hb : bs[k]? = some false) : exR ts bs (k + 1) s = exR ts bs k s := by
  rw [exR, hx, hb]
theorem exR_frm (hx : ts[k]? = some x) (hb : bs[k]? = some true) (h : x.frm = s) : exR ts bs (k + 1) s = exR ts bs k s ++ [((k : Int), x.to_)] := by
  rw [exR, hx, hb]; exact if_pos h
theorem exR_to (hx : ts[k]? = some x) (hb : bs[k]? = some true) (h : ¬ x.frm = s) (h2 : x.to_ = s) : exR ts bs (k + 1) s = exR ts bs k s ++ [((k : Int), x.frm)] := by
  rw [exR, hx, hb]; exact (if_neg h).trans (if_pos h2)
theorem exR_no (hx : ts[k]? = some x) (hb : bs[k]? = some true) (h : ¬ x.frm = s) (h2 : ¬ x.to_ = s) : exR ts bs (k + 1) s = exR ts bs k s := by
  rw [exR, hx, hb]; exact (if_neg h).trans (if_neg h2)
end
theorem exR_len (ts : List Lg) (bs : List Bool) (s : Int) : ∀ k, (exR ts bs k s).length ≤ k
  | 0 => Nat.le_refl _
  | k + 1 => by
    have ih := exR_len ts bs s k
    rw [exR]
    split
    · split
      · rw [List.length_append]; simp; omega
      · split
        · rw [List.length_append]; simp; omega
        · omega
    · omega
theorem exR_mem {ts : List Lg} {bs : List Bool} {s : Int} (hne : ∀ x ∈ ts, ¬ x.frm = x.to_) : ∀ k, k ≤ ts.length → ∀ j t, (j, t) ∈ exR ts bs k s ↔ (Opn bs j ∧ j < k ∧ Jn ts j s t)
  | 0, _, j, t => by
    constructor
    · intro h; cases h
    · rintro ⟨-, h, h0, -⟩; omega
  | k + 1, hk, j, t => by
    have ih := exR_mem (bs := bs) (s := s) hne k (by omega) j t
    obtain ⟨x, hx⟩ : ∃ x, ts[k]? = some x := ⟨_, List.getElem?_eq_getElem (by omega)⟩
    have hxn := hne x (List.mem_of_getElem? hx)
    have more : (Opn bs j ∧ j < (k : Int) ∧ Jn ts j s t) → (Opn bs j ∧ j < ((k + 1 : Nat) : Int) ∧ Jn ts j s t) := fun ⟨a, b, c⟩ => ⟨a, by omega, c⟩
    have less_ : (Opn bs j ∧ j < ((k + 1 : Nat) : Int) ∧ Jn ts j s t) → j = k ∨ (Opn bs j ∧ j < (k : Int) ∧ Jn ts j s t) := fun ⟨a, b, c⟩ => by
      by_cases e : j = k
      · exact .inl e
      · exact .inr ⟨a, by omega, c⟩
    have own_ : Jn ts (k : Int) s t → Jo x s t := fun ⟨_, y, hy, hj⟩ => by
      rw [Int.toNat_natCast, hx] at hy
      obtain rfl := Option.some.inj hy
      exact hj
    have mk : Jo x s t → bs[k]? = some true → (Opn bs (k : Int) ∧ (k : Int) < ((k + 1 : Nat) : Int) ∧ Jn ts (k : Int) s t) := fun hj hb => ⟨by unfold Opn; rw [Int.toNat_natCast]; exact hb, by omega, by omega, x, by rw [Int.toNat_natCast]; exact hx, hj⟩
    have shut : ¬ bs[k]? = some true → exR ts bs (k + 1) s = exR ts bs k s := fun hb => by
      rw [exR, hx]
      split
      · rename_i h1 h2; exact absurd h2 hb
      · rfl
    by_cases hb : bs[k]? = some true
    · by_cases hf : x.frm = s
      · rw [exR_frm hx hb hf, List.mem_append, ih, List.mem_singleton]
        constructor
        · rintro (h | h)
          · exact more h
          · obtain ⟨rfl, rfl⟩ := Prod.mk.inj h
            exact mk (.inl ⟨hf, rfl⟩) hb
        · intro h
          rcases less_ h with rfl | h2
          · have := (own_ h.2.2).far
            exact .inr (by rw [show t = x.to_ by omega])
          · exact .inl h2
      · by_cases ht : x.to_ = s
        · rw [exR_to hx hb hf ht, List.mem_append, ih, List.mem_singleton]
          constructor
          · rintro (h | h)
            · exact more h
            · obtain ⟨rfl, rfl⟩ := Prod.mk.inj h
              exact mk (.inr ⟨ht, rfl⟩) hb
          · intro h
            rcases less_ h with rfl | h2
            · have := (own_ h.2.2).far
              exact .inr (by rw [show t = x.frm by omega])
            · exact .inl h2
        · rw [exR_no hx hb hf ht, ih]
          constructor
          · exact more
          · intro h
            rcases less_ h with rfl | h2
            · have := own_ h.2.2
              unfold Jo at this; omega
            · exact h2
    · rw [shut hb, ih]
      constructor
      · exact more
      · intro h
        rcases less_ h with rfl | h2
        · exfalso
          have := h.1
          unfold Opn at this
          rw [Int.toNat_natCast] at this
          exact hb this
        · exact h2
theorem good_ne {ts : List Lg} (hg : goodLg ts = true) : ∀ x ∈ ts, ¬ x.frm = x.to_ := fun x hx => by
  obtain ⟨i, hi⟩ := List.getElem?_of_mem hx
  exact (okLg_lim (goodLg_at hg hi)).2.2.1
section
variable {ts : List Lg} {O : Int → Prop} {z e : Int}
theorem Wy.congr {O' : Int → Prop} (ho : ∀ j s t, O j → Jn ts j s t → O' j) {W : List (Int × Int)} (h : Wy ts O z e W) : Wy ts O' z e W := by
  induction h with
  | one => exact .one
  | more h1 h2 h3 _ ih => exact .more (ho _ _ _ h1 h2) h2 h3 ih
theorem Wy.last {W : List (Int × Int)} (h : Wy ts O z e W) : ∃ Q, W = Q ++ [(z, e)] := by
  induction h with
  | one => exact ⟨[], rfl⟩
  | @more t j s i P h1 h2 h3 _ ih =>
    obtain ⟨Q, hQ⟩ := ih
    exact ⟨(t, j) :: Q, by rw [hQ]; rfl⟩
theorem Wy.bd (hg : goodLg ts = true) (hz : 0 ≤ z ∧ z ≤ 7) {W : List (Int × Int)} (h : Wy ts O z e W) : ∀ s ∈ W.map Prod.fst, 0 ≤ s ∧ s ≤ 7 := by
  induction h with
  | one => intro s hs; rw [show s = z by simpa using hs]; exact hz
  | more h1 h2 h3 _ ih =>
    intro s hs
    rw [List.map_cons] at hs
    rcases List.mem_cons.1 hs with q | q
    · rw [q]; exact (h2.bd hg).1
    · exact ih s q
theorem nodup_len : ∀ (n : Nat) (l : List Int), l.Nodup → (∀ s ∈ l, 0 ≤ s ∧ s < n) → l.length ≤ n
  | 0, l, _, h => by
    cases l with
    | nil => exact Nat.le_refl _
    | cons a l => have := h a (List.mem_cons_self ..); omega
  | n + 1, l, hn, h => by
    by_cases hm : (n : Int) ∈ l
    · have h1 := nodup_len n (l.erase (n : Int)) (hn.erase _) (fun s hs => by
        have h2 := (hn.mem_erase_iff).1 hs
        have := h s h2.2
        have := h2.1
        omega)
      rw [List.length_erase_of_mem hm] at h1
      omega
    · have := nodup_len n l hn (fun s hs => by
        have := h s hs
        have : s ≠ n := fun e => hm (by rw [← e]; exact hs)
        omega)
      omega
theorem Wy.len (hg : goodLg ts = true) (hz : 0 ≤ z ∧ z ≤ 7) {W : List (Int × Int)} (h : Wy ts O z e W) : W.length ≤ 8 := by
  have h1 := nodup_len 8 _ h.nodup (fun s hs => by have := h.bd hg hz s hs; omega)
  rwa [List.length_map] at h1
/-- behind a way no other one of the kind that is asked for -/
def NoWay (ts : List Lg) (O : Int → Prop) (z e st : Int) (P : List (Int × Int)) : Prop := ∀ Q, Wy ts O z e (Q ++ P) → ¬ hd (Q ++ P) = st
/-- when all exits have been tried -/
theorem shut_all {st s i : Int} {P : List (Int × Int)} (hne : ¬ s = st) (h : ∀ j t, O j → Jn ts j s t → t ∉ ((s, i) :: P).map Prod.fst → NoWay ts O z e st ((t, j) :: (s, i) :: P)) : NoWay ts O z e st ((s, i) :: P) := by
  intro Q hQ hh
  rcases List.eq_nil_or_concat Q with q | ⟨Q', p, q⟩
  · rw [q] at hh; exact hne hh
  · obtain ⟨t, j⟩ := p
    have e1 : Q ++ (s, i) :: P = Q' ++ (t, j) :: (s, i) :: P := by rw [q]; simp
    rw [e1] at hQ hh
    have h1 := Wy.tail (by simp) hQ
    cases h1 with
    | more h1 h2 h3 _ => exact h j t h1 h2.symm h3 Q' hQ hh
theorem shut_seen {st t j : Int} {P : List (Int × Int)} (h : t ∈ P.map Prod.fst) : NoWay ts O z e st ((t, j) :: P) := by
  intro Q hQ
  exfalso
  have h1 := (Wy.tail (by simp) hQ).nodup
  rw [List.map_cons, List.nodup_cons] at h1
  exact h1.1 h
end
/-- the loop of a closing leg as the program has it -/
theorem op_tree {ts : List Lg} {j s t : Int} (hg : goodLg ts = true) (h : Opn (mks 12 (net ts).tr) j) (hj : Jn ts j s t) : j ∈ (net ts).tr := by
  obtain ⟨h0, x, hx, -⟩ := hj
  obtain ⟨q, rfl⟩ := Int.eq_ofNat_of_zero_le h0
  unfold Opn at h
  rw [Int.toNat_natCast] at h hx
  have hq : q < 12 := by have := lt_at h; rwa [mks_len] at this
  rw [mks_at _ hq] at h
  exact mem_iff.1 (Option.some.inj h)
theorem tree_op {ts : List Lg} {j : Int} (hg : goodLg ts = true) (h : j ∈ (net ts).tr) : Opn (mks 12 (net ts).tr) j := by
  have hb := (ok_net hg).2.2.2.2.1 j h
  obtain ⟨q, rfl⟩ := Int.eq_ofNat_of_zero_le hb.1
  unfold Opn
  rw [Int.toNat_natCast, mks_at _ (show q < 12 by omega), mem_iff.2 h]
theorem wy_tree {ts : List Lg} {i : Int} (h : lpOk ts i = true) {W : List (Int × Int)} (hW : Wy ts (Opn (mks 12 (net ts).tr)) (legAt ts i).frm i W) (hh : hd W = (legAt ts i).to_) : W.map Prod.snd = lpIds ts i ∧ W.map Prod.fst = lpSt ts i := by
  have hg := (lp_leg h).1
  obtain ⟨l, h1, h2, h3⟩ := (hW.congr (O' := (· ∈ (net ts).tr)) (fun j s t a b => op_tree hg a b)).nb0
  rw [hh] at h2 h3
  have e := path_is h h3
  rw [lpIds_is h, lpSt_is h, ← e]
  exact ⟨h1, h2⟩
theorem wy_tree_some {ts : List Lg} {i : Int} (h : lpOk ts i = true) : ∃ W, Wy ts (Opn (mks 12 (net ts).tr)) (legAt ts i).frm i W ∧ hd W = (legAt ts i).to_ := by
  obtain ⟨hg, h0, h1, x, hx, hl, ho, hf, ht, hn⟩ := lp_leg h
  obtain ⟨W, hW, e⟩ := wy_of_reach (legAt ts i).frm i (tree_joins (a := (legAt ts i).to_) (by rw [hl]; exact ht) (by rw [hl]; exact hf))
  exact ⟨W, hW.congr (fun j s t a _ => tree_op hg a), e⟩
/-- bridges as the program has them -/
def otherB (n k : Nat) : List Bool := (List.range 12).map fun q => decide (q < n) && !decide (q = k)
theorem op_other {ts : List Lg} {n k : Nat} (hL : ts.length = n) (hn : n ≤ 12) : ∀ x, By ts (Opn (otherB n k)) x ↔ By ts (other k) x := fun x => by
  constructor
  · rintro ⟨i, hi, h0, hx⟩
    refine ⟨i, ?_, h0, hx⟩
    obtain ⟨q, rfl⟩ := Int.eq_ofNat_of_zero_le h0
    unfold Opn otherB at hi
    rw [Int.toNat_natCast, List.getElem?_map] at hi
    obtain ⟨a, ha, hb⟩ := Option.map_eq_some_iff.1 hi
    have : a = q := by have := (List.getElem?_eq_some_iff.1 ha).2; simpa using this.symm
    subst this
    unfold other
    simp at hb
    omega
  · rintro ⟨i, hi, h0, hx⟩
    refine ⟨i, ?_, h0, hx⟩
    obtain ⟨q, rfl⟩ := Int.eq_ofNat_of_zero_le h0
    have hq : q < ts.length := by rw [Int.toNat_natCast] at hx; exact lt_at hx
    unfold other at hi
    unfold Opn otherB
    rw [Int.toNat_natCast, List.getElem?_map, List.getElem?_range (by omega)]
    simp; omega
theorem need_is {ts : List Lg} (hg : goodLg ts = true) {k : Nat} {x : Lg} (hx : ts[k]? = some x) (hf : x.frm ∈ (net ts).ps) : brB ts k = true ↔ ∀ W, Wy ts (Opn (otherB ts.length k)) x.frm (k : Int) W → ¬ hd W = x.to_ := by
  have hb := br_iff hg hx hf
  have h12 := goodLg_len hg
  constructor
  · intro h W hW hh
    have h1 := hW.reach
    rw [hh] at h1
    have h2 := hb.2 (h1.mono (fun y hy => (op_other rfl h12 y).1 hy))
    rw [h] at h2; cases h2
  · intro h
    cases q : brB ts k
    · obtain ⟨W, hW, e⟩ := wy_of_reach x.frm (k : Int) ((hb.1 q).mono (fun y hy => (op_other rfl h12 y).2 hy))
      exact absurd e (h W hW)
    · rfl
/-- the shifts and lengths of a way, added up -/
def sumW (ts : List Lg) : List (Int × Int) → Sf → Sf
  | [], z => z
  | (s, i) :: W, z => sumW ts W (add3 z (along ts i s))
theorem sumW_is (ts : List Lg) (e : Int) : ∀ (l : List Int) (a : Int) (W : List (Int × Int)) (z : Sf), W.map Prod.fst = stops ts a l → W.map Prod.snd = l ++ [e] → sumW ts W z = sumS ts a (l ++ [e]) z
  | [], a, W, z, h1, h2 => by
    cases W with
    | nil => cases h2
    | cons p W =>
      obtain ⟨s, i⟩ := p
      rw [List.map_cons] at h1 h2
      injection h1 with a1 a2
      injection h2 with b1 b2
      have : W = [] := List.map_eq_nil_iff.1 a2
      simp only [] at a1 b1
      rw [this, a1, b1]; rfl
  | j :: l, a, W, z, h1, h2 => by
    cases W with
    | nil => cases h2
    | cons p W =>
      obtain ⟨s, i⟩ := p
      rw [stops, List.map_cons] at h1
      rw [List.map_cons, List.cons_append] at h2
      injection h1 with a1 a2
      injection h2 with b1 b2
      simp only [] at a1 b1
      rw [a1, b1, List.cons_append, sumW, sumS]
      exact sumW_is ts e l _ W _ a2 b2
theorem wy_mis {ts : List Lg} {i : Int} (h : lpOk ts i = true) {W : List (Int × Int)} (h1 : W.map Prod.snd = lpIds ts i) (h2 : W.map Prod.fst = lpSt ts i) : sumW ts W zero3 = misV ts i := by
  rw [lpIds_is h] at h1
  rw [lpSt_is h] at h2
  rw [sumW_is ts i _ _ W zero3 h2 h1]
  unfold misV
  rw [if_pos h, lpIds_is h]
end Go.Proofs.YtkeepfkjhcmhlaaDoor.lp
