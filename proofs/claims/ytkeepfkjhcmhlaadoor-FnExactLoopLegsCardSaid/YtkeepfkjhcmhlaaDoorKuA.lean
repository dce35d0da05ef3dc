/-
  Trees of legs and the ways along them (pure mathematics).
  Conditions: none but those that a theorem names.
-/
import Derived.Test.YtkeepfkjhcmhlaaDoorNtR
namespace Go.Proofs.YtkeepfkjhcmhlaaDoor.lp
open Go.RowKit
open reads base ty lg hs nt
set_option linter.unusedVariables false

/-- a leg joins two stations -/
def Jo (x : Lg) (a b : Int) : Prop := (x.frm = a ∧ x.to_ = b) ∨ (x.to_ = a ∧ x.frm = b)
theorem Jo.symm {x : Lg} {a b : Int} (h : Jo x a b) : Jo x b a := by
  rcases h with ⟨h1, h2⟩ | ⟨h1, h2⟩
  · exact .inr ⟨h2, h1⟩
  · exact .inl ⟨h2, h1⟩
theorem Jo.far {x : Lg} {a b : Int} (h : Jo x a b) : b = x.frm + x.to_ - a := by unfold Jo at h; omega
theorem Jo.uniq {x : Lg} {a b c : Int} (h : Jo x a b) (k : Jo x a c) : b = c := by rw [h.far, k.far]
theorem Jo.ends {x : Lg} {a b c d : Int} (h : Jo x a b) (k : Jo x c d) : (c = a ∧ d = b) ∨ (c = b ∧ d = a) := by unfold Jo at h k; omega
/-- the leg with an index joins two stations -/
def Jn (ts : List Lg) (i a b : Int) : Prop := 0 ≤ i ∧ ∃ x, ts[i.toNat]? = some x ∧ Jo x a b
theorem Jn.symm {ts : List Lg} {i a b : Int} (h : Jn ts i a b) : Jn ts i b a := by
  obtain ⟨h0, x, hx, hj⟩ := h
  exact ⟨h0, x, hx, hj.symm⟩
theorem Jn.ends {ts : List Lg} {i a b c d : Int} (h : Jn ts i a b) (k : Jn ts i c d) : (c = a ∧ d = b) ∨ (c = b ∧ d = a) := by
  obtain ⟨h0, x, hx, hj⟩ := h
  obtain ⟨-, y, hy, kj⟩ := k
  rw [hx] at hy
  obtain rfl := Option.some.inj hy
  exact hj.ends kj
theorem Jn.uniq {ts : List Lg} {i a b c : Int} (h : Jn ts i a b) (k : Jn ts i a c) : b = c := by
  obtain ⟨h0, x, hx, hj⟩ := h
  obtain ⟨-, y, hy, kj⟩ := k
  rw [hx] at hy
  obtain rfl := Option.some.inj hy
  exact hj.uniq kj

/-- stations and the legs that placed them, one after the other -/
inductive Grow (ts : List Lg) : List Int → List Int → Prop
  | zero : Grow ts [0] []
  | more {V E : List Int} {i p c : Int} : Grow ts V E → p ∈ V → c ∉ V → Jn ts i p c → Grow ts (c :: V) (i :: E)
theorem Grow.ends {ts : List Lg} {V E : List Int} (h : Grow ts V E) : ∀ {i a b : Int}, i ∈ E → Jn ts i a b → a ∈ V ∧ b ∈ V := by
  induction h with
  | zero => intro i a b hi; cases hi
  | more hg hp hc hj ih =>
    intro j a b hi hk
    rcases List.mem_cons.1 hi with e | hi
    · rw [e] at hk
      rcases hj.ends hk with ⟨e1, e2⟩ | ⟨e1, e2⟩
      · rw [e1, e2]; exact ⟨List.mem_cons_of_mem _ hp, List.mem_cons_self ..⟩
      · rw [e1, e2]; exact ⟨List.mem_cons_self .., List.mem_cons_of_mem _ hp⟩
    · have := ih hi hk
      exact ⟨List.mem_cons_of_mem _ this.1, List.mem_cons_of_mem _ this.2⟩
theorem Grow.new {ts : List Lg} {V E : List Int} (h : Grow ts V E) {i p c : Int} (hc : c ∉ V) (hj : Jn ts i p c) : i ∉ E := fun hi => hc (h.ends hi hj).2
theorem Grow.pos {ts : List Lg} {V E : List Int} (h : Grow ts V E) : ∀ i ∈ E, 0 ≤ i ∧ ∃ x, ts[i.toNat]? = some x := by
  induction h with
  | zero => intro i hi; cases hi
  | more hg hp hc hj ih =>
    intro j hi
    rcases List.mem_cons.1 hi with e | hi
    · rw [e]; obtain ⟨h0, x, hx, -⟩ := hj; exact ⟨h0, x, hx⟩
    · exact ih j hi

/-- a way by legs of E from a to b that never turns back; 'last' is the leg before it -/
def NB (ts : List Lg) (E : List Int) : Int → Int → List Int → Int → Prop
  | _, a, [], b => a = b
  | last, a, i :: l, b => i ∈ E ∧ i ≠ last ∧ ∃ o, Jn ts i a o ∧ NB ts E i o l b
theorem NB.weak {ts : List Lg} {E : List Int} {last z a b : Int} {l : List Int} (h : NB ts E last a l b) (hz : ∀ i ∈ E, i ≠ z) : NB ts E z a l b := by
  cases l with
  | nil => exact h
  | cons i l => exact ⟨h.1, hz i h.1, h.2.2⟩
theorem NB.mem {ts : List Lg} {E : List Int} : ∀ {l : List Int} {last a b : Int}, NB ts E last a l b → ∀ j ∈ l, j ∈ E
  | [], _, _, _, _, j, hj => by cases hj
  | i :: l, last, a, b, h, j, hj => by
    obtain ⟨h1, -, o, -, h2⟩ := h
    rcases List.mem_cons.1 hj with e | e
    · rw [e]; exact h1
    · exact NB.mem h2 j e
theorem NB.congr {ts : List Lg} {E F : List Int} (he : ∀ i, i ∈ E → i ∈ F) : ∀ {l : List Int} {last a b : Int}, NB ts E last a l b → NB ts F last a l b
  | [], _, _, _, h => h
  | i :: l, last, a, b, h => by
    obtain ⟨h1, hn, o, ho, h2⟩ := h
    exact ⟨he i h1, hn, o, ho, NB.congr he h2⟩

section
variable {ts : List Lg} {V E : List Int} {i p c : Int}
theorem leaf_end (hg : Grow ts V E) (hc : c ∉ V) {l : List Int} {b : Int} (h : NB ts (i :: E) i c l b) : l = [] ∧ b = c := by
  cases l with
  | nil => exact ⟨rfl, h.symm⟩
  | cons k l =>
    obtain ⟨h1, hn, o, ho, -⟩ := h
    rcases List.mem_cons.1 h1 with e | e
    · exact absurd e hn
    · exact absurd (hg.ends e ho).1 hc
theorem grow_in (hg : Grow ts V E) (hc : c ∉ V) (hj : Jn ts i p c) : ∀ {l : List Int} {last a b : Int}, a ≠ c → b ≠ c → NB ts (i :: E) last a l b → NB ts E last a l b
  | [], _, _, _, _, _, h => h
  | j :: l, last, a, b, ha, hb, h => by
    obtain ⟨h1, hn, o, ho, h2⟩ := h
    rcases List.mem_cons.1 h1 with e | e
    · rw [e] at ho h2
      rcases hj.ends ho with ⟨e1, e2⟩ | ⟨e1, e2⟩
      · rw [e2] at h2
        exact absurd (leaf_end hg hc h2).2 hb
      · exact absurd e1 ha
    · have k := hg.ends e ho
      exact ⟨e, hn, o, ho, grow_in hg hc hj (fun q => hc (by rw [← q]; exact k.2)) hb h2⟩
theorem grow_from (hg : Grow ts V E) (hp : p ∈ V) (hc : c ∉ V) (hj : Jn ts i p c) {l : List Int} {last b : Int} (h : NB ts (i :: E) last c l b) (hl : l ≠ []) : ∃ l', l = i :: l' ∧ NB ts (i :: E) i p l' b := by
  cases l with
  | nil => exact absurd rfl hl
  | cons j l =>
    obtain ⟨h1, hn, o, ho, h2⟩ := h
    rcases List.mem_cons.1 h1 with e | e
    · rw [e] at ho h2
      rcases hj.ends ho with ⟨e1, e2⟩ | ⟨e1, e2⟩
      · exact absurd (by rw [e1]; exact hp) hc
      · rw [e2] at h2; exact ⟨l, by rw [e], h2⟩
    · exact absurd (hg.ends e ho).1 hc
theorem grow_to (hg : Grow ts V E) (hc : c ∉ V) (hj : Jn ts i p c) : ∀ {l : List Int} {last a : Int}, a ≠ c → NB ts (i :: E) last a l c → ∃ l', l = l' ++ [i] ∧ NB ts E last a l' p
  | [], _, a, ha, h => absurd h ha
  | j :: l, last, a, ha, h => by
    obtain ⟨h1, hn, o, ho, h2⟩ := h
    rcases List.mem_cons.1 h1 with e | e
    · rw [e] at ho h2
      rcases hj.ends ho with ⟨e1, e2⟩ | ⟨e1, e2⟩
      · rw [e2] at h2
        have k := (leaf_end hg hc h2).1
        exact ⟨[], by rw [e, k]; rfl, e1⟩
      · exact absurd e1 ha
    · have k := hg.ends e ho
      obtain ⟨l', e3, h3⟩ := grow_to hg hc hj (fun q => hc (by rw [← q]; exact k.2)) h2
      exact ⟨j :: l', by rw [e3]; rfl, e, hn, o, ho, h3⟩
end
theorem Grow.weak {ts : List Lg} {V E : List Int} (hg : Grow ts V E) {l : List Int} {last a b : Int} (h : NB ts E last a l b) : NB ts E (-1) a l b :=
  h.weak (fun i hi => by have := (hg.pos i hi).1; omega)
theorem grow_round {ts : List Lg} {V E : List Int} {i p c : Int} (hg : Grow ts V E) (hp : p ∈ V) (hc : c ∉ V) (hj : Jn ts i p c) (ih : ∀ {l m : List Int} {a b : Int}, NB ts E (-1) a l b → NB ts E (-1) a m b → l = m) {l : List Int} {last : Int} (h : NB ts (i :: E) last c l c) : l = [] := by
  cases hl : l with
  | nil => rfl
  | cons j l0 =>
    exfalso
    obtain ⟨l1, e1, h1⟩ := grow_from hg hp hc hj h (by rw [hl]; intro q; cases q)
    have hpc : p ≠ c := fun q => hc (by rw [← q]; exact hp)
    obtain ⟨l2, e2, h2⟩ := grow_to hg hc hj hpc h1
    have e3 : l2 = [] := ih (hg.weak h2) (show NB ts E (-1) p [] p from rfl)
    rw [e2, e3] at h1
    exact h1.2.1 rfl
theorem Grow.uniq {ts : List Lg} {V E : List Int} (h : Grow ts V E) : ∀ {l m : List Int} {a b : Int}, NB ts E (-1) a l b → NB ts E (-1) a m b → l = m := by
  induction h with
  | zero =>
    intro l m a b h1 h2
    cases l with
    | nil => cases m with
      | nil => rfl
      | cons j m => cases h2.1
    | cons j l => cases h1.1
  | @more V E i p c hg hp hc hj ih =>
    intro l m a b h1 h2
    have hpc : p ≠ c := fun q => hc (by rw [← q]; exact hp)
    by_cases ha : a = c
    · rw [ha] at h1 h2
      by_cases hb : b = c
      · rw [hb] at h1 h2
        rw [grow_round hg hp hc hj ih h1, grow_round hg hp hc hj ih h2]
      · have nl : ∀ {q : List Int}, NB ts (i :: E) (-1) c q b → q ≠ [] := fun {q} hq e => by
          rw [e] at hq; exact hb hq.symm
        obtain ⟨l1, e1, k1⟩ := grow_from hg hp hc hj h1 (nl h1)
        obtain ⟨m1, e2, k2⟩ := grow_from hg hp hc hj h2 (nl h2)
        rw [e1, e2, ih (hg.weak (grow_in hg hc hj hpc hb k1)) (hg.weak (grow_in hg hc hj hpc hb k2))]
    · by_cases hb : b = c
      · rw [hb] at h1 h2
        obtain ⟨l1, e1, k1⟩ := grow_to hg hc hj ha h1
        obtain ⟨m1, e2, k2⟩ := grow_to hg hc hj ha h2
        rw [e1, e2, ih k1 k2]
      · exact ih (grow_in hg hc hj ha hb h1) (grow_in hg hc hj ha hb h2)
theorem Grow.once {ts : List Lg} {V E : List Int} (h : Grow ts V E) : ∀ {l : List Int} {last a b : Int}, NB ts E last a l b → l.Nodup ∧ l.length ≤ E.length := by
  induction h with
  | zero =>
    intro l last a b h1
    cases l with
    | nil => exact ⟨List.nodup_nil, Nat.le_refl _⟩
    | cons j l => cases h1.1
  | @more V E i p c hg hp hc hj ih =>
    intro l last a b h1
    have hpc : p ≠ c := fun q => hc (by rw [← q]; exact hp)
    have hn : i ∉ E := hg.new hc hj
    by_cases ha : a = c
    · rw [ha] at h1
      by_cases hb : b = c
      · rw [hb] at h1
        rw [grow_round hg hp hc hj hg.uniq h1]; exact ⟨List.nodup_nil, Nat.zero_le _⟩
      · obtain ⟨l1, e1, k1⟩ := grow_from hg hp hc hj h1 (fun e => by rw [e] at h1; exact hb h1.symm)
        have k2 := grow_in hg hc hj hpc hb k1
        have := ih k2
        rw [e1]
        exact ⟨List.nodup_cons.2 ⟨fun q => hn (k2.mem i q), this.1⟩, by simp; omega⟩
    · by_cases hb : b = c
      · rw [hb] at h1
        obtain ⟨l1, e1, k1⟩ := grow_to hg hc hj ha h1
        have := ih k1
        rw [e1]
        refine ⟨List.nodup_append.2 ⟨this.1, by simp, fun x hx y hy e => ?_⟩, by simp; omega⟩
        have : y = i := by simpa using hy
        exact hn (k1.mem i (by rw [← this, ← e]; exact hx))
      · have := ih (grow_in hg hc hj ha hb h1)
        exact ⟨this.1, by simp; omega⟩

/-- what is placed has grown so -/
def Gr (ts : List Lg) (s : Net) : Prop := ∃ V E, Grow ts V E ∧ (∀ v, v ∈ V ↔ v ∈ s.ps) ∧ (∀ i, i ∈ E ↔ i ∈ s.tr) ∧ E.length = s.tr.length
theorem gr_start (ts : List Lg) : Gr ts nt.start := ⟨[0], [], .zero, fun v => Iff.rfl, fun i => Iff.rfl, rfl⟩
theorem gr_leg {ts : List Lg} {s : Net} {k : Nat} {x : Lg} (h : Gr ts s) (hx : ts[k]? = some x) : Gr ts (leg1 x k s) := by
  obtain ⟨V, E, hg, hV, hE, hl⟩ := h
  have grow : ∀ {p c : Int} {P : List Sf}, p ∈ s.ps → c ∉ s.ps → Jo x p c → Gr ts ⟨P, put s.ps c, put s.tr (k : Int)⟩ := fun {p c P} hp hc hj => by
    have hc' : c ∉ V := fun q => hc ((hV c).1 q)
    have hJ : Jn ts (k : Int) p c := ⟨by omega, x, by rw [Int.toNat_natCast]; exact hx, hj⟩
    have hn := hg.new hc' hJ
    refine ⟨c :: V, (k : Int) :: E, hg.more ((hV p).2 hp) hc' hJ, fun v => ?_, fun i => ?_, ?_⟩
    · rw [List.mem_cons, hV v]; exact mem_put.symm
    · rw [List.mem_cons, hE i]; exact mem_put.symm
    · show _ = (put s.tr (k : Int)).length
      rw [put_len_new (fun q => hn ((hE _).2 q)), List.length_cons, hl]
  cases ha : mem s.ps x.frm
  · cases hb : mem s.ps x.to_
    · rw [leg1_no (by rw [does_marks ha hb]; rfl)]; exact ⟨V, E, hg, hV, hE, hl⟩
    · rw [leg1_bwd ha hb]
      exact grow (mem_iff.1 hb) (fun q => by rw [mem_iff.2 q] at ha; cases ha) (.inr ⟨rfl, rfl⟩)
  · cases hb : mem s.ps x.to_
    · rw [leg1_fwd ha hb]
      exact grow (mem_iff.1 ha) (fun q => by rw [mem_iff.2 q] at hb; cases hb) (.inl ⟨rfl, rfl⟩)
    · rw [leg1_no (by rw [does_marks ha hb]; rfl)]; exact ⟨V, E, hg, hV, hE, hl⟩
theorem gr_legs {ts : List Lg} {s : Net} (h : Gr ts s) : ∀ k, Gr ts (legsN ts s k)
  | 0 => h
  | k + 1 => by
    cases e : ts[k]? with
    | none => have e2 : legsN ts s (k + 1) = legsN ts s k := by show (match ts[k]? with | some x => _ | none => _) = _; rw [e]
              rw [e2]; exact gr_legs h k
    | some x => rw [legsN_succ e]; exact gr_leg (gr_legs h k) e
theorem gr_passes (ts : List Lg) : ∀ k, Gr ts (passes ts k)
  | 0 => gr_start ts
  | k + 1 => gr_legs (gr_passes ts k) _
theorem gr_net (ts : List Lg) : Gr ts (net ts) := gr_passes ts 9
theorem nb_uniq {ts : List Lg} {l m : List Int} {a b : Int} (h : NB ts (net ts).tr (-1) a l b) (k : NB ts (net ts).tr (-1) a m b) : l = m := by
  obtain ⟨V, E, hg, -, hE, -⟩ := gr_net ts
  exact hg.uniq (h.congr fun i => (hE i).2) (k.congr fun i => (hE i).2)
theorem nb_once {ts : List Lg} {l : List Int} {last a b : Int} (h : NB ts (net ts).tr last a l b) : l.Nodup ∧ l.length ≤ (net ts).tr.length := by
  obtain ⟨V, E, hg, -, hE, hl⟩ := gr_net ts
  rw [← hl]
  exact hg.once (h.congr fun i => (hE i).2)
theorem nb_weak {ts : List Lg} {l : List Int} {last a b : Int} (h : NB ts (net ts).tr last a l b) : NB ts (net ts).tr (-1) a l b := by
  obtain ⟨V, E, hg, -, hE, -⟩ := gr_net ts
  exact h.weak (fun i hi => by have := (hg.pos i ((hE i).2 hi)).1; omega)
theorem tr_pos {ts : List Lg} {i : Int} (h : i ∈ (net ts).tr) : 0 ≤ i ∧ ∃ x, ts[i.toNat]? = some x := by
  obtain ⟨V, E, hg, -, hE, -⟩ := gr_net ts
  exact hg.pos i ((hE i).2 h)
theorem tr_ends {ts : List Lg} {i a b : Int} (h : i ∈ (net ts).tr) (hj : Jn ts i a b) : a ∈ (net ts).ps ∧ b ∈ (net ts).ps := by
  obtain ⟨V, E, hg, hV, hE, -⟩ := gr_net ts
  have k := hg.ends ((hE i).2 h) hj
  exact ⟨(hV a).1 k.1, (hV b).1 k.2⟩

/-- one comes from a station to another one by legs of L -/
inductive Rc (L : Lg → Prop) : Int → Int → Prop
  | refl (a : Int) : Rc L a a
  | step {x : Lg} {a o b : Int} : L x → Jo x a o → Rc L o b → Rc L a b
theorem Rc.one {L : Lg → Prop} {x : Lg} {a b : Int} (h : L x) (hj : Jo x a b) : Rc L a b := .step h hj (.refl b)
theorem Rc.trans {L : Lg → Prop} {a b c : Int} (h : Rc L a b) (k : Rc L b c) : Rc L a c := by
  induction h with
  | refl a => exact k
  | step hx hj _ ih => exact .step hx hj (ih k)
theorem Rc.symm {L : Lg → Prop} {a b : Int} (h : Rc L a b) : Rc L b a := by
  induction h with
  | refl a => exact .refl a
  | step hx hj _ ih => exact ih.trans (.one hx hj.symm)
theorem Rc.mono {L M : Lg → Prop} (hm : ∀ x, L x → M x) {a b : Int} (h : Rc L a b) : Rc M a b := by
  induction h with
  | refl a => exact .refl a
  | step hx hj _ ih => exact .step (hm _ hx) hj ih
/-- a way along which every leg can be replaced -/
theorem Rc.over {L M : Lg → Prop} (hm : ∀ x, L x → Rc M x.frm x.to_) {a b : Int} (h : Rc L a b) : Rc M a b := by
  induction h with
  | refl a => exact .refl a
  | step hx hj _ ih =>
    rcases hj with ⟨e1, e2⟩ | ⟨e1, e2⟩
    · rw [← e1]; rw [← e2] at ih; exact (hm _ hx).trans ih
    · rw [← e1]; rw [← e2] at ih; exact (hm _ hx).symm.trans ih
/-- legs by their indices -/
def By (ts : List Lg) (O : Int → Prop) (x : Lg) : Prop := ∃ i : Int, O i ∧ 0 ≤ i ∧ ts[i.toNat]? = some x
theorem Grow.reach {ts : List Lg} {V E : List Int} (h : Grow ts V E) : ∀ v ∈ V, Rc (By ts (· ∈ E)) 0 v := by
  induction h with
  | zero =>
    intro v hv
    have : v = 0 := by simpa using hv
    rw [this]; exact .refl 0
  | @more V E i p c hg hp hc hj ih =>
    intro v hv
    have up : ∀ x, By ts (· ∈ E) x → By ts (· ∈ i :: E) x := fun x ⟨k, hk, r⟩ => ⟨k, List.mem_cons_of_mem _ hk, r⟩
    rcases List.mem_cons.1 hv with e | e
    · rw [e]
      obtain ⟨h0, x, hx, hJ⟩ := hj
      exact ((ih p hp).mono up).trans (.one ⟨i, List.mem_cons_self .., h0, hx⟩ hJ)
    · exact (ih v e).mono up
theorem tree_reach {ts : List Lg} {v : Int} (h : v ∈ (net ts).ps) : Rc (By ts (· ∈ (net ts).tr)) 0 v := by
  obtain ⟨V, E, hg, hV, hE, -⟩ := gr_net ts
  exact (hg.reach v ((hV v).2 h)).mono (fun x ⟨k, hk, r⟩ => ⟨k, (hE k).1 hk, r⟩)
theorem reach_placed {ts : List Lg} (hg : goodLg ts = true) {a b : Int} (h : Rc (· ∈ ts) a b) : a ∈ (net ts).ps → b ∈ (net ts).ps := by
  induction h with
  | refl a => exact id
  | @step x a o b hx hj _ ih =>
    intro ha
    obtain ⟨i, hi⟩ := List.getElem?_of_mem hx
    have k := net_ends hg hi
    apply ih
    rcases hj with ⟨e1, e2⟩ | ⟨e1, e2⟩
    · rw [← e2]; rw [← e1] at ha; exact mem_iff.1 (by rw [← k]; exact mem_iff.2 ha)
    · rw [← e2]; rw [← e1] at ha; exact mem_iff.1 (by rw [k]; exact mem_iff.2 ha)
theorem placed_iff {ts : List Lg} (hg : goodLg ts = true) (v : Int) : v ∈ (net ts).ps ↔ Rc (· ∈ ts) 0 v :=
  ⟨fun h => (tree_reach h).mono (fun x ⟨k, _, _, r⟩ => List.mem_of_getElem? r), fun h => reach_placed hg h (ok_net hg).2.2.2.2.2.1⟩

/-- ways as the program has them, from their first station on to the last step (z, e); no station twice -/
inductive Wy (ts : List Lg) (O : Int → Prop) (z e : Int) : List (Int × Int) → Prop
  | one : Wy ts O z e [(z, e)]
  | more {t j s i : Int} {P : List (Int × Int)} : O j → Jn ts j t s → t ∉ ((s, i) :: P).map Prod.fst → Wy ts O z e ((s, i) :: P) → Wy ts O z e ((t, j) :: (s, i) :: P)
def hd : List (Int × Int) → Int
  | [] => 0
  | p :: _ => p.1
section
variable {ts : List Lg} {O : Int → Prop} {z e : Int}
theorem Wy.ne {W : List (Int × Int)} (h : Wy ts O z e W) : W ≠ [] := by cases h <;> simp
theorem Wy.nodup {W : List (Int × Int)} (h : Wy ts O z e W) : (W.map Prod.fst).Nodup := by
  induction h with
  | one => simp
  | more _ _ hn _ ih => rw [List.map_cons]; exact List.nodup_cons.2 ⟨hn, ih⟩
theorem Wy.tail : ∀ {Q P : List (Int × Int)}, P ≠ [] → Wy ts O z e (Q ++ P) → Wy ts O z e P
  | [], _, _, h => h
  | [q], P, hp, h => by
    cases P with
    | nil => exact absurd rfl hp
    | cons p P => cases h with
      | more _ _ _ h => exact h
  | q :: r :: Q, P, hp, h => by
    cases h with
    | more _ _ _ h => exact Wy.tail (Q := _ :: Q) hp h
theorem Wy.reach {W : List (Int × Int)} (h : Wy ts O z e W) : Rc (By ts O) (hd W) z := by
  induction h with
  | one => exact .refl z
  | more ho hj _ _ ih =>
    obtain ⟨h0, x, hx, hJ⟩ := hj
    exact .step ⟨_, ho, h0, hx⟩ hJ ih
theorem Wy.from {W : List (Int × Int)} (h : Wy ts O z e W) : ∀ a, a ∈ W.map Prod.fst → ∃ W', Wy ts O z e W' ∧ hd W' = a := by
  induction h with
  | one => intro a ha; exact ⟨_, .one, by simpa [hd] using (show a = z by simpa using ha).symm⟩
  | @more t j s i P ho hj hn h ih =>
    intro a ha
    rw [List.map_cons] at ha
    rcases List.mem_cons.1 ha with e1 | e1
    · exact ⟨_, .more ho hj hn h, e1.symm⟩
    · exact ih a e1
/-- where one comes, one comes without a station twice -/
theorem wy_of_reach (z e : Int) {a : Int} (h : Rc (By ts O) a z) : ∃ W, Wy ts O z e W ∧ hd W = a := by
  induction h with
  | refl z => exact ⟨_, .one, rfl⟩
  | @step x a o z hx hj _ ih =>
    obtain ⟨W, hW, ho⟩ := ih
    by_cases ha : a ∈ W.map Prod.fst
    · exact hW.from a ha
    · obtain ⟨i, hi, h0, hx⟩ := hx
      cases W with
      | nil => exact absurd rfl hW.ne
      | cons p P =>
        obtain ⟨s, k⟩ := p
        have es : s = o := ho
        exact ⟨(a, i) :: (s, k) :: P, .more hi ⟨h0, x, hx, by rw [es]; exact hj⟩ ha hW, rfl⟩
end
/-- the station behind a leg -/
def farOf (ts : List Lg) (i a : Int) : Int := match ts[i.toNat]? with
  | some x => x.frm + x.to_ - a
  | none => 0
theorem farOf_is {ts : List Lg} {i a b : Int} (h : Jn ts i a b) : farOf ts i a = b := by
  obtain ⟨h0, x, hx, hj⟩ := h
  unfold farOf
  rw [hx]; exact hj.far.symm
/-- the stations of a way -/
def stops (ts : List Lg) : Int → List Int → List Int
  | a, [] => [a]
  | a, i :: l => a :: stops ts (farOf ts i a) l
theorem stops_len (ts : List Lg) : ∀ (l : List Int) (a : Int), (stops ts a l).length = l.length + 1
  | [], _ => rfl
  | i :: l, a => by rw [stops, List.length_cons, stops_len ts l, List.length_cons]
/-- a way of the program by legs of E never turns back -/
theorem Wy.nb {ts : List Lg} {E : List Int} {z e : Int} {W : List (Int × Int)} (h : Wy ts (· ∈ E) z e W) : ∃ l, W.map Prod.snd = l ++ [e] ∧ W.map Prod.fst = stops ts (hd W) l ∧ ∀ last, (∀ t, Jn ts last t (hd W) → t ∉ W.map Prod.fst) → NB ts E last (hd W) l z := by
  induction h with
  | one => exact ⟨[], rfl, rfl, fun _ _ => rfl⟩
  | @more t j s i P ho hj hn h ih =>
    obtain ⟨l, e1, e2, h3⟩ := ih
    refine ⟨j :: l, by rw [List.map_cons, e1]; rfl, ?_, fun last hl => ⟨ho, fun q => ?_, s, hj, h3 j (fun t' ht => ?_)⟩⟩
    · rw [List.map_cons, e2]
      show _ = t :: stops ts (farOf ts j t) l
      rw [farOf_is hj]; rfl
    · have hj' := hj
      rw [q] at hj'
      exact hl s hj'.symm (by simp)
    · have : t' = t := (ht.symm).uniq hj.symm
      rw [this]; exact hn
theorem Wy.nb0 {ts : List Lg} {E : List Int} {z e : Int} {W : List (Int × Int)} (h : Wy ts (· ∈ E) z e W) : ∃ l, W.map Prod.snd = l ++ [e] ∧ W.map Prod.fst = stops ts (hd W) l ∧ NB ts E (-1) (hd W) l z := by
  obtain ⟨l, e1, e2, h⟩ := h.nb
  exact ⟨l, e1, e2, h (-1) (fun t ht => absurd ht.1 (by omega))⟩
#print axioms nb_uniq
#print axioms Wy.nb0
#print axioms placed_iff
end Go.Proofs.YtkeepfkjhcmhlaaDoor.lp
