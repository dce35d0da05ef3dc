/-
  What the laws ask of stations and their places (pure mathematics).
  Small helpers of the laws: a great code, equal lists of ints.
  Small helpers of the laws: whether a list of ints has one, whether all of a list lie in another.
  FnPlaces, FnExtents: what is live all along, the forms of the answers, the contracts in letters.
  Conditions: those that each theorem names.
-/
import Derived.Test.YtnoieboiklmkaaaDoorNtR
import Derived.Test.YtnoieboiklmkaaaDoorNtE
import Derived.Test.YtnoieboiklmkaaaDoorNtF
import Derived.Test.YtnoieboiklmkaaaDoorNtG
import Derived.Test.YtnoieboiklmkaaaDoorNtI
import Derived.Test.YtnoieboiklmkaaaDoorIntV
import Derived.WalkKit
import Derived.Deep.QuietTactic
import Derived.BigQuiet
import Derived.LoopTactic
import Derived.Test.YtnoieboiklmkaaaDoorHas
import Derived.Test.YtnoieboiklmkaaaDoorNqG
import Derived.Test.YtnoieboiklmkaaaDoorNqN
import Derived.Test.YtnoieboiklmkaaaDoorDcM
import Derived.Test.YtnoieboiklmkaaaDoorEnd
import Derived.Deep.DeepCutAuto
namespace Go.Proofs.YtnoieboiklmkaaaDoor.nt
open Go.RowKit
open reads base ty lg hs
set_option linter.unusedVariables false

/-- what every step keeps besides: tree legs join placed stations without an error, and as many stations are placed as there are tree legs, and one -/
def Tr (ts : List Lg) (s : Net) : Prop :=
  s.tr.length + 1 = s.ps.length ∧ at_ s.pl 0 = zero3 ∧ ∀ i ∈ s.tr, ∃ x, ts[i.toNat]? = some x ∧ 0 ≤ i ∧ i < ts.length ∧ x.frm ∈ s.ps ∧ x.to_ ∈ s.ps ∧ add3 (sub3 (shf x) (at_ s.pl x.to_)) (at_ s.pl x.frm) = zero3
theorem at_set {l : List Sf} {a b : Int} {v : Sf} (hl : l.length = 8) (ha : 0 ≤ a ∧ a ≤ 7) (hb : 0 ≤ b ∧ b ≤ 7) : at_ (l.set b.toNat v) a = if a = b then v else at_ l a := by
  unfold at_
  by_cases e : a = b
  · subst e
    rw [if_pos rfl, List.getElem?_set_self (by omega)]; rfl
  · rw [if_neg e, List.getElem?_set_ne (by omega)]
theorem sf_ext {a b : Sf} (h1 : a.east = b.east) (h2 : a.north = b.north) (h3 : a.up = b.up) : a = b := by cases a; cases b; simp_all
theorem err_fwd (p s : Sf) : add3 (sub3 s (add3 p s)) p = zero3 := sf_ext (by unfold add3 sub3 zero3; simp only []; omega) (by unfold add3 sub3 zero3; simp only []; omega) (by unfold add3 sub3 zero3; simp only []; omega)
theorem err_bwd (p s : Sf) : add3 (sub3 s p) (sub3 p s) = zero3 := sf_ext (by unfold add3 sub3 zero3; simp only []; omega) (by unfold add3 sub3 zero3; simp only []; omega) (by unfold add3 sub3 zero3; simp only []; omega)
theorem tr_start (ts : List Lg) : Tr ts start := ⟨rfl, rfl, fun i hi => by simp [start] at hi⟩
theorem tr_leg {ts : List Lg} {s : Net} {i : Nat} {x : Lg} (hg : goodLg ts = true) (ho : Ok s) (h : Tr ts s) (hx : ts[i]? = some x) : Tr ts (leg1 x i s) := by
  obtain ⟨h1, h2, h3⟩ := h
  have hi : i < ts.length := (List.getElem?_eq_some_iff.1 hx).1
  obtain ⟨l1, l2, l3, -⟩ := okLg_lim (goodLg_at hg hx)
  have ob := ho.2.2.1
  -- a leg that places a station is no tree leg yet
  have new : does x s = true → (i : Int) ∉ s.tr := fun hd hm => by
    obtain ⟨y, hy, -, -, a, b, -⟩ := h3 _ hm
    rw [Int.toNat_natCast, hx] at hy
    obtain rfl := Option.some.inj hy
    rw [does_marks (mem_iff.2 a) (mem_iff.2 b)] at hd; cases hd
  cases hd : does x s
  · rw [leg1_no hd]; exact ⟨h1, h2, h3⟩
  · have hn := new hd
    cases ha : mem s.ps x.frm
    · cases hb : mem s.ps x.to_
      · rw [does_marks ha hb] at hd; cases hd
      · rw [leg1_bwd ha hb]
        have na : x.frm ∉ s.ps := fun k => by rw [mem_iff.2 k] at ha; cases ha
        have hb' := mem_iff.1 hb
        refine ⟨by show (put s.tr _).length + 1 = (put s.ps _).length; rw [put_len_new hn, put_len_new na]; omega, ?_, ?_⟩
        · show at_ (s.pl.set x.frm.toNat _) 0 = zero3
          rw [at_set ho.1 (by omega) l1, if_neg (fun e => na (by rw [← e]; exact ho.2.2.2.2.2.1))]; exact h2
        · intro j hj
          rcases mem_put.1 hj with rfl | q
          · refine ⟨x, by rw [Int.toNat_natCast]; exact hx, by omega, by omega, mem_put.2 (.inl rfl), mem_put.2 (.inr hb'), ?_⟩
            show add3 (sub3 (shf x) (at_ (s.pl.set x.frm.toNat _) x.to_)) (at_ (s.pl.set x.frm.toNat _) x.frm) = zero3
            rw [at_set ho.1 l2 l1, if_neg (fun e => l3 e.symm), at_set ho.1 l1 l1, if_pos rfl]; exact err_bwd _ _
          · obtain ⟨y, hy, i0, i1, a, b, e⟩ := h3 _ q
            refine ⟨y, hy, i0, i1, mem_put.2 (.inr a), mem_put.2 (.inr b), ?_⟩
            show add3 (sub3 (shf y) (at_ (s.pl.set x.frm.toNat _) y.to_)) (at_ (s.pl.set x.frm.toNat _) y.frm) = zero3
            rw [at_set ho.1 (ob _ b) l1, if_neg (fun e => na (by rw [← e]; exact b)), at_set ho.1 (ob _ a) l1, if_neg (fun e => na (by rw [← e]; exact a))]; exact e
    · cases hb : mem s.ps x.to_
      · rw [leg1_fwd ha hb]
        have nb : x.to_ ∉ s.ps := fun k => by rw [mem_iff.2 k] at hb; cases hb
        have ha' := mem_iff.1 ha
        refine ⟨by show (put s.tr _).length + 1 = (put s.ps _).length; rw [put_len_new hn, put_len_new nb]; omega, ?_, ?_⟩
        · show at_ (s.pl.set x.to_.toNat _) 0 = zero3
          rw [at_set ho.1 (by omega) l2, if_neg (fun e => nb (by rw [← e]; exact ho.2.2.2.2.2.1))]; exact h2
        · intro j hj
          rcases mem_put.1 hj with rfl | q
          · refine ⟨x, by rw [Int.toNat_natCast]; exact hx, by omega, by omega, mem_put.2 (.inr ha'), mem_put.2 (.inl rfl), ?_⟩
            show add3 (sub3 (shf x) (at_ (s.pl.set x.to_.toNat _) x.to_)) (at_ (s.pl.set x.to_.toNat _) x.frm) = zero3
            rw [at_set ho.1 l1 l2, if_neg l3, at_set ho.1 l2 l2, if_pos rfl]; exact err_fwd _ _
          · obtain ⟨y, hy, i0, i1, a, b, e⟩ := h3 _ q
            refine ⟨y, hy, i0, i1, mem_put.2 (.inr a), mem_put.2 (.inr b), ?_⟩
            show add3 (sub3 (shf y) (at_ (s.pl.set x.to_.toNat _) y.to_)) (at_ (s.pl.set x.to_.toNat _) y.frm) = zero3
            rw [at_set ho.1 (ob _ b) l2, if_neg (fun e => nb (by rw [← e]; exact b)), at_set ho.1 (ob _ a) l2, if_neg (fun e => nb (by rw [← e]; exact a))]; exact e
      · rw [does_marks ha hb] at hd; cases hd
theorem tr_legs {ts : List Lg} (hg : goodLg ts = true) {s : Net} (ho : Ok s) (h : Tr ts s) : ∀ k, Tr ts (legsN ts s k)
  | 0 => h
  | k + 1 => by
    cases e : ts[k]? with
    | none => have e2 : legsN ts s (k + 1) = legsN ts s k := by show (match ts[k]? with | some x => _ | none => _) = _; rw [e]
              rw [e2]; exact tr_legs hg ho h k
    | some x => rw [legsN_succ e]; exact tr_leg hg (ok_legs hg ho k) (tr_legs hg ho h k) e
theorem tr_passes {ts : List Lg} (hg : goodLg ts = true) : ∀ k, Tr ts (passes ts k)
  | 0 => tr_start ts
  | k + 1 => tr_legs hg (ok_passes hg k) (tr_passes hg k) _
theorem tr_net {ts : List Lg} (hg : goodLg ts = true) : Tr ts (net ts) := tr_passes hg 9
/-- as many tree legs as placed stations but one -/
theorem tree_len {ts : List Lg} (hg : goodLg ts = true) : (trIds ts).length + 1 = (psIds ts).length := by
  unfold trIds psIds; rw [hg]; exact (tr_net hg).1
/-- tree legs have no error -/
theorem tree_err {ts : List Lg} (hg : goodLg ts = true) {i : Int} (hi : i ∈ trIds ts) : erOk ts i = true ∧ erV ts i = zero3 := by
  unfold trIds at hi; rw [hg] at hi
  obtain ⟨x, hx, i0, i1, a, -, e⟩ := (tr_net hg).2.2 i hi
  constructor
  · unfold erOk erAt
    rw [hg, hx, btw_mk i0 (by omega)]; simp only []; rw [mem_iff.2 a]; rfl
  · unfold erV; rw [hx]; exact e
theorem cl_mem {ts : List Lg} {s : Net} : ∀ k, ∀ x ∈ clN ts s k, mem s.tr x = false
  | 0, x, h => by simp [clN] at h
  | k + 1, x, h => by
    cases e : ts[k]? with
    | none => have e1 : clN ts s (k + 1) = clN ts s k := by show (match ts[k]? with | some x => _ | none => _) = _; rw [e]
              rw [e1] at h; exact cl_mem k x h
    | some y =>
      cases q : (mem s.ps y.frm && !mem s.tr (k : Int))
      · rw [clN_no e q] at h; exact cl_mem k x h
      · rw [Bool.and_eq_true, Bool.not_eq_true'] at q
        rw [clN_yes e q.1 q.2] at h
        rcases List.mem_append.1 h with r | r
        · exact cl_mem k x r
        · rw [List.mem_singleton.1 r]; exact q.2
/-- no tree leg is a closing leg -/
theorem tree_closing {ts : List Lg} (hg : goodLg ts = true) {i : Int} (hi : i ∈ trIds ts) : mem (clIds ts) i = false := by
  unfold trIds at hi; unfold clIds; rw [hg] at hi ⊢
  cases h : mem (clN ts (net ts) ts.length) i
  · simpa using h
  · have h1 := cl_mem _ i (mem_iff.1 h)
    have h2 := mem_iff.2 (show i ∈ (net ts).tr from hi)
    rw [h1] at h2; cases h2
theorem mn_le (a b : Int) : lst.mn a b ≤ a ∧ lst.mn a b ≤ b := by unfold lst.mn; split <;> omega
theorem mx_ge (a b : Int) : a ≤ mst.mx a b ∧ b ≤ mst.mx a b := by unfold mst.mx; split <;> omega
def Le3 (a b : Sf) : Prop := a.east ≤ b.east ∧ a.north ≤ b.north ∧ a.up ≤ b.up
theorem Le3.trans {a b c : Sf} (h : Le3 a b) (k : Le3 b c) : Le3 a c := ⟨Int.le_trans h.1 k.1, Int.le_trans h.2.1 k.2.1, Int.le_trans h.2.2 k.2.2⟩
theorem ext_step {s : Net} (k : Nat) : Le3 (lowN s (k + 1)) (lowN s k) ∧ Le3 (highN s k) (highN s (k + 1)) := by
  cases e : s.ps[k]? with
  | none =>
    have e1 : lowN s (k + 1) = lowN s k := by show (match s.ps[k]? with | some q => _ | none => _) = _; rw [e]
    have e2 : highN s (k + 1) = highN s k := by show (match s.ps[k]? with | some q => _ | none => _) = _; rw [e]
    rw [e1, e2]; exact ⟨⟨Int.le_refl _, Int.le_refl _, Int.le_refl _⟩, Int.le_refl _, Int.le_refl _, Int.le_refl _⟩
  | some q =>
    rw [lowN_succ e, highN_succ e]
    exact ⟨⟨(mn_le _ _).1, (mn_le _ _).1, (mn_le _ _).1⟩, (mx_ge _ _).1, (mx_ge _ _).1, (mx_ge _ _).1⟩
theorem ext_mono {s : Net} (k : Nat) : ∀ j, Le3 (lowN s (k + j)) (lowN s k) ∧ Le3 (highN s k) (highN s (k + j))
  | 0 => ⟨⟨Int.le_refl _, Int.le_refl _, Int.le_refl _⟩, Int.le_refl _, Int.le_refl _, Int.le_refl _⟩
  | j + 1 => by
    have ih := ext_mono (s := s) k j
    have st := ext_step (s := s) (k + j)
    exact ⟨st.1.trans ih.1, ih.2.trans st.2⟩
/-- places lie within the extent -/
theorem place_within {ts : List Lg} {k : Nat} {q : Int} (h : (net ts).ps[k]? = some q) : Le3 (lowV ts) (at_ (net ts).pl q) ∧ Le3 (at_ (net ts).pl q) (highV ts) := by
  have hk : k < (net ts).ps.length := (List.getElem?_eq_some_iff.1 h).1
  have m := ext_mono (s := net ts) (k + 1) ((net ts).ps.length - (k + 1))
  rw [show k + 1 + ((net ts).ps.length - (k + 1)) = (net ts).ps.length by omega] at m
  constructor
  · refine m.1.trans ?_
    rw [lowN_succ h]; exact ⟨(mn_le _ _).2, (mn_le _ _).2, (mn_le _ _).2⟩
  · refine Le3.trans ?_ m.2
    rw [highN_succ h]; exact ⟨(mx_ge _ _).2, (mx_ge _ _).2, (mx_ge _ _).2⟩
/-- the extent has the place of the station 0 -/
theorem ext_zero (ts : List Lg) : Le3 (lowV ts) zero3 ∧ Le3 zero3 (highV ts) := by
  have m := ext_mono (s := net ts) 0 (net ts).ps.length
  rw [Nat.zero_add] at m; exact m
theorem deep_mem {s : Net} (h0 : (0 : Int) ∈ s.ps) : ∀ k, deepN s k ∈ s.ps
  | 0 => h0
  | k + 1 => by
    cases e : s.ps[k]? with
    | none => have : deepN s (k + 1) = deepN s k := by show (match s.ps[k]? with | some q => _ | none => _) = _; rw [e]
              rw [this]; exact deep_mem h0 k
    | some q =>
      rw [deepN_succ e]
      split
      · exact List.mem_of_getElem? e
      · exact deep_mem h0 k
theorem deep_low {s : Net} (h0 : at_ s.pl 0 = zero3) : ∀ k, (at_ s.pl (deepN s k)).up = (lowN s k).up
  | 0 => by show (at_ s.pl 0).up = zero3.up; rw [h0]
  | k + 1 => by
    have ih := deep_low h0 k
    cases e : s.ps[k]? with
    | none =>
      have e1 : deepN s (k + 1) = deepN s k := by show (match s.ps[k]? with | some q => _ | none => _) = _; rw [e]
      have e2 : lowN s (k + 1) = lowN s k := by show (match s.ps[k]? with | some q => _ | none => _) = _; rw [e]
      rw [e1, e2]; exact ih
    | some q =>
      rw [deepN_succ e, lowN_succ e]
      show _ = lst.mn (lowN s k).up (at_ s.pl q).up
      unfold lst.mn
      rw [ih]
      split <;> split <;> omega
/-- the deepest station is placed and as deep as the extent -/
theorem deepest_is {ts : List Lg} (hg : goodLg ts = true) : mem (net ts).ps (deepN (net ts) (net ts).ps.length) = true ∧ (at_ (net ts).pl (deepN (net ts) (net ts).ps.length)).up = (lowV ts).up :=
  ⟨mem_iff.2 (deep_mem (ok_net hg).2.2.2.2.2.1 _), deep_low (tr_net hg).2.1 _⟩
theorem near_mono {s : Net} {q d e x : Int} (hd : 0 ≤ d) (he : d ≤ e) (h : near s q d x = true) : near s q e x = true := by
  unfold near at h ⊢
  have h1 : sq3 (sub3 (at_ s.pl x) (at_ s.pl q)) < (d + 1) * (d + 1) := by simpa using h
  have h2 := len.sq_mono (show 0 ≤ d + 1 by omega) (show d + 1 ≤ e + 1 by omega)
  simp; omega
theorem near_self (s : Net) (q : Int) {d : Int} (hd : 0 ≤ d) : near s q d q = true := by
  unfold near
  have e : sq3 (sub3 (at_ s.pl q) (at_ s.pl q)) = 0 := by unfold sq3 sub3; simp
  rw [e]
  have h2 := len.sq_mono (show (0 : Int) ≤ 1 by omega) (show (1 : Int) ≤ d + 1 by omega)
  simp; omega
theorem wd_mem {s : Net} {q d : Int} : ∀ k, k ≤ s.ps.length → ∀ x, x ∈ wdN s q d k ↔ (x ∈ s.ps.take k ∧ near s q d x = true)
  | 0, _, x => by simp [wdN]
  | k + 1, hk, x => by
    have ih := wd_mem (s := s) (q := q) (d := d) k (by omega) x
    have e := List.getElem?_eq_getElem (show k < s.ps.length by omega)
    rw [take_snoc e, List.mem_append, List.mem_singleton]
    cases h : near s q d s.ps[k]
    · rw [wdN_no e h, ih]
      constructor
      · rintro ⟨a, b⟩; exact ⟨.inl a, b⟩
      · rintro ⟨a | rfl, b⟩
        · exact ⟨a, b⟩
        · rw [h] at b; cases b
    · rw [wdN_yes e h, List.mem_append, ih, List.mem_singleton]
      constructor
      · rintro (⟨a, b⟩ | rfl)
        · exact ⟨.inl a, b⟩
        · exact ⟨.inr rfl, h⟩
      · rintro ⟨a | rfl, b⟩
        · exact .inl ⟨a, b⟩
        · exact .inr rfl
theorem wd_iff {ts : List Lg} {q d : Int} (h : wdOk ts q d = true) (x : Int) : x ∈ wdIds ts q d ↔ (x ∈ (net ts).ps ∧ near (net ts) q d x = true) := by
  unfold wdIds; rw [h, if_pos rfl, wd_mem _ (Nat.le_refl _), List.take_length]
theorem wdOk_parts {ts : List Lg} {q d : Int} (h : wdOk ts q d = true) : goodLg ts = true ∧ q ∈ (net ts).ps ∧ 0 ≤ d := by
  unfold wdOk has6 at h
  rw [Bool.and_eq_true, Bool.and_eq_true, decide_eq_true_eq] at h
  exact ⟨h.1.1, mem_iff.1 h.1.2, h.2⟩
theorem wdOk_more {ts : List Lg} {q d e : Int} (h : wdOk ts q d = true) (he : d ≤ e) : wdOk ts q e = true := by
  have := (wdOk_parts h).2.2
  unfold wdOk at h ⊢
  rw [Bool.and_eq_true, decide_eq_true_eq] at h
  rw [h.1, decide_eq_true (by omega)]; rfl
/-- stations within a distance are within every greater one, and placed; a station is within every distance of itself -/
theorem wd_sub {ts : List Lg} {q d e : Int} (h : wdOk ts q d = true) (he : d ≤ e) {x : Int} (hx : x ∈ wdIds ts q d) : x ∈ wdIds ts q e := by
  have h1 := (wd_iff h x).1 hx
  exact (wd_iff (wdOk_more h he) x).2 ⟨h1.1, near_mono (wdOk_parts h).2.2 he h1.2⟩
theorem wd_placed {ts : List Lg} {q d : Int} (h : wdOk ts q d = true) {x : Int} (hx : x ∈ wdIds ts q d) : x ∈ psIds ts := by
  unfold psIds; rw [(wdOk_parts h).1]; exact ((wd_iff h x).1 hx).1
theorem wd_self {ts : List Lg} {q d : Int} (h : wdOk ts q d = true) : q ∈ wdIds ts q d :=
  (wd_iff h q).2 ⟨(wdOk_parts h).2.1, near_self _ _ (wdOk_parts h).2.2⟩
end Go.Proofs.YtnoieboiklmkaaaDoor.nt

namespace Go.Proofs.YtnoieboiklmkaaaDoor.vs
open Go.RowKit
open reads ints
set_option linter.unusedVariables false

def EqPost (w : World) (e : Ending) (w' : World) : Prop := e = .returned (.bool true) ∧ ∃ m, w' = w.drewN m
theorem big_yes (A : Option Addr) (n cap : Nat) (w : World) (h : 65536 < n) (hm : n ≤ maxLen) :
    Calls Tryd.prog 40 #[.slice A n cap] w fun e w' => e = .returned (.bool true) ∧ w = w' := by
  unfold maxLen at hm
  have hd : decide (65536 < n) = true := by simpa using h
  have hd2 : decide (65536 < (n : Int)) = true := by simp; omega
  go_enter Tryd.func40, Tryd.ntmps40
  go_wp2_with fail
  go_ret
  exact ⟨rfl, rfl⟩
theorem big_no (A : Option Addr) (n cap : Nat) (w : World) (h : n ≤ 65536) :
    Calls Tryd.prog 40 #[.slice A n cap] w fun e w' => e = .returned (.bool false) ∧ w = w' := by
  have hd : decide (65536 < n) = false := by simpa using h
  have hd2 : decide (65536 < (n : Int)) = false := by simp; omega
  go_enter Tryd.func40, Tryd.ntmps40
  go_wp2_with fail
  go_ret
  exact ⟨rfl, rfl⟩
set_option maxHeartbeats 1000000 in
theorem vints_any (A A' : Option Addr) (n c c' : Nat) (xs : List Int) (w : World) (hn : n ≤ 2000000) (h : Hid (IL w A n xs)) (h' : Hid (IL w A' n xs)) :
    Calls Tryd.prog 42 #[.slice A n c, .slice A' n c'] w (EqPost w) := by
  go_enter Tryd.func42, Tryd.ntmps42
  go_wp2_with fail
  go_loopw [5] (fun i wr => ∃ k m : Nat, k ≤ n ∧ i = .int .i64 k ∧ wr = w.drewN m) (fun i _ => n - (intOf i).toNat)
  case atStart => exact ⟨0, 0, Nat.zero_le _, rfl, rfl⟩
  case round =>
    obtain ⟨k, m, hk, rfl, rfl⟩ := hrel
    by_cases hlt : k < n
    · obtain ⟨x, hx⟩ : ∃ x, xs[k]? = some x := ⟨_, List.getElem?_eq_getElem (by rw [h.out.1]; exact hlt)⟩
      obtain ⟨g, rfl, e0⟩ := h.out.2 k x hx
      obtain ⟨g', rfl, e1⟩ := h'.out.2 k x hx
      clear hx
      have hki : (k : Int) < (n : Int) := by omega
      have hk0 : 0 ≤ (k : Int) := by omega
      have hkd : decide (k < n) = true := by simpa using hlt
      go_wp2_with fail
      go_quiet (fail)
      go_wp2_with fail
      go_roundw
      case rel => exact ⟨k + 1, _, by omega, by go_num, rfl⟩
      case measure => simp [intOf]; omega
    · have hkd : decide (k < n) = false := by simpa using hlt
      go_wp2_with fail
      go_ret
      exact ⟨rfl, m, rfl⟩

end Go.Proofs.YtnoieboiklmkaaaDoor.vs

namespace Go.Proofs.YtnoieboiklmkaaaDoor.vsh
open Go.RowKit
open reads base rowi hs
set_option linter.unusedVariables false
set_option linter.unusedSimpArgs false

set_option maxHeartbeats 4000000 in
theorem vhas_any (A : Option Addr) (n cap : Nat) (xs : List Int) (a : Int) (w : World) (hn : n ≤ 2000000) (hx : Hid (ints.IL w A n xs)) :
    Calls Tryd.prog 43 #[.slice A n cap, .int .i64 a] w fun e w' => e = .returned (.bool (mem xs a)) ∧ w = w' := by
  have hL : Hid (xs.length = n) := Lib.hid hx.out.1
  go_enter Tryd.func43, Tryd.ntmps43
  go_wp2_with fail
  go_loop [5] (fun i => ∃ k : Nat, k ≤ n ∧ i = .int .i64 k ∧ Hid ((xs.take k).all (fun x => !(x == a)) = true)) (fun i => n - (intOf i).toNat)
  case atStart => exact ⟨0, Nat.zero_le _, rfl, Lib.hid (by simp)⟩
  case round =>
    obtain ⟨k, hk, rfl, HI⟩ := hrel
    have hk0 : 0 ≤ (k : Int) := by omega
    by_cases h1 : k < n
    · have hki : (k : Int) < (n : Int) := by omega
      have hkd : decide (k < n) = true := by simpa using h1
      obtain ⟨x, hxk⟩ := at_lt hL.out h1
      obtain ⟨g, rfl, e0⟩ := hx.out.2 k x hxk
      have HK := Lib.hid hxk
      clear hxk
      by_cases he : x = a
      · have HF := Lib.hid (show mem xs a = true from mem_yes HK.out he)
        have hd2 : (x == a) = true := by simpa using he
        subst he
        go_wp2_with fail
        go_ret
        exact ⟨ret_bool HF.out.symm, rfl⟩
      · have HN := Lib.hid (all_take (p := fun x => !(x == a)) HK.out HI.out (by simpa using he))
        have hd2 : (x == a) = false := by simpa using he
        have hd3 : decide (x = a) = false := by simpa using he
        clear he
        go_wp2_with fail
        go_round
        case rel => exact ⟨k + 1, by omega, by go_num, HN⟩
        case measure => simp [intOf]; omega
    · have hkd : decide (k < n) = false := by simpa using h1
      obtain rfl : k = n := by omega
      have HF := Lib.hid (show mem xs a = false from mem_no (by rw [hL.out]; exact HI.out))
      clear h1
      go_wp2_with fail
      go_ret
      exact ⟨ret_bool HF.out.symm, rfl⟩
theorem vhas_is (A : Option Addr) (n cap : Nat) (xs : List Int) (a : Int) (t : Bool) (h : Hid (mem xs a = t)) (w : World) (hn : n ≤ 2000000) (hx : Hid (ints.IL w A n xs)) :
    Calls Tryd.prog 43 #[.slice A n cap, .int .i64 a] w fun e w' => e = .returned (.bool t) ∧ w = w' := by rw [← h.out]; exact vhas_any A n cap xs a w hn hx
set_option maxHeartbeats 4000000 in
theorem within_yes (A A' : Option Addr) (n c m c' : Nat) (xs ys : List Int) (w : World) (hn : n ≤ 2000000) (hm : m ≤ 2000000) (hx : Hid (ints.IL w A n xs)) (hy : Hid (ints.IL w A' m ys)) (hs : Hid (∀ x ∈ xs, mem ys x = true)) :
    Calls Tryd.prog 47 #[.slice A n c, .slice A' m c'] w fun e w' => e = .returned (.bool true) ∧ w = w' := by
  have hL : Hid (xs.length = n) := Lib.hid hx.out.1
  go_enter Tryd.func47, Tryd.ntmps47
  go_wp2_with fail
  go_loop [5] (fun i => ∃ k : Nat, k ≤ n ∧ i = .int .i64 k) (fun i => n - (intOf i).toNat)
  case atStart => exact ⟨0, Nat.zero_le _, rfl⟩
  case round =>
    obtain ⟨k, hk, rfl⟩ := hrel
    have hk0 : 0 ≤ (k : Int) := by omega
    by_cases h1 : k < n
    · have hki : (k : Int) < (n : Int) := by omega
      have hkd : decide (k < n) = true := by simpa using h1
      obtain ⟨x, hxk⟩ := at_lt hL.out h1
      obtain ⟨g, rfl, e0⟩ := hx.out.2 k x hxk
      have HM := Lib.hid (hs.out x (List.mem_of_getElem? hxk))
      clear hxk
      go_wp2_with fail
      refine (vhas_is A' m c' ys x true HM _ hm hy).mono ?_
      rintro e w' ⟨rfl, rfl⟩
      go_wp2_with fail
      go_round
      case rel => exact ⟨k + 1, by omega, by go_num⟩
      case measure => simp [intOf]; omega
    · have hkd : decide (k < n) = false := by simpa using h1
      go_wp2_with fail
      go_ret
      exact ⟨rfl, rfl⟩
end Go.Proofs.YtnoieboiklmkaaaDoor.vsh

namespace Go.Proofs.YtnoieboiklmkaaaDoor.nw
open Go.RowKit
open reads base ty win lg rowi hs nt nq
set_option linter.unusedVariables false
set_option linter.unusedSimpArgs false

def LawPost (w : World) (e : Ending) (w' : World) : Prop := e = .returned (.bool true) ∧ Below w.heap.size w w'
/-- what is live all along: the code, the table, and nothing old has turned -/
def St (w : World) (A : Option Addr) (n : Nat) (zs : List UInt8) (v : World) : Prop := Below w.heap.size w v ∧ curs.Code v A n zs ∧ win.Tab v
theorem St.step {w v v' : World} {A : Option Addr} {n : Nat} {zs : List UInt8} (h : St w A n zs v) (hb : Below v.heap.size v v') : St w A n zs v' := ⟨h.1.trans (hb.mono h.1.size), h.2.1.below hb, h.2.2.below hb⟩
theorem St.alloc {w v : World} {A : Option Addr} {n : Nat} {zs : List UInt8} (h : St w A n zs v) (o : Obj) : St w A n zs (v.alloc o) := h.step ((Below.refl _ _).alloc (Nat.le_refl _) o)
theorem own_cap {w : World} {base size n c : Nat} {e : TypeId} {A : Option Addr} {xs : List Value} (h : w.ownsRow base e size (.slice A n c) n xs) : n ≤ c := by
  rcases h.2 with ⟨e1, e2⟩ | ⟨g, cp, cur, e1, _, _, h2, _⟩
  · injection e1 with _ e1 e3; omega
  · injection e1 with _ e1 e3; subst e3; exact h2
theorem vints_b {A A' : Option Addr} {n c c' : Nat} {xs : List Int} {w : World} (hn : n ≤ 2000000) (h : Hid (ints.IL w A n xs)) (h' : Hid (ints.IL w A' n xs)) :
    Calls Tryd.prog 42 #[.slice A n c, .slice A' n c'] w (APost (.bool true) w) :=
  (vs.vints_any A A' n c c' xs w hn h h').mono (by rintro e w' ⟨rfl, m, rfl⟩; exact ⟨rfl, ends.below_drewN (Below.refl _ _) m⟩)
theorem vhas_b {A : Option Addr} {n c : Nat} {xs : List Int} {a : Int} {t : Bool} {w : World} (h : Hid (mem xs a = t)) (hn : n ≤ 2000000) (hx : Hid (ints.IL w A n xs)) :
    Calls Tryd.prog 43 #[.slice A n c, .int .i64 a] w (APost (.bool t) w) :=
  (vsh.vhas_is A n c xs a t h w hn hx).mono (by rintro e w' ⟨rfl, rfl⟩; exact ⟨rfl, Below.refl _ _⟩)
theorem within_b {A A' : Option Addr} {n c m c' : Nat} {xs ys : List Int} {w : World} (hs : Hid (∀ x ∈ xs, mem ys x = true)) (hn : n ≤ 2000000) (hm : m ≤ 2000000) (hx : Hid (ints.IL w A n xs)) (hy : Hid (ints.IL w A' m ys)) :
    Calls Tryd.prog 47 #[.slice A n c, .slice A' m c'] w (APost (.bool true) w) :=
  (vsh.within_yes A A' n c m c' xs ys w hn hm hx hy hs).mono (by rintro e w' ⟨rfl, rfl⟩; exact ⟨rfl, Below.refl _ _⟩)
section
variable {A : Option Addr} {n cap : Nat} {ts : List Lg} {q d : Int} {I : List Int} {B : Bool} {v : Value} {w : World}
theorem wd_i (hI : Hid (wdIds ts q d = I)) (hB : Hid (wdOk ts q d = B)) (hn : n ≤ 2000000) (hts : Hid (LgAt w w.heap.size A n ts)) (hT : Hid (win.Tab w)) : Calls Tryd.prog 39 #[.slice A n cap, .int .i64 q, .int .i64 d] w (LPost I B w) := by
  rw [← hI.out, ← hB.out]; exact within_impl A n cap ts q d w hn hts hT
theorem wd_m (hI : Hid (wdIds ts q d = I)) (hB : Hid (wdOk ts q d = B)) (hn : n ≤ 2000000) (hts : Hid (LgAt w w.heap.size A n ts)) : Calls Tryd.prog 38 #[.slice A n cap, .int .i64 q, .int .i64 d] w (LPost I B w) := by
  rw [← hI.out, ← hB.out]; exact within_model A n cap ts q d w hn hts
theorem ps_i (hI : Hid (psIds ts = I)) (hB : Hid (goodLg ts = B)) (hn : n ≤ 2000000) (hts : Hid (LgAt w w.heap.size A n ts)) (hT : Hid (win.Tab w)) : Calls Tryd.prog 17 #[.slice A n cap] w (LPost I B w) := by
  rw [← hI.out, ← hB.out]; exact placed_impl A n cap ts w hn hts hT
theorem ps_m (hI : Hid (psIds ts = I)) (hB : Hid (goodLg ts = B)) (hn : n ≤ 2000000) (hts : Hid (LgAt w w.heap.size A n ts)) : Calls Tryd.prog 15 #[.slice A n cap] w (LPost I B w) := by
  rw [← hI.out, ← hB.out]; exact placed_model A n cap ts w hn hts
theorem tr_i (hI : Hid (trIds ts = I)) (hB : Hid (goodLg ts = B)) (hn : n ≤ 2000000) (hts : Hid (LgAt w w.heap.size A n ts)) (hT : Hid (win.Tab w)) : Calls Tryd.prog 27 #[.slice A n cap] w (LPost I B w) := by
  rw [← hI.out, ← hB.out]; exact tree_impl A n cap ts w hn hts hT
theorem tr_m (hI : Hid (trIds ts = I)) (hB : Hid (goodLg ts = B)) (hn : n ≤ 2000000) (hts : Hid (LgAt w w.heap.size A n ts)) : Calls Tryd.prog 26 #[.slice A n cap] w (LPost I B w) := by
  rw [← hI.out, ← hB.out]; exact tree_model A n cap ts w hn hts
theorem cl_i (hI : Hid (clIds ts = I)) (hB : Hid (goodLg ts = B)) (hn : n ≤ 2000000) (hts : Hid (LgAt w w.heap.size A n ts)) (hT : Hid (win.Tab w)) : Calls Tryd.prog 29 #[.slice A n cap] w (LPost I B w) := by
  rw [← hI.out, ← hB.out]; exact closing_impl A n cap ts w hn hts hT
theorem cl_m (hI : Hid (clIds ts = I)) (hB : Hid (goodLg ts = B)) (hn : n ≤ 2000000) (hts : Hid (LgAt w w.heap.size A n ts)) : Calls Tryd.prog 28 #[.slice A n cap] w (LPost I B w) := by
  rw [← hI.out, ← hB.out]; exact closing_model A n cap ts w hn hts
theorem pl_i (h : Hid (ansPl ts q = v)) (hn : n ≤ 2000000) (hts : Hid (LgAt w w.heap.size A n ts)) (hT : Hid (win.Tab w)) : Calls Tryd.prog 24 #[.slice A n cap, .int .i64 q] w (APost v w) := by
  rw [← h.out]; exact placeOf_impl A n cap ts q w hn hts hT
theorem pl_m (h : Hid (ansPl ts q = v)) (hn : n ≤ 2000000) (hts : Hid (LgAt w w.heap.size A n ts)) : Calls Tryd.prog 23 #[.slice A n cap, .int .i64 q] w (APost v w) := by
  rw [← h.out]; exact placeOf_model A n cap ts q w hn hts
theorem er_i (h : Hid (ansEr ts q = v)) (hn : n ≤ 2000000) (hts : Hid (LgAt w w.heap.size A n ts)) (hT : Hid (win.Tab w)) : Calls Tryd.prog 31 #[.slice A n cap, .int .i64 q] w (APost v w) := by
  rw [← h.out]; exact errorOf_impl A n cap ts q w hn hts hT
theorem er_m (h : Hid (ansEr ts q = v)) (hn : n ≤ 2000000) (hts : Hid (LgAt w w.heap.size A n ts)) : Calls Tryd.prog 30 #[.slice A n cap, .int .i64 q] w (APost v w) := by
  rw [← h.out]; exact errorOf_model A n cap ts q w hn hts
theorem dp_i (h : Hid (ansDp ts = v)) (hn : n ≤ 2000000) (hts : Hid (LgAt w w.heap.size A n ts)) (hT : Hid (win.Tab w)) : Calls Tryd.prog 37 #[.slice A n cap] w (APost v w) := by
  rw [← h.out]; exact deepest_impl A n cap ts w hn hts hT
theorem dp_m (h : Hid (ansDp ts = v)) (hn : n ≤ 2000000) (hts : Hid (LgAt w w.heap.size A n ts)) : Calls Tryd.prog 36 #[.slice A n cap] w (APost v w) := by
  rw [← h.out]; exact deepest_model A n cap ts w hn hts
theorem de_i (h : Hid (ansDe ts = v)) (hn : n ≤ 2000000) (hts : Hid (LgAt w w.heap.size A n ts)) (hT : Hid (win.Tab w)) : Calls Tryd.prog 33 #[.slice A n cap] w (APost v w) := by
  rw [← h.out]; exact depthOf_impl A n cap ts w hn hts hT
theorem de_m (h : Hid (ansDe ts = v)) (hn : n ≤ 2000000) (hts : Hid (LgAt w w.heap.size A n ts)) : Calls Tryd.prog 32 #[.slice A n cap] w (APost v w) := by
  rw [← h.out]; exact depthOf_model A n cap ts w hn hts
theorem ex_i (h : Hid (ansEx ts = v)) (hn : n ≤ 2000000) (hts : Hid (LgAt w w.heap.size A n ts)) (hT : Hid (win.Tab w)) : Calls Tryd.prog 35 #[.slice A n cap] w (APost v w) := by
  rw [← h.out]; exact extentOf_impl A n cap ts w hn hts hT
theorem ex_m (h : Hid (ansEx ts = v)) (hn : n ≤ 2000000) (hts : Hid (LgAt w w.heap.size A n ts)) : Calls Tryd.prog 34 #[.slice A n cap] w (APost v w) := by
  rw [← h.out]; exact extentOf_model A n cap ts w hn hts
end
theorem pl_form (ts : List Lg) (q : Int) : ∃ (p : Sf) (ok : Bool), ansPl ts q = .tuple #[.agg #[.int .i64 p.east, .int .i64 p.north, .int .i64 p.up], .bool ok] := by
  unfold ansPl
  cases h : has6 ts q
  · exact ⟨⟨0, 0, 0⟩, false, rfl⟩
  · exact ⟨at_ (net ts).pl q, true, rfl⟩
theorem er_form (ts : List Lg) (q : Int) : ∃ (p : Sf) (ok : Bool), ansEr ts q = .tuple #[.agg #[.int .i64 p.east, .int .i64 p.north, .int .i64 p.up], .bool ok] := by
  unfold ansEr
  cases h : erOk ts q
  · exact ⟨⟨0, 0, 0⟩, false, rfl⟩
  · exact ⟨erV ts q, true, rfl⟩
theorem dp_form (ts : List Lg) : ∃ (q : Int) (ok : Bool), ansDp ts = .tuple #[.int .i64 q, .bool ok] := by
  unfold ansDp
  cases h : goodLg ts
  · exact ⟨0, false, rfl⟩
  · exact ⟨_, true, rfl⟩
theorem de_form (ts : List Lg) : ∃ (q : Int) (ok : Bool), ansDe ts = .tuple #[.int .i64 q, .bool ok] ∧ 0 ≤ q := by
  unfold ansDe
  cases h : goodLg ts
  · exact ⟨0, false, rfl, Int.le_refl _⟩
  · refine ⟨_, true, rfl, ?_⟩
    obtain ⟨⟨-, -, a⟩, -, -, b⟩ := ext_zero ts
    have : (0 : Int) = zero3.up := rfl
    omega
theorem ex_form (ts : List Lg) : ∃ (lo hi : Sf) (ok : Bool), ansEx ts = .tuple #[.agg #[.int .i64 lo.east, .int .i64 lo.north, .int .i64 lo.up], .agg #[.int .i64 hi.east, .int .i64 hi.north, .int .i64 hi.up], .bool ok] ∧ (lo.east ≤ 0 ∧ 0 ≤ hi.east ∧ lo.up ≤ 0 ∧ 0 ≤ hi.up) := by
  unfold ansEx
  cases h : goodLg ts
  · exact ⟨⟨0, 0, 0⟩, ⟨0, 0, 0⟩, false, rfl, by decide⟩
  · refine ⟨lowV ts, highV ts, true, rfl, ?_⟩
    obtain ⟨⟨a0, -, a⟩, b0, -, b⟩ := ext_zero ts
    have e0 : (0 : Int) = zero3.up := rfl
    have e1 : (0 : Int) = zero3.east := rfl
    exact ⟨by rw [e1]; exact a0, by rw [e1]; exact b0, by rw [e0]; exact a, by rw [e0]; exact b⟩
/-- what FnPlaces asks of valid legs -/
theorem good_all {ts : List Lg} (hg : goodLg ts = true) : ∃ (lo hi bp : Sf) (dq : Int),
    (ansEx ts = .tuple #[.agg #[.int .i64 lo.east, .int .i64 lo.north, .int .i64 lo.up], .agg #[.int .i64 hi.east, .int .i64 hi.north, .int .i64 hi.up], .bool true] ∧ ansDe ts = .tuple #[.int .i64 (hi.up - lo.up), .bool true] ∧ ansDp ts = .tuple #[.int .i64 dq, .bool true] ∧ ansPl ts dq = .tuple #[.agg #[.int .i64 bp.east, .int .i64 bp.north, .int .i64 lo.up], .bool true]) ∧
    ((-1000000 ≤ lo.up ∧ lo.up ≤ 1000000) ∧ (-1000000 ≤ hi.up ∧ hi.up ≤ 1000000)) ∧ (trIds ts).length + 1 = (psIds ts).length ∧
    (∀ (k : Nat) (i : Int), (trIds ts)[k]? = some i → ansEr ts i = .tuple #[.agg #[.int .i64 0, .int .i64 0, .int .i64 0], .bool true] ∧ mem (clIds ts) i = false) ∧
    (∀ (k : Nat) (i : Int), (psIds ts)[k]? = some i → ∃ p : Sf, ansPl ts i = .tuple #[.agg #[.int .i64 p.east, .int .i64 p.north, .int .i64 p.up], .bool true] ∧ (lo.east ≤ p.east ∧ p.east ≤ hi.east) ∧ (lo.north ≤ p.north ∧ p.north ≤ hi.north) ∧ lo.up ≤ p.up ∧ p.up ≤ hi.up) := by
  obtain ⟨d0, d1⟩ := deepest_is hg
  obtain ⟨b0, b1⟩ := ext_bd (ok_net hg) (net ts).ps.length
  refine ⟨lowV ts, highV ts, at_ (net ts).pl (deepN (net ts) (net ts).ps.length), deepN (net ts) (net ts).ps.length, ⟨?_, ?_, ?_, ?_⟩, ?_, tree_len hg, ?_, ?_⟩
  · unfold ansEx; rw [hg, if_pos rfl]
  · unfold ansDe; rw [hg, if_pos rfl]
  · unfold ansDp; rw [hg, if_pos rfl]
  · unfold ansPl has6; rw [hg, d0, Bool.and_self, if_pos rfl, d1]
  · show ((-1000000 ≤ (lowN (net ts) (net ts).ps.length).up ∧ _) ∧ _)
    unfold Bd4 at b0 b1
    refine ⟨⟨?_, ?_⟩, ?_, ?_⟩ <;> first | (show _ ≤ (lowN _ _).up; omega) | (show (lowN _ _).up ≤ _; omega) | (show _ ≤ (highN _ _).up; omega) | (show (highN _ _).up ≤ _; omega)
  · intro k i h
    have hm := List.mem_of_getElem? h
    obtain ⟨e0, e1⟩ := tree_err hg hm
    refine ⟨?_, tree_closing hg hm⟩
    unfold ansEr; rw [e0, e1, if_pos rfl]; rfl
  · intro k i h
    have h2 : (net ts).ps[k]? = some i := by unfold psIds at h; rw [hg, if_pos rfl] at h; exact h
    obtain ⟨⟨a0, a1, a2⟩, c0, c1, c2⟩ := place_within h2
    refine ⟨at_ (net ts).pl i, ?_, ⟨a0, c0⟩, ⟨a1, c1⟩, a2, c2⟩
    unfold ansPl has6; rw [hg, mem_iff.2 (List.mem_of_getElem? h2), Bool.and_self, if_pos rfl]
/-- what FnExtents asks of the stations within a distance -/
theorem within_all {ts : List Lg} {q d : Int} (h : wdOk ts q d = true) : goodLg ts = true ∧ wdOk ts q (d + 10) = true ∧ (∀ x ∈ wdIds ts q d, mem (wdIds ts q (d + 10)) x = true) ∧ (∀ x ∈ wdIds ts q (d + 10), mem (psIds ts) x = true) ∧ mem (wdIds ts q d) q = true :=
  ⟨(wdOk_parts h).1, wdOk_more h (by omega), fun x hx => mem_iff.2 (wd_sub h (by omega) hx), fun x hx => mem_iff.2 (wd_placed (wdOk_more h (by omega)) hx), mem_iff.2 (wd_self h)⟩
end Go.Proofs.YtnoieboiklmkaaaDoor.nw
