/-
  What stations and their places are, and what the steps that place them keep (pure mathematics).
  Conditions: none but those that a theorem names.
-/
import Derived.Test.YtiimegmaokfpgabGreatDoorNtR
import Derived.Test.YtiimegmaokfpgabGreatDoorLenM
namespace Go.Proofs.YtiimegmaokfpgabGreatDoor.nt
open Go.RowKit
open reads base ty lg hs
set_option linter.unusedVariables false

def psIds (ts : List Lg) : List Int := if goodLg ts then (net ts).ps else []
def trIds (ts : List Lg) : List Int := if goodLg ts then (net ts).tr else []
def has6 (ts : List Lg) (q : Int) : Bool := goodLg ts && mem (net ts).ps q
/-- the closing legs below k -/
def clN (ts : List Lg) (s : Net) : Nat → List Int
  | 0 => []
  | k + 1 => match ts[k]? with
    | some x => if mem s.ps x.frm && !mem s.tr (k : Int) then clN ts s k ++ [(k : Int)] else clN ts s k
    | none => clN ts s k
theorem clN_yes {ts : List Lg} {s : Net} {k : Nat} {x : Lg} (h : ts[k]? = some x) (hp : mem s.ps x.frm = true) (ht : mem s.tr (k : Int) = false) : clN ts s (k + 1) = clN ts s k ++ [(k : Int)] := by
  show (match ts[k]? with | some x => _ | none => _) = _
  rw [h]; simp only [hp, ht]; rfl
theorem clN_no {ts : List Lg} {s : Net} {k : Nat} {x : Lg} (h : ts[k]? = some x) (hp : (mem s.ps x.frm && !mem s.tr (k : Int)) = false) : clN ts s (k + 1) = clN ts s k := by
  show (match ts[k]? with | some x => _ | none => _) = _
  rw [h]; simp only [hp]; rfl
theorem clN_len (ts : List Lg) (s : Net) : ∀ k, (clN ts s k).length ≤ k
  | 0 => Nat.le_refl _
  | k + 1 => by
    have ih := clN_len ts s k
    cases e : ts[k]? with
    | none => have : clN ts s (k + 1) = clN ts s k := by show (match ts[k]? with | some x => _ | none => _) = _; rw [e]
              rw [this]; omega
    | some x =>
      cases h : (mem s.ps x.frm && !mem s.tr (k : Int))
      · rw [clN_no e h]; omega
      · rw [Bool.and_eq_true, Bool.not_eq_true'] at h
        rw [clN_yes e h.1 h.2, List.length_append]; simp; omega
def clIds (ts : List Lg) : List Int := if goodLg ts then clN ts (net ts) ts.length else []
theorem len12 {ts : List Lg} {n : Nat} (hL : ts.length = n) (hg : goodLg ts = true) : n ≤ 12 := by rw [← hL]; exact goodLg_len hg
/-- what every step keeps besides: tree legs join placed stations without an error, and as many stations are placed as there are tree legs, and one -/
def Tr (ts : List Lg) (s : Net) : Prop :=
  s.tr.length + 1 = s.ps.length ∧ at_ s.pl 0 = zero3 ∧ ∀ i ∈ s.tr, ∃ x, ts[i.toNat]? = some x ∧ 0 ≤ i ∧ i < ts.length ∧ x.frm ∈ s.ps ∧ x.to_ ∈ s.ps ∧ add3 (sub3 (shf x) (at_ s.pl x.to_)) (at_ s.pl x.frm) = zero3
theorem at_set {l : List Sf} {a b : Int} {v : Sf} (hl : l.length = 8) (ha : 0 ≤ a ∧ a ≤ 7) (hb : 0 ≤ b ∧ b ≤ 7) : at_ (l.set b.toNat v) a = if a = b then v else at_ l a := by
  unfold at_
  by_cases e : a = b
  · subst e
    rw [if_pos rfl, List.getElem?_set_self (by omega)]; rfl
  · rw [if_neg e, List.getElem?_set_ne (by omega)]
theorem sf_ext {a b : Sf} (h1 : a.east = b.east) (h2 : a.north = b.north) (h3 : a.up = b.up) : a = b := by cases a; cases b; simp_all
theorem err_fwd (p s : Sf) : add3 (sub3 s (add3 p s)) p = zero3 := sf_ext (by unfold add3 sub3 zero3; simp only []; omega) (by unfold add3 sub3 zero3; simp only []; omega) (by unfold add3 sub3 zero3; simp only []; omega)
theorem err_bwd (p s : Sf) : add3 (sub3 s p) (sub3 p s) = zero3 := sf_ext (by unfold add3 sub3 zero3; simp only []; omega) (by unfold add3 sub3 zero3; simp only []; omega) (by unfold add3 sub3 zero3; simp only []; omega)
theorem tr_start (ts : List Lg) : Tr ts start := ⟨rfl, rfl, fun i hi => by simp [start] at hi⟩
theorem tr_leg {ts : List Lg} {s : Net} {i : Nat} {x : Lg} (hg : goodLg ts = true) (ho : Ok s) (h : Tr ts s) (hx : ts[i]? = some x) : Tr ts (leg1 x i s) := by
  obtain ⟨h1, h2, h3⟩ := h
  have hi : i < ts.length := (List.getElem?_eq_some_iff.1 hx).1
  obtain ⟨l1, l2, l3, -⟩ := okLg_lim (goodLg_at hg hx)
  have ob := ho.2.2.1
  -- a leg that places a station is no tree leg yet
  have new : does x s = true → (i : Int) ∉ s.tr := fun hd hm => by
    obtain ⟨y, hy, -, -, a, b, -⟩ := h3 _ hm
    rw [Int.toNat_natCast, hx] at hy
    obtain rfl := Option.some.inj hy
    rw [does_marks (mem_iff.2 a) (mem_iff.2 b)] at hd; cases hd
  cases hd : does x s
  · rw [leg1_no hd]; exact ⟨h1, h2, h3⟩
  · have hn := new hd
    cases ha : mem s.ps x.frm
    · cases hb : mem s.ps x.to_
      · rw [does_marks ha hb] at hd; cases hd
      · rw [leg1_bwd ha hb]
        have na : x.frm ∉ s.ps := fun k => by rw [mem_iff.2 k] at ha; cases ha
        have hb' := mem_iff.1 hb
        refine ⟨by show (put s.tr _).length + 1 = (put s.ps _).length; rw [put_len_new hn, put_len_new na]; omega, ?_, ?_⟩
        · show at_ (s.pl.set x.frm.toNat _) 0 = zero3
          rw [at_set ho.1 (by omega) l1, if_neg (fun e => na (by rw [← e]; exact ho.2.2.2.2.2.1))]; exact h2
        · intro j hj
          rcases mem_put.1 hj with rfl | q
          · refine ⟨x, by rw [Int.toNat_natCast]; exact hx, by omega, by omega, mem_put.2 (.inl rfl), mem_put.2 (.inr hb'), ?_⟩
            show add3 (sub3 (shf x) (at_ (s.pl.set x.frm.toNat _) x.to_)) (at_ (s.pl.set x.frm.toNat _) x.frm) = zero3
            rw [at_set ho.1 l2 l1, if_neg (fun e => l3 e.symm), at_set ho.1 l1 l1, if_pos rfl]; exact err_bwd _ _
          · obtain ⟨y, hy, i0, i1, a, b, e⟩ := h3 _ q
            refine ⟨y, hy, i0, i1, mem_put.2 (.inr a), mem_put.2 (.inr b), ?_⟩
            show add3 (sub3 (shf y) (at_ (s.pl.set x.frm.toNat _) y.to_)) (at_ (s.pl.set x.frm.toNat _) y.frm) = zero3
            rw [at_set ho.1 (ob _ b) l1, if_neg (fun e => na (by rw [← e]; exact b)), at_set ho.1 (ob _ a) l1, if_neg (fun e => na (by rw [← e]; exact a))]; exact e
    · cases hb : mem s.ps x.to_
      · rw [leg1_fwd ha hb]
        have nb : x.to_ ∉ s.ps := fun k => by rw [mem_iff.2 k] at hb; cases hb
        have ha' := mem_iff.1 ha
        refine ⟨by show (put s.tr _).length + 1 = (put s.ps _).length; rw [put_len_new hn, put_len_new nb]; omega, ?_, ?_⟩
        · show at_ (s.pl.set x.to_.toNat _) 0 = zero3
          rw [at_set ho.1 (by omega) l2, if_neg (fun e => nb (by rw [← e]; exact ho.2.2.2.2.2.1))]; exact h2
        · intro j hj
          rcases mem_put.1 hj with rfl | q
          · refine ⟨x, by rw [Int.toNat_natCast]; exact hx, by omega, by omega, mem_put.2 (.inr ha'), mem_put.2 (.inl rfl), ?_⟩
            show add3 (sub3 (shf x) (at_ (s.pl.set x.to_.toNat _) x.to_)) (at_ (s.pl.set x.to_.toNat _) x.frm) = zero3
            rw [at_set ho.1 l1 l2, if_neg l3, at_set ho.1 l2 l2, if_pos rfl]; exact err_fwd _ _
          · obtain ⟨y, hy, i0, i1, a, b, e⟩ := h3 _ q
            refine ⟨y, hy, i0, i1, mem_put.2 (.inr a), mem_put.2 (.inr b), ?_⟩
            show add3 (sub3 (shf y) (at_ (s.pl.set x.to_.toNat _) y.to_)) (at_ (s.pl.set x.to_.toNat _) y.frm) = zero3
            rw [at_set ho.1 (ob _ b) l2, if_neg (fun e => nb (by rw [← e]; exact b)), at_set ho.1 (ob _ a) l2, if_neg (fun e => nb (by rw [← e]; exact a))]; exact e
      · rw [does_marks ha hb] at hd; cases hd
theorem tr_legs {ts : List Lg} (hg : goodLg ts = true) {s : Net} (ho : Ok s) (h : Tr ts s) : ∀ k, Tr ts (legsN ts s k)
  | 0 => h
  | k + 1 => by
    cases e : ts[k]? with
    | none => have e2 : legsN ts s (k + 1) = legsN ts s k := by show (match ts[k]? with | some x => _ | none => _) = _; rw [e]
              rw [e2]; exact tr_legs hg ho h k
    | some x => rw [legsN_succ e]; exact tr_leg hg (ok_legs hg ho k) (tr_legs hg ho h k) e
theorem tr_passes {ts : List Lg} (hg : goodLg ts = true) : ∀ k, Tr ts (passes ts k)
  | 0 => tr_start ts
  | k + 1 => tr_legs hg (ok_passes hg k) (tr_passes hg k) _
theorem tr_net {ts : List Lg} (hg : goodLg ts = true) : Tr ts (net ts) := tr_passes hg 9
def sq3 (d : Sf) : Int := d.east * d.east + d.north * d.north + d.up * d.up
theorem has_root : ∀ n : Nat, ∃ r : Int, len.IsRoot (n : Int) r
  | 0 => ⟨0, by decide, by decide, by decide⟩
  | n + 1 => by
    obtain ⟨r, h0, h1, h2⟩ := has_root n
    by_cases h : ((n + 1 : Nat) : Int) < (r + 1) * (r + 1)
    · exact ⟨r, h0, by push_cast; omega, h⟩
    · refine ⟨r + 1, by omega, by omega, ?_⟩
      have e : (r + 1 + 1) * (r + 1 + 1) = (r + 1) * (r + 1) + 2 * r + 3 := by
        rw [Int.mul_add, Int.add_mul]; omega
      rw [e]; push_cast; omega
theorem root_of (d : Sf) : ∃ r, len.IsRoot (sq3 d) r := by
  have h0 : 0 ≤ sq3 d := by
    have sq : ∀ a : Int, 0 ≤ a * a := fun a => by
      rcases Int.le_total 0 a with k | k
      · exact Int.mul_nonneg k k
      · have := Int.mul_nonneg (show 0 ≤ -a by omega) (show 0 ≤ -a by omega)
        rw [Int.neg_mul_neg] at this; exact this
    have a := sq d.east; have b := sq d.north; have c := sq d.up
    unfold sq3; omega
  obtain ⟨r, hr⟩ := has_root (sq3 d).toNat
  exact ⟨r, by rwa [Int.toNat_of_nonneg h0] at hr⟩
#print axioms tr_net
#print axioms root_of
end Go.Proofs.YtiimegmaokfpgabGreatDoor.nt
