/-
  A network without closing legs has one tree and no residuals; a bridge has none (pure mathematics).
  What FnBlunders and FnFixes ask of the answers (pure).
  The length of a shift, by the program.
  The misclosure of a loop, by the program; which of two loops is worse.
  MisclosureOf, what a loop misses, which of two loops is worse, CountLoops, by the program.
  WorstLoop and LoopsThrough, by the program.
  A law over code: what is live all along; lists of ints compared.
  FnBlunders and FnFixes: the contracts in letters.
  Conditions: those that each theorem names.
-/
import Derived.Test.YtjlkgijaceplcabGreatDoorBlB
import Derived.Test.YtjlkgijaceplcabGreatDoorBlE
import Derived.Test.YtjlkgijaceplcabGreatDoorNtZ
import Derived.Test.YtjlkgijaceplcabGreatDoorNqZ
import Derived.Test.YtjlkgijaceplcabGreatDoorLenI
import Derived.Test.YtjlkgijaceplcabGreatDoorBlC
import Derived.Test.YtjlkgijaceplcabGreatDoorTyLeg
import Derived.Test.YtjlkgijaceplcabGreatDoorBase
import Derived.Test.YtjlkgijaceplcabGreatDoorCurs
import Derived.Test.YtjlkgijaceplcabGreatDoorSinI
import Derived.Test.YtjlkgijaceplcabGreatDoorRowI
import Derived.Test.YtjlkgijaceplcabGreatDoorVs
import Derived.Test.YtjlkgijaceplcabGreatDoorEnd
import Derived.Deep.DeepCutAuto
namespace Go.Proofs.YtjlkgijaceplcabGreatDoor.bl
open Go.RowKit
open reads base ty lg lgi win hs nt nq rowi sn mt ml dt pg ph lp
set_option linter.unusedVariables false
set_option linter.unusedSimpArgs false
def TrN (ts : List Lg) (s : Net) : Prop := ∃ l us, dt.Tr l us ∧ l.Nodup ∧ (∀ c : Nat, c ∈ l ↔ ((c : Int) ∈ s.ps ∧ c ≠ 0)) ∧ us.Perm (s.tr.map (fun i => edOf 0 (lgAt ts i)))
theorem asc_nodup {l : List Int} (h : l.Pairwise (· < ·)) : l.Nodup := h.imp (fun q e => by omega)
theorem put_perm {l : List Int} {n : Int} (h : (put l n).Pairwise (· < ·)) (hl : l.Pairwise (· < ·)) (hn : n ∉ l) : (put l n).Perm (n :: l) :=
  (List.perm_ext_iff_of_nodup (asc_nodup h) (List.nodup_cons.2 ⟨hn, asc_nodup hl⟩)).2 (fun x => by rw [mem_put, List.mem_cons])
theorem trn_one {ts : List Lg} {s s' : Net} {i : Nat} {x : Lg} {p c : Int} (hg : goodLg ts = true) (ho : Ok s) (ho' : Ok s') (ht : nt.Tr ts s) (h : TrN ts s) (hx : ts[i]? = some x) (hps : s'.ps = put s.ps c) (htr : s'.tr = put s.tr (i : Int)) (hp : p ∈ s.ps) (hc : c ∉ s.ps) (he : x.frm = p ∧ x.to_ = c ∨ x.to_ = p ∧ x.frm = c) : TrN ts s' := by
  obtain ⟨l, us, h1, h2, h3, h4⟩ := h
  have hok := okLg_lim (goodLg_at hg hx)
  have bp := ho.2.2.1 p hp
  have bc : 0 ≤ c ∧ c ≤ 7 := by rcases he with ⟨-, e⟩ | ⟨-, e⟩ <;> omega
  have c0 : c ≠ 0 := fun e => hc (by rw [e]; exact ho.2.2.2.2.2.1)
  have hcl : c.toNat ∉ l := fun q => hc (by have := (h3 _).1 q; rw [show ((c.toNat : Nat) : Int) = c by omega] at this; exact this.1)
  have hit : (i : Int) ∉ s.tr := fun q => by
    obtain ⟨y, hy, -, -, f1, f2, -⟩ := ht.2.2 _ q
    rw [Int.toNat_natCast, hx] at hy
    obtain rfl := Option.some.inj hy
    rcases he with ⟨-, e⟩ | ⟨-, e⟩
    · rw [e] at f2; exact hc f2
    · rw [e] at f1; exact hc f1
  refine ⟨c.toNat :: l, edOf 0 x :: us, .more (p := p.toNat) h1 ?_ (by omega) (by omega) (by omega) hcl ?_, List.nodup_cons.2 ⟨hcl, h2⟩, ?_, ?_⟩
  · by_cases e : p = 0
    · exact .inl (by omega)
    · exact .inr ((h3 _).2 ⟨by rw [show ((p.toNat : Nat) : Int) = p by omega]; exact hp, by omega⟩)
  · rcases he with ⟨e1, e2⟩ | ⟨e1, e2⟩
    · exact .inl ⟨by show x.frm.toNat = _; rw [e1], by show x.to_.toNat = _; rw [e2]⟩
    · exact .inr ⟨by show x.to_.toNat = _; rw [e1], by show x.frm.toNat = _; rw [e2]⟩
  · intro a
    rw [List.mem_cons, h3, hps, mem_put]
    constructor
    · rintro (e | ⟨q, z⟩)
      · exact ⟨.inl (by omega), by omega⟩
      · exact ⟨.inr q, z⟩
    · rintro ⟨e | q, z⟩
      · exact .inl (by omega)
      · exact .inr ⟨q, z⟩
  · have hq : (put s.tr (i : Int)).Perm ((i : Int) :: s.tr) := put_perm (by rw [← htr]; exact ho'.2.2.2.1) ho.2.2.2.1 hit
    rw [htr]
    refine List.Perm.trans ?_ (hq.map _).symm
    rw [List.map_cons, lgAt_is hx]
    exact h4.cons _
theorem trn_leg {ts : List Lg} {s : Net} {i : Nat} {x : Lg} (hg : goodLg ts = true) (ho : Ok s) (ht : nt.Tr ts s) (h : TrN ts s) (hx : ts[i]? = some x) : TrN ts (leg1 x i s) := by
  have hi : i < 12 := by have := lt_at hx; have := goodLg_len hg; omega
  have ho' := ok_leg (i := i) ho (goodLg_at hg hx) hi
  unfold leg1 at ho' ⊢
  by_cases h1 : x.frm ∈ s.ps ∧ x.to_ ∉ s.ps
  · rw [if_pos h1] at ho' ⊢
    exact trn_one hg ho ho' ht h hx rfl rfl h1.1 h1.2 (.inl ⟨rfl, rfl⟩)
  · rw [if_neg h1] at ho' ⊢
    by_cases h2 : x.to_ ∈ s.ps ∧ x.frm ∉ s.ps
    · rw [if_pos h2] at ho' ⊢
      exact trn_one hg ho ho' ht h hx rfl rfl h2.1 h2.2 (.inr ⟨rfl, rfl⟩)
    · rw [if_neg h2]; exact h
theorem trn_legs {ts : List Lg} {s : Net} (hg : goodLg ts = true) (ho : Ok s) (ht : nt.Tr ts s) (h : TrN ts s) : ∀ k, TrN ts (legsN ts s k)
  | 0 => h
  | k + 1 => by
    cases e : ts[k]? with
    | none =>
      have e2 : legsN ts s (k + 1) = legsN ts s k := by show (match ts[k]? with | some x => _ | none => _) = _; rw [e]
      rw [e2]; exact trn_legs hg ho ht h k
    | some x => rw [legsN_succ e]; exact trn_leg hg (ok_legs hg ho k) (tr_legs hg ho ht k) (trn_legs hg ho ht h k) e
theorem trn_passes {ts : List Lg} (hg : goodLg ts = true) : ∀ k, TrN ts (passes ts k)
  | 0 => ⟨[], [], .nil, List.nodup_nil, fun c => by
      show c ∈ [] ↔ ((c : Int) ∈ [(0 : Int)] ∧ c ≠ 0)
      rw [List.mem_singleton]
      constructor
      · intro h; cases h
      · rintro ⟨a, b⟩; omega, List.Perm.nil⟩
  | k + 1 => trn_legs hg (ok_passes hg k) (tr_passes hg k) (trn_passes hg k) _
theorem plN_asc {ts : List Lg} : ∀ k, (plN ts k).Pairwise (· < ·)
  | 0 => by simp [plN, rowi.idxs]
  | k + 1 => by
    cases e : ts[k]? with
    | none => rw [show plN ts (k + 1) = plN ts k by unfold plN; rw [rowi.idxs, e]]; exact plN_asc k
    | some x =>
      cases q : mem (net ts).ps x.frm
      · rw [show plN ts (k + 1) = plN ts k from rowi.idxs_no e q]; exact plN_asc k
      · rw [show plN ts (k + 1) = plN ts k ++ [(k : Int)] from rowi.idxs_yes e q, List.pairwise_append]
        refine ⟨plN_asc k, List.pairwise_singleton _ _, fun a ha b hb => ?_⟩
        obtain ⟨j, rfl, hj, -⟩ := plN_mem ha
        rw [List.mem_singleton] at hb; omega
theorem pl_tree {ts : List Lg} (hg : goodLg ts = true) (hc : clIds ts = []) : plIds ts = (net ts).tr := by
  have ho := ok_net hg
  refine asc_ext (plN_asc _) ho.2.2.2.1 (fun i => ?_)
  constructor
  · intro h
    obtain ⟨j, rfl, x, hx, hm⟩ := plIds_at h
    by_cases q : (j : Int) ∈ (net ts).tr
    · exact q
    · exfalso
      have hj := lt_at hx
      have : (j : Int) ∈ clIds ts := by
        unfold clIds; rw [if_pos hg]
        exact (clN_iff _ (Nat.le_refl _) _).2 ⟨by omega, by omega, x, by rw [Int.toNat_natCast]; exact hx, mem_iff.1 hm, q⟩
      rw [hc] at this; cases this
  · intro h
    obtain ⟨y, hy, i0, i1, f1, -⟩ := (tr_passes hg 9).2.2 _ h
    obtain ⟨j, rfl⟩ := Int.eq_ofNat_of_zero_le i0
    rw [Int.toNat_natCast] at hy
    exact pl_all hy (mem_iff.2 f1)
theorem TC_one {ts : List Lg} (hg : goodLg ts = true) (hc : clIds ts = []) : TC ts = 1 := by
  obtain ⟨l, us, h1, h2, h3, h4⟩ := trn_passes hg 9
  have hw := nw_net hg 0
  have e1 : US ts 0 = (net ts).tr.map (fun i => edOf 0 (lgAt ts i)) := by unfold US eds; rw [pl_tree hg hc]
  have hp : us.Perm (US ts 0) := by rw [e1]; exact h4
  have hl : l.Perm (stN ts) := (List.perm_ext_iff_of_nodup h2 hw.hn).2 (fun c => by
    rw [h3]
    show ((c : Int) ∈ (net ts).ps ∧ c ≠ 0) ↔ c ∈ stN ts
    rw [(ps_split hg).1, List.mem_cons]
    have m := mem_stN (s := (c : Int)) hg (by omega)
    rw [Int.toNat_natCast] at m
    rw [m]
    constructor
    · rintro ⟨e | q, z⟩
      · omega
      · exact q
    · intro q
      have := (ps_split hg).2.2 _ q
      exact ⟨.inr q, by omega⟩)
  have h8 : 8 ∉ l := fun q => hw.n8 (hl.mem_iff.1 q)
  have d := h1.one h8
  unfold TC
  rw [← DD_perm hl, ← d]
  unfold DD
  exact dt_rows (fun i _ c _ => (AA_perm hp i c).symm)
def plc (ts : List Lg) (ax : Int) (s : Nat) : Int := if s ∈ stN ts then (if ax = 0 then (at_ (net ts).pl (s : Int)).east else if ax = 1 then (at_ (net ts).pl (s : Int)).north else (at_ (net ts).pl (s : Int)).up) else 0
theorem plc_at {ts : List Lg} (hg : goodLg ts = true) (ax : Int) {s : Int} (hs : s ∈ (net ts).ps) : plc ts ax s.toNat = if ax = 0 then (at_ (net ts).pl s).east else if ax = 1 then (at_ (net ts).pl s).north else (at_ (net ts).pl s).up := by
  have b := (ok_net hg).2.2.1 s hs
  have e : ((s.toNat : Nat) : Int) = s := by omega
  unfold plc
  rw [e]
  rw [(ps_split hg).1] at hs
  rcases List.mem_cons.1 hs with q | q
  · have z : at_ (net ts).pl s = zero3 := by rw [q]; exact (tr_passes hg 9).2.1
    rw [z, if_neg (fun h => by rw [q] at h; exact (nw_net hg 0).h0 h)]
    unfold zero3; simp
  · rw [if_pos ((mem_stN hg (by omega)).2 q)]
theorem XC_places {ts : List Lg} (hg : goodLg ts = true) (hc : clIds ts = []) (ax : Int) (s : Nat) : XC ts ax s = plc ts ax s := by
  have hw := nw_net hg ax
  have h := hw.places (p := plc ts ax) (fun s hs => by unfold plc; rw [if_neg hs]) (fun x hx => by
    obtain ⟨i, hi, e⟩ := List.mem_map.1 hx
    rw [pl_tree hg hc] at hi
    obtain ⟨y, hy, i0, i1, f1, f2, er⟩ := (tr_passes hg 9).2.2 _ hi
    obtain ⟨j, rfl⟩ := Int.eq_ofNat_of_zero_le i0
    rw [Int.toNat_natCast] at hy
    have e : edOf ax (lgAt ts (j : Int)) = x := e
    rw [lgAt_is hy] at e
    rw [← e]
    show plc ts ax y.to_.toNat - plc ts ax y.frm.toNat = msA y ax
    have f1 : y.frm ∈ (net ts).ps := f1
    have f2 : y.to_ ∈ (net ts).ps := f2
    have er : add3 (sub3 (shf y) (at_ (net ts).pl y.to_)) (at_ (net ts).pl y.frm) = zero3 := er
    rw [plc_at hg ax f1, plc_at hg ax f2]
    have g1 : (shf y).east - (at_ (net ts).pl y.to_).east + (at_ (net ts).pl y.frm).east = 0 := congrArg (·.east) er
    have g2 : (shf y).north - (at_ (net ts).pl y.to_).north + (at_ (net ts).pl y.frm).north = 0 := congrArg (·.north) er
    have g3 : (shf y).up - (at_ (net ts).pl y.to_).up + (at_ (net ts).pl y.frm).up = 0 := congrArg (·.up) er
    unfold msA
    split
    · omega
    · split <;> omega) s
  rw [DD_ax hg ax, TC_one hg hc, Int.one_mul] at h
  exact h
theorem res_none {ts : List Lg} (hg : goodLg ts = true) (hc : clIds ts = []) (ax : Int) {x : Ed} (hx : x ∈ US ts ax) : res (US ts ax) (stN ts) x = 0 := by
  obtain ⟨i, hi, e⟩ := List.mem_map.1 hx
  have hi2 := hi
  rw [pl_tree hg hc] at hi
  obtain ⟨y, hy, i0, i1, f1, f2, er⟩ := (tr_passes hg 9).2.2 _ hi
  obtain ⟨j, rfl⟩ := Int.eq_ofNat_of_zero_le i0
  rw [Int.toNat_natCast] at hy
  have e : edOf ax (lgAt ts (j : Int)) = x := e
  rw [lgAt_is hy] at e
  unfold res
  rw [DD_ax hg ax, TC_one hg hc]
  show x.mu * 1 - (XC ts ax x.t - XC ts ax x.f) = 0
  rw [XC_places hg hc, XC_places hg hc, ← e]
  show msA y ax * 1 - (plc ts ax y.to_.toNat - plc ts ax y.frm.toNat) = 0
  have f1 : y.frm ∈ (net ts).ps := f1
  have f2 : y.to_ ∈ (net ts).ps := f2
  have er : add3 (sub3 (shf y) (at_ (net ts).pl y.to_)) (at_ (net ts).pl y.frm) = zero3 := er
  rw [plc_at hg ax f1, plc_at hg ax f2]
  have g1 : (shf y).east - (at_ (net ts).pl y.to_).east + (at_ (net ts).pl y.frm).east = 0 := congrArg (·.east) er
  have g2 : (shf y).north - (at_ (net ts).pl y.to_).north + (at_ (net ts).pl y.frm).north = 0 := congrArg (·.north) er
  have g3 : (shf y).up - (at_ (net ts).pl y.to_).up + (at_ (net ts).pl y.frm).up = 0 := congrArg (·.up) er
  unfold msA
  split
  · omega
  · split <;> omega
theorem EE_none {ts : List Lg} (hg : goodLg ts = true) (hc : clIds ts = []) (ax : Int) : EE ts ax = 0 := by
  unfold EE
  rw [sme_congr (h := fun x => 0 * x.mu) (fun x hx => by rw [res_none hg hc ax hx]; simp)]
  unfold sme
  have := sum_mul (l := (US ts ax).map (fun _ => (0 : Nat))) 0 (fun _ => 0)
  have key : ∀ l : List Ed, (l.map (fun x => 0 * x.mu)).sum = 0 := fun l => by
    induction l with
    | nil => rfl
    | cons a l ih => rw [List.map_cons, List.sum_cons, ih]; omega
  exact key _
theorem strain_none {ts : List Lg} (hg : goodLg ts = true) (hc : clIds ts = []) : snV ts = 0 := by
  have e : EK ts 3 = 0 := by simp [EK, EE_none hg hc]
  unfold snV kn
  rw [e]; exact (red_zero (TC_pos hg)).1
end Go.Proofs.YtjlkgijaceplcabGreatDoor.bl

namespace Go.Proofs.YtjlkgijaceplcabGreatDoor.bl
open Go.RowKit
open reads base ty lg lgi win hs nt nq rowi sn mt ml dt pg ph lp
set_option linter.unusedVariables false
set_option linter.unusedSimpArgs false
theorem flN_some {α : Type} {p : α → Bool} {F : α → List Lg} {l : List α} {j : Nat} {c : α} (hc : l[j]? = some c) (hp : p c = true) : ∀ m, j < m → ∃ b, flN p F l m = some b
  | m + 1, hm => by
    cases e2 : l[m]? with
    | none =>
      have : j ≠ m := fun q => by rw [q, e2] at hc; cases hc
      obtain ⟨b, hb⟩ := flN_some (F := F) hc hp m (by omega)
      exact ⟨b, by rw [show flN p F l (m + 1) = flN p F l m by show (match l[m]? with | some c => _ | none => _) = _; rw [e2]]; exact hb⟩
    | some g =>
      rw [flN_succ e2]
      by_cases q : j = m
      · subst q
        rw [hc] at e2
        obtain rfl := Option.some.inj e2
        cases flN p F l j with
        | none => exact ⟨_, flS_none hp⟩
        | some a =>
          by_cases z : cpS (F c) (F a) < 0
          · exact ⟨_, flS_yes hp z⟩
          · exact ⟨_, flS_keep z⟩
      · obtain ⟨b, hb⟩ := flN_some (F := F) hc hp m (by omega)
        rw [hb]
        cases hpg : p g
        · exact ⟨_, flS_no hpg⟩
        · by_cases z : cpS (F g) (F b) < 0
          · exact ⟨_, flS_yes hpg z⟩
          · exact ⟨_, flS_keep z⟩
theorem su_some {ts : List Lg} {j : Nat} (h : swOk ts (j : Int) = true) : goodLg ts = true ∧ ∃ jb : Nat, ansSu ts = .tuple #[.int .i64 (jb : Int), .bool true] ∧ (∃ x, ts[jb]? = some x) ∧ cpS (less ts jb) (less ts j) ≤ 0 := by
  unfold swOk at h
  rw [Bool.and_eq_true, Bool.not_eq_true', Int.toNat_natCast] at h
  obtain ⟨hg, hm, -⟩ := plB_at h.1
  obtain ⟨k, hk⟩ := List.getElem?_of_mem hm
  have hkl := lt_at hk
  have hp : (fun i : Int => !brB ts i.toNat) (j : Int) = true := by show (!brB ts ((j : Int)).toNat) = true; rw [Int.toNat_natCast, h.2]; rfl
  obtain ⟨b, hb⟩ := flN_some (p := fun i : Int => !brB ts i.toNat) (F := fun i => less ts i.toNat) hk hp _ hkl
  have hl := flN_least (p := fun i : Int => !brB ts i.toNat) (F := fun i => less ts i.toNat) (fun c _ _ => less_good hg _) hb k _ hkl hk hp
  obtain ⟨jb, rfl, x, hx, -⟩ := plIds_at (flN_mem hb).1
  have e : suV ts = some (jb : Int) := by unfold suV; rw [if_pos hg]; exact hb
  refine ⟨hg, jb, by unfold ansSu; rw [e]; rfl, ⟨x, hx⟩, ?_⟩
  have hl2 : cpS (less ts ((jb : Int)).toNat) (less ts ((j : Int)).toNat) ≤ 0 := hl
  rwa [Int.toNat_natCast, Int.toNat_natCast] at hl2
theorem sw_leg {ts : List Lg} {i : Int} (h : swOk ts i = true) : goodLg ts = true ∧ ∃ (j : Nat) (x : Lg), i = (j : Int) ∧ ts[j]? = some x ∧ x.frm ∈ (net ts).ps ∧ brB ts j = false := by
  unfold swOk at h
  rw [Bool.and_eq_true, Bool.not_eq_true'] at h
  obtain ⟨hg, -, j, rfl, x, hx, hf⟩ := plB_at h.1
  have hb := h.2
  rw [Int.toNat_natCast] at hb
  exact ⟨hg, j, x, rfl, hx, hf, hb⟩
theorem cs_form (ts us : List Lg) : ∃ (s : Int) (ok : Bool), ansCs ts us = .tuple #[.int .i64 s, .bool ok] ∧ ansCs us ts = .tuple #[.int .i64 (-s), .bool ok] ∧ (-1 ≤ s ∧ s ≤ 1) := by
  have hb : -1 ≤ cpS ts us ∧ cpS ts us ≤ 1 := cpI_bd _ _
  unfold ansCs
  rw [Bool.and_comm (goodLg us)]
  cases goodLg ts && goodLg us
  · exact ⟨0, false, rfl, rfl, by omega⟩
  · exact ⟨cpS ts us, true, rfl, by rw [cpS_anti ts us]; rfl, hb⟩
theorem cs_good {ts us : List Lg} (h1 : goodLg ts = true) (h2 : goodLg us = true) : ansCs ts us = .tuple #[.int .i64 (cpS ts us), .bool true] := by unfold ansCs; rw [h1, h2]; rfl
theorem st_good {ts : List Lg} (h1 : goodLg ts = true) : ansSt ts = .tuple #[.int .i64 (snV ts), .int .i64 (sdV ts), .bool true] := by unfold ansSt; rw [h1]; rfl
end Go.Proofs.YtjlkgijaceplcabGreatDoor.bl

namespace Go.Proofs.YtjlkgijaceplcabGreatDoor.nq
open Go.RowKit
open reads base ty lg lgi win hs nt rowi
set_option linter.unusedVariables false
set_option linter.unusedSimpArgs false
end Go.Proofs.YtjlkgijaceplcabGreatDoor.nq
namespace Go.Proofs.YtjlkgijaceplcabGreatDoor.lpi
open Go.RowKit
open reads base ty lg lgi win rowi hs nt nq sn lp
set_option linter.unusedVariables false
set_option linter.unusedSimpArgs false
section
variable {w v v' : World} {X : Nat} {s : Sf} {y : Lg}
end
end Go.Proofs.YtjlkgijaceplcabGreatDoor.lpi
namespace Go.Proofs.YtjlkgijaceplcabGreatDoor.lpi
open Go.RowKit
open reads base ty lg lgi win rowi hs nt nq sn lp
set_option linter.unusedVariables false
set_option linter.unusedSimpArgs false
set_option maxHeartbeats 4000000 in
set_option maxRecDepth 100000 in
theorem count_impl (A : Option Addr) (n cap : Nat) (ts : List Lg) (w : World) (hn : n ≤ 2000000) (hts : Hid (LgAt w w.heap.size A n ts)) (hT : Hid (Tab w)) :
    Calls Tryz.prog 36 #[.slice A n cap] w (APost (.tuple #[.int .i64 ((clIds ts).length : Nat), .bool (goodLg ts)]) w) := by
  obtain ⟨C, HC⟩ : ∃ C, Hid (nv (netS ts) (clS ts) = C) := ⟨_, Lib.hid rfl⟩
  obtain ⟨g, HG⟩ : ∃ g, Hid (goodLg ts = g) := ⟨_, Lib.hid rfl⟩
  have hcz : C.size = 56 := by rw [← HC.out]; exact nv_size (nok_S ts)
  have HC1 := Lib.hid (show C.all (·.oneCell') = true by rw [← HC.out]; exact nv_one)
  rw [HG.out]
  go_enter Tryz.func36, Tryz.ntmps36
  go_wp2_with fail
  refine (net_any A n cap ts C g HC HG w hn hts hT).mono ?_
  rintro e w1 ⟨rfl, b1⟩
  have HB1 := Lib.hid b1
  clear b1
  have hst := lay_net hcz HC1.out w1
  have HB2 := Lib.hid (HB1.out.alloc HB1.out.size (.cells C 76))
  have HN2 := Lib.hid (show BsAt (w1.alloc (.cells C 76)) w1.heap.size 44 (clS ts) from bs_cl (nok_S ts) (by rw [HC.out]; exact Blk.new _ _ _))
  go_wp2_with fail
  clear hst
  refine (marked_any w1.heap.size 44 12 _ _ (Lib.hid ((nok_S ts).2)) (by decide) HN2).mono ?_
  rintro e w2 ⟨A2, c2, rfl, hO, b2⟩
  have HF := Lib.hid (cl_S ts)
  rw [HF.out]
  have HB := Lib.hid (HB2.out.trans (b2.mono HB2.out.size))
  clear hO b2 HN2 HB2
  go_wp2_with fail
  go_ret2
  exact ⟨rfl, HB.out⟩
end Go.Proofs.YtjlkgijaceplcabGreatDoor.lpi
namespace Go.Proofs.YtjlkgijaceplcabGreatDoor.lpi
open Go.RowKit
open reads base ty lg lgi win rowi hs nt nq sn lp
set_option linter.unusedVariables false
set_option linter.unusedSimpArgs false
theorem count_is (A : Option Addr) (n cap : Nat) (ts : List Lg) (w : World) (hn : n ≤ 2000000) (hts : Hid (LgAt w w.heap.size A n ts)) (hT : Hid (Tab w)) :
    Calls Tryz.prog 36 #[.slice A n cap] w (APost (ansCo ts) w) := count_impl A n cap ts w hn hts hT
end Go.Proofs.YtjlkgijaceplcabGreatDoor.lpi

namespace Go.Proofs.YtjlkgijaceplcabGreatDoor.nw
open Go.RowKit
open reads base ty win rowi
set_option linter.unusedVariables false
set_option linter.unusedSimpArgs false
def LawPost (w : World) (e : Ending) (w' : World) : Prop := e = .returned (.bool true) ∧ Below w.heap.size w w'
def St (w : World) (A : Option Addr) (n : Nat) (zs : List UInt8) (v : World) : Prop := Below w.heap.size w v ∧ curs.Code v A n zs ∧ win.Tab v
theorem St.step {w v v' : World} {A : Option Addr} {n : Nat} {zs : List UInt8} (h : St w A n zs v) (hb : Below v.heap.size v v') : St w A n zs v' := ⟨h.1.trans (hb.mono h.1.size), ⟨(h.2.1.1.below hb).more hb.size, h.2.1.2⟩, h.2.2.below hb⟩
theorem own_cap {w : World} {base size n c : Nat} {e : TypeId} {A : Option Addr} {xs : List Value} (h : w.ownsRow base e size (.slice A n c) n xs) : n ≤ c := by
  rcases h.2 with ⟨e1, e2⟩ | ⟨g, cp, cur, e1, _, _, h2, _⟩
  · injection e1 with _ e1 e3; omega
  · injection e1 with _ e1 e3; subst e3; exact h2
end Go.Proofs.YtjlkgijaceplcabGreatDoor.nw

namespace Go.Proofs.YtjlkgijaceplcabGreatDoor.nw
open Go.RowKit
open reads base ty win lg rowi hs nt nq ml lp bl
set_option linter.unusedVariables false
set_option linter.unusedSimpArgs false
section
variable {A A2 : Option Addr} {n cap n2 cap2 : Nat} {ts us : List Lg} {q : Int} {v : Value} {w : World}
theorem sw_i (h : Hid (ansSw ts q = v)) (hn : n ≤ 2000000) (hcap : n ≤ cap) (hts : Hid (LgAt w w.heap.size A n ts)) (hT : Hid (win.Tab w)) : Calls Tryz.prog 41 #[.slice A n cap, .int .i64 q] w (APost v w) := by
  rw [← h.out]; exact bl.strainWithout_impl A n cap ts q w hn hcap hts hT
theorem sw_m (h : Hid (ansSw ts q = v)) (hn : n ≤ 2000000) (hcap : n ≤ cap) (hts : Hid (LgAt w w.heap.size A n ts)) : Calls Tryz.prog 42 #[.slice A n cap, .int .i64 q] w (APost v w) := by
  rw [← h.out]; exact bl.strainWithout_model A n cap ts q w hn hcap hts
theorem su_i (h : Hid (ansSu ts = v)) (hn : n ≤ 2000000) (hcap : n ≤ cap) (hts : Hid (LgAt w w.heap.size A n ts)) (hT : Hid (win.Tab w)) : Calls Tryz.prog 47 #[.slice A n cap] w (APost v w) := by
  rw [← h.out]; exact bl.suspect_impl A n cap ts w hn hcap hts hT
theorem su_m (h : Hid (ansSu ts = v)) (hn : n ≤ 2000000) (hcap : n ≤ cap) (hts : Hid (LgAt w w.heap.size A n ts)) : Calls Tryz.prog 45 #[.slice A n cap] w (APost v w) := by
  rw [← h.out]; exact bl.suspect_model A n cap ts w hn hcap hts
theorem st_i (h : Hid (ansSt ts = v)) (hn : n ≤ 2000000) (hts : Hid (LgAt w w.heap.size A n ts)) (hT : Hid (win.Tab w)) : Calls Tryz.prog 44 #[.slice A n cap] w (APost v w) := by
  rw [← h.out]; exact bl.strainOf_impl A n cap ts w hn hts hT
theorem st_m (h : Hid (ansSt ts = v)) (hn : n ≤ 2000000) (hts : Hid (LgAt w w.heap.size A n ts)) : Calls Tryz.prog 49 #[.slice A n cap] w (APost v w) := by
  rw [← h.out]; exact bl.strainOf_model A n cap ts w hn hts
theorem co_i (h : Hid (ansCo ts = v)) (hn : n ≤ 2000000) (hts : Hid (LgAt w w.heap.size A n ts)) (hT : Hid (win.Tab w)) : Calls Tryz.prog 36 #[.slice A n cap] w (APost v w) := by
  rw [← h.out]; exact lpi.count_is A n cap ts w hn hts hT
theorem cs_i (h : Hid (ansCs ts us = v)) (hn : n ≤ 2000000) (hn2 : n2 ≤ 2000000) (hts : Hid (LgAt w w.heap.size A n ts)) (hus : Hid (LgAt w w.heap.size A2 n2 us)) (hT : Hid (win.Tab w)) : Calls Tryz.prog 43 #[.slice A n cap, .slice A2 n2 cap2] w (APost v w) := by
  rw [← h.out]; exact bl.compareStrains_impl A n cap ts A2 n2 cap2 us w hn hn2 hts hus hT
theorem cs_m (h : Hid (ansCs ts us = v)) (hn : n ≤ 2000000) (hn2 : n2 ≤ 2000000) (hts : Hid (LgAt w w.heap.size A n ts)) (hus : Hid (LgAt w w.heap.size A2 n2 us)) : Calls Tryz.prog 51 #[.slice A n cap, .slice A2 n2 cap2] w (APost v w) := by
  rw [← h.out]; exact bl.compareStrains_model A n cap ts A2 n2 cap2 us w hn hn2 hts hus
end
theorem sw_form (ts : List Lg) (q : Int) : ∃ (a d : Int) (ok : Bool), ansSw ts q = .tuple #[.int .i64 a, .int .i64 d, .bool ok] ∧ swOk ts q = ok := ⟨_, _, _, ansSw_is ts q, rfl⟩
theorem su_form (ts : List Lg) : ∃ (a : Int) (ok : Bool), ansSu ts = .tuple #[.int .i64 a, .bool ok] := ⟨_, _, rfl⟩
theorem st_form (ts : List Lg) : ∃ (a d : Int), ansSt ts = .tuple #[.int .i64 a, .int .i64 d, .bool (goodLg ts)] ∧ (goodLg ts = true → (clIds ts).length = 0 → a = 0) := by
  refine ⟨_, _, ansSt_is ts, fun hg hc => ?_⟩
  have hc2 : clIds ts = [] := List.length_eq_zero_iff.1 hc
  unfold fN; rw [if_pos hg]; exact strain_none hg hc2
theorem sw_all {ts : List Lg} {q a d : Int} (h : ansSw ts q = .tuple #[.int .i64 a, .int .i64 d, .bool true]) (ho : swOk ts q = true) :
    ∃ (j : Nat) (x : Lg) (jb : Nat) (y : Lg) (s s2 : Int), q = (j : Int) ∧ ts[j]? = some x ∧ goodLg ts = true ∧ ts[jb]? = some y ∧ ansCs (less ts j) ts = .tuple #[.int .i64 s, .bool true] ∧ s ≤ 0 ∧ ansSt (less ts j) = .tuple #[.int .i64 a, .int .i64 d, .bool true] ∧ ansSu ts = .tuple #[.int .i64 (jb : Int), .bool true] ∧ ansCs (less ts jb) (less ts j) = .tuple #[.int .i64 s2, .bool true] ∧ s2 ≤ 0 := by
  obtain ⟨hg, j, x, rfl, hx, hf, hb⟩ := sw_leg ho
  obtain ⟨-, jb, hs, ⟨y, hy⟩, hl⟩ := su_some ho
  have g1 := less_good hg j
  have g2 := less_good hg jb
  refine ⟨j, x, jb, y, _, _, rfl, hx, hg, hy, cs_good g1 hg, less_strain hg hx hf hb, ?_, hs, cs_good g2 g1, hl⟩
  rw [← h, st_good g1]
  unfold ansSw
  rw [ho, Int.toNat_natCast]; rfl
end Go.Proofs.YtjlkgijaceplcabGreatDoor.nw
