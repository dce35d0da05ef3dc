/-
  A law over code: what is live all along; lists of ints compared.
  Bridges and loops (pure mathematics): a leg with placed ends is a bridge exactly if no loop goes along it; the legs of a loop join its stations.
  FnBridges: the contracts in letters, what the law asks of the answers.
  FnLoops: the contracts in letters, what the law asks of the answers.
  FnLoops: the law's walk.
  FnLoops holds: at every code: the misclosure of a loop is the error of its closing leg, and the legs of a loop join its stations. Each function answers as its model answers; the code and the table of the sines read behind the call as they read before it.
  Conditions: those that each theorem names.
-/
import Derived.Test.YtkeepfkjhcmhlaaDoorTyLeg
import Derived.Test.YtkeepfkjhcmhlaaDoorBase
import Derived.Test.YtkeepfkjhcmhlaaDoorCurs
import Derived.Test.YtkeepfkjhcmhlaaDoorSinI
import Derived.Test.YtkeepfkjhcmhlaaDoorRowI
import Derived.Test.YtkeepfkjhcmhlaaDoorVs
import Derived.Test.YtkeepfkjhcmhlaaDoorEnd
import Derived.Test.YtkeepfkjhcmhlaaDoorKuM
import Derived.Test.YtkeepfkjhcmhlaaDoorKiL
import Derived.Test.YtkeepfkjhcmhlaaDoorNqP
import Derived.Deep.DeepCutAuto
import Derived.Test.YtkeepfkjhcmhlaaDoorDrV
import Derived.Test.YtkeepfkjhcmhlaaDoorOsC
import Derived.Carry
import Derived.ChangeOld
import Derived.Below
namespace Go.Proofs.YtkeepfkjhcmhlaaDoor.nw
open Go.RowKit
open reads base ty win rowi
set_option linter.unusedVariables false
set_option linter.unusedSimpArgs false

def LawPost (w : World) (e : Ending) (w' : World) : Prop := e = .returned (.bool true) ∧ Below w.heap.size w w'
/-- what is live all along: the code, the table, and nothing old has turned -/
def St (w : World) (A : Option Addr) (n : Nat) (zs : List UInt8) (v : World) : Prop := Below w.heap.size w v ∧ curs.Code v A n zs ∧ win.Tab v
theorem St.step {w v v' : World} {A : Option Addr} {n : Nat} {zs : List UInt8} (h : St w A n zs v) (hb : Below v.heap.size v v') : St w A n zs v' := ⟨h.1.trans (hb.mono h.1.size), h.2.1.below hb, h.2.2.below hb⟩
theorem St.alloc {w v : World} {A : Option Addr} {n : Nat} {zs : List UInt8} (h : St w A n zs v) (o : Obj) : St w A n zs (v.alloc o) := h.step ((Below.refl _ _).alloc (Nat.le_refl _) o)
theorem own_cap {w : World} {base size n c : Nat} {e : TypeId} {A : Option Addr} {xs : List Value} (h : w.ownsRow base e size (.slice A n c) n xs) : n ≤ c := by
  rcases h.2 with ⟨e1, e2⟩ | ⟨g, cp, cur, e1, _, _, h2, _⟩
  · injection e1 with _ e1 e3; omega
  · injection e1 with _ e1 e3; subst e3; exact h2
theorem vints_b {A A' : Option Addr} {n c c' : Nat} {xs : List Int} {w : World} (hn : n ≤ 2000000) (h : Hid (ints.IL w A n xs)) (h' : Hid (ints.IL w A' n xs)) :
    Calls Tryd.prog 42 #[.slice A n c, .slice A' n c'] w (APost (.bool true) w) :=
  (vs.vints_any A A' n c c' xs w hn h h').mono (by rintro e w' ⟨rfl, m, rfl⟩; exact ⟨rfl, ends.below_drewN (Below.refl _ _) m⟩)
end Go.Proofs.YtkeepfkjhcmhlaaDoor.nw

namespace Go.Proofs.YtkeepfkjhcmhlaaDoor.lp
open Go.RowKit
open reads base ty lg hs nt
set_option linter.unusedVariables false

theorem Chn.reach {ts : List Lg} {O : Int → Prop} : ∀ {l : List Int} {a b : Int}, Chn ts a l b → (∀ j ∈ l, O j) → Rc (By ts O) a b
  | [], a, b, h, _ => by
    have e : a = b := h
    rw [e]; exact .refl b
  | i :: l, a, b, h, ho => by
    obtain ⟨o, ⟨h0, x, hx, hJ⟩, h2⟩ := h
    exact .step ⟨i, ho i (List.mem_cons_self ..), h0, hx⟩ hJ (Chn.reach h2 (fun j hj => ho j (List.mem_cons_of_mem _ hj)))
theorem Chn.split {ts : List Lg} {j : Int} {m : List Int} : ∀ {l : List Int} {a b : Int}, Chn ts a (l ++ j :: m) b → ∃ s t, Chn ts a l s ∧ Jn ts j s t ∧ Chn ts t m b
  | [], a, b, h => by
    obtain ⟨o, hj, h2⟩ := h
    exact ⟨a, o, rfl, hj, h2⟩
  | i :: l, a, b, h => by
    obtain ⟨o, hj, h2⟩ := h
    obtain ⟨s, t, h3, h4, h5⟩ := Chn.split h2
    exact ⟨s, t, ⟨o, hj, h3⟩, h4, h5⟩
/-- a closing leg is no bridge -/
theorem cl_no_bridge {ts : List Lg} {k : Nat} (h : lpOk ts (k : Int) = true) : brB ts k = false := by
  obtain ⟨hg, h0, h1, x, hx, e, ho, hf, ht, hn⟩ := lp_leg h
  rw [Int.toNat_natCast] at hx
  refine (br_iff hg hx hf).2 ((tree_joins ht hf).mono (fun y hy => ?_))
  obtain ⟨i, hi, r⟩ := hy
  exact ⟨i, fun q => hn (by rw [← q]; exact hi), r⟩
/-- a leg of a loop is no bridge -/
theorem through_no_bridge {ts : List Lg} {k : Nat} {c : Int} (hc : lpOk ts c = true) (hm : (k : Int) ∈ lpIds ts c) : brB ts k = false := by
  rw [lpIds_is hc] at hm
  rcases List.mem_append.1 hm with hp | hp
  · obtain ⟨hg, h0, h1, y, hy, e, ho, hf, ht, hn⟩ := lp_leg hc
    have hnb := path_nb hc
    have hkt := hnb.mem _ hp
    have hck : c ≠ (k : Int) := fun q => hn (by rw [q]; exact hkt)
    obtain ⟨p, q, hpq⟩ := List.append_of_mem hp
    have hnd := (nb_once hnb).1
    rw [hpq] at hnd
    have hch := hnb.chn
    rw [hpq] at hch
    obtain ⟨s, t, a1, aj, a2⟩ := Chn.split hch
    have nd := List.nodup_append.1 hnd
    have n1 : ∀ j ∈ p, other k j := fun j hj => nd.2.2 j hj (k : Int) (List.mem_cons_self ..)
    have n2 : ∀ j ∈ q, other k j := fun j hj e => (List.nodup_cons.1 nd.2.1).1 (by rw [← e]; exact hj)
    rw [e] at a1 a2
    have way : Rc (By ts (other k)) s t := (a1.reach n1).symm.trans ((Rc.one ⟨c, hck, h0, hy⟩ (.inr ⟨rfl, rfl⟩)).trans (a2.reach n2).symm)
    obtain ⟨-, x, hx, hJ⟩ := aj
    rw [Int.toNat_natCast] at hx
    have hps := tr_ends hkt (⟨by omega, x, by rw [Int.toNat_natCast]; exact hx, .inl ⟨rfl, rfl⟩⟩ : Jn ts (k : Int) x.frm x.to_)
    refine (br_iff hg hx hps.1).2 ?_
    rcases hJ with ⟨e1, e2⟩ | ⟨e1, e2⟩
    · rw [e1, e2]; exact way.symm
    · rw [e1, e2]; exact way
  · have e : (k : Int) = c := by simpa using hp
    exact cl_no_bridge (by rw [e]; exact hc)
/-- a leg along which no loop goes is a bridge -/
theorem bridge_if_none {ts : List Lg} {k : Nat} {x : Lg} (hg : goodLg ts = true) (hx : ts[k]? = some x) (hf : x.frm ∈ (net ts).ps) (hno : ∀ c, lpOk ts c = true → (k : Int) ∉ lpIds ts c) : brB ts k = true := by
  cases hb : brB ts k with
  | true => rfl
  | false =>
    exfalso
    have hk : k < ts.length := (List.getElem?_eq_some_iff.1 hx).1
    have close : ∀ {j : Int} {y : Lg}, 0 ≤ j → ts[j.toNat]? = some y → y.frm ∈ (net ts).ps → j ∉ (net ts).tr → lpOk ts j = true := by
      intro j y h0 hy hfy hn
      have hj := (List.getElem?_eq_some_iff.1 hy).1
      unfold lpOk clIds
      rw [hg, Bool.true_and]
      exact mem_iff.2 ((clN_iff _ (Nat.le_refl _) _).2 ⟨h0, by omega, y, hy, hfy, hn⟩)
    have both : ∀ {j : Int} {y : Lg}, ts[j.toNat]? = some y → (y.frm ∈ (net ts).ps ↔ y.to_ ∈ (net ts).ps) := by
      intro j y hy
      rw [← mem_iff, ← mem_iff, net_ends hg hy]
    have hx' : ts[(k : Int).toNat]? = some x := by rw [Int.toNat_natCast]; exact hx
    have ht : x.to_ ∈ (net ts).ps := (both hx').1 hf
    have hkt : (k : Int) ∈ (net ts).tr := by
      apply Classical.byContradiction
      intro hn
      have hcl := close (by omega) hx' hf hn
      exact hno _ hcl (by rw [lpIds_is hcl]; simp)
    obtain ⟨E, hE⟩ : ∃ E, (net ts).tr.filter (fun i => !decide (i = (k : Int))) = E := ⟨_, rfl⟩
    have inE : ∀ i, i ∈ E ↔ i ∈ (net ts).tr ∧ i ≠ (k : Int) := fun i => by rw [← hE, List.mem_filter]; simp
    have key : ∀ {a b : Int}, Rc (By ts (other k)) a b → a ∈ (net ts).ps → Rc (By ts (· ∈ E)) a b := by
      intro a b h
      induction h with
      | refl a => exact fun _ => .refl a
      | @step y a o b hy hJ _ ih =>
        intro ha
        obtain ⟨j, hj, h0, hyj⟩ := hy
        have hfy : y.frm ∈ (net ts).ps := by
          rcases hJ with ⟨e1, e2⟩ | ⟨e1, e2⟩
          · rw [e1]; exact ha
          · exact (both hyj).2 (by rw [e1]; exact ha)
        have ho : o ∈ (net ts).ps := by
          rcases hJ with ⟨e1, e2⟩ | ⟨e1, e2⟩
          · rw [← e2]; exact (both hyj).1 hfy
          · rw [← e2]; exact hfy
        by_cases hjt : j ∈ (net ts).tr
        · exact .step ⟨j, (inE j).2 ⟨hjt, hj⟩, h0, hyj⟩ hJ (ih ho)
        · have hcl := close h0 hyj hfy hjt
          have hnk := hno _ hcl
          rw [lpIds_is hcl] at hnk
          have hnb := path_nb hcl
          have way : Rc (By ts (· ∈ E)) (legAt ts j).to_ (legAt ts j).frm := hnb.chn.reach (fun i hi => (inE i).2 ⟨hnb.mem i hi, fun q => hnk (List.mem_append_left _ (by rw [← q]; exact hi))⟩)
          rw [legAt_is hyj] at way
          rcases hJ with ⟨e1, e2⟩ | ⟨e1, e2⟩
          · rw [e1, e2] at way; exact way.symm.trans (ih ho)
          · rw [e1, e2] at way; exact way.trans (ih ho)
    have w := key ((br_iff hg hx hf).1 hb) ht
    obtain ⟨W, hW, eW⟩ := wy_of_reach x.frm 0 w
    obtain ⟨l, -, -, hl⟩ := hW.nb0
    rw [eW] at hl
    have h1 : NB ts (net ts).tr (-1) x.to_ l x.frm := hl.congr (fun i hi => ((inE i).1 hi).1)
    have h2 : NB ts (net ts).tr (-1) x.to_ [(k : Int)] x.frm := ⟨hkt, by omega, x.frm, ⟨by omega, x, hx', .inr ⟨rfl, rfl⟩⟩, rfl⟩
    have h3 := nb_uniq h1 h2
    exact ((inE _).1 (hl.mem (k : Int) (by rw [h3]; simp))).2 rfl
theorem thr_mem {ts : List Lg} {i c : Int} : ∀ {l : List Int}, c ∈ thrL ts i l ↔ c ∈ l ∧ i ∈ lpIds ts c
  | [] => by simp [thrL]
  | d :: l => by
    have ih := thr_mem (ts := ts) (i := i) (c := c) (l := l)
    rw [thrL]
    cases hm : mem (lpIds ts d) i with
    | true =>
      have hm := mem_iff.1 hm
      rw [if_pos rfl, List.mem_cons, List.mem_cons, ih]
      constructor
      · rintro (e | h)
        · exact ⟨.inl e, by rw [e]; exact hm⟩
        · exact ⟨.inr h.1, h.2⟩
      · rintro ⟨e | h, h2⟩
        · exact .inl e
        · exact .inr ⟨h, h2⟩
    | false =>
      have hn : i ∉ lpIds ts d := fun h => by rw [mem_iff.2 h] at hm; cases hm
      rw [if_neg (by decide), List.mem_cons, ih]
      constructor
      · exact fun h => ⟨.inr h.1, h.2⟩
      · rintro ⟨e | h, h2⟩
        · rw [e] at h2; exact absurd h2 hn
        · exact ⟨h, h2⟩
/-- a leg with placed ends is a bridge exactly if no loop goes along it -/
theorem br_thr {ts : List Lg} {k : Nat} {x : Lg} (hg : goodLg ts = true) (hx : ts[k]? = some x) (hf : x.frm ∈ (net ts).ps) : brB ts k = decide ((thrIds ts (k : Int)).length = 0) := by
  have hk : k < ts.length := (List.getElem?_eq_some_iff.1 hx).1
  have ht : thrIds ts (k : Int) = thrL ts (k : Int) (clIds ts) := by
    unfold thrIds thrOk
    rw [hg, Bool.true_and, btw_mk (by omega) (by omega)]
    rfl
  rw [ht]
  have ok : ∀ c, lpOk ts c = true ↔ c ∈ clIds ts := fun c => by unfold lpOk; rw [hg, Bool.true_and, mem_iff]
  by_cases h : (thrL ts (k : Int) (clIds ts)).length = 0
  · rw [decide_eq_true h]
    refine bridge_if_none hg hx hf (fun c hc hm => ?_)
    have : c ∈ thrL ts (k : Int) (clIds ts) := thr_mem.2 ⟨(ok c).1 hc, hm⟩
    rw [List.length_eq_zero_iff.1 h] at this
    cases this
  · rw [decide_eq_false h]
    cases hl : thrL ts (k : Int) (clIds ts) with
    | nil => rw [hl] at h; exact absurd rfl h
    | cons c l =>
      have hc : c ∈ thrL ts (k : Int) (clIds ts) := by rw [hl]; exact List.mem_cons_self ..
      obtain ⟨h1, h2⟩ := thr_mem.1 hc
      exact through_no_bridge ((ok c).2 h1) h2
end Go.Proofs.YtkeepfkjhcmhlaaDoor.lp

namespace Go.Proofs.YtkeepfkjhcmhlaaDoor.nw
open Go.RowKit
open reads base ty win lg rowi hs nt nq lp
set_option linter.unusedVariables false
set_option linter.unusedSimpArgs false

section
variable {A : Option Addr} {n cap : Nat} {ts : List Lg} {q : Int} {I : List Int} {B : Bool} {v : Value} {w : World}
theorem br_i (h : Hid (ansBr ts q = v)) (hn : n ≤ 2000000) (hts : Hid (LgAt w w.heap.size A n ts)) (hT : Hid (win.Tab w)) : Calls Tryd.prog 33 #[.slice A n cap, .int .i64 q] w (APost v w) := by
  rw [← h.out]; exact lpi.isBridge_impl A n cap ts q w hn hts hT
theorem br_m (h : Hid (ansBr ts q = v)) (hn : n ≤ 2000000) (hcap : n ≤ cap) (hts : Hid (LgAt w w.heap.size A n ts)) : Calls Tryd.prog 32 #[.slice A n cap, .int .i64 q] w (APost v w) := by
  rw [← h.out]; exact lp.isBridge_model A n cap ts q w hn hcap hts
theorem co_i (h : Hid (ansCo ts = v)) (hn : n ≤ 2000000) (hts : Hid (LgAt w w.heap.size A n ts)) (hT : Hid (win.Tab w)) : Calls Tryd.prog 39 #[.slice A n cap] w (APost v w) := by
  rw [← h.out]; exact lpi.count_is A n cap ts w hn hts hT
theorem co_m (h : Hid (ansCo ts = v)) (hn : n ≤ 2000000) (hts : Hid (LgAt w w.heap.size A n ts)) : Calls Tryd.prog 38 #[.slice A n cap] w (APost v w) := by
  rw [← h.out]; exact lp.count_model A n cap ts w hn hts
theorem bo_i (hI : Hid (brIds ts = I)) (hB : Hid (goodLg ts = B)) (hn : n ≤ 2000000) (hts : Hid (LgAt w w.heap.size A n ts)) (hT : Hid (win.Tab w)) : Calls Tryd.prog 35 #[.slice A n cap] w (LPost I B w) := by
  rw [← hI.out, ← hB.out]; exact lpi.bridgesOf_impl A n cap ts w hn hts hT
theorem bo_m (hI : Hid (brIds ts = I)) (hB : Hid (goodLg ts = B)) (hn : n ≤ 2000000) (hcap : n ≤ cap) (hts : Hid (LgAt w w.heap.size A n ts)) : Calls Tryd.prog 34 #[.slice A n cap] w (LPost I B w) := by
  rw [← hI.out, ← hB.out]; exact lp.bridgesOf_model A n cap ts w hn hcap hts
theorem th_i (hI : Hid (thrIds ts q = I)) (hB : Hid (thrOk ts q = B)) (hn : n ≤ 2000000) (hts : Hid (LgAt w w.heap.size A n ts)) (hT : Hid (win.Tab w)) : Calls Tryd.prog 37 #[.slice A n cap, .int .i64 q] w (LPost I B w) := by
  rw [← hI.out, ← hB.out]; exact lpi.through_impl A n cap ts q w hn hts hT
theorem th_m (hI : Hid (thrIds ts q = I)) (hB : Hid (thrOk ts q = B)) (hn : n ≤ 2000000) (hts : Hid (LgAt w w.heap.size A n ts)) : Calls Tryd.prog 36 #[.slice A n cap, .int .i64 q] w (LPost I B w) := by
  rw [← hI.out, ← hB.out]; exact lp.through_model A n cap ts q w hn hts
theorem cl_i (hI : Hid (clIds ts = I)) (hB : Hid (goodLg ts = B)) (hn : n ≤ 2000000) (hts : Hid (LgAt w w.heap.size A n ts)) (hT : Hid (win.Tab w)) : Calls Tryd.prog 50 #[.slice A n cap] w (LPost I B w) := by
  rw [← hI.out, ← hB.out]; exact closing_impl A n cap ts w hn hts hT
end
/-- a leg with placed ends is a bridge exactly if no loop goes along it -/
theorem br_form (ts : List Lg) (q : Int) : ∃ (b ok : Bool), ansBr ts q = .tuple #[.bool b, .bool ok] ∧ (ok = true → thrOk ts q = true ∧ b = decide ((thrIds ts q).length = 0)) := by
  cases h : brOk ts q
  · exact ⟨false, false, by unfold ansBr; rw [h]; rfl, fun e => by cases e⟩
  · refine ⟨brB ts q.toNat, true, by unfold ansBr; rw [h]; rfl, fun _ => ?_⟩
    unfold brOk at h
    rw [Bool.and_eq_true, Bool.and_eq_true] at h
    obtain ⟨hg, hb, ha⟩ := h
    refine ⟨by unfold thrOk; rw [hg, hb]; rfl, ?_⟩
    obtain ⟨q0, q1⟩ := btw_yes hb
    obtain ⟨k, rfl⟩ := Int.eq_ofNat_of_zero_le q0
    unfold brAt at ha
    rw [Int.toNat_natCast] at ha ⊢
    cases hx : ts[k]? with
    | none => rw [hx] at ha; cases ha
    | some x => rw [hx] at ha; exact br_thr hg hx (mem_iff.1 ha)
theorem brN_mem {ts : List Lg} {i : Int} : ∀ m, i ∈ brN ts m → ∃ k : Nat, k < m ∧ i = (k : Int) ∧ brAt ts (k : Int) = true ∧ brB ts k = true
  | 0, h => by cases h
  | m + 1, h => by
    rw [brN] at h
    cases hb : (brAt ts (m : Int) && brB ts m)
    · rw [hb, if_neg (by decide)] at h
      obtain ⟨k, h1, h2⟩ := brN_mem m h
      exact ⟨k, by omega, h2⟩
    · rw [hb, if_pos rfl] at h
      rcases List.mem_append.1 h with h | h
      · obtain ⟨k, h1, h2⟩ := brN_mem m h
        exact ⟨k, by omega, h2⟩
      · rw [Bool.and_eq_true] at hb
        exact ⟨m, by omega, by simpa using h, hb.1, hb.2⟩
/-- the bridges are bridges -/
theorem bo_all (ts : List Lg) (k : Nat) (i : Int) (h : (brIds ts)[k]? = some i) : ansBr ts i = .tuple #[.bool true, .bool true] := by
  have hm := List.mem_of_getElem? h
  unfold brIds at hm
  cases hg : goodLg ts
  · rw [hg] at hm; cases hm
  · rw [hg, if_pos rfl] at hm
    obtain ⟨j, hj, rfl, ha, hb⟩ := brN_mem _ hm
    unfold ansBr brOk
    rw [hg, btw_mk (by omega) (by omega), ha, Int.toNat_natCast, hb]
    rfl
end Go.Proofs.YtkeepfkjhcmhlaaDoor.nw

namespace Go.Proofs.YtkeepfkjhcmhlaaDoor.nw
open Go.RowKit
open reads base ty win lg rowi hs nt nq lp
set_option linter.unusedVariables false
set_option linter.unusedSimpArgs false

section
variable {A : Option Addr} {n cap : Nat} {ts : List Lg} {q : Int} {I : List Int} {B : Bool} {v : Value} {w : World}
theorem mi_i (h : Hid (ansMi ts q = v)) (hn : n ≤ 2000000) (hts : Hid (LgAt w w.heap.size A n ts)) (hT : Hid (win.Tab w)) : Calls Tryd.prog 26 #[.slice A n cap, .int .i64 q] w (APost v w) := by
  rw [← h.out]; exact lpi.misclosureOf_impl A n cap ts q w hn hts hT
theorem mi_m (h : Hid (ansMi ts q = v)) (hn : n ≤ 2000000) (hts : Hid (LgAt w w.heap.size A n ts)) : Calls Tryd.prog 25 #[.slice A n cap, .int .i64 q] w (APost v w) := by
  rw [← h.out]; exact lp.misclosureOf_model A n cap ts q w hn hts
theorem ll_i (hI : Hid (lpIds ts q = I)) (hB : Hid (lpOk ts q = B)) (hn : n ≤ 2000000) (hts : Hid (LgAt w w.heap.size A n ts)) (hT : Hid (win.Tab w)) : Calls Tryd.prog 24 #[.slice A n cap, .int .i64 q] w (LPost I B w) := by
  rw [← hI.out, ← hB.out]; exact lpi.loopLegs_impl A n cap ts q w hn hts hT
theorem ll_m (hI : Hid (lpIds ts q = I)) (hB : Hid (lpOk ts q = B)) (hn : n ≤ 2000000) (hts : Hid (LgAt w w.heap.size A n ts)) : Calls Tryd.prog 23 #[.slice A n cap, .int .i64 q] w (LPost I B w) := by
  rw [← hI.out, ← hB.out]; exact lp.loopLegs_model A n cap ts q w hn hts
theorem lo_i (hI : Hid (lpSt ts q = I)) (hB : Hid (lpOk ts q = B)) (hn : n ≤ 2000000) (hts : Hid (LgAt w w.heap.size A n ts)) (hT : Hid (win.Tab w)) : Calls Tryd.prog 17 #[.slice A n cap, .int .i64 q] w (LPost I B w) := by
  rw [← hI.out, ← hB.out]; exact lpi.loopOf_impl A n cap ts q w hn hts hT
theorem lo_m (hI : Hid (lpSt ts q = I)) (hB : Hid (lpOk ts q = B)) (hn : n ≤ 2000000) (hts : Hid (LgAt w w.heap.size A n ts)) : Calls Tryd.prog 15 #[.slice A n cap, .int .i64 q] w (LPost I B w) := by
  rw [← hI.out, ← hB.out]; exact lp.loopOf_model A n cap ts q w hn hts
theorem le_i (h : Hid (ansLe ts q = v)) (hn : n ≤ 2000000) (hts : Hid (LgAt w w.heap.size A n ts)) (hT : Hid (win.Tab w)) : Calls Tryd.prog 29 #[.slice A n cap, .int .i64 q] w (APost v w) := by
  rw [← h.out]; exact lpi.loopLength_is A n cap ts q w hn hts hT
theorem le_m (h : Hid (ansLe ts q = v)) (hn : n ≤ 2000000) (hts : Hid (LgAt w w.heap.size A n ts)) : Calls Tryd.prog 28 #[.slice A n cap, .int .i64 q] w (APost v w) := by
  rw [← h.out]; exact lp.loopLength_model A n cap ts q w hn hts
theorem wo_i (h : Hid (ansWo ts = v)) (hn : n ≤ 2000000) (hts : Hid (LgAt w w.heap.size A n ts)) (hT : Hid (win.Tab w)) : Calls Tryd.prog 31 #[.slice A n cap] w (APost v w) := by
  rw [← h.out]; exact lpi.worst_impl A n cap ts w hn hts hT
theorem wo_m (h : Hid (ansWo ts = v)) (hn : n ≤ 2000000) (hts : Hid (LgAt w w.heap.size A n ts)) : Calls Tryd.prog 30 #[.slice A n cap] w (APost v w) := by
  rw [← h.out]; exact lp.worst_model A n cap ts w hn hts
theorem er_i (h : Hid (ansEr ts q = v)) (hn : n ≤ 2000000) (hts : Hid (LgAt w w.heap.size A n ts)) (hT : Hid (win.Tab w)) : Calls Tryd.prog 43 #[.slice A n cap, .int .i64 q] w (APost v w) := by
  rw [← h.out]; exact errorOf_impl A n cap ts q w hn hts hT
end
theorem mi_form (ts : List Lg) (q : Int) : ∃ p : Sf, ansMi ts q = .tuple #[.agg #[.int .i64 p.east, .int .i64 p.north, .int .i64 p.up], .bool (lpOk ts q)] ∧ (lpOk ts q = true → ansEr ts q = .tuple #[.agg #[.int .i64 p.east, .int .i64 p.north, .int .i64 p.up], .bool true]) := by
  unfold ansMi
  cases h : lpOk ts q
  · exact ⟨⟨0, 0, 0⟩, rfl, fun e => by cases e⟩
  · refine ⟨misV ts q, rfl, fun _ => ?_⟩
    obtain ⟨hg, h0, h1, x, hx, e, ho, hf, ht, hn⟩ := lp_leg h
    unfold ansEr erOk erAt erV
    rw [hg, btw_mk h0 (by omega), hx]
    simp only [mem_iff.2 hf, Bool.true_and, Bool.and_self, if_true]
    have hm : errV ts x = misV ts q := by rw [mis_error h, e]; rfl
    rw [hm]
theorem le_form (ts : List Lg) (q : Int) : ∃ l : Int, ansLe ts q = .tuple #[.int .i64 l, .bool (lpOk ts q)] ∧ (lpOk ts q = true → tapes ts (lpIds ts q) = l) := by
  unfold ansLe
  cases h : lpOk ts q
  · exact ⟨_, rfl, fun e => by cases e⟩
  · exact ⟨_, rfl, fun _ => rfl⟩
theorem stops_app {ts : List Lg} {i b c : Int} (hj : Jn ts i b c) : ∀ {l : List Int} {a : Int}, Chn ts a l b → stops ts a (l ++ [i]) = stops ts a l ++ [c]
  | [], a, h => by
    have e : a = b := h
    subst e
    show [a, farOf ts i a] = [a, c]
    rw [farOf_is hj]
  | j :: l, a, h => by
    obtain ⟨o, ho, h2⟩ := h
    show a :: stops ts (farOf ts j a) (l ++ [i]) = a :: (stops ts (farOf ts j a) l ++ [c])
    rw [farOf_is ho, stops_app hj h2]
theorem lp_lens {ts : List Lg} {q : Int} (h : lpOk ts q = true) : (lpSt ts q).length = (lpIds ts q).length ∧ 0 < (lpIds ts q).length ∧ (lpIds ts q)[(lpIds ts q).length - 1]? = some q := by
  rw [lpSt_is h, lpIds_is h, stops_len, List.length_append]
  refine ⟨rfl, by simp, ?_⟩
  simp
/-- the legs of a loop join its stations -/
theorem lp_joins {ts : List Lg} {q : Int} (h : lpOk ts q = true) {k : Nat} {j : Int} (hj : (lpIds ts q)[k]? = some j) : ∃ (p : Nat) (x : Lg) (a b : Int), j = (p : Int) ∧ ts[p]? = some x ∧ (lpSt ts q)[k]? = some a ∧ (lpSt ts q)[(k + 1) % (lpSt ts q).length]? = some b ∧ Jo x a b ∧ legAt ts j = x := by
  obtain ⟨s, t, h1, h2, hJ⟩ := chn_at k (lp_chn h) hj
  obtain ⟨-, h0, -, y, hy, ey, -⟩ := lp_leg h
  have hst : stops ts (legAt ts q).to_ (lpIds ts q) = lpSt ts q ++ [(legAt ts q).to_] := by
    rw [lpIds_is h, lpSt_is h]
    exact stops_app ⟨h0, y, hy, by rw [ey]; exact .inl ⟨rfl, rfl⟩⟩ (path_nb h).chn
  have hk : k < (lpIds ts q).length := (List.getElem?_eq_some_iff.1 hj).1
  have hlen := (lp_lens h).1
  rw [hst] at h1 h2
  rw [List.getElem?_append_left (by omega)] at h1
  obtain ⟨p, x, e1, hx, hl, hJo⟩ := hJ.leg
  refine ⟨p, x, s, t, e1, hx, h1, ?_, hJo, hl⟩
  by_cases e : k + 1 < (lpSt ts q).length
  · rw [List.getElem?_append_left e] at h2
    rw [Nat.mod_eq_of_lt e]; exact h2
  · have e2 : k + 1 = (lpSt ts q).length := by omega
    rw [e2, List.getElem?_append_right (Nat.le_refl _), Nat.sub_self] at h2
    rw [e2, Nat.mod_self, lpSt_is h, stops_zero]
    exact h2
theorem lp_bridge {ts : List Lg} {q : Int} (h : lpOk ts q = true) : ansBr ts q = .tuple #[.bool false, .bool true] := by
  obtain ⟨hg, h0, h1, x, hx, e, ho, hf, ht, hn⟩ := lp_leg h
  obtain ⟨k, rfl⟩ := Int.eq_ofNat_of_zero_le h0
  unfold ansBr brOk brAt
  rw [hg, btw_mk h0 (by omega), hx]
  simp only [mem_iff.2 hf, Bool.true_and, Bool.and_self, if_true]
  rw [Int.toNat_natCast, cl_no_bridge h]
theorem wo_form (ts : List Lg) : ∃ l : Int, ansWo ts = .tuple #[.int .i64 l, .bool (wrOk ts)] ∧ wrOk ts = (goodLg ts && decide (0 < (clIds ts).length)) := by
  unfold ansWo
  cases h : wrOk ts
  · exact ⟨_, rfl, h.symm⟩
  · exact ⟨_, rfl, h.symm⟩
end Go.Proofs.YtkeepfkjhcmhlaaDoor.nw

namespace Go.Proofs.YtkeepfkjhcmhlaaDoor.kwd
open Go.RowKit
open reads base ty win lg rowi hs nt nq lp nw
set_option linter.unusedVariables false
set_option linter.unusedSimpArgs false

set_option maxHeartbeats 16000000 in
set_option maxRecDepth 100000 in
theorem walk (A : Option Addr) (n cap : Nat) (zs : List UInt8) (w : World) (hn : n ≤ 65536) (hS : Hid (St w A n zs w)) :
    Calls Tryd.prog 12 #[.slice A n cap] w (LawPost w) := by
  have HB := Lib.hid (vs.big_no A n cap w hn)
  clear hn
  go_enter Tryd.func12, Tryd.ntmps12
  go_wp2_with fail
  refine HB.out.mono ?_
  rintro e w' ⟨rfl, rfl⟩
  clear HB
  go_wp2_with fail
  refine (dcv.misclosure_draw A n cap zs _ (Lib.hid hS.out.2.1)).mono ?_
  rintro e W1 ⟨v1, t1, q1, rfl, ho, hl1, ⟨q1a, q1b⟩, b⟩
  obtain ⟨L1, HL1⟩ : ∃ L, Hid (t1.length = L) := ⟨_, Lib.hid rfl⟩
  rw [HL1.out] at ho hl1
  obtain ⟨A1, c1, rfl⟩ := base.row_slice ho
  have HR1 := Lib.hid ho
  clear ho
  have H1 := Lib.hid (show St w A n zs W1 from hS.out.step b)
  clear b hS
  obtain ⟨I1, HI1⟩ : ∃ I, Hid (lpIds t1 q1 = I) := ⟨_, Lib.hid rfl⟩
  obtain ⟨K1, HK1⟩ : ∃ K, Hid (I1.length = K) := ⟨_, Lib.hid rfl⟩
  have hK1 : K1 ≤ 13 := by rw [← HK1.out, ← HI1.out]; exact lpIds_len
  obtain ⟨I2, HI2⟩ : ∃ I, Hid (lpSt t1 q1 = I) := ⟨_, Lib.hid rfl⟩
  obtain ⟨K2, HK2⟩ : ∃ K, Hid (I2.length = K) := ⟨_, Lib.hid rfl⟩
  have hK2 : K2 ≤ 13 := by rw [← HK2.out, ← HI2.out]; exact lpi.lpSt_len
  obtain ⟨B1, HB1⟩ : ∃ B, Hid (lpOk t1 q1 = B) := ⟨_, Lib.hid rfl⟩
  obtain ⟨p1, hX, hE⟩ := mi_form t1 q1
  rw [HB1.out] at hX hE
  have HX := Lib.hid hX
  have HE := Lib.hid hE
  clear hX hE
  go_wp2_with fail
  refine (mi_i HX (by omega) (Lib.hid (own_Lg HL1.out HR1.out)) (Lib.hid H1.out.2.2)).mono ?_
  rintro e W2 ⟨rfl, b⟩
  have H2 := Lib.hid (show St w A n zs W2 from H1.out.step b)
  have H3 := Lib.hid (show W2.ownsRow (w.heap.size) 51 5 (.slice A1 L1 c1) L1 (flatLg t1) from row_below HR1.out b)
  clear b H1 HR1
  go_upto_region 5 with fail
  obtain ⟨W3, HW⟩ : ∃ W3, Hid (W2.alloc (.cells #[.int .i64 p1.east, .int .i64 p1.north, .int .i64 p1.up] 35) = W3) := ⟨_, Lib.hid rfl⟩
  have H4 := Lib.hid (show St w A n zs W3 by rw [← HW.out]; exact (H2.out.alloc _))
  have H5 := Lib.hid (show W3.ownsRow (w.heap.size) 51 5 (.slice A1 L1 c1) L1 (flatLg t1) by rw [← HW.out]; exact (H3.out.alloc _))
  have H6 := Lib.hid (show Blk W3 (W2.heap.size) 35 #[.int .i64 p1.east, .int .i64 p1.north, .int .i64 p1.up] by rw [← HW.out]; exact Blk.new _ _ _)
  rw [HW.out]
  clear HW H2 H3
  go_wp2_with fail
  refine (mi_m HX (by omega) (Lib.hid (own_Lg HL1.out H5.out))).mono ?_
  rintro e W4 ⟨rfl, b⟩
  have H7 := Lib.hid (show St w A n zs W4 from H4.out.step b)
  have H8 := Lib.hid (show W4.ownsRow (w.heap.size) 51 5 (.slice A1 L1 c1) L1 (flatLg t1) from row_below H5.out b)
  have H9 := Lib.hid (show Blk W4 (W2.heap.size) 35 #[.int .i64 p1.east, .int .i64 p1.north, .int .i64 p1.up] from H6.out.below b H6.out.lt)
  clear b H4 H5 H6
  go_upto_region 6 with fail
  obtain ⟨W5, HW⟩ : ∃ W5, Hid (W4.alloc (.cells #[.int .i64 p1.east, .int .i64 p1.north, .int .i64 p1.up] 35) = W5) := ⟨_, Lib.hid rfl⟩
  have H10 := Lib.hid (show St w A n zs W5 by rw [← HW.out]; exact (H7.out.alloc _))
  have H11 := Lib.hid (show W5.ownsRow (w.heap.size) 51 5 (.slice A1 L1 c1) L1 (flatLg t1) by rw [← HW.out]; exact (H8.out.alloc _))
  have H12 := Lib.hid (show Blk W5 (W2.heap.size) 35 #[.int .i64 p1.east, .int .i64 p1.north, .int .i64 p1.up] by rw [← HW.out]; exact (H9.out.alloc _))
  have H13 := Lib.hid (show Blk W5 (W4.heap.size) 35 #[.int .i64 p1.east, .int .i64 p1.north, .int .i64 p1.up] by rw [← HW.out]; exact Blk.new _ _ _)
  rw [HW.out]
  clear HW H7 H8 H9
  have q_mal := H12.out.lt
  have q_ma0 : W5.cell? ⟨W2.heap.size, 0, none⟩ = some (.int .i64 p1.east) := H12.out.cell 0
  have q_ma1 : W5.cell? ⟨W2.heap.size, 1, none⟩ = some (.int .i64 p1.north) := H12.out.cell 1
  have q_ma2 : W5.cell? ⟨W2.heap.size, 2, none⟩ = some (.int .i64 p1.up) := H12.out.cell 2
  have q_mbl := H13.out.lt
  have q_mb0 : W5.cell? ⟨W4.heap.size, 0, none⟩ = some (.int .i64 p1.east) := H13.out.cell 0
  have q_mb1 : W5.cell? ⟨W4.heap.size, 1, none⟩ = some (.int .i64 p1.north) := H13.out.cell 1
  have q_mb2 : W5.cell? ⟨W4.heap.size, 2, none⟩ = some (.int .i64 p1.up) := H13.out.cell 2
  go_wp2_with fail
  clear q_mal q_ma0 q_ma1 q_ma2 q_mbl q_mb0 q_mb1 q_mb2
  clear H13
  refine (ll_i HI1 HB1 (by omega) (Lib.hid (own_Lg HL1.out H11.out)) (Lib.hid H10.out.2.2)).mono ?_
  rintro e W6 ⟨vr, rfl, ho, b⟩
  rw [HK1.out] at ho
  obtain ⟨Aall, call, rfl⟩ := base.row_slice ho
  have HRall := Lib.hid ho
  clear ho
  have H14 := Lib.hid (show St w A n zs W6 from H10.out.step b)
  have H15 := Lib.hid (show W6.ownsRow (w.heap.size) 51 5 (.slice A1 L1 c1) L1 (flatLg t1) from row_below H11.out b)
  have H16 := Lib.hid (show Blk W6 (W2.heap.size) 35 #[.int .i64 p1.east, .int .i64 p1.north, .int .i64 p1.up] from H12.out.below b H12.out.lt)
  clear b H10 H11 H12
  go_wp2_with fail
  refine (lo_i HI2 HB1 (by omega) (Lib.hid (own_Lg HL1.out H15.out)) (Lib.hid H14.out.2.2)).mono ?_
  rintro e W7 ⟨vr, rfl, ho, b⟩
  rw [HK2.out] at ho
  obtain ⟨Ast, cst, rfl⟩ := base.row_slice ho
  have HRst := Lib.hid ho
  clear ho
  have H17 := Lib.hid (show St w A n zs W7 from H14.out.step b)
  have H18 := Lib.hid (show W7.ownsRow (w.heap.size) 51 5 (.slice A1 L1 c1) L1 (flatLg t1) from row_below H15.out b)
  have H19 := Lib.hid (show Blk W7 (W2.heap.size) 35 #[.int .i64 p1.east, .int .i64 p1.north, .int .i64 p1.up] from H16.out.below b H16.out.lt)
  have H20 := Lib.hid (show W7.ownsRow (W5.heap.size) 3 1 (.slice Aall K1 call) K1 (ints.intsV I1) from row_below HRall.out b)
  clear b H14 H15 H16 HRall
  go_wp2_with fail
  refine (ll_m HI1 HB1 (by omega) (Lib.hid (own_Lg HL1.out H18.out))).mono ?_
  rintro e W8 ⟨vr, rfl, ho, b⟩
  rw [HK1.out] at ho
  obtain ⟨Awanta, cwanta, rfl⟩ := base.row_slice ho
  have HRwanta := Lib.hid ho
  clear ho
  have H21 := Lib.hid (show St w A n zs W8 from H17.out.step b)
  have H22 := Lib.hid (show W8.ownsRow (w.heap.size) 51 5 (.slice A1 L1 c1) L1 (flatLg t1) from row_below H18.out b)
  have H23 := Lib.hid (show Blk W8 (W2.heap.size) 35 #[.int .i64 p1.east, .int .i64 p1.north, .int .i64 p1.up] from H19.out.below b H19.out.lt)
  have H24 := Lib.hid (show W8.ownsRow (W5.heap.size) 3 1 (.slice Aall K1 call) K1 (ints.intsV I1) from row_below H20.out b)
  have H25 := Lib.hid (show W8.ownsRow (W6.heap.size) 3 1 (.slice Ast K2 cst) K2 (ints.intsV I2) from row_below HRst.out b)
  clear b H17 H18 H19 H20 HRst
  go_wp2_with fail
  refine (vints_b (by omega) (Lib.hid (ints.IL.of_own H24.out)) (Lib.hid (ints.IL.of_own HRwanta.out))).mono ?_
  rintro e W9 ⟨rfl, b⟩
  have H26 := Lib.hid (show St w A n zs W9 from H21.out.step b)
  have H27 := Lib.hid (show W9.ownsRow (w.heap.size) 51 5 (.slice A1 L1 c1) L1 (flatLg t1) from row_below H22.out b)
  have H28 := Lib.hid (show Blk W9 (W2.heap.size) 35 #[.int .i64 p1.east, .int .i64 p1.north, .int .i64 p1.up] from H23.out.below b H23.out.lt)
  have H29 := Lib.hid (show W9.ownsRow (W5.heap.size) 3 1 (.slice Aall K1 call) K1 (ints.intsV I1) from row_below H24.out b)
  have H30 := Lib.hid (show W9.ownsRow (W6.heap.size) 3 1 (.slice Ast K2 cst) K2 (ints.intsV I2) from row_below H25.out b)
  have H31 := Lib.hid (show W9.ownsRow (W7.heap.size) 3 1 (.slice Awanta K1 cwanta) K1 (ints.intsV I1) from row_below HRwanta.out b)
  clear b H21 H22 H23 H24 H25 HRwanta
  clear H31
  go_wp2_with fail
  refine (lo_m HI2 HB1 (by omega) (Lib.hid (own_Lg HL1.out H27.out))).mono ?_
  rintro e W10 ⟨vr, rfl, ho, b⟩
  rw [HK2.out] at ho
  obtain ⟨Awantb, cwantb, rfl⟩ := base.row_slice ho
  have HRwantb := Lib.hid ho
  clear ho
  have H32 := Lib.hid (show St w A n zs W10 from H26.out.step b)
  have H33 := Lib.hid (show W10.ownsRow (w.heap.size) 51 5 (.slice A1 L1 c1) L1 (flatLg t1) from row_below H27.out b)
  have H34 := Lib.hid (show Blk W10 (W2.heap.size) 35 #[.int .i64 p1.east, .int .i64 p1.north, .int .i64 p1.up] from H28.out.below b H28.out.lt)
  have H35 := Lib.hid (show W10.ownsRow (W5.heap.size) 3 1 (.slice Aall K1 call) K1 (ints.intsV I1) from row_below H29.out b)
  have H36 := Lib.hid (show W10.ownsRow (W6.heap.size) 3 1 (.slice Ast K2 cst) K2 (ints.intsV I2) from row_below H30.out b)
  clear b H26 H27 H28 H29 H30
  go_wp2_with fail
  refine (vints_b (by omega) (Lib.hid (ints.IL.of_own H36.out)) (Lib.hid (ints.IL.of_own HRwantb.out))).mono ?_
  rintro e W11 ⟨rfl, b⟩
  have H37 := Lib.hid (show St w A n zs W11 from H32.out.step b)
  have H38 := Lib.hid (show W11.ownsRow (w.heap.size) 51 5 (.slice A1 L1 c1) L1 (flatLg t1) from row_below H33.out b)
  have H39 := Lib.hid (show Blk W11 (W2.heap.size) 35 #[.int .i64 p1.east, .int .i64 p1.north, .int .i64 p1.up] from H34.out.below b H34.out.lt)
  have H40 := Lib.hid (show W11.ownsRow (W5.heap.size) 3 1 (.slice Aall K1 call) K1 (ints.intsV I1) from row_below H35.out b)
  have H41 := Lib.hid (show W11.ownsRow (W6.heap.size) 3 1 (.slice Ast K2 cst) K2 (ints.intsV I2) from row_below H36.out b)
  have H42 := Lib.hid (show W11.ownsRow (W9.heap.size) 3 1 (.slice Awantb K2 cwantb) K2 (ints.intsV I2) from row_below HRwantb.out b)
  clear b H32 H33 H34 H35 H36 HRwantb
  clear H42
  go_upto_if 122 with fail
  go_cut [18] (fun _ wx => St w A n zs wx)
  case first => as_aux_lemma =>
    cases B1
    · go_wp2_with fail
      go_meet
      case rel => exact H37.out
    · obtain ⟨hlen, hpos, hlast⟩ := lp_lens HB1.out
      have HE1 := Lib.hid (HE.out rfl)
      rw [HI1.out, HI2.out, HK1.out, HK2.out] at hlen
      rw [HI1.out, HK1.out] at hpos hlast
      have HLA := Lib.hid hlast
      clear hlast HE
      have hlen2 := hlen.symm
      clear hlen
      subst hlen2
      obtain ⟨lt, hL, hT⟩ := le_form t1 q1
      rw [HB1.out, HI1.out] at hT
      rw [HB1.out] at hL
      have HLE := Lib.hid hL
      have HTA := Lib.hid (hT rfl)
      clear hL hT
      go_wp2_with fail
      refine (er_i HE1 (by omega) (Lib.hid (own_Lg HL1.out H38.out)) (Lib.hid H37.out.2.2)).mono ?_
      rintro e W12 ⟨rfl, b⟩
      have H43 := Lib.hid (show St w A n zs W12 from H37.out.step b)
      have H44 := Lib.hid (show W12.ownsRow (w.heap.size) 51 5 (.slice A1 L1 c1) L1 (flatLg t1) from row_below H38.out b)
      have H45 := Lib.hid (show Blk W12 (W2.heap.size) 35 #[.int .i64 p1.east, .int .i64 p1.north, .int .i64 p1.up] from H39.out.below b H39.out.lt)
      have H46 := Lib.hid (show W12.ownsRow (W5.heap.size) 3 1 (.slice Aall K1 call) K1 (ints.intsV I1) from row_below H40.out b)
      have H47 := Lib.hid (show W12.ownsRow (W6.heap.size) 3 1 (.slice Ast K1 cst) K1 (ints.intsV I2) from row_below H41.out b)
      clear b H37 H38 H39 H40 H41
      go_upto_region 18 with fail
      obtain ⟨W13, HW⟩ : ∃ W13, Hid (W12.alloc (.cells #[.int .i64 p1.east, .int .i64 p1.north, .int .i64 p1.up] 35) = W13) := ⟨_, Lib.hid rfl⟩
      have H48 := Lib.hid (show St w A n zs W13 by rw [← HW.out]; exact (H43.out.alloc _))
      have H49 := Lib.hid (show W13.ownsRow (w.heap.size) 51 5 (.slice A1 L1 c1) L1 (flatLg t1) by rw [← HW.out]; exact (H44.out.alloc _))
      have H50 := Lib.hid (show Blk W13 (W2.heap.size) 35 #[.int .i64 p1.east, .int .i64 p1.north, .int .i64 p1.up] by rw [← HW.out]; exact (H45.out.alloc _))
      have H51 := Lib.hid (show W13.ownsRow (W5.heap.size) 3 1 (.slice Aall K1 call) K1 (ints.intsV I1) by rw [← HW.out]; exact (H46.out.alloc _))
      have H52 := Lib.hid (show W13.ownsRow (W6.heap.size) 3 1 (.slice Ast K1 cst) K1 (ints.intsV I2) by rw [← HW.out]; exact (H47.out.alloc _))
      have H53 := Lib.hid (show Blk W13 (W12.heap.size) 35 #[.int .i64 p1.east, .int .i64 p1.north, .int .i64 p1.up] by rw [← HW.out]; exact Blk.new _ _ _)
      rw [HW.out]
      clear HW H43 H44 H45 H46 H47
      go_wp2_with fail
      refine (le_i HLE (by omega) (Lib.hid (own_Lg HL1.out H49.out)) (Lib.hid H48.out.2.2)).mono ?_
      rintro e W14 ⟨rfl, b⟩
      have H54 := Lib.hid (show St w A n zs W14 from H48.out.step b)
      have H55 := Lib.hid (show W14.ownsRow (w.heap.size) 51 5 (.slice A1 L1 c1) L1 (flatLg t1) from row_below H49.out b)
      have H56 := Lib.hid (show Blk W14 (W2.heap.size) 35 #[.int .i64 p1.east, .int .i64 p1.north, .int .i64 p1.up] from H50.out.below b H50.out.lt)
      have H57 := Lib.hid (show W14.ownsRow (W5.heap.size) 3 1 (.slice Aall K1 call) K1 (ints.intsV I1) from row_below H51.out b)
      have H58 := Lib.hid (show W14.ownsRow (W6.heap.size) 3 1 (.slice Ast K1 cst) K1 (ints.intsV I2) from row_below H52.out b)
      have H59 := Lib.hid (show Blk W14 (W12.heap.size) 35 #[.int .i64 p1.east, .int .i64 p1.north, .int .i64 p1.up] from H53.out.below b H53.out.lt)
      clear b H48 H49 H50 H51 H52 H53
      obtain ⟨g, hA, -⟩ := (ints.IL.of_own H57.out).2 (K1 - 1) q1 HLA.out
      subst hA
      obtain ⟨gs, cs, hAs, -, -⟩ := (H58.out).form hpos
      obtain rfl : Ast = some ⟨gs, 0, none⟩ := by injection hAs
      clear hAs
      have cz : W14.cell? ⟨g, K1 - 1, none⟩ = some (.int .i64 q1) := by obtain ⟨g1, e, c⟩ := (ints.IL.of_own H57.out).2 (K1 - 1) q1 (HLA.out); injection e with e; injection e with e; subst e; exact c
      have czl : g < W14.heap.size := ((H57.out).lt g rfl).2
      have hK1n : 1 ≤ K1 := hpos
      have hK1i : (1 : Int) ≤ (K1 : Int) := by omega
      have q_evl := H59.out.lt
      have q_ev0 : W14.cell? ⟨W12.heap.size, 0, none⟩ = some (.int .i64 p1.east) := H59.out.cell 0
      have q_ev1 : W14.cell? ⟨W12.heap.size, 1, none⟩ = some (.int .i64 p1.north) := H59.out.cell 1
      have q_ev2 : W14.cell? ⟨W12.heap.size, 2, none⟩ = some (.int .i64 p1.up) := H59.out.cell 2
      have q_mal := H56.out.lt
      have q_ma0 : W14.cell? ⟨W2.heap.size, 0, none⟩ = some (.int .i64 p1.east) := H56.out.cell 0
      have q_ma1 : W14.cell? ⟨W2.heap.size, 1, none⟩ = some (.int .i64 p1.north) := H56.out.cell 1
      have q_ma2 : W14.cell? ⟨W2.heap.size, 2, none⟩ = some (.int .i64 p1.up) := H56.out.cell 2
      go_wp2_with fail
      clear q_evl q_ev0 q_ev1 q_ev2 q_mal q_ma0 q_ma1 q_ma2
      clear cz czl
      clear H59
      clear H56
      have HGL := Lib.hid (lp_leg HB1.out).1
      go_loopw [21, 22] (fun s i wr => ∃ (k : Nat) (sm : Int), k ≤ K1 ∧ i = .int .i64 (k : Nat) ∧ s = .int .i64 sm ∧ Hid (tapes t1 (I1.take k) = sm) ∧ wr.ownsRow (w.heap.size) 51 5 (.slice A1 L1 c1) L1 (flatLg t1) ∧ wr.ownsRow (W5.heap.size) 3 1 (.slice (some ⟨g, 0, none⟩) K1 call) K1 (ints.intsV I1) ∧ wr.ownsRow (W6.heap.size) 3 1 (.slice (some ⟨gs, 0, none⟩) K1 cst) K1 (ints.intsV I2) ∧ St w A n zs wr) (fun _ i _ => K1 - (intOf i).toNat)
      case atStart => exact ⟨0, 0, Nat.zero_le _, rfl, rfl, Lib.hid rfl, H55.out, H57.out, H58.out, H54.out⟩
      case round =>
        obtain ⟨k, sm, hk, rfl, rfl, HSM, r_l1, r_all, r_st, r_S⟩ := hrel
        have R_l1 := Lib.hid r_l1
        have R_all := Lib.hid r_all
        have R_st := Lib.hid r_st
        have R_S := Lib.hid r_S
        clear r_l1 r_all r_st r_S H55 H57 H58 H54
        have hk0 : 0 ≤ (k : Int) := by omega
        by_cases hlt : k < K1
        · skip
          have hki : (k : Int) < (K1 : Int) := by omega
          have hkd : decide (k < K1) = true := by simpa using hlt
          obtain ⟨j, hj⟩ : ∃ x, I1[k]? = some x := ⟨_, List.getElem?_eq_getElem (by rw [HK1.out]; exact hlt)⟩
          have HJ := Lib.hid hj
          obtain ⟨p, x, a, b, e1, hx, ha, hb, hJo, hl⟩ := lp_joins HB1.out (by rw [HI1.out]; exact hj)
          subst e1
          rw [HI2.out] at ha hb
          rw [HK2.out] at hb
          have HXX := Lib.hid hx
          have HAA := Lib.hid ha
          have HBB := Lib.hid hb
          have HJO := Lib.hid hJo
          have HTS := Lib.hid (tapes_at (ts := t1) hj)
          rw [hl, HSM.out] at HTS
          have hs0 := tapes_bd HGL.out (I1.take k)
          rw [HSM.out, List.length_take, HK1.out] at hs0
          have hx0 := tape_bd HGL.out (p : Int)
          rw [hl] at hx0
          have hmk : min k K1 ≤ 13 := by omega
          have hss : 0 ≤ sm ∧ sm ≤ 6500 := by omega
          clear hs0 hmk
          have hpL : p < L1 := by have h := (List.getElem?_eq_some_iff.1 hx).1; rw [HL1.out] at h; exact h
          have hpi : (p : Int) < (L1 : Int) := by omega
          have hp0 : 0 ≤ (p : Int) := by omega
          obtain ⟨gL, hA1, hgL, e0, e1, e2, e3, e4⟩ := (own_Lg HL1.out R_l1.out).2 p x hx
          subst hA1
          have hne : ¬ x.frm = x.to_ := good_ne HGL.out x (List.mem_of_getElem? hx)
          clear hx ha hb hJo hj hl
          have c0 : wr.cell? ⟨g, k, none⟩ = some (.int .i64 (p : Int)) := by obtain ⟨g1, e, c⟩ := (ints.IL.of_own R_all.out).2 (k) (p : Int) (HJ.out); injection e with e; injection e with e; subst e; exact c
          have c0l : g < wr.heap.size := ((R_all.out).lt g rfl).2
          go_upto_region 26 with fail
          clear c0 c0l e0 e1 e2 e3 e4
          obtain ⟨W15, HW⟩ : ∃ W15, Hid (wr.alloc (.cells #[.int .i64 x.frm, .int .i64 x.to_, .int .i64 x.tape, .int .i64 x.comp, .int .i64 x.slope] 51) = W15) := ⟨_, Lib.hid rfl⟩
          have H60 := Lib.hid (show St w A n zs W15 by rw [← HW.out]; exact (R_S.out.alloc _))
          have H61 := Lib.hid (show W15.ownsRow (w.heap.size) 51 5 (.slice (some ⟨gL, 0, none⟩) L1 c1) L1 (flatLg t1) by rw [← HW.out]; exact (R_l1.out.alloc _))
          have H62 := Lib.hid (show W15.ownsRow (W5.heap.size) 3 1 (.slice (some ⟨g, 0, none⟩) K1 call) K1 (ints.intsV I1) by rw [← HW.out]; exact (R_all.out.alloc _))
          have H63 := Lib.hid (show W15.ownsRow (W6.heap.size) 3 1 (.slice (some ⟨gs, 0, none⟩) K1 cst) K1 (ints.intsV I2) by rw [← HW.out]; exact (R_st.out.alloc _))
          have H64 := Lib.hid (show Blk W15 (wr.heap.size) 51 #[.int .i64 x.frm, .int .i64 x.to_, .int .i64 x.tape, .int .i64 x.comp, .int .i64 x.slope] by rw [← HW.out]; exact Blk.new _ _ _)
          rw [HW.out]
          clear HW R_S R_l1 R_all R_st
          have c1 : W15.cell? ⟨gs, k, none⟩ = some (.int .i64 a) := by obtain ⟨g1, e, c⟩ := (ints.IL.of_own H63.out).2 (k) a (HAA.out); injection e with e; injection e with e; subst e; exact c
          have c1l : gs < W15.heap.size := ((H63.out).lt gs rfl).2
          obtain ⟨r, HR⟩ : ∃ r, Hid ((k + 1) % K1 = r) := ⟨_, Lib.hid rfl⟩
          have hrK : r < K1 := by rw [← HR.out]; exact Nat.mod_lt _ hpos
          have HMT := Lib.hid (show ((k : Int) + 1).tmod (K1 : Int) = (r : Int) by rw [← HR.out]; rfl)
          rw [HR.out] at HBB
          have hri : (r : Int) < (K1 : Int) := by omega
          have hr0 : 0 ≤ (r : Int) := by omega
          have hKz : ¬ (K1 : Int) = 0 := by omega
          have c2 : W15.cell? ⟨gs, r, none⟩ = some (.int .i64 b) := by obtain ⟨g1, e, c⟩ := (ints.IL.of_own H63.out).2 (r) b (HBB.out); injection e with e; injection e with e; subst e; exact c
          have c2l : gs < W15.heap.size := ((H63.out).lt gs rfl).2
          refine wp_region_held_drew (S := (fun v => v.cell? ⟨gs, k, none⟩ = some (.int .i64 a) ∧ v.cell? ⟨gs, r, none⟩ = some (.int .i64 b) ∧ gs < v.heap.size)) (by kernel_rfl) ?_ (fun hHeld => ?_)
          · exact ⟨c1, c2, c1l⟩
          refine' wpAnyH_take (i := 0) (v := ?vr1_0) rfl (by kernel_rfl) (by kernel_rfl) (by kernel_rfl) (fun _ _ _ h => h) (Or.inl ⟨by rfl, ?hyr1_0⟩) (by assumption) ?restr1_0
          case hyr1_0 => (intro w hSw; (try dsimp only at hSw); go_simp; try (with_reducible rfl))
          simp only [Act.put, List.getElem_toArray, List.getElem_cons_succ, List.getElem_cons_zero, List.setIfInBounds_toArray, List.set_cons_zero, List.set_cons_succ]
          refine' wpAnyH_take (i := 1) (v := ?vr1_1) rfl (by kernel_rfl) (by kernel_rfl) (by kernel_rfl) (fun _ _ _ h => h) (Or.inl ⟨by rfl, ?hyr1_1⟩) (by assumption) ?restr1_1
          case hyr1_1 => (intro w hSw; (try dsimp only at hSw); go_simp; try (with_reducible rfl))
          simp only [Act.put, List.getElem_toArray, List.getElem_cons_succ, List.getElem_cons_zero, List.setIfInBounds_toArray, List.set_cons_zero, List.set_cons_succ]
          refine' wpAnyH_take (i := 2) (v := ?vr1_2) rfl (by kernel_rfl) (by kernel_rfl) (by kernel_rfl) (fun _ _ _ h => h) (Or.inl ⟨by rfl, ?hyr1_2⟩) (by assumption) ?restr1_2
          case hyr1_2 => (intro w hSw; (try dsimp only at hSw); go_simp; try (with_reducible rfl))
          simp only [Act.put, List.getElem_toArray, List.getElem_cons_succ, List.getElem_cons_zero, List.setIfInBounds_toArray, List.set_cons_zero, List.set_cons_succ]
          refine' wpAnyH_take (i := 3) (v := ?vr1_3) rfl (by kernel_rfl) (by kernel_rfl) (by kernel_rfl) (fun _ _ _ h => h) (Or.inl ⟨by rfl, ?hyr1_3⟩) (by assumption) ?restr1_3
          case hyr1_3 => (intro w hSw; (try dsimp only at hSw); go_simp; try (with_reducible rfl))
          simp only [Act.put, List.getElem_toArray, List.getElem_cons_succ, List.getElem_cons_zero, List.setIfInBounds_toArray, List.set_cons_zero, List.set_cons_succ]
          refine' wpAnyH_take (i := 4) (v := ?vr1_4) rfl (by kernel_rfl) (by kernel_rfl) (by kernel_rfl) (fun _ _ _ h => h) (Or.inl ⟨by rfl, ?hyr1_4⟩) (by assumption) ?restr1_4
          case hyr1_4 => (intro w hSw; (try dsimp only at hSw); go_simp; try (with_reducible rfl))
          simp only [Act.put, List.getElem_toArray, List.getElem_cons_succ, List.getElem_cons_zero, List.setIfInBounds_toArray, List.set_cons_zero, List.set_cons_succ]
          refine' wpAnyH_take (i := 5) (v := ?vr1_5) rfl (by kernel_rfl) (by kernel_rfl) (by kernel_rfl) (fun _ _ _ h => h) (Or.inl ⟨by rfl, ?hyr1_5⟩) (by assumption) ?restr1_5
          case hyr1_5 => (intro w hSw; (try dsimp only at hSw); go_simp; try (with_reducible rfl))
          simp only [Act.put, List.getElem_toArray, List.getElem_cons_succ, List.getElem_cons_zero, List.setIfInBounds_toArray, List.set_cons_zero, List.set_cons_succ]
          refine' wpAnyH_take (i := 6) (v := .int .i64 ((k : Int) + 1)) rfl (by kernel_rfl) (by kernel_rfl) (by kernel_rfl) (fun _ _ _ h => h) (Or.inl ⟨by rfl, ?hyV6⟩) (by assumption) ?restV6
          case hyV6 =>
            intro v hSv
            go_simp
            exact IntWalk.i64_in _ (by omega)
          simp only [Act.put, List.getElem_toArray, List.getElem_cons_succ, List.getElem_cons_zero, List.setIfInBounds_toArray, List.set_cons_zero, List.set_cons_succ]
          refine' wpAnyH_take (i := 7) (v := ?vr1_7) rfl (by kernel_rfl) (by kernel_rfl) (by kernel_rfl) (fun _ _ _ h => h) (Or.inl ⟨by rfl, ?hyr1_7⟩) (by assumption) ?restr1_7
          case hyr1_7 => (intro w hSw; (try dsimp only at hSw); go_simp; try (with_reducible rfl))
          simp only [Act.put, List.getElem_toArray, List.getElem_cons_succ, List.getElem_cons_zero, List.setIfInBounds_toArray, List.set_cons_zero, List.set_cons_succ]
          refine' wpAnyH_take (i := 8) (v := ?vr1_8) rfl (by kernel_rfl) (by kernel_rfl) (by kernel_rfl) (fun _ _ _ h => h) (Or.inl ⟨by rfl, ?hyr1_8⟩) (by assumption) ?restr1_8
          case hyr1_8 => (intro w hSw; (try dsimp only at hSw); go_simp; try (with_reducible rfl))
          simp only [Act.put, List.getElem_toArray, List.getElem_cons_succ, List.getElem_cons_zero, List.setIfInBounds_toArray, List.set_cons_zero, List.set_cons_succ]
          refine' wpAnyH_take (i := 9) (v := .int .i64 (r : Int)) rfl (by kernel_rfl) (by kernel_rfl) (by kernel_rfl) (fun _ _ _ h => h) (Or.inl ⟨by rfl, ?hyV9⟩) (by assumption) ?restV9
          case hyV9 =>
            intro v hSv
            go_simp
            rw [if_neg (by omega), HMT.out]
          simp only [Act.put, List.getElem_toArray, List.getElem_cons_succ, List.getElem_cons_zero, List.setIfInBounds_toArray, List.set_cons_zero, List.set_cons_succ]
          refine' wpAnyH_take (i := 10) (v := ?vr1_10) rfl (by kernel_rfl) (by kernel_rfl) (by kernel_rfl) (fun _ _ _ h => h) (Or.inl ⟨by rfl, ?hyr1_10⟩) (by assumption) ?restr1_10
          case hyr1_10 => (intro w hSw; (try dsimp only at hSw); go_simp; try (with_reducible rfl))
          simp only [Act.put, List.getElem_toArray, List.getElem_cons_succ, List.getElem_cons_zero, List.setIfInBounds_toArray, List.set_cons_zero, List.set_cons_succ]
          refine' wpAnyH_take (i := 11) (v := ?vr1_11) rfl (by kernel_rfl) (by kernel_rfl) (by kernel_rfl) (fun _ _ _ h => h) (Or.inl ⟨by rfl, ?hyr1_11⟩) (by assumption) ?restr1_11
          case hyr1_11 => (intro w hSw; (try dsimp only at hSw); go_simp; try (with_reducible rfl))
          simp only [Act.put, List.getElem_toArray, List.getElem_cons_succ, List.getElem_cons_zero, List.setIfInBounds_toArray, List.set_cons_zero, List.set_cons_succ]
          refine' wpAnyH_take (i := 12) (v := ?vr1_12) rfl (by kernel_rfl) (by kernel_rfl) (by kernel_rfl) (fun _ _ _ h => h) (Or.inl ⟨by rfl, ?hyr1_12⟩) (by assumption) ?restr1_12
          case hyr1_12 => (intro w hSw; (try dsimp only at hSw); go_simp; try (with_reducible rfl))
          simp only [Act.put, List.getElem_toArray, List.getElem_cons_succ, List.getElem_cons_zero, List.setIfInBounds_toArray, List.set_cons_zero, List.set_cons_succ]
          refine' wpAnyH_take (i := 13) (v := ?vr1_13) rfl (by kernel_rfl) (by kernel_rfl) (by kernel_rfl) (fun _ _ _ h => h) (Or.inl ⟨by rfl, ?hyr1_13⟩) (by assumption) ?restr1_13
          case hyr1_13 => (intro w hSw; (try dsimp only at hSw); go_simp; try (with_reducible rfl))
          simp only [Act.put, List.getElem_toArray, List.getElem_cons_succ, List.getElem_cons_zero, List.setIfInBounds_toArray, List.set_cons_zero, List.set_cons_succ]
          refine wpAnyH_done (by kernel_rfl) ?_ _
          clear hHeld c1 c1l c2 c2l
          obtain ⟨WD, HWD⟩ : ∃ V, Hid (W15.drew = V) := ⟨_, Lib.hid rfl⟩
          have bD : Below W15.heap.size W15 WD := by rw [← HWD.out]; exact (Below.refl _ _).drew
          rw [HWD.out]
          clear HWD
          have H65 := Lib.hid (show St w A n zs WD from H60.out.step bD)
          have H66 := Lib.hid (show WD.ownsRow (w.heap.size) 51 5 (.slice (some ⟨gL, 0, none⟩) L1 c1) L1 (flatLg t1) from row_below H61.out bD)
          have H67 := Lib.hid (show WD.ownsRow (W5.heap.size) 3 1 (.slice (some ⟨g, 0, none⟩) K1 call) K1 (ints.intsV I1) from row_below H62.out bD)
          have H68 := Lib.hid (show WD.ownsRow (W6.heap.size) 3 1 (.slice (some ⟨gs, 0, none⟩) K1 cst) K1 (ints.intsV I2) from row_below H63.out bD)
          have H69 := Lib.hid (show Blk WD (wr.heap.size) 51 #[.int .i64 x.frm, .int .i64 x.to_, .int .i64 x.tape, .int .i64 x.comp, .int .i64 x.slope] from H64.out.below bD H64.out.lt)
          clear bD H60 H61 H62 H63 H64
          rcases HJO.out with ⟨f1, f2⟩ | ⟨f1, f2⟩
          · skip
            subst f1
            subst f2
            have q_xbl := H69.out.lt
            have q_xb0 : WD.cell? ⟨wr.heap.size, 0, none⟩ = some (.int .i64 x.frm) := H69.out.cell 0
            have q_xb1 : WD.cell? ⟨wr.heap.size, 1, none⟩ = some (.int .i64 x.to_) := H69.out.cell 1
            have q_xb2 : WD.cell? ⟨wr.heap.size, 2, none⟩ = some (.int .i64 x.tape) := H69.out.cell 2
            have q_xb3 : WD.cell? ⟨wr.heap.size, 3, none⟩ = some (.int .i64 x.comp) := H69.out.cell 3
            have q_xb4 : WD.cell? ⟨wr.heap.size, 4, none⟩ = some (.int .i64 x.slope) := H69.out.cell 4
            go_wp2_with fail
            clear q_xbl q_xb0 q_xb1 q_xb2 q_xb3 q_xb4
            go_roundw
            case rel => exact ⟨k + 1, _, by omega, by go_num, rfl, HTS, H66.out, H67.out, H68.out, H65.out⟩
            case measure => simp [intOf]; omega
          · skip
            subst f1
            subst f2
            have hne2 : ¬ x.to_ = x.frm := fun q => hne q.symm
            have q_xbl := H69.out.lt
            have q_xb0 : WD.cell? ⟨wr.heap.size, 0, none⟩ = some (.int .i64 x.frm) := H69.out.cell 0
            have q_xb1 : WD.cell? ⟨wr.heap.size, 1, none⟩ = some (.int .i64 x.to_) := H69.out.cell 1
            have q_xb2 : WD.cell? ⟨wr.heap.size, 2, none⟩ = some (.int .i64 x.tape) := H69.out.cell 2
            have q_xb3 : WD.cell? ⟨wr.heap.size, 3, none⟩ = some (.int .i64 x.comp) := H69.out.cell 3
            have q_xb4 : WD.cell? ⟨wr.heap.size, 4, none⟩ = some (.int .i64 x.slope) := H69.out.cell 4
            go_wp2_with fail
            clear q_xbl q_xb0 q_xb1 q_xb2 q_xb3 q_xb4
            go_roundw
            case rel => exact ⟨k + 1, _, by omega, by go_num, rfl, HTS, H66.out, H67.out, H68.out, H65.out⟩
            case measure => simp [intOf]; omega
        · skip
          have hkd : decide (k < K1) = false := by simpa using hlt
          have hkn : ¬ (k : Int) < (K1 : Int) := by omega
          have hsl : sm = lt := by have h := HSM.out; rw [show k = I1.length from by rw [HK1.out]; omega, List.take_length, HTA.out] at h; exact h.symm
          clear hlt hk
          subst hsl
          have HBR := Lib.hid (lp_bridge HB1.out)
          go_wp2_with fail
          refine (br_i HBR (by omega) (Lib.hid (own_Lg HL1.out R_l1.out)) (Lib.hid R_S.out.2.2)).mono ?_
          rintro e W16 ⟨rfl, b⟩
          have H70 := Lib.hid (show St w A n zs W16 from R_S.out.step b)
          have H71 := Lib.hid (show W16.ownsRow (w.heap.size) 51 5 (.slice A1 L1 c1) L1 (flatLg t1) from row_below R_l1.out b)
          have H72 := Lib.hid (show W16.ownsRow (W5.heap.size) 3 1 (.slice (some ⟨g, 0, none⟩) K1 call) K1 (ints.intsV I1) from row_below R_all.out b)
          have H73 := Lib.hid (show W16.ownsRow (W6.heap.size) 3 1 (.slice (some ⟨gs, 0, none⟩) K1 cst) K1 (ints.intsV I2) from row_below R_st.out b)
          clear b R_S R_l1 R_all R_st
          go_wp2_with fail
          go_meet
          case rel => exact H70.out
  case rest => as_aux_lemma =>
    have SA := Lib.hid hcut
    clear hcut HX HE HI1 HK1 HI2 HK2 HB1 H37 H38 H39 H40 H41
    go_wp2_with fail
    refine (dcv.length_draw A n cap zs _ (Lib.hid SA.out.2.1)).mono ?_
    rintro e W17 ⟨v2, t2, q2, rfl, ho, hl2, ⟨q2a, q2b⟩, b⟩
    obtain ⟨L2, HL2⟩ : ∃ L, Hid (t2.length = L) := ⟨_, Lib.hid rfl⟩
    rw [HL2.out] at ho hl2
    obtain ⟨A2, c2, rfl⟩ := base.row_slice ho
    have HR2 := Lib.hid ho
    clear ho
    have H74 := Lib.hid (show St w A n zs W17 from SA.out.step b)
    clear b SA
    obtain ⟨l2, hX, -⟩ := le_form t2 q2
    obtain ⟨B2, HB2⟩ : ∃ B, Hid (lpOk t2 q2 = B) := ⟨_, Lib.hid rfl⟩
    rw [HB2.out] at hX
    have HX := Lib.hid hX
    clear hX
    go_wp2_with fail
    refine (le_i HX (by omega) (Lib.hid (own_Lg HL2.out HR2.out)) (Lib.hid H74.out.2.2)).mono ?_
    rintro e W18 ⟨rfl, b⟩
    have H75 := Lib.hid (show St w A n zs W18 from H74.out.step b)
    have H76 := Lib.hid (show W18.ownsRow (wc.heap.size) 51 5 (.slice A2 L2 c2) L2 (flatLg t2) from row_below HR2.out b)
    clear b H74 HR2
    go_wp2_with fail
    refine (le_m HX (by omega) (Lib.hid (own_Lg HL2.out H76.out))).mono ?_
    rintro e W19 ⟨rfl, b⟩
    have H77 := Lib.hid (show St w A n zs W19 from H75.out.step b)
    have H78 := Lib.hid (show W19.ownsRow (wc.heap.size) 51 5 (.slice A2 L2 c2) L2 (flatLg t2) from row_below H76.out b)
    clear b H75 H76
    clear H78
    go_wp2_with fail
    refine (dcv.worst_draw A n cap zs _ (Lib.hid H77.out.2.1)).mono ?_
    rintro e W20 ⟨v3, t3, rfl, ho, hl3, b⟩
    obtain ⟨L3, HL3⟩ : ∃ L, Hid (t3.length = L) := ⟨_, Lib.hid rfl⟩
    rw [HL3.out] at ho hl3
    obtain ⟨A3, c3, rfl⟩ := base.row_slice ho
    have HR3 := Lib.hid ho
    clear ho
    have H79 := Lib.hid (show St w A n zs W20 from H77.out.step b)
    clear b H77
    obtain ⟨I3, HI3⟩ : ∃ I, Hid (clIds t3 = I) := ⟨_, Lib.hid rfl⟩
    obtain ⟨K3, HK3⟩ : ∃ K, Hid (I3.length = K) := ⟨_, Lib.hid rfl⟩
    have hK3 : K3 ≤ 12 := by rw [← HK3.out, ← HI3.out]; exact clIds_len _
    obtain ⟨B3, HB3⟩ : ∃ B, Hid (goodLg t3 = B) := ⟨_, Lib.hid rfl⟩
    obtain ⟨l3w, hY, hW⟩ := wo_form t3
    obtain ⟨W3, HW3⟩ : ∃ B, Hid (wrOk t3 = B) := ⟨_, Lib.hid rfl⟩
    rw [HW3.out] at hY hW
    rw [HB3.out, HI3.out, HK3.out] at hW
    have HY := Lib.hid hY
    have HWW := Lib.hid hW
    clear hY hW
    have HC := Lib.hid (show ansCo t3 = .tuple #[.int .i64 (K3 : Nat), .bool B3] by unfold ansCo; rw [HI3.out, HK3.out, HB3.out])
    go_wp2_with fail
    refine (wo_i HY (by omega) (Lib.hid (own_Lg HL3.out HR3.out)) (Lib.hid H79.out.2.2)).mono ?_
    rintro e W21 ⟨rfl, b⟩
    have H80 := Lib.hid (show St w A n zs W21 from H79.out.step b)
    have H81 := Lib.hid (show W21.ownsRow (W19.heap.size) 51 5 (.slice A3 L3 c3) L3 (flatLg t3) from row_below HR3.out b)
    clear b H79 HR3
    go_wp2_with fail
    refine (wo_m HY (by omega) (Lib.hid (own_Lg HL3.out H81.out))).mono ?_
    rintro e W22 ⟨rfl, b⟩
    have H82 := Lib.hid (show St w A n zs W22 from H80.out.step b)
    have H83 := Lib.hid (show W22.ownsRow (W19.heap.size) 51 5 (.slice A3 L3 c3) L3 (flatLg t3) from row_below H81.out b)
    clear b H80 H81
    go_wp2_with fail
    refine (co_i HC (by omega) (Lib.hid (own_Lg HL3.out H83.out)) (Lib.hid H82.out.2.2)).mono ?_
    rintro e W23 ⟨rfl, b⟩
    have H84 := Lib.hid (show St w A n zs W23 from H82.out.step b)
    have H85 := Lib.hid (show W23.ownsRow (W19.heap.size) 51 5 (.slice A3 L3 c3) L3 (flatLg t3) from row_below H83.out b)
    clear b H82 H83
    go_wp2_with fail
    refine (co_m HC (by omega) (Lib.hid (own_Lg HL3.out H85.out))).mono ?_
    rintro e W24 ⟨rfl, b⟩
    have H86 := Lib.hid (show St w A n zs W24 from H84.out.step b)
    have H87 := Lib.hid (show W24.ownsRow (W19.heap.size) 51 5 (.slice A3 L3 c3) L3 (flatLg t3) from row_below H85.out b)
    clear b H84 H85
    clear HC HY HX HB3 HW3
    cases B3
    · skip
      go_wp2_with fail
      go_ret
      exact ⟨rfl, H86.out.1⟩
    · skip
      by_cases h0 : 0 < K3
      · skip
        have hz : (0 : Int) < (K3 : Int) := by omega
        have hzd : decide (0 < K3) = true := decide_eq_true h0
        have e : W3 = true := by rw [HWW.out, hzd]; rfl
        clear HWW
        subst e
        go_wp2_with fail
        go_ret
        exact ⟨rfl, H86.out.1⟩
      · skip
        have hz : ¬ (0 : Int) < (K3 : Int) := by omega
        have hzd : decide (0 < K3) = false := decide_eq_false h0
        have e : W3 = false := by rw [HWW.out, hzd]; rfl
        clear HWW
        subst e
        go_wp2_with fail
        go_ret
        exact ⟨rfl, H86.out.1⟩
end Go.Proofs.YtkeepfkjhcmhlaaDoor.kwd

namespace Go.Proofs.YtkeepfkjhcmhlaaDoor.fnLoops
open Go.ChangeShapes Go.WideShapes Go.ChangeAt Go.RowKit
open base sn win sinc
open nw (St)
set_option linter.unusedSimpArgs false
set_option linter.unusedVariables false

theorem laidOut : laidOutB Tryd.prog = true := by kernel_rfl
set_option maxRecDepth 100000 in
theorem big (A : Option Addr) (n cap : Nat) (w : World) (h : Hid (65536 < n)) (hm : Hid (n ≤ maxLen)) : Calls Tryd.prog 12 #[.slice A n cap] w (LawPost w) := by
  go_enter Tryd.func12, Tryd.ntmps12
  go_wp2_with fail
  refine (vs.big_yes A n cap w h.out hm.out).mono ?_
  rintro e w' ⟨rfl, rfl⟩
  go_wp2_with fail
  go_ret
  exact ⟨rfl, Below.refl _ _⟩
theorem walk (A : Option Addr) (n cap : Nat) (zs : List UInt8) (w : World) (hR : reads.Reads w w.heap.size 1 A n (curs.bytesV zs)) (hm : n ≤ maxLen) (hT : Tab w) :
    Calls Tryd.prog 12 #[.slice A n cap] w (LawPost w) := by
  by_cases hb : 65536 < n
  · exact big A n cap w (Lib.hid hb) (Lib.hid hm)
  · exact kwd.walk A n cap zs w (by omega) (Lib.hid ⟨Below.refl _ _, ⟨hR, by omega⟩, hT⟩)

set_option maxRecDepth 100000 in
theorem contract (H : Type) (enc : TypeId × Value → H) (W : World) (base : Nat) (args : Array Value) (ds gs : List (DataW H)) (before : List MemPlace)
    (hval : ∀ (j : Nat) t v, Tryd.f12.params[j]? = some t → args[j]? = some v → Value.okWide Tryd.prog W .any base t v)
    (hW : DataW.Whole enc Tryd.prog Tryd.f12.params.toList Rows.fnLoopsSpec.vars false W args.toList ds gs before) (hL : laidMetH Tryd.prog Rows.fnLoopsRow.laid W) :
    Calls Tryd.prog 12 args W fun e W' => ∃ v, e = .returned v ∧ Rows.fnLoopsSpec.post enc Tryd.prog Tryd.f12 false true false false W args v W' := by
  have hT : Tab W := given (row := Rows.fnLoopsRow) (by kernel_rfl) hL
  have hW' := hW
  obtain ⟨p, q, hA0, hV0, rfl, hfz, hnd⟩ := hW
  have hA : DataW.TrodAll enc Tryd.prog W 0 (fun _ => true) true Tryd.f12.params.toList args.toList ds p := hA0
  have hV : DataW.TrodVars enc Tryd.prog W (fun _ => true) ["loop.example/g00933/impl.sines"] gs q := hV0
  rw [Tryd.params12] at hA hval
  obtain ⟨v0, vs0, d0, ds0, p0, q0, hargs, rfl, rfl, h0, r0⟩ := trodAll_cons hA
  obtain ⟨rfl, rfl, rfl⟩ := trodAll_nil r0
  obtain rfl : args = #[v0] := by cases args; simp_all
  obtain ⟨rfl, rfl⟩ := var_open hT hV
  have k0 := h0
  have lt0 : ∀ x ∈ p0, x.block < W.heap.size := by obtain ⟨m, hm⟩ := k0; exact DataW.trod_lt m _ _ _ hm
  obtain ⟨A, n, cap, zs, rfl, hR, hm⟩ := opens.opened (hval 0 46 v0 rfl rfl) h0
  clear hA0 hV0
  refine (walk A n cap zs W hR hm hT).mono fun e W' ⟨he, bel⟩ => ?_
  subst he
  exact ⟨_, rfl, _, _, _, [], _, tabP, hW', trodAll_mk1 (shut_bool Tryd.underlying4 _), (trodAll_cons_mk (Below.trod laidOut (by kernel_rfl) (of_decide_eq_true (by kernel_rfl)) k0 bel lt0) trodAll_mk0), var_shut (hT.below bel) _, bel.frame _, fun h => by cases h⟩

theorem laid_met (os : Os) : laidMet Tryd.prog Rows.fnLoopsRow.laid ((World.doorLaid Tryd.prog 2000 os).forCall (fun _ _ => 0) ⟨#[], #[.slice none 0 0], []⟩).memory :=
  laidMet_of_run' 8 (by kernel_rfl) (by kernel_rfl)
theorem readsIt (os : Os) {H : Type} (enc : TypeId × Value → H) : ∃ ds places, DataW.whole enc Tryd.prog ((World.doorLaid Tryd.prog 2000 os).forCall (fun _ _ => 0) ⟨#[], #[.slice none 0 0], []⟩).memory Tryd.f12.params.toList Rows.fnLoopsSpec.vars false #[Value.slice none 0 0].toList 8 = some ([ds], [tabH], places) :=
  ⟨.nil, tabP, by kernel_rfl⟩

set_option maxRecDepth 100000 in
theorem lifted (os : Os) (started : os.Started) (H : Type) (enc : TypeId × Value → H) (F : Stop.Interp) :
    ReturnsInHanded {} Tryd.checked os 12 .any ((OpenSpec.ofChange Rows.fnLoopsSpec).preRow enc Tryd.prog Tryd.f12 Rows.fnLoopsRow.domain false Rows.fnLoopsRow.laid) (((OpenSpec.ofChange Rows.fnLoopsSpec).at F).post enc Tryd.prog Tryd.f12 false true false false) := by
  obtain ⟨d, places, hx⟩ := readsIt os enc
  refine returnsInHanded_of_row (C := Tryd.checked) (s := OpenSpec.ofChange Rows.fnLoopsSpec) own started (by kernel_rfl) Tryd.func12
    (witness_row_at (enc := enc) (C := Tryd.checked) false (World.doorLaid Tryd.prog 2000 os) #[.slice none 0 0] rfl (by kernel_rfl) (by kernel_rfl) (by kernel_rfl)
      (OpenSpec.preRow_of_cond 8 hx (by kernel_rfl) (fun k hk => by cases hk) (by kernel_rfl) (laid_met os))) ?_
  intro W base args ds gs before hval hW _ _ _ hL _ _
  exact contract H enc W base args ds gs before hval hW hL

theorem said : Rows.FnLoopsSaid :=
  OpenClaim.holds_of_cond 12 Tryd.f12 rfl rfl rfl rfl rfl rfl rfl ⟨rfl, rfl, rfl, rfl, rfl⟩ rfl rfl rfl rfl rfl (by kernel_rfl) Tryd.func12 (by kernel_rfl)
    (of_decide_eq_true (by kernel_rfl)) (by unfold Func.isWrapper; first | (rw [if_pos (by decide +kernel)]; kernel_rfl) | (rw [if_neg (by decide +kernel)]; exact ⟨rfl, rfl⟩))
    (fun os started H enc _ F => by rw [OpenClaim.pre_eq_preRow]; exact lifted os started H enc F)

theorem plain (f : FuncId) (fn : Func) (hf : Tryd.pinned.checked.prog.funcNamed "loop.example/g00933/laws.FnLoops" = some f) (hfn : Tryd.pinned.checked.prog.funcs[f]? = some fn) :
    false = Tryd.pinned.checked.prog.looks [] ∧ ∀ (j : Nat) t, fn.params[j]? = some t → Tryd.pinned.checked.prog.wantsStandIn t = false := by
  obtain rfl : f = 12 := Option.some.inj ((show Tryd.prog.funcNamed "loop.example/g00933/laws.FnLoops" = some 12 by kernel_rfl).symm.trans hf) |>.symm
  obtain rfl : fn = Tryd.f12 := (Option.some.inj (Tryd.func12.symm.trans hfn)).symm
  refine ⟨by kernel_rfl, fun j t ht => ?_⟩
  rw [Tryd.params12] at ht
  obtain rfl : t = 46 := by simpa using Array.mem_of_getElem? ht
  exact (show Tryd.prog.wantsStandIn 46 = false by kernel_rfl)

theorem proved : Rows.FnLoopsCardSaid :=
  Claim7.holds_tied_plain_at .later [] _ _ _ _ said (fun _ h => by cases h) (by kernel_rfl) (fun _ h => by cases h) fnLoops_row_tie rfl ⟨rfl, rfl⟩ (by kernel_rfl) rfl plain (by kernel_rfl)
end Go.Proofs.YtkeepfkjhcmhlaaDoor.fnLoops
