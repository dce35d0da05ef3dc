/-
  A law over code: what is live all along; lists of ints compared.
  Bridges and loops (pure mathematics): a leg with placed ends is a bridge exactly if no loop goes along it; the legs of a loop join its stations.
  FnBridges: the contracts in letters, what the law asks of the answers.
  FnBridges: the law's walk.
  FnBridges holds: at every code: a leg with placed ends is a bridge exactly if no loop goes along it. Each function answers as its model answers; the code and the table of the sines read behind the call as they read before it.
  Conditions: those that each theorem names.
-/
import Derived.Test.YtkeepfkjhcmhlaaDoorTyLeg
import Derived.Test.YtkeepfkjhcmhlaaDoorBase
import Derived.Test.YtkeepfkjhcmhlaaDoorCurs
import Derived.Test.YtkeepfkjhcmhlaaDoorSinI
import Derived.Test.YtkeepfkjhcmhlaaDoorRowI
import Derived.Test.YtkeepfkjhcmhlaaDoorVs
import Derived.Test.YtkeepfkjhcmhlaaDoorEnd
import Derived.Test.YtkeepfkjhcmhlaaDoorKuM
import Derived.Test.YtkeepfkjhcmhlaaDoorKiL
import Derived.Test.YtkeepfkjhcmhlaaDoorNqGc
import Derived.Deep.DeepCutAuto
import Derived.Test.YtkeepfkjhcmhlaaDoorDcN
import Derived.Test.YtkeepfkjhcmhlaaDoorSinC
import Derived.Test.YtkeepfkjhcmhlaaDoorOpenS
import Derived.Carry
import Derived.ChangeOld
import Derived.Below
namespace Go.Proofs.YtkeepfkjhcmhlaaDoor.nw
open Go.RowKit
open reads base ty win rowi
set_option linter.unusedVariables false
set_option linter.unusedSimpArgs false

def LawPost (w : World) (e : Ending) (w' : World) : Prop := e = .returned (.bool true) ∧ Below w.heap.size w w'
/-- what is live all along: the code, the table, and nothing old has turned -/
def St (w : World) (A : Option Addr) (n : Nat) (zs : List UInt8) (v : World) : Prop := Below w.heap.size w v ∧ curs.Code v A n zs ∧ win.Tab v
theorem St.step {w v v' : World} {A : Option Addr} {n : Nat} {zs : List UInt8} (h : St w A n zs v) (hb : Below v.heap.size v v') : St w A n zs v' := ⟨h.1.trans (hb.mono h.1.size), h.2.1.below hb, h.2.2.below hb⟩
theorem St.alloc {w v : World} {A : Option Addr} {n : Nat} {zs : List UInt8} (h : St w A n zs v) (o : Obj) : St w A n zs (v.alloc o) := h.step ((Below.refl _ _).alloc (Nat.le_refl _) o)
theorem own_cap {w : World} {base size n c : Nat} {e : TypeId} {A : Option Addr} {xs : List Value} (h : w.ownsRow base e size (.slice A n c) n xs) : n ≤ c := by
  rcases h.2 with ⟨e1, e2⟩ | ⟨g, cp, cur, e1, _, _, h2, _⟩
  · injection e1 with _ e1 e3; omega
  · injection e1 with _ e1 e3; subst e3; exact h2
theorem vints_b {A A' : Option Addr} {n c c' : Nat} {xs : List Int} {w : World} (hn : n ≤ 2000000) (h : Hid (ints.IL w A n xs)) (h' : Hid (ints.IL w A' n xs)) :
    Calls Tryd.prog 42 #[.slice A n c, .slice A' n c'] w (APost (.bool true) w) :=
  (vs.vints_any A A' n c c' xs w hn h h').mono (by rintro e w' ⟨rfl, m, rfl⟩; exact ⟨rfl, ends.below_drewN (Below.refl _ _) m⟩)
end Go.Proofs.YtkeepfkjhcmhlaaDoor.nw

namespace Go.Proofs.YtkeepfkjhcmhlaaDoor.lp
open Go.RowKit
open reads base ty lg hs nt
set_option linter.unusedVariables false

theorem Chn.reach {ts : List Lg} {O : Int → Prop} : ∀ {l : List Int} {a b : Int}, Chn ts a l b → (∀ j ∈ l, O j) → Rc (By ts O) a b
  | [], a, b, h, _ => by
    have e : a = b := h
    rw [e]; exact .refl b
  | i :: l, a, b, h, ho => by
    obtain ⟨o, ⟨h0, x, hx, hJ⟩, h2⟩ := h
    exact .step ⟨i, ho i (List.mem_cons_self ..), h0, hx⟩ hJ (Chn.reach h2 (fun j hj => ho j (List.mem_cons_of_mem _ hj)))
theorem Chn.split {ts : List Lg} {j : Int} {m : List Int} : ∀ {l : List Int} {a b : Int}, Chn ts a (l ++ j :: m) b → ∃ s t, Chn ts a l s ∧ Jn ts j s t ∧ Chn ts t m b
  | [], a, b, h => by
    obtain ⟨o, hj, h2⟩ := h
    exact ⟨a, o, rfl, hj, h2⟩
  | i :: l, a, b, h => by
    obtain ⟨o, hj, h2⟩ := h
    obtain ⟨s, t, h3, h4, h5⟩ := Chn.split h2
    exact ⟨s, t, ⟨o, hj, h3⟩, h4, h5⟩
/-- a closing leg is no bridge -/
theorem cl_no_bridge {ts : List Lg} {k : Nat} (h : lpOk ts (k : Int) = true) : brB ts k = false := by
  obtain ⟨hg, h0, h1, x, hx, e, ho, hf, ht, hn⟩ := lp_leg h
  rw [Int.toNat_natCast] at hx
  refine (br_iff hg hx hf).2 ((tree_joins ht hf).mono (fun y hy => ?_))
  obtain ⟨i, hi, r⟩ := hy
  exact ⟨i, fun q => hn (by rw [← q]; exact hi), r⟩
/-- a leg of a loop is no bridge -/
theorem through_no_bridge {ts : List Lg} {k : Nat} {c : Int} (hc : lpOk ts c = true) (hm : (k : Int) ∈ lpIds ts c) : brB ts k = false := by
  rw [lpIds_is hc] at hm
  rcases List.mem_append.1 hm with hp | hp
  · obtain ⟨hg, h0, h1, y, hy, e, ho, hf, ht, hn⟩ := lp_leg hc
    have hnb := path_nb hc
    have hkt := hnb.mem _ hp
    have hck : c ≠ (k : Int) := fun q => hn (by rw [q]; exact hkt)
    obtain ⟨p, q, hpq⟩ := List.append_of_mem hp
    have hnd := (nb_once hnb).1
    rw [hpq] at hnd
    have hch := hnb.chn
    rw [hpq] at hch
    obtain ⟨s, t, a1, aj, a2⟩ := Chn.split hch
    have nd := List.nodup_append.1 hnd
    have n1 : ∀ j ∈ p, other k j := fun j hj => nd.2.2 j hj (k : Int) (List.mem_cons_self ..)
    have n2 : ∀ j ∈ q, other k j := fun j hj e => (List.nodup_cons.1 nd.2.1).1 (by rw [← e]; exact hj)
    rw [e] at a1 a2
    have way : Rc (By ts (other k)) s t := (a1.reach n1).symm.trans ((Rc.one ⟨c, hck, h0, hy⟩ (.inr ⟨rfl, rfl⟩)).trans (a2.reach n2).symm)
    obtain ⟨-, x, hx, hJ⟩ := aj
    rw [Int.toNat_natCast] at hx
    have hps := tr_ends hkt (⟨by omega, x, by rw [Int.toNat_natCast]; exact hx, .inl ⟨rfl, rfl⟩⟩ : Jn ts (k : Int) x.frm x.to_)
    refine (br_iff hg hx hps.1).2 ?_
    rcases hJ with ⟨e1, e2⟩ | ⟨e1, e2⟩
    · rw [e1, e2]; exact way.symm
    · rw [e1, e2]; exact way
  · have e : (k : Int) = c := by simpa using hp
    exact cl_no_bridge (by rw [e]; exact hc)
/-- a leg along which no loop goes is a bridge -/
theorem bridge_if_none {ts : List Lg} {k : Nat} {x : Lg} (hg : goodLg ts = true) (hx : ts[k]? = some x) (hf : x.frm ∈ (net ts).ps) (hno : ∀ c, lpOk ts c = true → (k : Int) ∉ lpIds ts c) : brB ts k = true := by
  cases hb : brB ts k with
  | true => rfl
  | false =>
    exfalso
    have hk : k < ts.length := (List.getElem?_eq_some_iff.1 hx).1
    have close : ∀ {j : Int} {y : Lg}, 0 ≤ j → ts[j.toNat]? = some y → y.frm ∈ (net ts).ps → j ∉ (net ts).tr → lpOk ts j = true := by
      intro j y h0 hy hfy hn
      have hj := (List.getElem?_eq_some_iff.1 hy).1
      unfold lpOk clIds
      rw [hg, Bool.true_and]
      exact mem_iff.2 ((clN_iff _ (Nat.le_refl _) _).2 ⟨h0, by omega, y, hy, hfy, hn⟩)
    have both : ∀ {j : Int} {y : Lg}, ts[j.toNat]? = some y → (y.frm ∈ (net ts).ps ↔ y.to_ ∈ (net ts).ps) := by
      intro j y hy
      rw [← mem_iff, ← mem_iff, net_ends hg hy]
    have hx' : ts[(k : Int).toNat]? = some x := by rw [Int.toNat_natCast]; exact hx
    have ht : x.to_ ∈ (net ts).ps := (both hx').1 hf
    have hkt : (k : Int) ∈ (net ts).tr := by
      apply Classical.byContradiction
      intro hn
      have hcl := close (by omega) hx' hf hn
      exact hno _ hcl (by rw [lpIds_is hcl]; simp)
    obtain ⟨E, hE⟩ : ∃ E, (net ts).tr.filter (fun i => !decide (i = (k : Int))) = E := ⟨_, rfl⟩
    have inE : ∀ i, i ∈ E ↔ i ∈ (net ts).tr ∧ i ≠ (k : Int) := fun i => by rw [← hE, List.mem_filter]; simp
    have key : ∀ {a b : Int}, Rc (By ts (other k)) a b → a ∈ (net ts).ps → Rc (By ts (· ∈ E)) a b := by
      intro a b h
      induction h with
      | refl a => exact fun _ => .refl a
      | @step y a o b hy hJ _ ih =>
        intro ha
        obtain ⟨j, hj, h0, hyj⟩ := hy
        have hfy : y.frm ∈ (net ts).ps := by
          rcases hJ with ⟨e1, e2⟩ | ⟨e1, e2⟩
          · rw [e1]; exact ha
          · exact (both hyj).2 (by rw [e1]; exact ha)
        have ho : o ∈ (net ts).ps := by
          rcases hJ with ⟨e1, e2⟩ | ⟨e1, e2⟩
          · rw [← e2]; exact (both hyj).1 hfy
          · rw [← e2]; exact hfy
        by_cases hjt : j ∈ (net ts).tr
        · exact .step ⟨j, (inE j).2 ⟨hjt, hj⟩, h0, hyj⟩ hJ (ih ho)
        · have hcl := close h0 hyj hfy hjt
          have hnk := hno _ hcl
          rw [lpIds_is hcl] at hnk
          have hnb := path_nb hcl
          have way : Rc (By ts (· ∈ E)) (legAt ts j).to_ (legAt ts j).frm := hnb.chn.reach (fun i hi => (inE i).2 ⟨hnb.mem i hi, fun q => hnk (List.mem_append_left _ (by rw [← q]; exact hi))⟩)
          rw [legAt_is hyj] at way
          rcases hJ with ⟨e1, e2⟩ | ⟨e1, e2⟩
          · rw [e1, e2] at way; exact way.symm.trans (ih ho)
          · rw [e1, e2] at way; exact way.trans (ih ho)
    have w := key ((br_iff hg hx hf).1 hb) ht
    obtain ⟨W, hW, eW⟩ := wy_of_reach x.frm 0 w
    obtain ⟨l, -, -, hl⟩ := hW.nb0
    rw [eW] at hl
    have h1 : NB ts (net ts).tr (-1) x.to_ l x.frm := hl.congr (fun i hi => ((inE i).1 hi).1)
    have h2 : NB ts (net ts).tr (-1) x.to_ [(k : Int)] x.frm := ⟨hkt, by omega, x.frm, ⟨by omega, x, hx', .inr ⟨rfl, rfl⟩⟩, rfl⟩
    have h3 := nb_uniq h1 h2
    exact ((inE _).1 (hl.mem (k : Int) (by rw [h3]; simp))).2 rfl
theorem thr_mem {ts : List Lg} {i c : Int} : ∀ {l : List Int}, c ∈ thrL ts i l ↔ c ∈ l ∧ i ∈ lpIds ts c
  | [] => by simp [thrL]
  | d :: l => by
    have ih := thr_mem (ts := ts) (i := i) (c := c) (l := l)
    rw [thrL]
    cases hm : mem (lpIds ts d) i with
    | true =>
      have hm := mem_iff.1 hm
      rw [if_pos rfl, List.mem_cons, List.mem_cons, ih]
      constructor
      · rintro (e | h)
        · exact ⟨.inl e, by rw [e]; exact hm⟩
        · exact ⟨.inr h.1, h.2⟩
      · rintro ⟨e | h, h2⟩
        · exact .inl e
        · exact .inr ⟨h, h2⟩
    | false =>
      have hn : i ∉ lpIds ts d := fun h => by rw [mem_iff.2 h] at hm; cases hm
      rw [if_neg (by decide), List.mem_cons, ih]
      constructor
      · exact fun h => ⟨.inr h.1, h.2⟩
      · rintro ⟨e | h, h2⟩
        · rw [e] at h2; exact absurd h2 hn
        · exact ⟨h, h2⟩
/-- a leg with placed ends is a bridge exactly if no loop goes along it -/
theorem br_thr {ts : List Lg} {k : Nat} {x : Lg} (hg : goodLg ts = true) (hx : ts[k]? = some x) (hf : x.frm ∈ (net ts).ps) : brB ts k = decide ((thrIds ts (k : Int)).length = 0) := by
  have hk : k < ts.length := (List.getElem?_eq_some_iff.1 hx).1
  have ht : thrIds ts (k : Int) = thrL ts (k : Int) (clIds ts) := by
    unfold thrIds thrOk
    rw [hg, Bool.true_and, btw_mk (by omega) (by omega)]
    rfl
  rw [ht]
  have ok : ∀ c, lpOk ts c = true ↔ c ∈ clIds ts := fun c => by unfold lpOk; rw [hg, Bool.true_and, mem_iff]
  by_cases h : (thrL ts (k : Int) (clIds ts)).length = 0
  · rw [decide_eq_true h]
    refine bridge_if_none hg hx hf (fun c hc hm => ?_)
    have : c ∈ thrL ts (k : Int) (clIds ts) := thr_mem.2 ⟨(ok c).1 hc, hm⟩
    rw [List.length_eq_zero_iff.1 h] at this
    cases this
  · rw [decide_eq_false h]
    cases hl : thrL ts (k : Int) (clIds ts) with
    | nil => rw [hl] at h; exact absurd rfl h
    | cons c l =>
      have hc : c ∈ thrL ts (k : Int) (clIds ts) := by rw [hl]; exact List.mem_cons_self ..
      obtain ⟨h1, h2⟩ := thr_mem.1 hc
      exact through_no_bridge ((ok c).2 h1) h2
end Go.Proofs.YtkeepfkjhcmhlaaDoor.lp

namespace Go.Proofs.YtkeepfkjhcmhlaaDoor.nw
open Go.RowKit
open reads base ty win lg rowi hs nt nq lp
set_option linter.unusedVariables false
set_option linter.unusedSimpArgs false

section
variable {A : Option Addr} {n cap : Nat} {ts : List Lg} {q : Int} {I : List Int} {B : Bool} {v : Value} {w : World}
theorem br_i (h : Hid (ansBr ts q = v)) (hn : n ≤ 2000000) (hts : Hid (LgAt w w.heap.size A n ts)) (hT : Hid (win.Tab w)) : Calls Tryd.prog 33 #[.slice A n cap, .int .i64 q] w (APost v w) := by
  rw [← h.out]; exact lpi.isBridge_impl A n cap ts q w hn hts hT
theorem br_m (h : Hid (ansBr ts q = v)) (hn : n ≤ 2000000) (hcap : n ≤ cap) (hts : Hid (LgAt w w.heap.size A n ts)) : Calls Tryd.prog 32 #[.slice A n cap, .int .i64 q] w (APost v w) := by
  rw [← h.out]; exact lp.isBridge_model A n cap ts q w hn hcap hts
theorem co_i (h : Hid (ansCo ts = v)) (hn : n ≤ 2000000) (hts : Hid (LgAt w w.heap.size A n ts)) (hT : Hid (win.Tab w)) : Calls Tryd.prog 39 #[.slice A n cap] w (APost v w) := by
  rw [← h.out]; exact lpi.count_is A n cap ts w hn hts hT
theorem co_m (h : Hid (ansCo ts = v)) (hn : n ≤ 2000000) (hts : Hid (LgAt w w.heap.size A n ts)) : Calls Tryd.prog 38 #[.slice A n cap] w (APost v w) := by
  rw [← h.out]; exact lp.count_model A n cap ts w hn hts
theorem bo_i (hI : Hid (brIds ts = I)) (hB : Hid (goodLg ts = B)) (hn : n ≤ 2000000) (hts : Hid (LgAt w w.heap.size A n ts)) (hT : Hid (win.Tab w)) : Calls Tryd.prog 35 #[.slice A n cap] w (LPost I B w) := by
  rw [← hI.out, ← hB.out]; exact lpi.bridgesOf_impl A n cap ts w hn hts hT
theorem bo_m (hI : Hid (brIds ts = I)) (hB : Hid (goodLg ts = B)) (hn : n ≤ 2000000) (hcap : n ≤ cap) (hts : Hid (LgAt w w.heap.size A n ts)) : Calls Tryd.prog 34 #[.slice A n cap] w (LPost I B w) := by
  rw [← hI.out, ← hB.out]; exact lp.bridgesOf_model A n cap ts w hn hcap hts
theorem th_i (hI : Hid (thrIds ts q = I)) (hB : Hid (thrOk ts q = B)) (hn : n ≤ 2000000) (hts : Hid (LgAt w w.heap.size A n ts)) (hT : Hid (win.Tab w)) : Calls Tryd.prog 37 #[.slice A n cap, .int .i64 q] w (LPost I B w) := by
  rw [← hI.out, ← hB.out]; exact lpi.through_impl A n cap ts q w hn hts hT
theorem th_m (hI : Hid (thrIds ts q = I)) (hB : Hid (thrOk ts q = B)) (hn : n ≤ 2000000) (hts : Hid (LgAt w w.heap.size A n ts)) : Calls Tryd.prog 36 #[.slice A n cap, .int .i64 q] w (LPost I B w) := by
  rw [← hI.out, ← hB.out]; exact lp.through_model A n cap ts q w hn hts
theorem cl_i (hI : Hid (clIds ts = I)) (hB : Hid (goodLg ts = B)) (hn : n ≤ 2000000) (hts : Hid (LgAt w w.heap.size A n ts)) (hT : Hid (win.Tab w)) : Calls Tryd.prog 50 #[.slice A n cap] w (LPost I B w) := by
  rw [← hI.out, ← hB.out]; exact closing_impl A n cap ts w hn hts hT
end
/-- a leg with placed ends is a bridge exactly if no loop goes along it -/
theorem br_form (ts : List Lg) (q : Int) : ∃ (b ok : Bool), ansBr ts q = .tuple #[.bool b, .bool ok] ∧ (ok = true → thrOk ts q = true ∧ b = decide ((thrIds ts q).length = 0)) := by
  cases h : brOk ts q
  · exact ⟨false, false, by unfold ansBr; rw [h]; rfl, fun e => by cases e⟩
  · refine ⟨brB ts q.toNat, true, by unfold ansBr; rw [h]; rfl, fun _ => ?_⟩
    unfold brOk at h
    rw [Bool.and_eq_true, Bool.and_eq_true] at h
    obtain ⟨hg, hb, ha⟩ := h
    refine ⟨by unfold thrOk; rw [hg, hb]; rfl, ?_⟩
    obtain ⟨q0, q1⟩ := btw_yes hb
    obtain ⟨k, rfl⟩ := Int.eq_ofNat_of_zero_le q0
    unfold brAt at ha
    rw [Int.toNat_natCast] at ha ⊢
    cases hx : ts[k]? with
    | none => rw [hx] at ha; cases ha
    | some x => rw [hx] at ha; exact br_thr hg hx (mem_iff.1 ha)
theorem brN_mem {ts : List Lg} {i : Int} : ∀ m, i ∈ brN ts m → ∃ k : Nat, k < m ∧ i = (k : Int) ∧ brAt ts (k : Int) = true ∧ brB ts k = true
  | 0, h => by cases h
  | m + 1, h => by
    rw [brN] at h
    cases hb : (brAt ts (m : Int) && brB ts m)
    · rw [hb, if_neg (by decide)] at h
      obtain ⟨k, h1, h2⟩ := brN_mem m h
      exact ⟨k, by omega, h2⟩
    · rw [hb, if_pos rfl] at h
      rcases List.mem_append.1 h with h | h
      · obtain ⟨k, h1, h2⟩ := brN_mem m h
        exact ⟨k, by omega, h2⟩
      · rw [Bool.and_eq_true] at hb
        exact ⟨m, by omega, by simpa using h, hb.1, hb.2⟩
/-- the bridges are bridges -/
theorem bo_all (ts : List Lg) (k : Nat) (i : Int) (h : (brIds ts)[k]? = some i) : ansBr ts i = .tuple #[.bool true, .bool true] := by
  have hm := List.mem_of_getElem? h
  unfold brIds at hm
  cases hg : goodLg ts
  · rw [hg] at hm; cases hm
  · rw [hg, if_pos rfl] at hm
    obtain ⟨j, hj, rfl, ha, hb⟩ := brN_mem _ hm
    unfold ansBr brOk
    rw [hg, btw_mk (by omega) (by omega), ha, Int.toNat_natCast, hb]
    rfl
end Go.Proofs.YtkeepfkjhcmhlaaDoor.nw

namespace Go.Proofs.YtkeepfkjhcmhlaaDoor.kwb
open Go.RowKit
open reads base ty win lg rowi hs nt nq lp nw
set_option linter.unusedVariables false
set_option linter.unusedSimpArgs false

set_option maxHeartbeats 16000000 in
set_option maxRecDepth 100000 in
theorem walk (A : Option Addr) (n cap : Nat) (zs : List UInt8) (w : World) (hn : n ≤ 65536) (hS : Hid (St w A n zs w)) :
    Calls Tryd.prog 13 #[.slice A n cap] w (LawPost w) := by
  have HB := Lib.hid (vs.big_no A n cap w hn)
  clear hn
  go_enter Tryd.func13, Tryd.ntmps13
  go_wp2_with fail
  refine HB.out.mono ?_
  rintro e w' ⟨rfl, rfl⟩
  clear HB
  go_wp2_with fail
  refine (dcv.isBridge_draw A n cap zs _ (Lib.hid hS.out.2.1)).mono ?_
  rintro e W1 ⟨v1, t1, q1, rfl, ho, hl1, ⟨q1a, q1b⟩, b⟩
  obtain ⟨L1, HL1⟩ : ∃ L, Hid (t1.length = L) := ⟨_, Lib.hid rfl⟩
  rw [HL1.out] at ho hl1
  obtain ⟨A1, c1, rfl⟩ := base.row_slice ho
  have HR1 := Lib.hid ho
  clear ho
  have H1 := Lib.hid (show St w A n zs W1 from hS.out.step b)
  clear b hS
  obtain ⟨I1, HI1⟩ : ∃ I, Hid (thrIds t1 q1 = I) := ⟨_, Lib.hid rfl⟩
  obtain ⟨K1, HK1⟩ : ∃ K, Hid (I1.length = K) := ⟨_, Lib.hid rfl⟩
  have hK1 : K1 ≤ 12 := by rw [← HK1.out, ← HI1.out]; exact lpi.thrIds_le _ _
  obtain ⟨b1, ok1, hX, hF⟩ := br_form t1 q1
  rw [HI1.out, HK1.out] at hF
  have HX := Lib.hid hX
  have HF := Lib.hid hF
  clear hX hF
  go_wp2_with fail
  refine (br_i HX (by omega) (Lib.hid (own_Lg HL1.out HR1.out)) (Lib.hid H1.out.2.2)).mono ?_
  rintro e W2 ⟨rfl, b⟩
  have H2 := Lib.hid (show St w A n zs W2 from H1.out.step b)
  have H3 := Lib.hid (show W2.ownsRow (w.heap.size) 51 5 (.slice A1 L1 c1) L1 (flatLg t1) from row_below HR1.out b)
  clear b H1 HR1
  go_wp2_with fail
  refine (br_m HX (by omega) (own_cap H3.out) (Lib.hid (own_Lg HL1.out H3.out))).mono ?_
  rintro e W3 ⟨rfl, b⟩
  have H4 := Lib.hid (show St w A n zs W3 from H2.out.step b)
  have H5 := Lib.hid (show W3.ownsRow (w.heap.size) 51 5 (.slice A1 L1 c1) L1 (flatLg t1) from row_below H3.out b)
  clear b H2 H3
  go_upto_if 59 with fail
  go_cut [9] (fun _ wx => St w A n zs wx)
  case first => as_aux_lemma =>
    cases ok1
    · go_wp2_with fail
      go_meet
      case rel => exact H4.out
    · obtain ⟨hO, hb⟩ := HF.out rfl
      have HO1 := Lib.hid hO
      clear hO HF HX
      go_wp2_with fail
      refine (th_i HI1 HO1 (by omega) (Lib.hid (own_Lg HL1.out H5.out)) (Lib.hid H4.out.2.2)).mono ?_
      rintro e W4 ⟨vr, rfl, ho, b⟩
      rw [HK1.out] at ho
      obtain ⟨Aloops, cloops, rfl⟩ := base.row_slice ho
      have HRloops := Lib.hid ho
      clear ho
      have H6 := Lib.hid (show St w A n zs W4 from H4.out.step b)
      have H7 := Lib.hid (show W4.ownsRow (w.heap.size) 51 5 (.slice A1 L1 c1) L1 (flatLg t1) from row_below H5.out b)
      clear b H4 H5
      by_cases h0 : K1 = 0
      · skip
        have hz : (K1 : Int) = 0 := by omega
        have e : b1 = true := by rw [hb]; exact decide_eq_true h0
        clear hb
        subst e
        go_wp2_with fail
        go_meet
        case rel => exact H6.out
      · skip
        have hz : ¬ (K1 : Int) = 0 := by omega
        have e : b1 = false := by rw [hb]; exact decide_eq_false h0
        clear hb
        subst e
        go_wp2_with fail
        go_meet
        case rel => exact H6.out
  case rest => as_aux_lemma =>
    have SA := Lib.hid hcut
    clear hcut HX HF HI1 HK1 H4 H5
    go_wp2_with fail
    refine (dcv.bridgesOf_draw A n cap zs _ (Lib.hid SA.out.2.1)).mono ?_
    rintro e W5 ⟨v2, t2, rfl, ho, hl2, b⟩
    obtain ⟨L2, HL2⟩ : ∃ L, Hid (t2.length = L) := ⟨_, Lib.hid rfl⟩
    rw [HL2.out] at ho hl2
    obtain ⟨A2, c2, rfl⟩ := base.row_slice ho
    have HR2 := Lib.hid ho
    clear ho
    have H8 := Lib.hid (show St w A n zs W5 from SA.out.step b)
    clear b SA
    obtain ⟨I2, HI2⟩ : ∃ I, Hid (brIds t2 = I) := ⟨_, Lib.hid rfl⟩
    obtain ⟨K2, HK2⟩ : ∃ K, Hid (I2.length = K) := ⟨_, Lib.hid rfl⟩
    have hK2 : K2 ≤ 12 := by rw [← HK2.out, ← HI2.out]; exact lpi.brIds_len _
    obtain ⟨B2, HB2⟩ : ∃ B, Hid (goodLg t2 = B) := ⟨_, Lib.hid rfl⟩
    have HBO := Lib.hid (bo_all t2)
    rw [HI2.out] at HBO
    go_wp2_with fail
    refine (bo_i HI2 HB2 (by omega) (Lib.hid (own_Lg HL2.out HR2.out)) (Lib.hid H8.out.2.2)).mono ?_
    rintro e W6 ⟨vr, rfl, ho, b⟩
    rw [HK2.out] at ho
    obtain ⟨Anear, cnear, rfl⟩ := base.row_slice ho
    have HRnear := Lib.hid ho
    clear ho
    have H9 := Lib.hid (show St w A n zs W6 from H8.out.step b)
    have H10 := Lib.hid (show W6.ownsRow (wc.heap.size) 51 5 (.slice A2 L2 c2) L2 (flatLg t2) from row_below HR2.out b)
    clear b H8 HR2
    go_wp2_with fail
    refine (bo_m HI2 HB2 (by omega) (own_cap H10.out) (Lib.hid (own_Lg HL2.out H10.out))).mono ?_
    rintro e W7 ⟨vr, rfl, ho, b⟩
    rw [HK2.out] at ho
    obtain ⟨Awant, cwant, rfl⟩ := base.row_slice ho
    have HRwant := Lib.hid ho
    clear ho
    have H11 := Lib.hid (show St w A n zs W7 from H9.out.step b)
    have H12 := Lib.hid (show W7.ownsRow (wc.heap.size) 51 5 (.slice A2 L2 c2) L2 (flatLg t2) from row_below H10.out b)
    have H13 := Lib.hid (show W7.ownsRow (W5.heap.size) 3 1 (.slice Anear K2 cnear) K2 (ints.intsV I2) from row_below HRnear.out b)
    clear b H9 H10 HRnear
    go_wp2_with fail
    refine (vints_b (by omega) (Lib.hid (ints.IL.of_own H13.out)) (Lib.hid (ints.IL.of_own HRwant.out))).mono ?_
    rintro e W8 ⟨rfl, b⟩
    have H14 := Lib.hid (show St w A n zs W8 from H11.out.step b)
    have H15 := Lib.hid (show W8.ownsRow (wc.heap.size) 51 5 (.slice A2 L2 c2) L2 (flatLg t2) from row_below H12.out b)
    have H16 := Lib.hid (show W8.ownsRow (W5.heap.size) 3 1 (.slice Anear K2 cnear) K2 (ints.intsV I2) from row_below H13.out b)
    have H17 := Lib.hid (show W8.ownsRow (W6.heap.size) 3 1 (.slice Awant K2 cwant) K2 (ints.intsV I2) from row_below HRwant.out b)
    clear b H11 H12 H13 HRwant
    clear H17
    go_wp2_with fail
    go_loopw [16] (fun i wr => ∃ k : Nat, k ≤ K2 ∧ i = .int .i64 k ∧ wr.ownsRow (wc.heap.size) 51 5 (.slice A2 L2 c2) L2 (flatLg t2) ∧ wr.ownsRow (W5.heap.size) 3 1 (.slice Anear K2 cnear) K2 (ints.intsV I2) ∧ St w A n zs wr) (fun i _ => K2 - (intOf i).toNat)
    case atStart => exact ⟨0, Nat.zero_le _, rfl, H15.out, H16.out, H14.out⟩
    case round =>
      obtain ⟨k, hk, rfl, r_l2, r_near, r_S⟩ := hrel
      have Ra_l2 := Lib.hid r_l2
      have Ra_near := Lib.hid r_near
      have Ra_S := Lib.hid r_S
      clear r_l2 r_near r_S H15 H16 H14
      by_cases hlt : k < K2
      · skip
        have hki : (k : Int) < (K2 : Int) := by omega
        have hk0 : 0 ≤ (k : Int) := by omega
        have hkd : decide (k < K2) = true := by simpa using hlt
        obtain ⟨x, hx⟩ : ∃ x, I2[k]? = some x := ⟨_, List.getElem?_eq_getElem (by rw [HK2.out]; exact hlt)⟩
        have HX := Lib.hid hx
        obtain ⟨g, hA, -⟩ := (ints.IL.of_own Ra_near.out).2 k x hx
        subst hA
        clear hx
        have HE := Lib.hid (HBO.out k x HX.out)
        have c0 : wr.cell? ⟨g, k, none⟩ = some (.int .i64 x) := by obtain ⟨g1, e, c⟩ := (ints.IL.of_own Ra_near.out).2 k x HX.out; injection e with e; injection e with e; subst e; exact c
        have c0l : g < wr.heap.size := (Ra_near.out.lt g rfl).2
        go_wp2_with fail
        clear c0 c0l
        refine (br_i HE (by omega) (Lib.hid (own_Lg HL2.out Ra_l2.out)) (Lib.hid Ra_S.out.2.2)).mono ?_
        rintro e W9 ⟨rfl, b⟩
        have H18 := Lib.hid (show St w A n zs W9 from Ra_S.out.step b)
        have H19 := Lib.hid (show W9.ownsRow (wc.heap.size) 51 5 (.slice A2 L2 c2) L2 (flatLg t2) from row_below Ra_l2.out b)
        have H20 := Lib.hid (show W9.ownsRow (W5.heap.size) 3 1 (.slice (some ⟨g, 0, none⟩) K2 cnear) K2 (ints.intsV I2) from row_below Ra_near.out b)
        clear b Ra_S Ra_l2 Ra_near
        go_wp2_with fail
        go_roundw
        case rel => exact ⟨k + 1, by omega, by go_num, H19.out, H20.out, H18.out⟩
        case measure => simp [intOf]; omega
      · skip
        have hkd : decide (k < K2) = false := by simpa using hlt
        have hkn : ¬ (k : Int) < (K2 : Int) := by omega
        clear hlt hk
        clear Ra_near
        clear Ra_l2
        go_wp2_with fail
        refine (dcv.through_draw A n cap zs _ (Lib.hid Ra_S.out.2.1)).mono ?_
        rintro e W10 ⟨v3, t3, q3, rfl, ho, hl3, ⟨q3a, q3b⟩, b⟩
        obtain ⟨L3, HL3⟩ : ∃ L, Hid (t3.length = L) := ⟨_, Lib.hid rfl⟩
        rw [HL3.out] at ho hl3
        obtain ⟨A3, c3, rfl⟩ := base.row_slice ho
        have HR3 := Lib.hid ho
        clear ho
        have H21 := Lib.hid (show St w A n zs W10 from Ra_S.out.step b)
        clear b Ra_S
        obtain ⟨I3, HI3⟩ : ∃ I, Hid (thrIds t3 q3 = I) := ⟨_, Lib.hid rfl⟩
        obtain ⟨K3, HK3⟩ : ∃ K, Hid (I3.length = K) := ⟨_, Lib.hid rfl⟩
        have hK3 : K3 ≤ 12 := by rw [← HK3.out, ← HI3.out]; exact lpi.thrIds_le _ _
        obtain ⟨B3, HB3⟩ : ∃ B, Hid (thrOk t3 q3 = B) := ⟨_, Lib.hid rfl⟩
        go_wp2_with fail
        refine (th_i HI3 HB3 (by omega) (Lib.hid (own_Lg HL3.out HR3.out)) (Lib.hid H21.out.2.2)).mono ?_
        rintro e W11 ⟨vr, rfl, ho, b⟩
        rw [HK3.out] at ho
        obtain ⟨Aloops, cloops, rfl⟩ := base.row_slice ho
        have HRloops := Lib.hid ho
        clear ho
        have H22 := Lib.hid (show St w A n zs W11 from H21.out.step b)
        have H23 := Lib.hid (show W11.ownsRow (wr.heap.size) 51 5 (.slice A3 L3 c3) L3 (flatLg t3) from row_below HR3.out b)
        clear b H21 HR3
        go_wp2_with fail
        refine (th_m HI3 HB3 (by omega) (Lib.hid (own_Lg HL3.out H23.out))).mono ?_
        rintro e W12 ⟨vr, rfl, ho, b⟩
        rw [HK3.out] at ho
        obtain ⟨Awant, cwant, rfl⟩ := base.row_slice ho
        have HRwant := Lib.hid ho
        clear ho
        have H24 := Lib.hid (show St w A n zs W12 from H22.out.step b)
        have H25 := Lib.hid (show W12.ownsRow (wr.heap.size) 51 5 (.slice A3 L3 c3) L3 (flatLg t3) from row_below H23.out b)
        have H26 := Lib.hid (show W12.ownsRow (W10.heap.size) 3 1 (.slice Aloops K3 cloops) K3 (ints.intsV I3) from row_below HRloops.out b)
        clear b H22 H23 HRloops
        go_wp2_with fail
        refine (vints_b (by omega) (Lib.hid (ints.IL.of_own H26.out)) (Lib.hid (ints.IL.of_own HRwant.out))).mono ?_
        rintro e W13 ⟨rfl, b⟩
        have H27 := Lib.hid (show St w A n zs W13 from H24.out.step b)
        have H28 := Lib.hid (show W13.ownsRow (wr.heap.size) 51 5 (.slice A3 L3 c3) L3 (flatLg t3) from row_below H25.out b)
        have H29 := Lib.hid (show W13.ownsRow (W10.heap.size) 3 1 (.slice Aloops K3 cloops) K3 (ints.intsV I3) from row_below H26.out b)
        have H30 := Lib.hid (show W13.ownsRow (W11.heap.size) 3 1 (.slice Awant K3 cwant) K3 (ints.intsV I3) from row_below HRwant.out b)
        clear b H24 H25 H26 HRwant
        clear H30
        clear H29
        clear H28
        go_wp2_with fail
        refine (dcv.count_draw A n cap zs _ (Lib.hid H27.out.2.1)).mono ?_
        rintro e W14 ⟨v4, t4, rfl, ho, hl4, b⟩
        obtain ⟨L4, HL4⟩ : ∃ L, Hid (t4.length = L) := ⟨_, Lib.hid rfl⟩
        rw [HL4.out] at ho hl4
        obtain ⟨A4, c4, rfl⟩ := base.row_slice ho
        have HR4 := Lib.hid ho
        clear ho
        have H31 := Lib.hid (show St w A n zs W14 from H27.out.step b)
        clear b H27
        obtain ⟨I4, HI4⟩ : ∃ I, Hid (clIds t4 = I) := ⟨_, Lib.hid rfl⟩
        obtain ⟨K4, HK4⟩ : ∃ K, Hid (I4.length = K) := ⟨_, Lib.hid rfl⟩
        have hK4 : K4 ≤ 12 := by rw [← HK4.out, ← HI4.out]; exact clIds_len _
        obtain ⟨B4, HB4⟩ : ∃ B, Hid (goodLg t4 = B) := ⟨_, Lib.hid rfl⟩
        have HC := Lib.hid (show ansCo t4 = .tuple #[.int .i64 (K4 : Nat), .bool B4] by unfold ansCo; rw [HI4.out, HK4.out, HB4.out])
        go_wp2_with fail
        refine (co_i HC (by omega) (Lib.hid (own_Lg HL4.out HR4.out)) (Lib.hid H31.out.2.2)).mono ?_
        rintro e W15 ⟨rfl, b⟩
        have H32 := Lib.hid (show St w A n zs W15 from H31.out.step b)
        have H33 := Lib.hid (show W15.ownsRow (W13.heap.size) 51 5 (.slice A4 L4 c4) L4 (flatLg t4) from row_below HR4.out b)
        clear b H31 HR4
        go_wp2_with fail
        refine (co_m HC (by omega) (Lib.hid (own_Lg HL4.out H33.out))).mono ?_
        rintro e W16 ⟨rfl, b⟩
        have H34 := Lib.hid (show St w A n zs W16 from H32.out.step b)
        have H35 := Lib.hid (show W16.ownsRow (W13.heap.size) 51 5 (.slice A4 L4 c4) L4 (flatLg t4) from row_below H33.out b)
        clear b H32 H33
        cases B4
        · skip
          go_wp2_with fail
          go_ret
          exact ⟨rfl, H34.out.1⟩
        · skip
          go_wp2_with fail
          refine (cl_i HI4 HB4 (by omega) (Lib.hid (own_Lg HL4.out H35.out)) (Lib.hid H34.out.2.2)).mono ?_
          rintro e W17 ⟨vr, rfl, ho, b⟩
          rw [HK4.out] at ho
          obtain ⟨Aclosing, cclosing, rfl⟩ := base.row_slice ho
          have HRclosing := Lib.hid ho
          clear ho
          have H36 := Lib.hid (show St w A n zs W17 from H34.out.step b)
          have H37 := Lib.hid (show W17.ownsRow (W13.heap.size) 51 5 (.slice A4 L4 c4) L4 (flatLg t4) from row_below H35.out b)
          clear b H34 H35
          go_wp2_with fail
          go_ret
          exact ⟨rfl, H36.out.1⟩
end Go.Proofs.YtkeepfkjhcmhlaaDoor.kwb

namespace Go.Proofs.YtkeepfkjhcmhlaaDoor.fnBridges
open Go.ChangeShapes Go.WideShapes Go.ChangeAt Go.RowKit
open base sn win sinc
open nw (St)
set_option linter.unusedSimpArgs false
set_option linter.unusedVariables false

theorem laidOut : laidOutB Tryd.prog = true := by kernel_rfl
set_option maxRecDepth 100000 in
theorem big (A : Option Addr) (n cap : Nat) (w : World) (h : Hid (65536 < n)) (hm : Hid (n ≤ maxLen)) : Calls Tryd.prog 13 #[.slice A n cap] w (LawPost w) := by
  go_enter Tryd.func13, Tryd.ntmps13
  go_wp2_with fail
  refine (vs.big_yes A n cap w h.out hm.out).mono ?_
  rintro e w' ⟨rfl, rfl⟩
  go_wp2_with fail
  go_ret
  exact ⟨rfl, Below.refl _ _⟩
theorem walk (A : Option Addr) (n cap : Nat) (zs : List UInt8) (w : World) (hR : reads.Reads w w.heap.size 1 A n (curs.bytesV zs)) (hm : n ≤ maxLen) (hT : Tab w) :
    Calls Tryd.prog 13 #[.slice A n cap] w (LawPost w) := by
  by_cases hb : 65536 < n
  · exact big A n cap w (Lib.hid hb) (Lib.hid hm)
  · exact kwb.walk A n cap zs w (by omega) (Lib.hid ⟨Below.refl _ _, ⟨hR, by omega⟩, hT⟩)

set_option maxRecDepth 100000 in
theorem contract (H : Type) (enc : TypeId × Value → H) (W : World) (base : Nat) (args : Array Value) (ds gs : List (DataW H)) (before : List MemPlace)
    (hval : ∀ (j : Nat) t v, Tryd.f13.params[j]? = some t → args[j]? = some v → Value.okWide Tryd.prog W .any base t v)
    (hW : DataW.Whole enc Tryd.prog Tryd.f13.params.toList Rows.fnBridgesSpec.vars false W args.toList ds gs before) (hL : laidMetH Tryd.prog Rows.fnBridgesRow.laid W) :
    Calls Tryd.prog 13 args W fun e W' => ∃ v, e = .returned v ∧ Rows.fnBridgesSpec.post enc Tryd.prog Tryd.f13 false true false false W args v W' := by
  have hT : Tab W := given (row := Rows.fnBridgesRow) (by kernel_rfl) hL
  have hW' := hW
  obtain ⟨p, q, hA0, hV0, rfl, hfz, hnd⟩ := hW
  have hA : DataW.TrodAll enc Tryd.prog W 0 (fun _ => true) true Tryd.f13.params.toList args.toList ds p := hA0
  have hV : DataW.TrodVars enc Tryd.prog W (fun _ => true) ["loop.example/g00933/impl.sines"] gs q := hV0
  rw [Tryd.params13] at hA hval
  obtain ⟨v0, vs0, d0, ds0, p0, q0, hargs, rfl, rfl, h0, r0⟩ := trodAll_cons hA
  obtain ⟨rfl, rfl, rfl⟩ := trodAll_nil r0
  obtain rfl : args = #[v0] := by cases args; simp_all
  obtain ⟨rfl, rfl⟩ := var_open hT hV
  have k0 := h0
  have lt0 : ∀ x ∈ p0, x.block < W.heap.size := by obtain ⟨m, hm⟩ := k0; exact DataW.trod_lt m _ _ _ hm
  obtain ⟨A, n, cap, zs, rfl, hR, hm⟩ := opens.opened (hval 0 46 v0 rfl rfl) h0
  clear hA0 hV0
  refine (walk A n cap zs W hR hm hT).mono fun e W' ⟨he, bel⟩ => ?_
  subst he
  exact ⟨_, rfl, _, _, _, [], _, tabP, hW', trodAll_mk1 (shut_bool Tryd.underlying4 _), (trodAll_cons_mk (Below.trod laidOut (by kernel_rfl) (of_decide_eq_true (by kernel_rfl)) k0 bel lt0) trodAll_mk0), var_shut (hT.below bel) _, bel.frame _, fun h => by cases h⟩

theorem laid_met (os : Os) : laidMet Tryd.prog Rows.fnBridgesRow.laid ((World.doorLaid Tryd.prog 2000 os).forCall (fun _ _ => 0) ⟨#[], #[.slice none 0 0], []⟩).memory :=
  laidMet_of_run' 8 (by kernel_rfl) (by kernel_rfl)
theorem readsIt (os : Os) {H : Type} (enc : TypeId × Value → H) : ∃ ds places, DataW.whole enc Tryd.prog ((World.doorLaid Tryd.prog 2000 os).forCall (fun _ _ => 0) ⟨#[], #[.slice none 0 0], []⟩).memory Tryd.f13.params.toList Rows.fnBridgesSpec.vars false #[Value.slice none 0 0].toList 8 = some ([ds], [tabH], places) :=
  ⟨.nil, tabP, by kernel_rfl⟩

set_option maxRecDepth 100000 in
theorem lifted (os : Os) (started : os.Started) (H : Type) (enc : TypeId × Value → H) (F : Stop.Interp) :
    ReturnsInHanded {} Tryd.checked os 13 .any ((OpenSpec.ofChange Rows.fnBridgesSpec).preRow enc Tryd.prog Tryd.f13 Rows.fnBridgesRow.domain false Rows.fnBridgesRow.laid) (((OpenSpec.ofChange Rows.fnBridgesSpec).at F).post enc Tryd.prog Tryd.f13 false true false false) := by
  obtain ⟨d, places, hx⟩ := readsIt os enc
  refine returnsInHanded_of_row (C := Tryd.checked) (s := OpenSpec.ofChange Rows.fnBridgesSpec) own started (by kernel_rfl) Tryd.func13
    (witness_row_at (enc := enc) (C := Tryd.checked) false (World.doorLaid Tryd.prog 2000 os) #[.slice none 0 0] rfl (by kernel_rfl) (by kernel_rfl) (by kernel_rfl)
      (OpenSpec.preRow_of_cond 8 hx (by kernel_rfl) (fun k hk => by cases hk) (by kernel_rfl) (laid_met os))) ?_
  intro W base args ds gs before hval hW _ _ _ hL _ _
  exact contract H enc W base args ds gs before hval hW hL

theorem said : Rows.FnBridgesSaid :=
  OpenClaim.holds_of_cond 13 Tryd.f13 rfl rfl rfl rfl rfl rfl rfl ⟨rfl, rfl, rfl, rfl, rfl⟩ rfl rfl rfl rfl rfl (by kernel_rfl) Tryd.func13 (by kernel_rfl)
    (of_decide_eq_true (by kernel_rfl)) (by unfold Func.isWrapper; first | (rw [if_pos (by decide +kernel)]; kernel_rfl) | (rw [if_neg (by decide +kernel)]; exact ⟨rfl, rfl⟩))
    (fun os started H enc _ F => by rw [OpenClaim.pre_eq_preRow]; exact lifted os started H enc F)

theorem plain (f : FuncId) (fn : Func) (hf : Tryd.pinned.checked.prog.funcNamed "loop.example/g00933/laws.FnBridges" = some f) (hfn : Tryd.pinned.checked.prog.funcs[f]? = some fn) :
    false = Tryd.pinned.checked.prog.looks [] ∧ ∀ (j : Nat) t, fn.params[j]? = some t → Tryd.pinned.checked.prog.wantsStandIn t = false := by
  obtain rfl : f = 13 := Option.some.inj ((show Tryd.prog.funcNamed "loop.example/g00933/laws.FnBridges" = some 13 by kernel_rfl).symm.trans hf) |>.symm
  obtain rfl : fn = Tryd.f13 := (Option.some.inj (Tryd.func13.symm.trans hfn)).symm
  refine ⟨by kernel_rfl, fun j t ht => ?_⟩
  rw [Tryd.params13] at ht
  obtain rfl : t = 46 := by simpa using Array.mem_of_getElem? ht
  exact (show Tryd.prog.wantsStandIn 46 = false by kernel_rfl)

theorem proved : Rows.FnBridgesCardSaid :=
  Claim7.holds_tied_plain_at .later [] _ _ _ _ said (fun _ h => by cases h) (by kernel_rfl) (fun _ h => by cases h) fnBridges_row_tie rfl ⟨rfl, rfl⟩ (by kernel_rfl) rfl plain (by kernel_rfl)
end Go.Proofs.YtkeepfkjhcmhlaaDoor.fnBridges
