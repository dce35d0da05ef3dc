/-
  Small helpers of the laws: a great code, equal lists of ints.
  A law over code: what is live all along; lists of ints compared.
  A network without closing legs has one tree and no residuals; a bridge has none (pure mathematics).
  The length of a shift, by the program.
  The misclosure of a loop, by the program; which of two loops is worse.
  MisclosureOf, what a loop misses, which of two loops is worse, CountLoops, by the program.
  WorstLoop and LoopsThrough, by the program.
  What FnBlunders and FnFixes ask of the answers (pure).
  FnBlunders and FnFixes: the contracts in letters.
  What FnFixes asks of the answers (pure): a fix that is taken back is none, the best fix is the best, fixes make the strain smaller.
  laws.vLegs over two equal lists.
  FnFixes: the contracts in letters.
  Conditions: those that each theorem names.
-/
import Derived.Test.YtiimegmaokfpgabGreatDoorIntV
import Derived.WalkKit
import Derived.Deep.QuietTactic
import Derived.BigQuiet
import Derived.LoopTactic
import Derived.Test.YtiimegmaokfpgabGreatDoorTyLeg
import Derived.Test.YtiimegmaokfpgabGreatDoorBase
import Derived.Test.YtiimegmaokfpgabGreatDoorCurs
import Derived.Test.YtiimegmaokfpgabGreatDoorSinI
import Derived.Test.YtiimegmaokfpgabGreatDoorRowI
import Derived.Test.YtiimegmaokfpgabGreatDoorEnd
import Derived.Test.YtiimegmaokfpgabGreatDoorBlB
import Derived.Test.YtiimegmaokfpgabGreatDoorNtZ
import Derived.Test.YtiimegmaokfpgabGreatDoorNqZ
import Derived.Test.YtiimegmaokfpgabGreatDoorBlC
import Derived.Test.YtiimegmaokfpgabGreatDoorBlE
import Derived.Deep.DeepCutAuto
import Derived.Test.YtiimegmaokfpgabGreatDoorBlD
namespace Go.Proofs.YtiimegmaokfpgabGreatDoor.vs
open Go.RowKit
open reads ints
set_option linter.unusedVariables false

def EqPost (w : World) (e : Ending) (w' : World) : Prop := e = .returned (.bool true) ∧ ∃ m, w' = w.drewN m
theorem big_yes (A : Option Addr) (n cap : Nat) (w : World) (h : 65536 < n) (hm : n ≤ maxLen) :
    Calls Tryz.prog 7 #[.slice A n cap] w fun e w' => e = .returned (.bool true) ∧ w = w' := by
  unfold maxLen at hm
  have hd : decide (65536 < n) = true := by simpa using h
  have hd2 : decide (65536 < (n : Int)) = true := by simp; omega
  go_enter Tryz.func7, Tryz.ntmps7
  go_wp2_with fail
  go_ret
  exact ⟨rfl, rfl⟩
theorem big_no (A : Option Addr) (n cap : Nat) (w : World) (h : n ≤ 65536) :
    Calls Tryz.prog 7 #[.slice A n cap] w fun e w' => e = .returned (.bool false) ∧ w = w' := by
  have hd : decide (65536 < n) = false := by simpa using h
  have hd2 : decide (65536 < (n : Int)) = false := by simp; omega
  go_enter Tryz.func7, Tryz.ntmps7
  go_wp2_with fail
  go_ret
  exact ⟨rfl, rfl⟩
set_option maxHeartbeats 1000000 in
theorem vints_any (A A' : Option Addr) (n c c' : Nat) (xs : List Int) (w : World) (hn : n ≤ 2000000) (h : Hid (IL w A n xs)) (h' : Hid (IL w A' n xs)) :
    Calls Tryz.prog 11 #[.slice A n c, .slice A' n c'] w (EqPost w) := by
  go_enter Tryz.func11, Tryz.ntmps11
  go_wp2_with fail
  go_loopw [5] (fun i wr => ∃ k m : Nat, k ≤ n ∧ i = .int .i64 k ∧ wr = w.drewN m) (fun i _ => n - (intOf i).toNat)
  case atStart => exact ⟨0, 0, Nat.zero_le _, rfl, rfl⟩
  case round =>
    obtain ⟨k, m, hk, rfl, rfl⟩ := hrel
    by_cases hlt : k < n
    · obtain ⟨x, hx⟩ : ∃ x, xs[k]? = some x := ⟨_, List.getElem?_eq_getElem (by rw [h.out.1]; exact hlt)⟩
      obtain ⟨g, rfl, e0⟩ := h.out.2 k x hx
      obtain ⟨g', rfl, e1⟩ := h'.out.2 k x hx
      clear hx
      have hki : (k : Int) < (n : Int) := by omega
      have hk0 : 0 ≤ (k : Int) := by omega
      have hkd : decide (k < n) = true := by simpa using hlt
      go_wp2_with fail
      go_quiet (fail)
      go_wp2_with fail
      go_roundw
      case rel => exact ⟨k + 1, _, by omega, by go_num, rfl⟩
      case measure => simp [intOf]; omega
    · have hkd : decide (k < n) = false := by simpa using hlt
      go_wp2_with fail
      go_ret
      exact ⟨rfl, m, rfl⟩

end Go.Proofs.YtiimegmaokfpgabGreatDoor.vs

namespace Go.Proofs.YtiimegmaokfpgabGreatDoor.nw
open Go.RowKit
open reads base ty win rowi
set_option linter.unusedVariables false
set_option linter.unusedSimpArgs false
def LawPost (w : World) (e : Ending) (w' : World) : Prop := e = .returned (.bool true) ∧ Below w.heap.size w w'
def St (w : World) (A : Option Addr) (n : Nat) (zs : List UInt8) (v : World) : Prop := Below w.heap.size w v ∧ curs.Code v A n zs ∧ win.Tab v
theorem St.step {w v v' : World} {A : Option Addr} {n : Nat} {zs : List UInt8} (h : St w A n zs v) (hb : Below v.heap.size v v') : St w A n zs v' := ⟨h.1.trans (hb.mono h.1.size), ⟨(h.2.1.1.below hb).more hb.size, h.2.1.2⟩, h.2.2.below hb⟩
end Go.Proofs.YtiimegmaokfpgabGreatDoor.nw

namespace Go.Proofs.YtiimegmaokfpgabGreatDoor.bl
open Go.RowKit
open reads base ty lg lgi win hs nt nq rowi sn mt ml dt pg ph lp
set_option linter.unusedVariables false
set_option linter.unusedSimpArgs false
end Go.Proofs.YtiimegmaokfpgabGreatDoor.bl

namespace Go.Proofs.YtiimegmaokfpgabGreatDoor.nq
open Go.RowKit
open reads base ty lg lgi win hs nt rowi
set_option linter.unusedVariables false
set_option linter.unusedSimpArgs false
end Go.Proofs.YtiimegmaokfpgabGreatDoor.nq
namespace Go.Proofs.YtiimegmaokfpgabGreatDoor.lpi
open Go.RowKit
open reads base ty lg lgi win rowi hs nt nq sn lp
set_option linter.unusedVariables false
set_option linter.unusedSimpArgs false
section
variable {w v v' : World} {X : Nat} {s : Sf} {y : Lg}
end
end Go.Proofs.YtiimegmaokfpgabGreatDoor.lpi
namespace Go.Proofs.YtiimegmaokfpgabGreatDoor.lpi
open Go.RowKit
open reads base ty lg lgi win rowi hs nt nq sn lp
set_option linter.unusedVariables false
set_option linter.unusedSimpArgs false
end Go.Proofs.YtiimegmaokfpgabGreatDoor.lpi
namespace Go.Proofs.YtiimegmaokfpgabGreatDoor.lpi
open Go.RowKit
open reads base ty lg lgi win rowi hs nt nq sn lp
set_option linter.unusedVariables false
set_option linter.unusedSimpArgs false
end Go.Proofs.YtiimegmaokfpgabGreatDoor.lpi

namespace Go.Proofs.YtiimegmaokfpgabGreatDoor.bl
open Go.RowKit
open reads base ty lg lgi win hs nt nq rowi sn mt ml dt pg ph lp
set_option linter.unusedVariables false
set_option linter.unusedSimpArgs false
theorem flN_some {α : Type} {p : α → Bool} {F : α → List Lg} {l : List α} {j : Nat} {c : α} (hc : l[j]? = some c) (hp : p c = true) : ∀ m, j < m → ∃ b, flN p F l m = some b
  | m + 1, hm => by
    cases e2 : l[m]? with
    | none =>
      have : j ≠ m := fun q => by rw [q, e2] at hc; cases hc
      obtain ⟨b, hb⟩ := flN_some (F := F) hc hp m (by omega)
      exact ⟨b, by rw [show flN p F l (m + 1) = flN p F l m by show (match l[m]? with | some c => _ | none => _) = _; rw [e2]]; exact hb⟩
    | some g =>
      rw [flN_succ e2]
      by_cases q : j = m
      · subst q
        rw [hc] at e2
        obtain rfl := Option.some.inj e2
        cases flN p F l j with
        | none => exact ⟨_, flS_none hp⟩
        | some a =>
          by_cases z : cpS (F c) (F a) < 0
          · exact ⟨_, flS_yes hp z⟩
          · exact ⟨_, flS_keep z⟩
      · obtain ⟨b, hb⟩ := flN_some (F := F) hc hp m (by omega)
        rw [hb]
        cases hpg : p g
        · exact ⟨_, flS_no hpg⟩
        · by_cases z : cpS (F g) (F b) < 0
          · exact ⟨_, flS_yes hpg z⟩
          · exact ⟨_, flS_keep z⟩
theorem cs_good {ts us : List Lg} (h1 : goodLg ts = true) (h2 : goodLg us = true) : ansCs ts us = .tuple #[.int .i64 (cpS ts us), .bool true] := by unfold ansCs; rw [h1, h2]; rfl
theorem st_good {ts : List Lg} (h1 : goodLg ts = true) : ansSt ts = .tuple #[.int .i64 (snV ts), .int .i64 (sdV ts), .bool true] := by unfold ansSt; rw [h1]; rfl
end Go.Proofs.YtiimegmaokfpgabGreatDoor.bl

namespace Go.Proofs.YtiimegmaokfpgabGreatDoor.nw
open Go.RowKit
open reads base ty win lg rowi hs nt nq ml lp bl
set_option linter.unusedVariables false
set_option linter.unusedSimpArgs false
section
variable {A A2 : Option Addr} {n cap n2 cap2 : Nat} {ts us : List Lg} {q : Int} {v : Value} {w : World}
theorem st_i (h : Hid (ansSt ts = v)) (hn : n ≤ 2000000) (hts : Hid (LgAt w w.heap.size A n ts)) (hT : Hid (win.Tab w)) : Calls Tryz.prog 44 #[.slice A n cap] w (APost v w) := by
  rw [← h.out]; exact bl.strainOf_impl A n cap ts w hn hts hT
theorem cs_i (h : Hid (ansCs ts us = v)) (hn : n ≤ 2000000) (hn2 : n2 ≤ 2000000) (hts : Hid (LgAt w w.heap.size A n ts)) (hus : Hid (LgAt w w.heap.size A2 n2 us)) (hT : Hid (win.Tab w)) : Calls Tryz.prog 43 #[.slice A n cap, .slice A2 n2 cap2] w (APost v w) := by
  rw [← h.out]; exact bl.compareStrains_impl A n cap ts A2 n2 cap2 us w hn hn2 hts hus hT
end
end Go.Proofs.YtiimegmaokfpgabGreatDoor.nw

namespace Go.Proofs.YtiimegmaokfpgabGreatDoor.bl
open Go.RowKit
open reads base ty lg lgi win hs nt nq rowi sn mt ml dt pg ph lp
set_option linter.unusedVariables false
set_option linter.unusedSimpArgs false

/-- legs with the same ends -/
def SameE (ts us : List Lg) : Prop := ts.length = us.length ∧ ∀ (k : Nat) (x y : Lg), ts[k]? = some x → us[k]? = some y → x.frm = y.frm ∧ x.to_ = y.to_
theorem leg1_same {x y : Lg} {i : Nat} {s t : Net} (h1 : x.frm = y.frm) (h2 : x.to_ = y.to_) (hp : s.ps = t.ps) (ht : s.tr = t.tr) : (leg1 x i s).ps = (leg1 y i t).ps ∧ (leg1 x i s).tr = (leg1 y i t).tr := by
  unfold leg1
  rw [h1, h2, hp]
  split
  · exact ⟨rfl, by show put s.tr _ = put t.tr _; rw [ht]⟩
  · split
    · exact ⟨rfl, by show put s.tr _ = put t.tr _; rw [ht]⟩
    · exact ⟨hp, ht⟩
theorem legsN_same {ts us : List Lg} (h : SameE ts us) {s t : Net} (hp : s.ps = t.ps) (ht : s.tr = t.tr) : ∀ k, (legsN ts s k).ps = (legsN us t k).ps ∧ (legsN ts s k).tr = (legsN us t k).tr
  | 0 => ⟨hp, ht⟩
  | k + 1 => by
    have ih := legsN_same h hp ht k
    cases e : ts[k]? with
    | none =>
      have e2 : us[k]? = none := by rw [List.getElem?_eq_none_iff] at e ⊢; rw [← h.1]; exact e
      have a1 : legsN ts s (k + 1) = legsN ts s k := by show (match ts[k]? with | some x => _ | none => _) = _; rw [e]
      have a2 : legsN us t (k + 1) = legsN us t k := by show (match us[k]? with | some x => _ | none => _) = _; rw [e2]
      rw [a1, a2]; exact ih
    | some x =>
      obtain ⟨y, hy⟩ := at_lt rfl (show k < us.length by rw [← h.1]; exact lt_at e)
      rw [legsN_succ e, legsN_succ hy]
      have q := h.2 k x y e hy
      exact leg1_same q.1 q.2 ih.1 ih.2
theorem net_same {ts us : List Lg} (h : SameE ts us) : (net ts).ps = (net us).ps := by
  have key : ∀ k, (passes ts k).ps = (passes us k).ps ∧ (passes ts k).tr = (passes us k).tr := by
    intro k
    induction k with
    | zero => exact ⟨rfl, rfl⟩
    | succ k ih =>
      show (legsN ts (passes ts k) ts.length).ps = (legsN us (passes us k) us.length).ps ∧ (legsN ts (passes ts k) ts.length).tr = (legsN us (passes us k) us.length).tr
      rw [h.1]
      exact legsN_same h ih.1 ih.2 _
  exact (key 9).1
theorem fix_same {ts : List Lg} {j : Nat} {x : Lg} (hx : ts[j]? = some x) (f : Int) : SameE ts (ts.set j (fixLg x f)) := by
  have hj := lt_at hx
  refine ⟨by rw [List.length_set], fun k a b ha hb => ?_⟩
  by_cases e : j = k
  · subst e
    rw [List.getElem?_set_self hj] at hb
    rw [hx] at ha
    obtain rfl := Option.some.inj ha
    obtain rfl := Option.some.inj hb
    unfold fixLg
    split
    · exact ⟨rfl, rfl⟩
    · split
      · exact ⟨rfl, rfl⟩
      · split <;> exact ⟨rfl, rfl⟩
  · rw [List.getElem?_set_ne e] at hb
    rw [ha] at hb
    obtain rfl := Option.some.inj hb
    exact ⟨rfl, rfl⟩
/-- the fix that takes a fix back -/
def undoF (f : Int) : Int := if f = 3 then 4 else if f = 4 then 3 else f
theorem fix_back {x : Lg} (hx : okLg x = true) {f : Int} (h1 : 1 ≤ f) (h4 : f ≤ 4) : fixLg (fixLg x f) (undoF f) = x := by
  obtain ⟨-, -, -, -, ⟨c0, c1⟩, -⟩ := okLg_lim hx
  have hc : f = 1 ∨ f = 2 ∨ f = 3 ∨ f = 4 := by omega
  obtain ⟨a, b, c, d, e⟩ := x
  have d0 : 0 ≤ d := c0
  have d1 : d ≤ 359 := c1
  rcases hc with rfl | rfl | rfl | rfl
  · have q : fixLg (fixLg ⟨a, b, c, d, e⟩ 1) (undoF 1) = ⟨a, b, c, ((d + 180) % 360 + 180) % 360, e⟩ := rfl
    rw [q, show ((d + 180) % 360 + 180) % 360 = d by omega]
  · have q : fixLg (fixLg ⟨a, b, c, d, e⟩ 2) (undoF 2) = ⟨a, b, c, d, - -e⟩ := rfl
    rw [q, Int.neg_neg]
  · have q : fixLg (fixLg ⟨a, b, c, d, e⟩ 3) (undoF 3) = ⟨a, b, c + 100 - 100, d, e⟩ := rfl
    rw [q, show c + 100 - 100 = c by omega]
  · have q : fixLg (fixLg ⟨a, b, c, d, e⟩ 4) (undoF 4) = ⟨a, b, c - 100 + 100, d, e⟩ := rfl
    rw [q, show c - 100 + 100 = c by omega]
/-- a fix taken back -/
theorem can_back {ts : List Lg} {i f : Int} (h : canB ts i f = true) : canB (fixTs ts i f) i (undoF f) = true ∧ fixTs (fixTs ts i f) i (undoF f) = ts := by
  have hp : plB ts i = true := by have h := h; unfold canB at h; rw [Bool.and_eq_true] at h; exact h.1
  obtain ⟨hgu, hf1, hf4⟩ := can_good h
  obtain ⟨hg, hm, j, rfl, x, hx, hps⟩ := plB_at hp
  have hj := lt_at hx
  have hox := goodLg_at hg hx
  have e : fixTs ts (j : Int) f = ts.set j (fixLg x f) := by unfold fixTs; rw [Int.toNat_natCast, lgAt_is hx]
  have hn : (net (ts.set j (fixLg x f))).ps = (net ts).ps := (net_same (fix_same hx f)).symm
  have hu : (ts.set j (fixLg x f))[j]? = some (fixLg x f) := List.getElem?_set_self hj
  have hfr : (fixLg x f).frm = x.frm := ((fix_same hx f).2 j x _ hx hu).1.symm
  rw [e] at hgu ⊢
  have hpl : plB (ts.set j (fixLg x f)) (j : Int) = true := by
    unfold plB
    rw [hgu, Bool.true_and]
    exact mem_iff.2 (pl_all hu (by rw [hn, hfr]; exact mem_iff.2 hps))
  have hb := fix_back hox hf1 hf4
  have hub : 1 ≤ undoF f ∧ undoF f ≤ 4 := by unfold undoF; split; omega; split <;> omega
  refine ⟨?_, ?_⟩
  · unfold canB
    rw [hpl, btw_mk hub.1 hub.2, lgAt_is hu, hb, hox]; rfl
  · unfold fixTs
    rw [Int.toNat_natCast, lgAt_is hu, hb, List.set_set]
    apply List.ext_getElem?
    intro k
    by_cases e2 : j = k
    · subst e2; rw [List.getElem?_set_self hj, hx]
    · rw [List.getElem?_set_ne e2]
theorem fxAll_mem {U : List Int} {i f : Int} (hi : i ∈ U) (h1 : 1 ≤ f) (h4 : f ≤ 4) : (i, f) ∈ fxAll U := by
  unfold fxAll
  refine List.mem_flatMap.2 ⟨i, hi, ?_⟩
  have hc : f = 1 ∨ f = 2 ∨ f = 3 ∨ f = 4 := by omega
  rcases hc with rfl | rfl | rfl | rfl <;> simp
theorem bfO_ne {ts : List Lg} (hg : goodLg ts = true) {b : Int × Int} (h : bfO ts = some b) : bfV ts = if cpS (fixTs ts b.1 b.2) ts < 0 then some b else none := by
  unfold bfV
  rw [if_pos hg, h]; rfl
theorem bfO_least {ts : List Lg} {i f : Int} (h : canB ts i f = true) : ∃ b, bfO ts = some b ∧ canB ts b.1 b.2 = true ∧ cpS (fixTs ts b.1 b.2) (fixTs ts i f) ≤ 0 := by
  have hp : plB ts i = true := by have h := h; unfold canB at h; rw [Bool.and_eq_true] at h; exact h.1
  obtain ⟨hgu, hf1, hf4⟩ := can_good h
  obtain ⟨hg, hm, -⟩ := plB_at hp
  obtain ⟨k, hk⟩ := List.getElem?_of_mem (fxAll_mem hm hf1 hf4)
  have hkl := lt_at hk
  have hF : ∀ c ∈ fxAll (plIds ts), (fun c : Int × Int => canB ts c.1 c.2) c = true → goodLg ((fun c : Int × Int => fixTs ts c.1 c.2) c) = true := fun c _ hc => (can_good hc).1
  obtain ⟨b, hb⟩ := flN_some (p := fun c : Int × Int => canB ts c.1 c.2) (F := fun c : Int × Int => fixTs ts c.1 c.2) hk h _ hkl
  have hl := flN_least (p := fun c : Int × Int => canB ts c.1 c.2) (F := fun c : Int × Int => fixTs ts c.1 c.2) hF hb k _ hkl hk h
  exact ⟨b, hb, (flN_mem hb).2, hl⟩
/-- the best fix is no worse than any other -/
theorem best_all {ts : List Lg} {i f : Int} (h : canB ts i f = true) : (∀ c, bfV ts = some c → cpS (fixTs ts c.1 c.2) (fixTs ts i f) ≤ 0) ∧ (cpS (fixTs ts i f) ts < 0 → ∃ c, bfV ts = some c) := by
  have hp : plB ts i = true := by have h := h; unfold canB at h; rw [Bool.and_eq_true] at h; exact h.1
  have hgu := (can_good h).1
  have hg := (plB_at hp).1
  obtain ⟨b, ho, hcb, hl⟩ := bfO_least h
  have hgb := (can_good hcb).1
  have hv := bfO_ne hg ho
  constructor
  · intro c hc
    rw [hv] at hc
    split at hc
    · have e := Option.some.inj hc
      rw [← e]; exact hl
    · cases hc
  · intro hs
    have hs2 : cpS (fixTs ts i f) ts ≤ 0 := by omega
    have := (cpS_trans hgb hgu hg hl hs2).2 (.inr hs)
    exact ⟨b, by rw [hv, if_pos this]⟩
theorem nn {o : Option (Int × Int)} (h : ¬ o.isNone = true) : o.isNone = false := by cases o with | none => exact absurd rfl h | some _ => rfl
/-- CleanLegs makes the strain smaller exactly if it makes a fix -/
theorem clK_less {ts : List Lg} (hg : goodLg ts = true) : ∀ k, k ≤ clE ts → (k = 0 → cpS (clK ts k) ts = 0) ∧ (0 < k → cpS (clK ts k) ts < 0)
  | 0, _ => ⟨fun _ => by have := cpS_anti ts ts; show cpS ts ts = 0; omega, fun h => by omega⟩
  | k + 1, hk => by
    have ih := clK_less hg k (by omega)
    refine ⟨fun h => by omega, fun _ => ?_⟩
    have hs : (bfV (clK ts k)).isNone = false := by
      have e0 : clK ts 0 = ts := rfl
      unfold clE at hk
      split at hk
      · omega
      · rename_i a
        split at hk
        · have : k = 0 := by omega
          subst this; rw [e0]; exact nn a
        · rename_i b
          split at hk
          · have : k = 0 ∨ k = 1 := by omega
            rcases this with rfl | rfl
            · rw [e0]; exact nn a
            · exact nn b
          · rename_i c
            have : k = 0 ∨ k = 1 ∨ k = 2 := by omega
            rcases this with rfl | rfl | rfl
            · rw [e0]; exact nn a
            · exact nn b
            · exact nn c
    cases hb : bfV (clK ts k) with
    | none => rw [hb] at hs; cases hs
    | some c =>
      have h := bfV_can hb
      have e : clK ts (k + 1) = fixTs (clK ts k) c.1 c.2 := by rw [clK, hb]
      rw [e]
      have hgk := clK_good hg k
      have hgn := (can_good h.1).1
      rcases Nat.eq_zero_or_pos k with z | z
      · subst z; exact h.2
      · exact (cpS_trans hgn hgk hg (by omega) (by have := ih.2 z; omega)).2 (.inl h.2)
end Go.Proofs.YtiimegmaokfpgabGreatDoor.bl

namespace Go.Proofs.YtiimegmaokfpgabGreatDoor.vlg
open Go.RowKit
open reads base ty
set_option linter.unusedVariables false
set_option linter.unusedSimpArgs false

set_option maxHeartbeats 4000000 in
theorem vlegs_any (A A' : Option Addr) (n c c' : Nat) (ts : List Lg) (w : World) (hn : n ≤ 2000000) (h : Hid (LgAt w w.heap.size A n ts)) (h' : Hid (LgAt w w.heap.size A' n ts)) :
    Calls Tryz.prog 55 #[.slice A n c, .slice A' n c'] w (BPost true w) := by
  have hL : Hid (ts.length = n) := Lib.hid h.out.1
  go_enter Tryz.func55, Tryz.ntmps55
  go_wp2_with fail
  go_loopw [5] (fun i wr => ∃ k m : Nat, k ≤ n ∧ i = .int .i64 k ∧ wr = w.drewN m) (fun i _ => n - (intOf i).toNat)
  case atStart => exact ⟨0, 0, Nat.zero_le _, rfl, rfl⟩
  case round =>
    obtain ⟨k, m, hk, rfl, rfl⟩ := hrel
    by_cases hlt : k < n
    · obtain ⟨t, htk⟩ : ∃ t, ts[k]? = some t := ⟨_, List.getElem?_eq_getElem (by rw [hL.out]; exact hlt)⟩
      obtain ⟨g, rfl, hg, h0, h1, h2, h3, h4⟩ := h.out.2 k t htk
      obtain ⟨g', rfl, hg', k0, k1, k2, k3, k4⟩ := h'.out.2 k t htk
      clear htk
      have hki : (k : Int) < (n : Int) := by omega
      have hk0 : 0 ≤ (k : Int) := by omega
      have hkd : decide (k < n) = true := by simpa using hlt
      go_wp2_with fail
      go_quiet (fail)
      go_wp2_with fail
      go_roundw
      case rel => exact ⟨k + 1, _, by omega, by go_num, rfl⟩
      case measure => simp [intOf]; omega
    · have hkd : decide (k < n) = false := by simpa using hlt
      go_wp2_with fail
      go_ret
      exact ⟨rfl, drewN_below _ _⟩
end Go.Proofs.YtiimegmaokfpgabGreatDoor.vlg

namespace Go.Proofs.YtiimegmaokfpgabGreatDoor.nw
open Go.RowKit
open reads base ty win lg rowi hs nt nq ml lp bl
set_option linter.unusedVariables false
set_option linter.unusedSimpArgs false

/-- a list of one's own with known length -/
def FLo (us : List Lg) (m : Nat) (t : Bool) (w : World) (e : Ending) (w' : World) : Prop :=
  ∃ A c, e = .returned (.tuple #[.slice A m c, .bool t]) ∧ w'.ownsRow w.heap.size 87 5 (.slice A m c) m (flatLg us) ∧ Below w.heap.size w w'
def CLo (us : List Lg) (m : Nat) (k : Int) (t : Bool) (w : World) (e : Ending) (w' : World) : Prop :=
  ∃ A c, e = .returned (.tuple #[.slice A m c, .int .i64 k, .bool t]) ∧ w'.ownsRow w.heap.size 87 5 (.slice A m c) m (flatLg us) ∧ Below w.heap.size w w'
section
variable {A : Option Addr} {n cap m : Nat} {ts us : List Lg} {q f k : Int} {v : Value} {w : World} {t : Bool}
theorem fx_i (h : Hid (fxTs ts q f = us)) (hu : Hid (us.length = m)) (hk : Hid (canB ts q f = t)) (hn : n ≤ 2000000) (hts : Hid (LgAt w w.heap.size A n ts)) (hT : Hid (win.Tab w)) : Calls Tryz.prog 53 #[.slice A n cap, .int .i64 q, .int .i64 f] w (FLo us m t w) := by
  have c := bl.fixLeg_impl A n cap ts q f w hn hts hT
  rw [h.out, hk.out] at c
  rw [← hu.out]; exact c
theorem fx_m (h : Hid (fxTs ts q f = us)) (hu : Hid (us.length = m)) (hk : Hid (canB ts q f = t)) (hn : n ≤ 2000000) (hts : Hid (LgAt w w.heap.size A n ts)) : Calls Tryz.prog 54 #[.slice A n cap, .int .i64 q, .int .i64 f] w (FLo us m t w) := by
  have c := bl.fixLeg_model A n cap ts q f w hn hts
  rw [h.out, hk.out] at c
  rw [← hu.out]; exact c
theorem cl_i (h : Hid (clTs ts = us)) (hu : Hid (us.length = m)) (hj : Hid (clN' ts = k)) (hk : Hid (goodLg ts = t)) (hn : n ≤ 2000000) (hts : Hid (LgAt w w.heap.size A n ts)) (hT : Hid (win.Tab w)) : Calls Tryz.prog 61 #[.slice A n cap] w (CLo us m k t w) := by
  have c := bl.cleanLegs_impl A n cap ts w hn hts hT
  rw [h.out, hj.out, hk.out] at c
  rw [← hu.out]; exact c
theorem cl_m (h : Hid (clTs ts = us)) (hu : Hid (us.length = m)) (hj : Hid (clN' ts = k)) (hk : Hid (goodLg ts = t)) (hn : n ≤ 2000000) (hnil : A = none → cap = 0) (hts : Hid (LgAt w w.heap.size A n ts)) : Calls Tryz.prog 62 #[.slice A n cap] w (CLo us m k t w) := by
  have c := bl.cleanLegs_model A n cap ts w hn hnil hts
  rw [h.out, hj.out, hk.out] at c
  rw [← hu.out]; exact c
theorem sa_i (h : Hid (ansSa ts q f = v)) (hn : n ≤ 2000000) (hts : Hid (LgAt w w.heap.size A n ts)) (hT : Hid (win.Tab w)) : Calls Tryz.prog 56 #[.slice A n cap, .int .i64 q, .int .i64 f] w (APost v w) := by
  rw [← h.out]; exact bl.strainAfter_impl A n cap ts q f w hn hts hT
theorem sa_m (h : Hid (ansSa ts q f = v)) (hn : n ≤ 2000000) (hts : Hid (LgAt w w.heap.size A n ts)) : Calls Tryz.prog 57 #[.slice A n cap, .int .i64 q, .int .i64 f] w (APost v w) := by
  rw [← h.out]; exact bl.strainAfter_model A n cap ts q f w hn hts
theorem bf_i (h : Hid (ansBf ts = v)) (hn : n ≤ 2000000) (hts : Hid (LgAt w w.heap.size A n ts)) (hT : Hid (win.Tab w)) : Calls Tryz.prog 58 #[.slice A n cap] w (APost v w) := by
  rw [← h.out]; exact bl.bestFix_impl A n cap ts w hn hts hT
theorem bf_m (h : Hid (ansBf ts = v)) (hn : n ≤ 2000000) (hts : Hid (LgAt w w.heap.size A n ts)) : Calls Tryz.prog 59 #[.slice A n cap] w (APost v w) := by
  rw [← h.out]; exact bl.bestFix_model A n cap ts w hn hts
end
theorem sa_form (ts : List Lg) (q f : Int) : ∃ (a d : Int), ansSa ts q f = .tuple #[.int .i64 a, .int .i64 d, .bool (canB ts q f)] ∧ (canB ts q f = true → ansSt (fixTs ts q f) = .tuple #[.int .i64 a, .int .i64 d, .bool true]) := by
  unfold ansSa
  cases h : canB ts q f
  · exact ⟨0, 0, rfl, fun h => by cases h⟩
  · exact ⟨_, _, rfl, fun _ => st_good (can_good h).1⟩
theorem bf_form (ts : List Lg) : ∃ (b h : Int) (fine : Bool), ansBf ts = .tuple #[.int .i64 b, .int .i64 h, .bool fine] ∧ (fine = true → bfV ts = some (b, h)) ∧ (fine = false → bfV ts = none) := by
  unfold ansBf
  cases h : bfV ts with
  | none => exact ⟨_, _, _, rfl, (fun h => by cases h), fun _ => rfl⟩
  | some c => exact ⟨_, _, _, rfl, fun _ => rfl, fun h => by cases h⟩
theorem can_base {ts : List Lg} {q f : Int} (h : canB ts q f = true) : goodLg ts = true := by
  have hp : plB ts q = true := by have h := h; unfold canB at h; rw [Bool.and_eq_true] at h; exact h.1
  exact (plB_at hp).1
theorem fx_all {ts : List Lg} {q f : Int} {fine : Bool} (h : canB ts q f = true) (hf : fine = false → bfV ts = none) :
    fxTs ts q f = fixTs ts q f ∧ canB (fixTs ts q f) q (undoF f) = true ∧ fxTs (fixTs ts q f) q (undoF f) = ts ∧ ∃ s, ansCs (fixTs ts q f) ts = .tuple #[.int .i64 s, .bool true] ∧ (s < 0 → fine = true) := by
  obtain ⟨h1, h2⟩ := can_back h
  have e : fxTs ts q f = fixTs ts q f := by unfold fxTs; rw [if_pos h]
  refine ⟨e, h1, by unfold fxTs; rw [if_pos h1]; exact h2, _, cs_good (can_good h).1 (can_base h), fun hs => ?_⟩
  obtain ⟨c, hc⟩ := (best_all h).2 hs
  cases fine
  · rw [hf rfl] at hc; cases hc
  · rfl
theorem bf_all {ts : List Lg} {b h : Int} (hb : bfV ts = some (b, h)) : canB ts b h = true ∧ fxTs ts b h = fixTs ts b h ∧ ∃ s, ansCs (fixTs ts b h) ts = .tuple #[.int .i64 s, .bool true] ∧ s < 0 := by
  obtain ⟨h1, h2⟩ := bfV_can hb
  exact ⟨h1, by unfold fxTs; rw [if_pos h1], _, cs_good (can_good h1).1 (can_base h1), h2⟩
theorem bf_two {ts : List Lg} {b h q f : Int} (hb : bfV ts = some (b, h)) (hq : canB ts q f = true) : ∃ s, ansCs (fixTs ts b h) (fixTs ts q f) = .tuple #[.int .i64 s, .bool true] ∧ s ≤ 0 := by
  have g1 : goodLg (fixTs ts b h) = true := (can_good (bf_all hb).1).1
  have g2 : goodLg (fixTs ts q f) = true := (can_good hq).1
  have l : cpS (fixTs ts b h) (fixTs ts q f) ≤ 0 := (best_all hq).1 (b, h) hb
  exact ⟨cpS (fixTs ts b h) (fixTs ts q f), cs_good g1 g2, l⟩
theorem clE_le (ts : List Lg) : clE ts ≤ 3 := by unfold clE; split; omega; split; omega; split <;> omega
theorem cl_all {ts : List Lg} (hg : goodLg ts = true) : ∃ s, ansCs (clTs ts) ts = .tuple #[.int .i64 s, .bool true] ∧ s ≤ 0 ∧ (decide (clN' ts = 0) = decide (s = 0)) ∧ clN' ts ≤ 3 := by
  have e : clTs ts = clK ts (clE ts) := by unfold clTs; rw [if_pos hg]
  have e2 : clN' ts = (clE ts : Int) := by unfold clN'; rw [if_pos hg]
  have h3 := clE_le ts
  have hl := clK_less hg (clE ts) (Nat.le_refl _)
  rw [e, e2]
  refine ⟨_, cs_good (clK_good hg _) hg, ?_, ?_, by omega⟩
  · rcases Nat.eq_zero_or_pos (clE ts) with z | z
    · have := hl.1 z; omega
    · have := hl.2 z; omega
  · rw [decide_eq_decide]
    rcases Nat.eq_zero_or_pos (clE ts) with z | z
    · have := hl.1 z; omega
    · have := hl.2 z; omega
end Go.Proofs.YtiimegmaokfpgabGreatDoor.nw
