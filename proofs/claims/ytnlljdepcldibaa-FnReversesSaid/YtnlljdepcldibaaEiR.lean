/-
  slices.Backward over entries: the entries come from the last to the first.
  Conditions: the loop body keeps what lay below the given block, and the iterator's own variable.
-/
import Derived.RangeFuncBox
import Derived.RangeFuncLeaves
import Derived.RangeFuncCalls
import Derived.RangeFuncNested
import Derived.Shelf.Abstract
import Derived.WalkKit
import Derived.OwnWalkIn
import Derived.TacticsInMore
import Derived.LoopNIn
import Derived.LoopIn
import Derived.Lib.Hide
import Derived.Sort.LoopGhostIn
import Derived.Scope
import Derived.Deep.QuietTactic
import Derived.BigQuiet
import Derived.Test.YtnlljdepcldibaaChecked
import Derived.Test.YtnlljdepcldibaaEnM
namespace Go.Proofs.Ytnlljdepcldibaa.eni
open Go.RowKit Go.Shelf
open reads base ty en
set_option linter.unusedVariables false
set_option linter.unusedSimpArgs false
attribute [local go_sem] Oper.semAt_some

/-- an index and an entry -/
abbrev IE := Nat × En
def encE (x : IE) : Array Value := #[.int .i64 (x.1 : Int), .agg #[.int .i64 x.2.frm, .int .i64 x.2.to_, .int .i64 x.2.tape, .int .i64 x.2.comp, .int .i64 x.2.slope, .bool x.2.back]]
/-- what a round keeps: the iterator's variable, and what lay below B0 -/
def Kq (B0 Bs : Nat) (W W' : World) : Prop := W'.heap[Bs]? = W.heap[Bs]? ∧ Below B0 W W'
theorem Kq.trans {B0 Bs : Nat} {A B C : World} (h : Kq B0 Bs A B) (k : Kq B0 Bs B C) : Kq B0 Bs A C := ⟨k.1.trans h.1, h.2.trans k.2⟩
theorem Kq.refl {B0 Bs : Nat} (W : World) : Kq B0 Bs W W := ⟨rfl, Below.refl _ _⟩
theorem Kq.put {B0 Bs : Nat} {w : World} (h0 : B0 ≤ w.heap.size) (hs : Bs < w.heap.size) (W : World) (l : Nat) (o o' : Obj) (hl : w.heap.size ≤ l) (h : W.heap[l]? = some o) (h1 : o.isCells = false) (h2 : o.isWalk = false) : Kq B0 Bs W (W.putObj l o') := by
  have hlt := (Array.getElem?_eq_some_iff.1 h).1
  have hg := grownBy_putObj' W l o'
  exact ⟨hg.block Bs (by omega) (by intro e; injection e; omega), belowK_b (w := w) h0 W l o o' hl h h1 h2⟩
/-- what holds at the head of the loop -/
def Bout (A : Option Addr) (n cap : Nat) (ts : List En) (B0 Bs : Nat) (J : List IE → World → Prop) (gg j : Nat) (pre : List IE) (wr : World) : Prop :=
  j ≤ n ∧ gg = j ∧ pre.map (·.2) = ts.reverse.take (n - j) ∧ J pre wr ∧ wr.cell? ⟨Bs, 0, none⟩ = some (.slice A n cap) ∧ EnAt wr B0 A n ts
set_option maxHeartbeats 4000000 in
set_option maxRecDepth 100000 in
theorem back_in (m : Nat) (hm : 1 ≤ m) (l B0 Bs : Nat) (A : Option Addr) (n cap : Nat) (ts : List En) (hn : n ≤ 2000000) (J Jx : List IE → World → Prop)
    (hY : ∀ pre (x : IE) W, J pre W → pre.length < ts.length → YieldAt Fence.wide (m - 1) Try.prog l (encE x) W fun e W' =>
      (e = .returned (.bool true) ∧ J (pre ++ [x]) W' ∧ Kq B0 Bs W W') ∨ (e = .returned (.bool false) ∧ Jx (pre ++ [x]) W'))
    (W : World) (hcs : W.cell? ⟨Bs, 0, none⟩ = some (.slice A n cap)) (hts : EnAt W B0 A n ts) (h0 : J [] W) :
    CallsIn Fence.wide m Try.prog 64 #[.func (.yield l) #[] #[], .pointer (some ⟨Bs, 0, none⟩)] W fun e W' => (∃ v, e = .returned v) ∧
      ((∃ ys : List IE, ys.map (·.2) = ts.reverse ∧ J ys W') ∨ (∃ pre, True ∧ Jx pre W')) := by
  have hL : Hid (ts.length = n) := Lib.hid hts.1
  have HC0 := Lib.hid hts
  clear hts
  refine callsIn_of_wp Try.func64 rfl trivial ?_ rfl
  simp only [Try.ntmps64, List.size_toArray, List.length_cons, List.length_nil, Nat.reduceAdd, Nat.reduceSub, Array.replicate_succ, Array.replicate_zero, List.push_toArray, List.append_toArray, List.nil_append, List.cons_append]
  gi_wp2
  gi_loopg [3] n (fun g v wr => ∃ (j : Nat) (pre : List IE), v = .int .i64 ((j : Int) - 1) ∧ Hid (Bout A n cap ts B0 Bs J g j pre wr))
  case atStart => exact ⟨n, [], rfl, by show Bout _ _ _ _ _ _ _ _ _ _ _; exact ⟨Nat.le_refl _, rfl, by simp, h0, hcs, HC0.out⟩⟩
  case round =>
    obtain ⟨j, pre, rfl, HO⟩ := hrel
    have hjn : j ≤ n := HO.out.1
    have c1 := HO.out.2.2.2.2.1
    clear hcs h0
    cases j with
    | succ q =>
      rw [show ((q + 1 : Nat) : Int) - 1 = (q : Int) by omega]
      obtain ⟨t, htk⟩ := at_lt hL.out (show q < n by omega)
      obtain ⟨g, hA, hgB, d0, d1, d2, d3, d4, d5⟩ := HO.out.2.2.2.2.2.2 q t htk
      rw [hA] at c1
      have HK := Lib.hid htk
      have HAA := Lib.hid hA
      have hlen : pre.length < ts.length := by
        have h := congrArg List.length HO.out.2.2.1
        rw [List.length_map, List.length_take, List.length_reverse, hL.out] at h
        rw [hL.out]; omega
      have hqi : (q : Int) < (n : Int) := by omega
      have hq0 : 0 ≤ (q : Int) := by omega
      obtain ⟨fn, tmps, assign, body, hy, hR⟩ := hY pre (q, t) wr HO.out.2.2.2.1 hlen
      unfold encE at hy
      clear htk hA hlen
      gi_wp2
      refine hR.mono ?_
      rintro er W3 (⟨rfl, hJ3, hk3⟩ | ⟨rfl, hJx3⟩)
      · clear hy
        have HO3 := Lib.hid (show Bout A n cap ts B0 Bs J q q (pre ++ [(q, t)]) W3 from by
          refine ⟨by omega, rfl, ?_, hJ3, ?_, HO.out.2.2.2.2.2.below hk3.2⟩
          · rw [List.map_append, HO.out.2.2.1]
            have e : ts.reverse[n - (q + 1)]? = some t := by
              rw [List.getElem?_reverse (by rw [hL.out]; omega), hL.out, show n - 1 - (n - (q + 1)) = q by omega]; exact HK.out
            have h := base.take_snoc e
            rw [show n - (q + 1) + 1 = n - q by omega] at h
            rw [h]; rfl
          · have h : W3.cell? ⟨Bs, 0, none⟩ = wr.cell? ⟨Bs, 0, none⟩ := World.cell?_of_block (a := ⟨Bs, 0, none⟩) hk3.1
            exact h.trans HO.out.2.2.2.2.1)
        clear hJ3 hk3
        gi_wp2
        gi_roundg q
        case rel => exact ⟨q, _, by go_num, HO3⟩
        case measure => have := HO.out.2.1; omega
      · clear hy
        gi_wp2
        refine bodyPost_ret (results_none rfl _ _ _) rfl ?_
        exact ⟨⟨_, rfl⟩, .inr ⟨pre ++ [(q, t)], trivial, hJx3⟩⟩
    | zero =>
      have HF := Lib.hid (show pre.map (·.2) = ts.reverse by rw [HO.out.2.2.1, Nat.sub_zero, List.take_of_length_le (by rw [List.length_reverse, hL.out]; exact Nat.le_refl _)])
      gi_wp2
      refine bodyPost_end (results_none rfl _ _ _) rfl ?_
      exact ⟨⟨_, rfl⟩, .inl ⟨pre, HF.out, HO.out.2.2.2.1⟩⟩
theorem bstops (m : Nat) (hm : 1 ≤ m) (B0 Bs : Nat) (A : Option Addr) (n cap : Nat) (ts : List En) (hn : n ≤ 2000000) (w : World) (hBs : Bs < w.heap.size) (h0B : B0 ≤ w.heap.size) (hcs : w.cell? ⟨Bs, 0, none⟩ = some (.slice A n cap)) (hts : EnAt w B0 A n ts) :
    SeqStopsK Fence.wide m Try.prog 64 #[.pointer (some ⟨Bs, 0, none⟩)] encE (Kq B0 Bs) (fun ys => ys.map (·.2) = ts.reverse) (fun _ => True) ts.length w := fun l J Jx W hW _ _ hY h0 =>
  back_in m hm l B0 Bs A n cap ts hn J Jx hY W ((hW.cell (p := ⟨Bs, 0, none⟩) hBs).trans hcs) (hts.below ⟨hW.os, hW.tape, hW.output, hW.size, fun j hj => hW.block j (by omega)⟩) h0
theorem back_any (A : Option Addr) (n cap : Nat) (w : World) : Calls Try.prog 52 #[.slice A n cap] w fun e w' => e = .returned (.func (.func 64) #[] #[.pointer (some ⟨w.heap.size, 0, none⟩)]) ∧ w' = w.alloc (.cells #[.slice A n cap] 37) := by
  go_enter Try.func52, Try.ntmps52
  go_wp2_with fail
  go_ret
  exact ⟨rfl, rfl⟩
end Go.Proofs.Ytnlljdepcldibaa.eni
