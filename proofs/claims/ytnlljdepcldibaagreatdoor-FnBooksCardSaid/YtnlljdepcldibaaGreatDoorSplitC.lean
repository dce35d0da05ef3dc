/-
  SplitString of the program: what it answers, at every text and every separator.
  Conditions: none.
-/
import Derived.Test.YtnlljdepcldibaaGreatDoorIter
import Derived.Test.YtnlljdepcldibaaGreatDoorReads
import Derived.Test.YtnlljdepcldibaaGreatDoorShelf
import Derived.Shelf.RegionOpen
import Derived.RangeFuncCalls
import Derived.RangeFuncNested
namespace Go.Proofs.YtnlljdepcldibaaGreatDoor.splitc
open Go.RowKit Go.Shelf
open strmath iterc reads
set_option linter.unusedVariables false
attribute [local go_sem] Oper.semAt_some

theorem clone_any (s : ByteArray) (w : World) (hs : s.size ≤ 4000) :
    Calls Tryz.prog 52 #[.string s] w fun e w' => e = .returned (.string s) ∧ Below w.heap.size w w' := by
  go_enter Tryz.func52, Tryz.ntmps52
  go_wp2_with fail
  refine (Tryz.stringslite_Clone s _ (by omega)).mono ?_
  rintro e w' ⟨rfl, hb⟩
  go_wp2_with fail
  go_ret
  exact ⟨rfl, hb⟩

theorem parts_any (s : ByteArray) (c : UInt8) (w : World) :
    Calls Tryz.prog 51 #[.string s, .int .u8 c.toNat] w fun e w' => e = .returned (.func (.func 67) #[] #[.pointer (some ⟨w.heap.size, 0, none⟩), .pointer (some ⟨w.heap.size + 1, 0, none⟩)]) ∧
      w' = (w.alloc (.cells #[.string s] 9)).alloc (.cells #[.int .u8 c.toNat] 5) := by
  go_enter Tryz.func51, Tryz.ntmps51
  go_wp2_with fail
  go_ret
  exact ⟨rfl, rfl⟩

theorem infoString : (Tryz.prog.info? 9).map (fun i => (i.zero, i.size, i.bytes)) = some (some (.string ⟨#[]⟩), 1, 16) := by kernel_rfl

/-- a text of at most 4000 bytes -/
abbrev Sm := { x : ByteArray // x.size ≤ 4000 }
/-- the texts themselves -/
def un (l : List Sm) : List ByteArray := l.map (·.1)
theorem un_snoc (l : List Sm) (x : Sm) : un (l ++ [x]) = un l ++ [x.1] := by simp [un]
theorem un_len (l : List Sm) : (un l).length = l.length := by simp [un]

/-- the pieces come, all of them, or the first ones -/
theorem stops (n : Nat) (hn : 1 ≤ n) (Bs Bc : Nat) (s : ByteArray) (c : UInt8) (hs : s.size ≤ 4000) (w : World) (hBs : Bs < w.heap.size) (hBc : Bc < w.heap.size)
    (hcs : w.cell? ⟨Bs, 0, none⟩ = some (.string s)) (hcc : w.cell? ⟨Bc, 0, none⟩ = some (.int .u8 c.toNat)) :
    SeqStopsK Fence.wide n Tryz.prog 67 #[.pointer (some ⟨Bs, 0, none⟩), .pointer (some ⟨Bc, 0, none⟩)] (fun x : Sm => #[Value.string x.1]) (Kp Bs Bc) (fun ys => un ys = pcs c s.data.toList) (fun pre => un pre <+: pcs c s.data.toList) (pcs c s.data.toList).length w := fun l J Jx W hW hJ _ hY h0 => by
  refine (iter_in n hn l Bs Bc s c hs (fun pre W => ∃ pre' : List Sm, un pre' = pre ∧ J pre' W) (fun pre W => ∃ pre' : List Sm, un pre' = pre ∧ Jx pre' W) ?_
    (fun pre A m h => by obtain ⟨pre', e, h⟩ := h; exact ⟨pre', e, hJ pre' A _ none h (grown_drewN A m) (by simp)⟩) W ((hW.cell (p := ⟨Bs, 0, none⟩) hBs).trans hcs) ((hW.cell (p := ⟨Bc, 0, none⟩) hBc).trans hcc) ⟨[], rfl, h0⟩).mono ?_
  · rintro pre x W1 hx ⟨pre', rfl, hj⟩ hlt
    obtain ⟨fn, tmps, assign, body, hy, hR⟩ := hY pre' ⟨x, hx⟩ W1 hj (by rw [un_len] at hlt; exact hlt)
    refine ⟨fn, tmps, assign, body, hy, hR.mono ?_⟩
    rintro e W' (⟨he, h1, h2⟩ | ⟨he, h1⟩)
    · exact .inl ⟨he, ⟨_, un_snoc pre' ⟨x, hx⟩, h1⟩, h2⟩
    · exact .inr ⟨he, ⟨_, un_snoc pre' ⟨x, hx⟩, h1⟩⟩
  · rintro e W' ⟨hv, (⟨ys, hys, pre', hp, hj⟩ | ⟨pre, hpre, pre', hp, hj⟩)⟩
    · exact ⟨hv, .inl ⟨pre', hp.trans hys, hj⟩⟩
    · exact ⟨hv, .inr ⟨pre', by show un pre' <+: _; rw [hp]; exact hpre, hj⟩⟩

/-- what holds between two rounds -/
def Inv (w : World) (s : ByteArray) (c : UInt8) (pre : List Sm) (W : World) : Prop :=
  ((∃ v, Boxed W (w.heap.size + 1) 40 v ∧ W.ownsRow w.heap.size 9 1 v pre.length (strs (un pre)) ∧ v.ownBlock ≠ some (w.heap.size + 1 + 1)) ∧ Below w.heap.size w W) ∧
    (Boxed W (w.heap.size + 1 + 1) 9 (.string s) ∧ Boxed W (w.heap.size + 1 + 1 + 1) 5 (.int .u8 c.toNat))

theorem pcs_len (c : UInt8) (s : ByteArray) (hs : s.size ≤ 4000) : (pcs c s.data.toList).length ≤ 4001 := by
  have := pieces_len c s.data.toList
  have hl : s.data.toList.length = s.size := rfl
  rw [pcs, List.length_map]; omega

/-- an append whose run is known, inside a region, inside a fence -/
theorem step_append_in {F : Fence} {n : Nat} {P : Program} {w w' : World} {ops : Array Oper} {o : Oper} {a : Act} {K : Act → World → Prop} {Q : Exit → Act → World → Prop} {E : Prop} {v u v' : Value} (hg : o.guard = none) (s x : Operand) (t : TypeId)
    (ho : o.op = Op.call { callee := Callee.builtin Builtin.append, args := #[s, x], argTypes := #[t, t] }) (hs : a.eval s = v) (hx : a.eval x = u)
    (hrun : (Builtin.append_ #[t, t] o.type #[v, u]).run P w = .ok v' w') (h : K (a.put o.dst v') w') : if Region.wanted o (yielded ops a.tmps) = true then Oper.wpIn F n P o a w K Q else E := by
  rw [if_pos (by simp [Region.wanted, hg])]
  unfold Oper.wpIn
  refine ⟨?_, ?_⟩
  · simp [Oper.about, ho, resolve, Target.leads, Sem.run_pure]
  · rw [Oper.semAt_plain F _ _ (by rw [ho]; intro c hc'; cases hc')]
    simp [execOp, ho, resolve, invoke, builtin, hs, hx, hrun, Result.andThen]
    exact h

/-- what one round leaves: the text is cloned, appended, and stored -/
theorem collect {w W w1 : World} {s : ByteArray} {c : UInt8} {pre : List Sm} {v : Value} (x : Sm) (hv : Boxed W (w.heap.size + 1) 40 v) (hrow : W.ownsRow w.heap.size 9 1 v pre.length (strs (un pre)))
    (hob : v.ownBlock ≠ some (w.heap.size + 1 + 1)) (hB : Below w.heap.size w W) (hS : Boxed W (w.heap.size + 1 + 1) 9 (.string s)) (hC : Boxed W (w.heap.size + 1 + 1 + 1) 5 (.int .u8 c.toNat)) (hlt : pre.length < 4001)
    (hb1 : Below W.heap.size W w1) :
    ∃ g' cap' w2, (Builtin.append_ #[40, 40] 40 #[v, .slice (some ⟨w1.heap.size, 0, none⟩) 1 1]).run Tryz.prog (w1.alloc (.cells #[.string x.1] 9)) = .ok (.slice (some ⟨g', 0, none⟩) (pre.length + 1) cap') w2 ∧
      w1.cell? ⟨w.heap.size + 1, 0, none⟩ = some v ∧ (w1.alloc (.cells #[.string x.1] 9)).cell? ⟨w.heap.size + 1, 0, none⟩ = some v ∧ w2.cell? ⟨w.heap.size + 1, 0, none⟩ = some v ∧ w2.frozen? ⟨w.heap.size + 1, 0, none⟩ = false ∧
      Hid (KeepsOthers W (w2.setCell ⟨w.heap.size + 1, 0, none⟩ (.slice (some ⟨g', 0, none⟩) (pre.length + 1) cap')) ∧
        Kp (w.heap.size + 1 + 1) (w.heap.size + 1 + 1 + 1) W (w2.setCell ⟨w.heap.size + 1, 0, none⟩ (.slice (some ⟨g', 0, none⟩) (pre.length + 1) cap')) ∧
        Inv w s c (pre ++ [x]) (w2.setCell ⟨w.heap.size + 1, 0, none⟩ (.slice (some ⟨g', 0, none⟩) (pre.length + 1) cap'))) := by
  obtain ⟨i0, hi, hz0, hz1, hz2⟩ := info_parts infoString
  have hg1 : W.grownBy w1 none := ⟨hb1.os, hb1.tape, hb1.output, hb1.size, fun k hk _ => hb1.block k hk⟩
  have hv1 : Boxed w1 (w.heap.size + 1) 40 v := hv.kept hg1 (by simp)
  have hS1 : Boxed w1 (w.heap.size + 1 + 1) 9 (.string s) := hS.kept hg1 (by simp)
  have hC1 : Boxed w1 (w.heap.size + 1 + 1 + 1) 5 (.int .u8 c.toNat) := hC.kept hg1 (by simp)
  have hrow1 : w1.ownsRow w.heap.size 9 1 v pre.length (strs (un pre)) := hrow.kept hg1 (by by_cases h : v.ownBlock = none; exact .inl h; exact .inr h)
  have hsz : w.heap.size ≤ w1.heap.size := Nat.le_trans hB.size hb1.size
  have hBlt := hC1.lt
  obtain ⟨v', w2, hrun, hown2, hgrow2, -, hat⟩ := run_append_own_at (P := Tryz.prog) (w1.alloc (.cells #[.string x.1] 9)) w.heap.size 40 40 9 i0 (.string ⟨#[]⟩) 1 16 Tryz.underlying40 hi hz0 hz1 hz2 rfl (by decide) v pre.length (strs (un pre)) (hrow1.alloc _)
    ⟨w1.heap.size, 0, none⟩ 1 1 [.string x.1] rfl (cell_one_new _ _ _) (by simp [Value.oneCell']) (by unfold maxLen; omega) (by omega) (by simp; omega)
  obtain ⟨g', cap', rfl⟩ := ownsRow_succ hown2
  obtain ⟨hvA, hvB, hrB, hkB, hbB⟩ := hv1.appended (by decide) hrow1 hsz (by omega) hown2 hgrow2
  have hne : (Value.slice (some ⟨g', 0, none⟩) (pre.length + 1) cap').ownBlock ≠ some (w.heap.size + 1 + 1) := by
    rcases hat with e | e
    · rw [e]; exact hob
    · rw [e]; intro h; injection h with h; simp at h; omega
  have hS2 : Boxed (w2.setCell ⟨w.heap.size + 1, 0, none⟩ (.slice (some ⟨g', 0, none⟩) (pre.length + 1) cap')) (w.heap.size + 1 + 1) 9 (.string s) :=
    ((hS1.alloc _).kept hgrow2 (fun e => hob e.symm)).other (by omega) _
  have hC2 : Boxed (w2.setCell ⟨w.heap.size + 1, 0, none⟩ (.slice (some ⟨g', 0, none⟩) (pre.length + 1) cap')) (w.heap.size + 1 + 1 + 1) 5 (.int .u8 c.toNat) :=
    ((hC1.alloc _).kept hgrow2 (hC1.not_row (by decide) hrow1)).other (by omega) _
  refine ⟨g', cap', w2, hrun, hv1.cell, (hv1.alloc _).cell, hvA.cell, hvA.frozen, Lib.hid ⟨?_, ⟨?_, ?_⟩, ⟨⟨_, hvB, ?_, hne⟩, hB.trans ((hb1.mono hB.size).trans hbB)⟩, hS2, hC2⟩⟩
  · exact (KeepsOthers.of_grownBy hg1 (by simp)).trans hkB
  · exact (show _ = _ from hS2).trans (show _ = _ from hS).symm
  · exact (show _ = _ from hC2).trans (show _ = _ from hC).symm
  · rw [un_snoc, List.length_append, List.length_singleton]
    have e : strs (un pre ++ [x.1]) = strs (un pre) ++ [.string x.1] := by simp [strs]
    rw [e]
    exact hrB

set_option maxRecDepth 100000 in
set_option maxHeartbeats 2000000 in
theorem split_any (s : ByteArray) (c : UInt8) (hs : s.size ≤ 4000) (w : World) :
    Calls Tryz.prog 28 #[.string s, .string ⟨#[c]⟩] w fun e W' => ∃ v, e = .returned (.tuple #[v, .bool true]) ∧ W'.ownsRow w.heap.size 9 1 v (pcs c s.data.toList).length (strs (pcs c s.data.toList)) ∧ Below w.heap.size w W' := by
  refine (callsIn_wide (n := 5)).1 ?_
  obtain ⟨i0, hi, hz0, hz1, hz2⟩ := info_parts infoString
  have hlen := pcs_len c s hs
  refine callsIn_of_wp_marks Tryz.func28 rfl trivial ?_ rfl
  simp only [Tryz.ntmps28, List.size_toArray, List.length_cons, List.length_nil, Nat.reduceAdd, Nat.reduceSub, Array.replicate_succ, Array.replicate_zero, List.push_toArray, List.append_toArray, List.nil_append, List.cons_append]
  have hd1 : decide (4000 < s.size) = false := by simpa using hs
  have hd2 : decide (4000 < (s.size : Int)) = false := by simp; omega
  gi_wp2_with (refine ⟨trivial, ?_⟩; gi_at_call 51; refine (callsIn_wide.2 (parts_any s c _)).mono ?_; rintro e w' ⟨rfl, rfl⟩)
  have bO := Boxed.new (w.alloc (.cells #[] 9)) 40 (.slice (some ⟨w.heap.size, 0, none⟩) 0 0)
  have bS := Boxed.new ((w.alloc (.cells #[] 9)).alloc (.cells #[.slice (some ⟨w.heap.size, 0, none⟩) 0 0] 40)) 9 (.string s)
  have bC := Boxed.new (((w.alloc (.cells #[] 9)).alloc (.cells #[.slice (some ⟨w.heap.size, 0, none⟩) 0 0] 40)).alloc (.cells #[.string s] 9)) 5 (.int .u8 c.toNat)
  rw [World.size_alloc] at bO
  rw [World.size_alloc, World.size_alloc] at bS
  rw [World.size_alloc, World.size_alloc, World.size_alloc] at bC
  have bS2 := bS.alloc (.cells #[.int .u8 c.toNat] 5)
  have bO2 := (bO.alloc (.cells #[.string s] 9)).alloc (.cells #[.int .u8 c.toNat] 5)
  have hrow0 : (w.alloc (.cells #[] 9)).ownsRow w.heap.size 9 1 (.slice (some ⟨w.heap.size, 0, none⟩) 0 0) 0 [] := World.ownsRow_made w #[] 0 (Nat.le_refl _) (by decide) (by simp)
  have hB0 := (((((Below.refl _ w).alloc (Nat.le_refl _) (.cells #[] 9)).alloc (by simp) (.cells #[.slice (some ⟨w.heap.size, 0, none⟩) 0 0] 40)).alloc (by simp; omega) (.cells #[.string s] 9)).alloc (by simp; omega) (.cells #[.int .u8 c.toNat] 5))
  refine wpIn_rangeFunc_ownG rfl (by decide) (gf := 67) (lb := #[.pointer (some ⟨w.heap.size + 1 + 1, 0, none⟩), .pointer (some ⟨w.heap.size + 1 + 1 + 1, 0, none⟩)]) rfl trivial (enters_of Tryz.func67 (by kernel_rfl) rfl)
    (stops (5 - 1) (by decide) (w.heap.size + 1 + 1) (w.heap.size + 1 + 1 + 1) s c hs _ (by simp) (by simp) bS2.cell bC.cell) Kp.trans (Kp.put (by simp) (by simp)) (Below.refl _ _) (fun _ => rfl)
    (Inv w s c) (fun _ _ _ => False)
    (OwnFrom.and (OwnFrom.and (Own.from (holdsRow_own w.heap.size (w.heap.size + 1) 40 9 1 (fun pre : List Sm => pre.length) (fun pre => strs (un pre)) (fun pre v => v.ownBlock ≠ some (w.heap.size + 1 + 1))) _) (ownFrom_below (Nat.le_refl _) (by simp; omega)))
      (OwnFrom.and (Own.from (boxed_own _ _ (fun _ => .string s)) _) (Own.from (boxed_own _ _ (fun _ => .int .u8 c.toNat)) _)))
    (fun _ _ _ _ _ hs _ _ => hs)
    ⟨⟨⟨_, bO2, ((hrow0.alloc _).alloc _).alloc _, by intro e; simp [Value.ownBlock] at e; omega⟩, hB0⟩, bS2, bC⟩
    (fun x => { tmps := #[.string s, .string ⟨#[c]⟩, undef, undef, .slice none 0 0, .bool false, .pointer (some ⟨w.heap.size + 1, 0, none⟩), .string x.1, .string s, .int .i64 s.size, .bool false, .bool false, .string ⟨#[c]⟩, .int .i64 1, .bool false, .bool false, undef, .slice (some ⟨w.heap.size, 0, none⟩) 0 0, .string s, .string ⟨#[c]⟩, .int .u8 c.toNat, .func (.func 67) #[] #[.pointer (some ⟨w.heap.size + 1 + 1, 0, none⟩), .pointer (some ⟨w.heap.size + 1 + 1 + 1, 0, none⟩)], .string x.1, undef, undef, undef, undef, undef, undef], defers := [] }) ?assign ?body ?done ?stop
  case assign =>
    intro l x W K hK
    gi_wp2
    exact hK
  case body =>
    rintro l pre x W ⟨⟨⟨v, hv, hrow, hob⟩, hB⟩, hS, hC⟩ hlt
    have hc := hv.cell
    have hlt4 : pre.length < 4001 := by omega
    have hBs := hB.size
    have hmx : Tryz.prog.follows .mixedOrders = true := by kernel_rfl
    clear bO bS bC bS2 bO2 hrow0 hB0 hd1 hd2 hi hz0 hz1 hz2
    obtain ⟨x, hx⟩ := x
    gi_wp2
    refine wpIn_region_any (by assumption) ?_
    try (change wpAnyIn _ _ _ _ _ _ _ _ _ (World.drew _))
    refine wpAnyIn_ready (rs := [0, 1]) (by kernel_rfl) (by simp) ?_
    refine AllReadyIn.cons rfl (fun K hK => ?_) (AllReadyIn.cons rfl (fun K hK => ?_) AllReadyIn.nil)
    · go_simp
      refine hK _ _ ?_
      clear hK K
      refine wpAnyIn_ready (rs := [1]) (by kernel_rfl) (by simp) ?_
      refine AllReadyIn.cons rfl (fun K hK => ?_) AllReadyIn.nil
      go_simp
      refine hK _ _ ?_
      clear hK K
      refine wpAnyIn_ready (rs := [2]) (by kernel_rfl) (by simp) ?_
      refine AllReadyIn.cons rfl (fun K hK => ?_) AllReadyIn.nil
      go_simp
      refine ⟨trivial, ?_⟩
      refine (CallsIn.inRound l (callsIn_wide.2 (clone_any x _ hx))).mono ?_
      rintro e w1 ⟨rfl, hb1⟩
      obtain ⟨g', cap', w2, hrun, hc1, hc1a, hc2, hf2, HF⟩ := collect ⟨x, hx⟩ hv hrow hob hB hS hC hlt4 ⟨hb1.os, hb1.tape, hb1.output, hb1.size, hb1.block⟩
      dsimp only at hrun hc1a
      have HRUN := Lib.hid hrun
      clear hrun
      refine hK _ _ ?_
      clear hK K
      refine wpAnyIn_ready (rs := [3]) (by kernel_rfl) (by simp) ?_
      refine AllReadyIn.cons rfl (fun K hK => ?_) AllReadyIn.nil
      go_simp
      refine hK _ _ ?_
      clear hK K
      refine wpAnyIn_ready (rs := [4]) (by kernel_rfl) (by simp) ?_
      refine AllReadyIn.cons rfl (fun K hK => ?_) AllReadyIn.nil
      refine step_append_in rfl (.tmp 23) (.tmp 26) 40 rfl rfl rfl HRUN.out ?_
      refine hK _ _ ?_
      clear hK K
      go_simp
      refine wpAnyIn_ready (rs := [5]) (by kernel_rfl) (by simp) ?_
      refine AllReadyIn.cons rfl (fun K hK => ?_) AllReadyIn.nil
      go_simp
      refine hK _ _ ?_
      clear hK K
      refine wpAnyIn_done (by kernel_rfl) ?_ _
      gi_wp2
      exact ⟨HF.out.1.from _, HF.out.2.1, HF.out.2.2⟩
    · go_simp
      refine hK _ _ ?_
      clear hK K
      refine wpAnyIn_ready (rs := [0, 2]) (by kernel_rfl) (by simp) ?_
      refine AllReadyIn.cons rfl (fun K hK => ?_) (AllReadyIn.cons rfl (fun K hK => ?_) AllReadyIn.nil)
      · go_simp
        refine hK _ _ ?_
        clear hK K
        refine wpAnyIn_ready (rs := [2]) (by kernel_rfl) (by simp) ?_
        refine AllReadyIn.cons rfl (fun K hK => ?_) AllReadyIn.nil
        go_simp
        refine ⟨trivial, ?_⟩
        refine (CallsIn.inRound l (callsIn_wide.2 (clone_any x _ hx))).mono ?_
        rintro e w1 ⟨rfl, hb1⟩
        obtain ⟨g', cap', w2, hrun, hc1, hc1a, hc2, hf2, HF⟩ := collect ⟨x, hx⟩ hv hrow hob hB hS hC hlt4 ⟨hb1.os, hb1.tape, hb1.output, hb1.size, hb1.block⟩
        dsimp only at hrun hc1a
        have HRUN := Lib.hid hrun
        clear hrun
        refine hK _ _ ?_
        clear hK K
        refine wpAnyIn_ready (rs := [3]) (by kernel_rfl) (by simp) ?_
        refine AllReadyIn.cons rfl (fun K hK => ?_) AllReadyIn.nil
        go_simp
        refine hK _ _ ?_
        clear hK K
        refine wpAnyIn_ready (rs := [4]) (by kernel_rfl) (by simp) ?_
        refine AllReadyIn.cons rfl (fun K hK => ?_) AllReadyIn.nil
        refine step_append_in rfl (.tmp 23) (.tmp 26) 40 rfl rfl rfl HRUN.out ?_
        refine hK _ _ ?_
        clear hK K
        go_simp
        refine wpAnyIn_ready (rs := [5]) (by kernel_rfl) (by simp) ?_
        refine AllReadyIn.cons rfl (fun K hK => ?_) AllReadyIn.nil
        go_simp
        refine hK _ _ ?_
        clear hK K
        refine wpAnyIn_done (by kernel_rfl) ?_ _
        gi_wp2
        exact ⟨HF.out.1.from _, HF.out.2.1, HF.out.2.2⟩
      · go_simp
        refine ⟨trivial, ?_⟩
        refine (CallsIn.inRound l (callsIn_wide.2 (clone_any x _ hx))).mono ?_
        rintro e w1 ⟨rfl, hb1⟩
        obtain ⟨g', cap', w2, hrun, hc1, hc1a, hc2, hf2, HF⟩ := collect ⟨x, hx⟩ hv hrow hob hB hS hC hlt4 ⟨hb1.os, hb1.tape, hb1.output, hb1.size, hb1.block⟩
        dsimp only at hrun hc1a
        have HRUN := Lib.hid hrun
        clear hrun
        refine hK _ _ ?_
        clear hK K
        refine wpAnyIn_ready (rs := [0, 3]) (by kernel_rfl) (by simp) ?_
        refine AllReadyIn.cons rfl (fun K hK => ?_) (AllReadyIn.cons rfl (fun K hK => ?_) AllReadyIn.nil)
        · go_simp
          refine hK _ _ ?_
          clear hK K
          refine wpAnyIn_ready (rs := [3]) (by kernel_rfl) (by simp) ?_
          refine AllReadyIn.cons rfl (fun K hK => ?_) AllReadyIn.nil
          go_simp
          refine hK _ _ ?_
          clear hK K
          refine wpAnyIn_ready (rs := [4]) (by kernel_rfl) (by simp) ?_
          refine AllReadyIn.cons rfl (fun K hK => ?_) AllReadyIn.nil
          refine step_append_in rfl (.tmp 23) (.tmp 26) 40 rfl rfl rfl HRUN.out ?_
          refine hK _ _ ?_
          clear hK K
          go_simp
          refine wpAnyIn_ready (rs := [5]) (by kernel_rfl) (by simp) ?_
          refine AllReadyIn.cons rfl (fun K hK => ?_) AllReadyIn.nil
          go_simp
          refine hK _ _ ?_
          clear hK K
          refine wpAnyIn_done (by kernel_rfl) ?_ _
          gi_wp2
          exact ⟨HF.out.1.from _, HF.out.2.1, HF.out.2.2⟩
        · go_simp
          refine hK _ _ ?_
          clear hK K
          refine wpAnyIn_ready (rs := [0]) (by kernel_rfl) (by simp) ?_
          refine AllReadyIn.cons rfl (fun K hK => ?_) AllReadyIn.nil
          go_simp
          refine hK _ _ ?_
          clear hK K
          refine wpAnyIn_ready (rs := [4]) (by kernel_rfl) (by simp) ?_
          refine AllReadyIn.cons rfl (fun K hK => ?_) AllReadyIn.nil
          refine step_append_in rfl (.tmp 23) (.tmp 26) 40 rfl rfl rfl HRUN.out ?_
          refine hK _ _ ?_
          clear hK K
          go_simp
          refine wpAnyIn_ready (rs := [5]) (by kernel_rfl) (by simp) ?_
          refine AllReadyIn.cons rfl (fun K hK => ?_) AllReadyIn.nil
          go_simp
          refine hK _ _ ?_
          clear hK K
          refine wpAnyIn_done (by kernel_rfl) ?_ _
          gi_wp2
          exact ⟨HF.out.1.from _, HF.out.2.1, HF.out.2.2⟩
  case done =>
    rintro D ys W hD hys ⟨⟨⟨v, hv, hrow, hob⟩, hB⟩, hS, hC⟩ hK
    have hc := hv.cell
    clear bO bS bC bS2 bO2 hrow0 hB0 hd1 hd2 hi hz0 hz1 hz2
    gi_wp2
    refine ⟨by simp, .inl ⟨_, _, rfl, run_takeDeferred hK, ?_⟩⟩
    have e1 : ys.length = (pcs c s.data.toList).length := by rw [← hys, un_len]
    rw [hys, e1] at hrow
    exact ⟨_, results_tmp2 rfl _ _ _, v, rfl, ownsRow_putObj hrow _ hK rfl, hB.trans (belowK_b (w := w) (Nat.le_refl _) W D _ _ (by simp at hD; omega) hK rfl rfl)⟩
  case stop =>
    rintro D c pre W _ _ h _
    exact h.elim

/-- a text that is too long, or a separator that is no single byte -/
theorem split_bad (s sep : ByteArray) (w : World) (hs : s.size ≤ 1048576) (hp : sep.size ≤ 1048576) (h : 4000 < s.size ∨ sep.size ≠ 1) :
    Calls Tryz.prog 28 #[.string s, .string sep] w fun e w' => e = .returned (.tuple #[.slice (some ⟨w.heap.size, 0, none⟩) 0 0, .bool false]) ∧ w' = w.alloc (.cells #[] 9) := by
  by_cases h1 : 4000 < s.size
  · clear h
    go_enter Tryz.func28, Tryz.ntmps28
    go_wp2_with fail
    go_ret2
    exact ⟨rfl, rfl⟩
  · have h2 : ((sep.size : Int) != 1) = true := by simp; omega
    clear h
    go_enter Tryz.func28, Tryz.ntmps28
    go_wp2_with fail
    go_ret2
    exact ⟨rfl, rfl⟩
end Go.Proofs.YtnlljdepcldibaaGreatDoor.splitc
