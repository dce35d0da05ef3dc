/-
  What the program asks of a network: placed stations, placed ends, the way between two stations; the extent's steps.
  Conditions: the station is one of 0..7; places lie within a million.
-/
import Derived.Test.YtnoieboiklmkaaaDoorNqB
import Derived.Test.YtnoieboiklmkaaaDoorNtH
import Derived.Deep.RegionHeld3
namespace Go.Proofs.YtnoieboiklmkaaaDoor.nq
open Go.RowKit
open reads base ty lg lgi win hs nt rowi
set_option linter.unusedVariables false
set_option linter.unusedSimpArgs false

set_option maxHeartbeats 4000000 in
set_option maxRecDepth 100000 in
theorem ends_any (s : Net) (cl : List Bool) (x : Lg) (p q : Bool) (w : World) (hx : Hid (okLg x = true)) (hp : Hid (mem s.ps x.frm = p)) (hq : Hid (mem s.ps x.to_ = q)) :
    Calls Tryd.prog 63 #[.agg (nv s cl), .agg #[.int .i64 x.frm, .int .i64 x.to_, .int .i64 x.tape, .int .i64 x.comp, .int .i64 x.slope]] w (BPost (p && q) w) := by
  obtain ⟨frm, to_, tape, comp, slope⟩ := x
  obtain ⟨l1, l2, -⟩ := okLg_lim hx.out
  simp only [] at l1 l2
  obtain ⟨a, rfl⟩ := Int.eq_ofNat_of_zero_le l1.1
  obtain ⟨b, rfl⟩ := Int.eq_ofNat_of_zero_le l2.1
  have ha : a < 8 := by omega
  have hb : b < 8 := by omega
  have HP := Lib.hid (show (nv s cl)[a]? = some (.bool p) by rw [nv_ps ha]; rw [← hp.out])
  have HQ := Lib.hid (show (nv s cl)[b]? = some (.bool q) by rw [nv_ps hb]; rw [← hq.out])
  obtain ⟨C, HC⟩ : ∃ C, Hid (nv s cl = C) := ⟨_, Lib.hid rfl⟩
  rw [HC.out] at HP HQ ⊢
  obtain ⟨W, HW⟩ : ∃ W, Hid ((w.alloc (.cells C 66)).alloc (.cells #[.int .i64 (a : Int), .int .i64 (b : Int), .int .i64 tape, .int .i64 comp, .int .i64 slope] 59) = W) := ⟨_, Lib.hid rfl⟩
  have c1 : W.cell? ⟨w.heap.size, a, none⟩ = some (.bool p) := by rw [← HW.out]; exact (((Blk.new w 66 C).alloc _).cell a).trans HP.out
  have c2 : W.cell? ⟨w.heap.size, b, none⟩ = some (.bool q) := by rw [← HW.out]; exact (((Blk.new w 66 C).alloc _).cell b).trans HQ.out
  have c3 : W.cell? ⟨w.heap.size + 1, 0, none⟩ = some (.int .i64 (a : Int)) := by rw [← HW.out]; simp
  have c4 : W.cell? ⟨w.heap.size + 1, 1, none⟩ = some (.int .i64 (b : Int)) := by rw [← HW.out]; simp
  have HB := Lib.hid (show Below w.heap.size w W by rw [← HW.out]; exact ((Below.refl _ _).alloc (Nat.le_refl _) _).alloc (by simp) _)
  clear HP HQ HC hp hq hx
  go_enter Tryd.func63, Tryd.ntmps63
  go_upto_region 1 with fail
  rw [HW.out]
  clear HW
  cases p
  · go_wp2_with fail
    go_ret
    exact ⟨rfl, HB.out⟩
  · go_wp2_with fail
    go_ret
    exact ⟨rfl, HB.out⟩
set_option maxHeartbeats 4000000 in
set_option maxRecDepth 100000 in
theorem placed_any (s : Net) (cl : List Bool) (z : Int) (t : Bool) (w : World) (ht : Hid ((btw 0 z 7 && mem s.ps z) = t)) :
    Calls Tryd.prog 58 #[.agg (nv s cl), .int .i64 z] w (BPost t w) := by
  obtain ⟨C, HC⟩ : ∃ C, Hid (nv s cl = C) := ⟨_, Lib.hid rfl⟩
  rw [HC.out]
  have HB := Lib.hid (((Below.refl w.heap.size w).alloc (Nat.le_refl _) (.cells C 66)).alloc (by simp) (.cells #[.int .i64 z] 3))
  cases hb : btw 0 z 7
  · obtain rfl : t = false := by rw [← ht.out, hb]; rfl
    have H1 := Lib.hid (one_in hb)
    clear hb ht
    go_enter Tryd.func58, Tryd.ntmps58
    go_wp2_with fail
    refine (stations_new _ [z] _ _ _ false _ _ (by simp) rfl (by simp) rfl H1.out).mono ?_
    rintro e w' ⟨rfl, rfl⟩
    go_wp2_with fail
    go_ret
    exact ⟨rfl, HB.out⟩
  · have H1 := Lib.hid (one_in hb)
    obtain ⟨z0, z7⟩ := btw_yes hb
    obtain ⟨a, rfl⟩ := Int.eq_ofNat_of_zero_le z0
    have ha : a < 8 := by omega
    have HP := Lib.hid (show C[a]? = some (.bool t) by rw [← HC.out, nv_ps ha, ← ht.out, hb, Bool.true_and])
    clear hb ht HC
    obtain ⟨W, HW⟩ : ∃ W, Hid ((w.alloc (.cells C 66)).alloc (.cells #[.int .i64 (a : Int)] 3) = W) := ⟨_, Lib.hid rfl⟩
    have c1 : W.cell? ⟨w.heap.size, a, none⟩ = some (.bool t) := by rw [← HW.out]; exact (((Blk.new w 66 C).alloc _).cell a).trans HP.out
    rw [HW.out] at HB
    go_enter Tryd.func58, Tryd.ntmps58
    go_wp2_with fail
    refine (stations_new _ [(a : Int)] _ _ _ true _ _ (by simp) rfl (by simp) rfl H1.out).mono ?_
    rintro e w' ⟨rfl, rfl⟩
    simp only [List.map_cons, List.map_nil]
    rw [HW.out]
    clear HW
    go_wp2_with fail
    go_ret
    exact ⟨rfl, HB.out⟩
/-- a network in a box and what it shows of two places, a box for the answer -/
def BW (w : World) (C : Array Value) (a b : Nat) (p q : Sf) (v : World) : Prop := v.cell? ⟨w.heap.size, 8 + a * 3, none⟩ = some (.int .i64 p.east) ∧ v.cell? ⟨w.heap.size, 8 + a * 3 + 1, none⟩ = some (.int .i64 p.north) ∧ v.cell? ⟨w.heap.size, 8 + a * 3 + 2, none⟩ = some (.int .i64 p.up) ∧ v.cell? ⟨w.heap.size, 8 + b * 3, none⟩ = some (.int .i64 q.east) ∧ v.cell? ⟨w.heap.size, 8 + b * 3 + 1, none⟩ = some (.int .i64 q.north) ∧ v.cell? ⟨w.heap.size, 8 + b * 3 + 2, none⟩ = some (.int .i64 q.up) ∧ Blk v w.heap.size 66 C ∧ (∃ u0 u1 u2, Blk v (w.heap.size + 1) 35 #[u0, u1, u2]) ∧ Below w.heap.size w v
theorem BW.step {w v v' : World} {C : Array Value} {a b : Nat} {p q : Sf} (h : BW w C a b p q v) (hb : Below v.heap.size v v') : BW w C a b p q v' := by
  obtain ⟨c0, c1, c2, c3, c4, c5, h1, h2, h3⟩ := h
  have A : ∀ o, v'.cell? ⟨w.heap.size, o, none⟩ = v.cell? ⟨w.heap.size, o, none⟩ := fun o => hb.cell (p := ⟨w.heap.size, o, none⟩) h1.lt
  exact ⟨(A _).trans c0, (A _).trans c1, (A _).trans c2, (A _).trans c3, (A _).trans c4, (A _).trans c5, h1.below hb h1.lt, (by obtain ⟨u0, u1, u2, k⟩ := h2; exact ⟨u0, u1, u2, k.below hb k.lt⟩), h3.trans (hb.mono h3.size)⟩
theorem BW.mk7 {w v : World} {C : Array Value} {a b : Nat} {p q : Sf} (h : BW w C a b p q v) : v.cell? ⟨w.heap.size, 8 + a * 3, none⟩ = some (.int .i64 p.east) ∧ v.cell? ⟨w.heap.size, 8 + a * 3 + 1, none⟩ = some (.int .i64 p.north) ∧ v.cell? ⟨w.heap.size, 8 + a * 3 + 2, none⟩ = some (.int .i64 p.up) ∧ v.cell? ⟨w.heap.size, 8 + b * 3, none⟩ = some (.int .i64 q.east) ∧ v.cell? ⟨w.heap.size, 8 + b * 3 + 1, none⟩ = some (.int .i64 q.north) ∧ v.cell? ⟨w.heap.size, 8 + b * 3 + 2, none⟩ = some (.int .i64 q.up) ∧ BW w C a b p q v := ⟨h.1, h.2.1, h.2.2.1, h.2.2.2.1, h.2.2.2.2.1, h.2.2.2.2.2.1, h⟩
set_option maxHeartbeats 8000000 in
set_option maxRecDepth 100000 in
theorem between_any (s : Net) (cl : List Bool) (a b : Nat) (p q d : Sf) (w : World) (hN : Hid (NOk s cl)) (ha : a < 8) (hb : b < 8) (HP : Hid (at_ s.pl (a : Int) = p)) (HQ : Hid (at_ s.pl (b : Int) = q)) (HD : Hid (sub3 q p = d)) (HPB : Hid (BdS p)) (HQB : Hid (BdS q)) :
    Calls Tryd.prog 66 #[.agg (nv s cl), .int .i64 (a : Int), .int .i64 (b : Int)] w (APost (.agg #[.int .i64 d.east, .int .i64 d.north, .int .i64 d.up]) w) := by
  obtain ⟨C, HC⟩ : ∃ C, Hid (nv s cl = C) := ⟨_, Lib.hid rfl⟩
  have HW := Lib.hid (show BW w C a b p q ((w.alloc (.cells C 66)).alloc (.cells #[.int .i64 0, .int .i64 0, .int .i64 0] 35)) by
    obtain ⟨p0, p1, p2⟩ := nv_pl hN.out ha
    obtain ⟨q0, q1, q2⟩ := nv_pl hN.out hb
    rw [HC.out, HP.out] at p0 p1 p2
    rw [HC.out, HQ.out] at q0 q1 q2
    have B := (Blk.new w 66 C).alloc (.cells #[.int .i64 0, .int .i64 0, .int .i64 0] 35)
    have B2 := Blk.new (w.alloc (.cells C 66)) 35 #[.int .i64 0, .int .i64 0, .int .i64 0]
    rw [show (w.alloc (.cells C 66)).heap.size = w.heap.size + 1 by simp] at B2
    exact ⟨(B.cell _).trans p0, (B.cell _).trans p1, (B.cell _).trans p2, (B.cell _).trans q0, (B.cell _).trans q1, (B.cell _).trans q2, B, ⟨_, _, _, B2⟩, ((Below.refl _ _).alloc (Nat.le_refl _) _).alloc (by simp) _⟩)
  rw [HC.out]
  clear HC HP HQ hN
  have ha0 : (0 : Int) ≤ (a : Int) := by omega
  have hb0 : (0 : Int) ≤ (b : Int) := by omega
  have ha8 : (a : Int) < 8 := by omega
  have hb8 : (b : Int) < 8 := by omega
  obtain ⟨W0, HW0⟩ : ∃ W, Hid ((w.alloc (.cells C 66)).alloc (.cells #[.int .i64 0, .int .i64 0, .int .i64 0] 35) = W) := ⟨_, Lib.hid rfl⟩
  rw [HW0.out] at HW
  go_enter Tryd.func66, Tryd.ntmps66
  go_upto_region 1 with fail
  rw [HW0.out]
  clear HW0
  refine wp_region_held_drew (S := (fun v => v.cell? ⟨w.heap.size, 8 + a * 3, none⟩ = some (.int .i64 p.east) ∧ v.cell? ⟨w.heap.size, 8 + a * 3 + 1, none⟩ = some (.int .i64 p.north) ∧ v.cell? ⟨w.heap.size, 8 + a * 3 + 2, none⟩ = some (.int .i64 p.up) ∧ v.cell? ⟨w.heap.size, 8 + b * 3, none⟩ = some (.int .i64 q.east) ∧ v.cell? ⟨w.heap.size, 8 + b * 3 + 1, none⟩ = some (.int .i64 q.north) ∧ v.cell? ⟨w.heap.size, 8 + b * 3 + 2, none⟩ = some (.int .i64 q.up) ∧ BW w C a b p q v)) (by kernel_rfl) ?_ (fun hHeld => ?_)
  · exact HW.out.step (Below.refl _ _).drew |>.mk7
  refine' wpAnyH_take (i := 0) (v := ?vr1_0) rfl (by kernel_rfl) (by kernel_rfl) (by kernel_rfl) (fun _ _ _ h => h) (Or.inl ⟨by rfl, ?hyr1_0⟩) (by assumption) ?restr1_0
  case hyr1_0 => (intro w hSw; (try dsimp only at hSw); go_simp; try (with_reducible rfl))
  simp only [Act.put, List.getElem_toArray, List.getElem_cons_succ, List.getElem_cons_zero, List.setIfInBounds_toArray, List.set_cons_zero, List.set_cons_succ]
  refine' wpAnyH_take (i := 1) (v := ?vr1_1) rfl (by kernel_rfl) (by kernel_rfl) (by kernel_rfl) (fun _ _ _ h => h) (Or.inl ⟨by rfl, ?hyr1_1⟩) (by assumption) ?restr1_1
  case hyr1_1 => (intro w hSw; (try dsimp only at hSw); go_simp; try (with_reducible rfl))
  simp only [Act.put, List.getElem_toArray, List.getElem_cons_succ, List.getElem_cons_zero, List.setIfInBounds_toArray, List.set_cons_zero, List.set_cons_succ]
  refine' wpAnyH_take (i := 2) (v := ?vr1_2) rfl (by kernel_rfl) (by kernel_rfl) (by kernel_rfl) (fun _ _ _ h => h) (Or.inl ⟨by rfl, ?hyr1_2⟩) (by assumption) ?restr1_2
  case hyr1_2 => (intro w hSw; (try dsimp only at hSw); go_simp; try (with_reducible rfl))
  simp only [Act.put, List.getElem_toArray, List.getElem_cons_succ, List.getElem_cons_zero, List.setIfInBounds_toArray, List.set_cons_zero, List.set_cons_succ]
  refine' wpAnyH_take (i := 3) (v := ?vr1_3) rfl (by kernel_rfl) (by kernel_rfl) (by kernel_rfl) (fun _ _ _ h => h) (Or.inl ⟨by rfl, ?hyr1_3⟩) (by assumption) ?restr1_3
  case hyr1_3 => (intro w hSw; (try dsimp only at hSw); go_simp; try (with_reducible rfl))
  simp only [Act.put, List.getElem_toArray, List.getElem_cons_succ, List.getElem_cons_zero, List.setIfInBounds_toArray, List.set_cons_zero, List.set_cons_succ]
  refine' wpAnyH_take (i := 4) (v := ?vr1_4) rfl (by kernel_rfl) (by kernel_rfl) (by kernel_rfl) (fun _ _ _ h => h) (Or.inl ⟨by rfl, ?hyr1_4⟩) (by assumption) ?restr1_4
  case hyr1_4 => (intro w hSw; (try dsimp only at hSw); go_simp; try (with_reducible rfl))
  simp only [Act.put, List.getElem_toArray, List.getElem_cons_succ, List.getElem_cons_zero, List.setIfInBounds_toArray, List.set_cons_zero, List.set_cons_succ]
  refine' wpAnyH_take (i := 5) (v := ?vr1_5) rfl (by kernel_rfl) (by kernel_rfl) (by kernel_rfl) (fun _ _ _ h => h) (Or.inl ⟨by rfl, ?hyr1_5⟩) (by assumption) ?restr1_5
  case hyr1_5 => (intro w hSw; (try dsimp only at hSw); go_simp; try (with_reducible rfl))
  simp only [Act.put, List.getElem_toArray, List.getElem_cons_succ, List.getElem_cons_zero, List.setIfInBounds_toArray, List.set_cons_zero, List.set_cons_succ]
  refine' wpAnyH_take (i := 6) (v := ?vr1_6) rfl (by kernel_rfl) (by kernel_rfl) (by kernel_rfl) (fun _ _ _ h => h) (Or.inl ⟨by rfl, ?hyr1_6⟩) (by assumption) ?restr1_6
  case hyr1_6 => (intro w hSw; (try dsimp only at hSw); go_simp; try (with_reducible rfl))
  simp only [Act.put, List.getElem_toArray, List.getElem_cons_succ, List.getElem_cons_zero, List.setIfInBounds_toArray, List.set_cons_zero, List.set_cons_succ]
  refine' wpAnyH_take (i := 7) (v := ?vr1_7) rfl (by kernel_rfl) (by kernel_rfl) (by kernel_rfl) (fun _ _ _ h => h) (Or.inl ⟨by rfl, ?hyr1_7⟩) (by assumption) ?restr1_7
  case hyr1_7 => (intro w hSw; (try dsimp only at hSw); go_simp; try (with_reducible rfl))
  simp only [Act.put, List.getElem_toArray, List.getElem_cons_succ, List.getElem_cons_zero, List.setIfInBounds_toArray, List.set_cons_zero, List.set_cons_succ]
  refine wpAnyH_ready (rs := [8]) (by kernel_rfl) (by simp) ?_
  refine AllReadyH.cons rfl (fun K hK => ?_) AllReadyH.nil
  go_simp
  refine (diff_q q p d HD _ HQB HPB).mono ?_
  rintro e w1 ⟨rfl, b1⟩
  refine hK.out _ _ ((hHeld.2.2.2.2.2.2.step b1).mk7) (fun hHeld1 => ?_)
  clear hK K hHeld
  have hHeld := hHeld1
  clear hHeld1
  try simp only [Act.put, List.getElem_toArray, List.getElem_cons_succ, List.getElem_cons_zero, List.setIfInBounds_toArray, List.set_cons_zero, List.set_cons_succ]
  have HW1 := Lib.hid hHeld.2.2.2.2.2.2
  obtain ⟨u0, u1, u2, hb1⟩ := HW1.out.2.2.2.2.2.2.2.1
  have HB1 := Lib.hid hb1
  have HB2 := Lib.hid HW1.out.2.2.2.2.2.2.2.2
  clear hb1
  have k0 := HB1.out.cell 0
  have k1 := HB1.out.cell 1
  have k2 := HB1.out.cell 2
  have f0 := HB1.out.frozen 0
  have f1 := HB1.out.frozen 1
  have f2 := HB1.out.frozen 2
  have klt := HB1.out.lt
  clear HW1
  refine wpAnyH_ready (rs := [9]) (by kernel_rfl) (by simp) ?_
  refine AllReadyH.cons rfl (fun K hK => ?_) AllReadyH.nil
  go_simp
  refine hK.out _ _ ?keep (fun hHeld1 => ?_)
  case keep =>
    have H := hHeld.2.2.2.2.2.2
    have A : ∀ o, (((w1.setCell ⟨w.heap.size + 1, 0, none⟩ (.int .i64 d.east)).setCell ⟨w.heap.size + 1, 1, none⟩ (.int .i64 d.north)).setCell ⟨w.heap.size + 1, 2, none⟩ (.int .i64 d.up)).cell? ⟨w.heap.size, o, none⟩ = w1.cell? ⟨w.heap.size, o, none⟩ := fun o => by
      rw [World.cell?_setCell_other _ _ _ _ (by intro e; injection e with e1; omega), World.cell?_setCell_other _ _ _ _ (by intro e; injection e with e1; omega), World.cell?_setCell_other _ _ _ _ (by intro e; injection e with e1; omega)]
    exact ⟨(A _).trans H.1, (A _).trans H.2.1, (A _).trans H.2.2.1, (A _).trans H.2.2.2.1, (A _).trans H.2.2.2.2.1, (A _).trans H.2.2.2.2.2.1, (A _).trans H.1, (A _).trans H.2.1, (A _).trans H.2.2.1, (A _).trans H.2.2.2.1, (A _).trans H.2.2.2.2.1, (A _).trans H.2.2.2.2.2.1, ((H.2.2.2.2.2.2.1.far (p := ⟨w.heap.size + 1, 0, none⟩) (by show _ ≠ w.heap.size + 1; omega) _).far (p := ⟨w.heap.size + 1, 1, none⟩) (by show _ ≠ w.heap.size + 1; omega) _).far (p := ⟨w.heap.size + 1, 2, none⟩) (by show _ ≠ w.heap.size + 1; omega) _, ⟨_, _, _, ((HB1.out.set_ 0 _).set_ 1 _).set_ 2 _⟩, ((HB2.out.setCell (by simp) _).setCell (by simp) _).setCell (by simp) _⟩
  clear hK K
  try simp only [Act.put, List.getElem_toArray, List.getElem_cons_succ, List.getElem_cons_zero, List.setIfInBounds_toArray, List.set_cons_zero, List.set_cons_succ]
  refine wpAnyH_done (by kernel_rfl) ?_ _
  clear hHeld1
  go_wp2_with fail
  refine bodyPost_ret (v := .agg #[.int .i64 d.east, .int .i64 d.north, .int .i64 d.up]) (by simp [results, Tryd.results66, go_sem, *]) rfl ⟨rfl, ?_⟩
  exact ((HB2.out.setCell (by simp) _).setCell (by simp) _).setCell (by simp) _
set_option maxHeartbeats 4000000 in
set_option maxRecDepth 100000 in
theorem least_q3 (a b c : Sf) (h : Hid (lo3 a b = c)) (w : World) :
    Calls Tryd.prog 68 #[.agg #[.int .i64 a.east, .int .i64 a.north, .int .i64 a.up], .agg #[.int .i64 b.east, .int .i64 b.north, .int .i64 b.up]] w (APost (.agg #[.int .i64 c.east, .int .i64 c.north, .int .i64 c.up]) w) := by
  obtain ⟨k0, k1, k2⟩ : lst.mn a.east b.east = c.east ∧ lst.mn a.north b.north = c.north ∧ lst.mn a.up b.up = c.up := by rw [← h.out]; exact ⟨rfl, rfl, rfl⟩
  go_enter Tryd.func68, Tryd.ntmps68
  go_wp2_with fail
  all_goals (refine bodyPost_ret (v := .agg #[.int .i64 c.east, .int .i64 c.north, .int .i64 c.up]) (by simp [results, Tryd.results68, go_sem]; unfold lst.mn at k0 k1 k2; (split at k0 <;> split at k1 <;> split at k2 <;> omega)) rfl ⟨rfl, ?_⟩; exact (((Below.refl _ _).alloc (Nat.le_refl _) _).alloc (by simp) _).alloc (by simp; omega) _)
set_option maxHeartbeats 4000000 in
set_option maxRecDepth 100000 in
theorem great_q3 (a b c : Sf) (h : Hid (hi3 a b = c)) (w : World) :
    Calls Tryd.prog 69 #[.agg #[.int .i64 a.east, .int .i64 a.north, .int .i64 a.up], .agg #[.int .i64 b.east, .int .i64 b.north, .int .i64 b.up]] w (APost (.agg #[.int .i64 c.east, .int .i64 c.north, .int .i64 c.up]) w) := by
  obtain ⟨k0, k1, k2⟩ : mst.mx a.east b.east = c.east ∧ mst.mx a.north b.north = c.north ∧ mst.mx a.up b.up = c.up := by rw [← h.out]; exact ⟨rfl, rfl, rfl⟩
  go_enter Tryd.func69, Tryd.ntmps69
  go_wp2_with fail
  all_goals (refine bodyPost_ret (v := .agg #[.int .i64 c.east, .int .i64 c.north, .int .i64 c.up]) (by simp [results, Tryd.results69, go_sem]; unfold mst.mx at k0 k1 k2; (split at k0 <;> split at k1 <;> split at k2 <;> omega)) rfl ⟨rfl, ?_⟩; exact (((Below.refl _ _).alloc (Nat.le_refl _) _).alloc (by simp) _).alloc (by simp; omega) _)
end Go.Proofs.YtnoieboiklmkaaaDoor.nq
