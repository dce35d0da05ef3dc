/-
  A station is placed from the other end of a leg, by the program.
  Conditions: those that each theorem names.
-/
import Derived.Test.YtnpghhpcloljeabGreatDoorNqAq
import Derived.Test.YtnpghhpcloljeabGreatDoorNtCq
import Derived.Deep.RegionHeld3
namespace Go.Proofs.YtnpghhpcloljeabGreatDoor.nq
open Go.RowKit
open reads base ty lg lgi win hs nt rowi sn
set_option linter.unusedVariables false
set_option linter.unusedSimpArgs false

/-- what the region that places reads: the leg's ends, a place, a shift -/
def PE (X Y g a c d : Nat) (p h : Sf) (v : World) : Prop := v.cell? ⟨X, 0, none⟩ = some (.int .i64 (c : Int)) ∧ v.cell? ⟨X, 1, none⟩ = some (.int .i64 (d : Int)) ∧ v.cell? ⟨g, 8 + a * 3, none⟩ = some (.int .i64 p.east) ∧ v.cell? ⟨g, 8 + a * 3 + 1, none⟩ = some (.int .i64 p.north) ∧ v.cell? ⟨g, 8 + a * 3 + 2, none⟩ = some (.int .i64 p.up) ∧ v.cell? ⟨Y, 0, none⟩ = some (.int .i64 h.east) ∧ v.cell? ⟨Y, 1, none⟩ = some (.int .i64 h.north) ∧ v.cell? ⟨Y, 2, none⟩ = some (.int .i64 h.up) ∧ X < v.heap.size ∧ Y < v.heap.size ∧ g < v.heap.size ∧ ¬ X = g ∧ ¬ Y = g
section
variable {X Y g a b c d : Nat} {p h : Sf} {v v' : World}
theorem PE.step (H : PE X Y g a c d p h v) (hb : Below v.heap.size v v') : PE X Y g a c d p h v' := by
  obtain ⟨x0, x1, p0, p1, p2, y0, y1, y2, l1, l2, l3, n1, n2⟩ := H
  have A : ∀ o, v'.cell? ⟨X, o, none⟩ = v.cell? ⟨X, o, none⟩ := fun o => hb.cell (p := ⟨X, o, none⟩) l1
  have B : ∀ o, v'.cell? ⟨Y, o, none⟩ = v.cell? ⟨Y, o, none⟩ := fun o => hb.cell (p := ⟨Y, o, none⟩) l2
  have C : ∀ o, v'.cell? ⟨g, o, none⟩ = v.cell? ⟨g, o, none⟩ := fun o => hb.cell (p := ⟨g, o, none⟩) l3
  have hs := hb.size
  exact ⟨(A _).trans x0, (A _).trans x1, (C _).trans p0, (C _).trans p1, (C _).trans p2, (B _).trans y0, (B _).trans y1, (B _).trans y2, by omega, by omega, by omega, n1, n2⟩
theorem PE.set (H : PE X Y g a c d p h v) {o : Nat} (ho : o < 8 + a * 3 ∨ 8 + a * 3 + 2 < o) (u : Value) : PE X Y g a c d p h (v.setCell ⟨g, o, none⟩ u) := by
  obtain ⟨x0, x1, p0, p1, p2, y0, y1, y2, l1, l2, l3, n1, n2⟩ := H
  have A : ∀ j, (v.setCell ⟨g, o, none⟩ u).cell? ⟨X, j, none⟩ = v.cell? ⟨X, j, none⟩ := fun j => World.cell?_setCell_other _ _ _ _ (by intro e; injection e with e1; exact n1 e1.symm)
  have B : ∀ j, (v.setCell ⟨g, o, none⟩ u).cell? ⟨Y, j, none⟩ = v.cell? ⟨Y, j, none⟩ := fun j => World.cell?_setCell_other _ _ _ _ (by intro e; injection e with e1; exact n2 e1.symm)
  have C : ∀ j, j = 8 + a * 3 ∨ j = 8 + a * 3 + 1 ∨ j = 8 + a * 3 + 2 → (v.setCell ⟨g, o, none⟩ u).cell? ⟨g, j, none⟩ = v.cell? ⟨g, j, none⟩ := fun j hj => World.cell?_setCell_other _ _ _ _ (by intro e; injection e with e1 e2; omega)
  exact ⟨(A _).trans x0, (A _).trans x1, (C _ (.inl rfl)).trans p0, (C _ (.inr (.inl rfl))).trans p1, (C _ (.inr (.inr rfl))).trans p2, (B _).trans y0, (B _).trans y1, (B _).trans y2, by simpa [World.setCell] using l1, by simpa [World.setCell] using l2, by simpa [World.setCell] using l3, n1, n2⟩
theorem PE.mk9 (H : PE X Y g a c d p h v) : v.cell? ⟨X, 0, none⟩ = some (.int .i64 (c : Int)) ∧ v.cell? ⟨X, 1, none⟩ = some (.int .i64 (d : Int)) ∧ v.cell? ⟨g, 8 + a * 3, none⟩ = some (.int .i64 p.east) ∧ v.cell? ⟨g, 8 + a * 3 + 1, none⟩ = some (.int .i64 p.north) ∧ v.cell? ⟨g, 8 + a * 3 + 2, none⟩ = some (.int .i64 p.up) ∧ v.cell? ⟨Y, 0, none⟩ = some (.int .i64 h.east) ∧ v.cell? ⟨Y, 1, none⟩ = some (.int .i64 h.north) ∧ v.cell? ⟨Y, 2, none⟩ = some (.int .i64 h.up) ∧ PE X Y g a c d p h v := ⟨H.1, H.2.1, H.2.2.1, H.2.2.2.1, H.2.2.2.2.1, H.2.2.2.2.2.1, H.2.2.2.2.2.2.1, H.2.2.2.2.2.2.2.1, H⟩
end
theorem grown_of {w v : World} (hb : Below w.heap.size w v) (r : Option Nat) : w.grownBy v r := ⟨hb.os, hb.tape, hb.output, hb.size, fun j hj _ => hb.block j hj⟩
/-- a station placed: the network's cells -/
def PPo (g : Nat) (s : Net) (cl : List Bool) (w : World) (e : Ending) (w' : World) : Prop := e = .returned (.tuple #[]) ∧ Blk w' g 76 (nv s cl) ∧ w.grownBy w' (some g)
set_option maxHeartbeats 16000000 in
set_option maxRecDepth 100000 in
theorem place_fwd (g a b : Nat) (tp cp sl : Int) (s : Net) (cl : List Bool) (p h c : Sf) (w : World) (hN : Hid (NOk s cl)) (hok : Hid (okLg ⟨(a : Int), (b : Int), tp, cp, sl⟩ = true)) (HA : Hid (mem s.ps (a : Int) = true)) (HBF : Hid (mem s.ps (b : Int) = false)) (HP : Hid (at_ s.pl (a : Int) = p)) (HH : Hid (shf ⟨(a : Int), (b : Int), tp, cp, sl⟩ = h)) (HC : Hid (add3 p h = c)) (HPB : Hid (BdS p)) (HG : Hid (Blk w g 76 (nv s cl))) (hT : Hid (Tab w)) :
    Calls Tryz.prog 125 #[.pointer (some ⟨g, 0, none⟩), .agg #[.int .i64 (a : Int), .int .i64 (b : Int), .int .i64 tp, .int .i64 cp, .int .i64 sl]] w (PPo g ⟨s.pl.set b c, put s.ps (b : Int), s.tr⟩ cl w) := by
  obtain ⟨l1, l2, l3, -⟩ := okLg_lim hok.out
  simp only [] at l1 l2 l3
  have ha : a < 8 := by omega
  have hb : b < 8 := by omega
  have hab : ¬ a = b := by omega
  have ha0 : (0 : Int) ≤ (a : Int) := by omega
  have hb0 : (0 : Int) ≤ (b : Int) := by omega
  have ha8 : (a : Int) < 8 := by omega
  have hb8 : (b : Int) < 8 := by omega
  clear l1 l2 l3
  have HHB := Lib.hid (show BdS h by rw [← HH.out]; exact bd_shf hok.out)
  have hgw := HG.out.lt
  obtain ⟨W0, HW0⟩ : ∃ W, Hid (w.alloc (.cells #[.int .i64 (a : Int), .int .i64 (b : Int), .int .i64 tp, .int .i64 cp, .int .i64 sl] 87) = W) := ⟨_, Lib.hid rfl⟩
  have HX := Lib.hid (show Blk W0 w.heap.size 87 #[.int .i64 (a : Int), .int .i64 (b : Int), .int .i64 tp, .int .i64 cp, .int .i64 sl] by rw [← HW0.out]; exact Blk.new _ _ _)
  have HG0 := Lib.hid (show Blk W0 g 76 (nv s cl) by rw [← HW0.out]; exact HG.out.alloc _)
  have HB0 := Lib.hid (show Below w.heap.size w W0 by rw [← HW0.out]; exact (Below.refl _ _).alloc (Nat.le_refl _) _)
  have HT0 := Lib.hid (show Tab W0 by rw [← HW0.out]; exact hT.out.alloc _)
  have x0 := HX.out.cell 0
  have x1 := HX.out.cell 1
  have x2 := HX.out.cell 2
  have x3 := HX.out.cell 3
  have x4 := HX.out.cell 4
  go_enter Tryz.func125, Tryz.ntmps125
  go_upto_region 1 with fail
  rw [HW0.out]
  clear HW0 HG hT
  go_wp2_with fail
  refine (along_is ⟨(a : Int), (b : Int), tp, cp, sl⟩ h HH W0 hok HT0).mono ?_
  rintro e w1 ⟨rfl, b1⟩
  have HX1 := Lib.hid (HX.out.below b1 HX.out.lt)
  have HG1 := Lib.hid (HG0.out.below b1 HG0.out.lt)
  have HB1 := Lib.hid (HB0.out.trans (b1.mono HB0.out.size))
  clear b1 HX HG0 HB0 HT0 x0 x1 x2 x3 x4
  obtain ⟨Y, HY⟩ : ∃ Y, Hid (w1.heap.size = Y) := ⟨_, Lib.hid rfl⟩
  obtain ⟨W2, HW2⟩ : ∃ W, Hid (w1.alloc (.cells #[.int .i64 h.east, .int .i64 h.north, .int .i64 h.up] 72) = W) := ⟨_, Lib.hid rfl⟩
  have HX2 := Lib.hid (show Blk W2 w.heap.size 87 #[.int .i64 (a : Int), .int .i64 (b : Int), .int .i64 tp, .int .i64 cp, .int .i64 sl] by rw [← HW2.out]; exact HX1.out.alloc _)
  have HG2 := Lib.hid (show Blk W2 g 76 (nv s cl) by rw [← HW2.out]; exact HG1.out.alloc _)
  have HY2 := Lib.hid (show Blk W2 Y 72 #[.int .i64 h.east, .int .i64 h.north, .int .i64 h.up] by rw [← HW2.out, ← HY.out]; exact Blk.new _ _ _)
  have HB2 := Lib.hid (show Below w.heap.size w W2 by rw [← HW2.out]; exact HB1.out.alloc HB1.out.size _)
  have hYg : ¬ Y = g := by rw [← HY.out]; have := HG1.out.lt; omega
  go_upto_region 2 with fail
  try rw [HY.out]
  try simp only [HY.out]
  rw [HW2.out]
  clear HW2 HX1 HG1 HB1 HY
  have x0 := HX2.out.cell 0
  have x1 := HX2.out.cell 1
  have fa : W2.cell? ⟨g, a, none⟩ = some (.bool true) := by rw [HG2.out.cell, nv_ps (by omega)]; rw [HA.out]
  go_quiet (fail)
  go_upto_region 3 with fail
  obtain ⟨W3, HW3⟩ : ∃ W, Hid (W2.drewN nq = W) := ⟨_, Lib.hid rfl⟩
  have HBD := Lib.hid (show Below W2.heap.size W2 W3 by rw [← HW3.out]; exact drewN_below _ _)
  have HX3 := Lib.hid (HX2.out.below HBD.out HX2.out.lt)
  have HG3 := Lib.hid (HG2.out.below HBD.out HG2.out.lt)
  have HY3 := Lib.hid (HY2.out.below HBD.out HY2.out.lt)
  have HB3 := Lib.hid (HB2.out.trans (HBD.out.mono HB2.out.size))
  rw [HW3.out]
  clear HW3 HX2 HG2 HY2 HB2 HBD x0 x1 fa
  have HE := Lib.hid (show PE w.heap.size Y g a a b p h W3 by
    obtain ⟨p0, p1, p2⟩ := nv_pl hN.out ha
    rw [HP.out] at p0 p1 p2
    exact ⟨HX3.out.cell 0, HX3.out.cell 1, (HG3.out.cell _).trans p0, (HG3.out.cell _).trans p1, (HG3.out.cell _).trans p2, HY3.out.cell 0, HY3.out.cell 1, HY3.out.cell 2, HX3.out.lt, HY3.out.lt, HG3.out.lt, by omega, hYg⟩)
  clear HX3 HY3 HP HH hok
  refine wp_region_held_drew (S := (fun v => v.cell? ⟨w.heap.size, 0, none⟩ = some (.int .i64 (a : Int)) ∧ v.cell? ⟨w.heap.size, 1, none⟩ = some (.int .i64 (b : Int)) ∧ v.cell? ⟨g, 8 + a * 3, none⟩ = some (.int .i64 p.east) ∧ v.cell? ⟨g, 8 + a * 3 + 1, none⟩ = some (.int .i64 p.north) ∧ v.cell? ⟨g, 8 + a * 3 + 2, none⟩ = some (.int .i64 p.up) ∧ v.cell? ⟨Y, 0, none⟩ = some (.int .i64 h.east) ∧ v.cell? ⟨Y, 1, none⟩ = some (.int .i64 h.north) ∧ v.cell? ⟨Y, 2, none⟩ = some (.int .i64 h.up) ∧ PE w.heap.size Y g a a b p h v)) (by kernel_rfl) ?_ (fun hHeld => ?_)
  · exact (HE.out.step (Below.refl _ _).drew).mk9
  refine' wpAnyH_take (i := 0) (v := ?vr1_0) rfl (by kernel_rfl) (by kernel_rfl) (by kernel_rfl) (fun _ _ _ h => h) (Or.inl ⟨by rfl, ?hyr1_0⟩) (by assumption) ?restr1_0
  case hyr1_0 => (intro w hSw; (try dsimp only at hSw); go_simp; try (with_reducible rfl))
  simp only [Act.put, List.getElem_toArray, List.getElem_cons_succ, List.getElem_cons_zero, List.setIfInBounds_toArray, List.set_cons_zero, List.set_cons_succ]
  refine' wpAnyH_take (i := 1) (v := ?vr1_1) rfl (by kernel_rfl) (by kernel_rfl) (by kernel_rfl) (fun _ _ _ h => h) (Or.inl ⟨by rfl, ?hyr1_1⟩) (by assumption) ?restr1_1
  case hyr1_1 => (intro w hSw; (try dsimp only at hSw); go_simp; try (with_reducible rfl))
  simp only [Act.put, List.getElem_toArray, List.getElem_cons_succ, List.getElem_cons_zero, List.setIfInBounds_toArray, List.set_cons_zero, List.set_cons_succ]
  refine' wpAnyH_take (i := 2) (v := ?vr1_2) rfl (by kernel_rfl) (by kernel_rfl) (by kernel_rfl) (fun _ _ _ h => h) (Or.inl ⟨by rfl, ?hyr1_2⟩) (by assumption) ?restr1_2
  case hyr1_2 => (intro w hSw; (try dsimp only at hSw); go_simp; try (with_reducible rfl))
  simp only [Act.put, List.getElem_toArray, List.getElem_cons_succ, List.getElem_cons_zero, List.setIfInBounds_toArray, List.set_cons_zero, List.set_cons_succ]
  refine' wpAnyH_take (i := 3) (v := ?vr1_3) rfl (by kernel_rfl) (by kernel_rfl) (by kernel_rfl) (fun _ _ _ h => h) (Or.inl ⟨by rfl, ?hyr1_3⟩) (by assumption) ?restr1_3
  case hyr1_3 => (intro w hSw; (try dsimp only at hSw); go_simp; try (with_reducible rfl))
  simp only [Act.put, List.getElem_toArray, List.getElem_cons_succ, List.getElem_cons_zero, List.setIfInBounds_toArray, List.set_cons_zero, List.set_cons_succ]
  refine' wpAnyH_take (i := 4) (v := ?vr1_4) rfl (by kernel_rfl) (by kernel_rfl) (by kernel_rfl) (fun _ _ _ h => h) (Or.inl ⟨by rfl, ?hyr1_4⟩) (by assumption) ?restr1_4
  case hyr1_4 => (intro w hSw; (try dsimp only at hSw); go_simp; try (with_reducible rfl))
  simp only [Act.put, List.getElem_toArray, List.getElem_cons_succ, List.getElem_cons_zero, List.setIfInBounds_toArray, List.set_cons_zero, List.set_cons_succ]
  refine' wpAnyH_take (i := 5) (v := ?vr1_5) rfl (by kernel_rfl) (by kernel_rfl) (by kernel_rfl) (fun _ _ _ h => h) (Or.inl ⟨by rfl, ?hyr1_5⟩) (by assumption) ?restr1_5
  case hyr1_5 => (intro w hSw; (try dsimp only at hSw); go_simp; try (with_reducible rfl))
  simp only [Act.put, List.getElem_toArray, List.getElem_cons_succ, List.getElem_cons_zero, List.setIfInBounds_toArray, List.set_cons_zero, List.set_cons_succ]
  refine' wpAnyH_take (i := 6) (v := ?vr1_6) rfl (by kernel_rfl) (by kernel_rfl) (by kernel_rfl) (fun _ _ _ h => h) (Or.inl ⟨by rfl, ?hyr1_6⟩) (by assumption) ?restr1_6
  case hyr1_6 => (intro w hSw; (try dsimp only at hSw); go_simp; try (with_reducible rfl))
  simp only [Act.put, List.getElem_toArray, List.getElem_cons_succ, List.getElem_cons_zero, List.setIfInBounds_toArray, List.set_cons_zero, List.set_cons_succ]
  refine' wpAnyH_take (i := 7) (v := ?vr1_7) rfl (by kernel_rfl) (by kernel_rfl) (by kernel_rfl) (fun _ _ _ h => h) (Or.inl ⟨by rfl, ?hyr1_7⟩) (by assumption) ?restr1_7
  case hyr1_7 => (intro w hSw; (try dsimp only at hSw); go_simp; try (with_reducible rfl))
  simp only [Act.put, List.getElem_toArray, List.getElem_cons_succ, List.getElem_cons_zero, List.setIfInBounds_toArray, List.set_cons_zero, List.set_cons_succ]
  refine' wpAnyH_take (i := 8) (v := ?vr1_8) rfl (by kernel_rfl) (by kernel_rfl) (by kernel_rfl) (fun _ _ _ h => h) (Or.inl ⟨by rfl, ?hyr1_8⟩) (by assumption) ?restr1_8
  case hyr1_8 => (intro w hSw; (try dsimp only at hSw); go_simp; try (with_reducible rfl))
  simp only [Act.put, List.getElem_toArray, List.getElem_cons_succ, List.getElem_cons_zero, List.setIfInBounds_toArray, List.set_cons_zero, List.set_cons_succ]
  refine' wpAnyH_take (i := 9) (v := ?vr1_9) rfl (by kernel_rfl) (by kernel_rfl) (by kernel_rfl) (fun _ _ _ h => h) (Or.inl ⟨by rfl, ?hyr1_9⟩) (by assumption) ?restr1_9
  case hyr1_9 => (intro w hSw; (try dsimp only at hSw); go_simp; try (with_reducible rfl))
  simp only [Act.put, List.getElem_toArray, List.getElem_cons_succ, List.getElem_cons_zero, List.setIfInBounds_toArray, List.set_cons_zero, List.set_cons_succ]
  refine' wpAnyH_take (i := 10) (v := ?vr1_10) rfl (by kernel_rfl) (by kernel_rfl) (by kernel_rfl) (fun _ _ _ h => h) (Or.inl ⟨by rfl, ?hyr1_10⟩) (by assumption) ?restr1_10
  case hyr1_10 => (intro w hSw; (try dsimp only at hSw); go_simp; try (with_reducible rfl))
  simp only [Act.put, List.getElem_toArray, List.getElem_cons_succ, List.getElem_cons_zero, List.setIfInBounds_toArray, List.set_cons_zero, List.set_cons_succ]
  refine' wpAnyH_take (i := 11) (v := ?vr1_11) rfl (by kernel_rfl) (by kernel_rfl) (by kernel_rfl) (fun _ _ _ h => h) (Or.inl ⟨by rfl, ?hyr1_11⟩) (by assumption) ?restr1_11
  case hyr1_11 => (intro w hSw; (try dsimp only at hSw); go_simp; try (with_reducible rfl))
  simp only [Act.put, List.getElem_toArray, List.getElem_cons_succ, List.getElem_cons_zero, List.setIfInBounds_toArray, List.set_cons_zero, List.set_cons_succ]
  refine' wpAnyH_take (i := 12) (v := ?vr1_12) rfl (by kernel_rfl) (by kernel_rfl) (by kernel_rfl) (fun _ _ _ h => h) (Or.inl ⟨by rfl, ?hyr1_12⟩) (by assumption) ?restr1_12
  case hyr1_12 => (intro w hSw; (try dsimp only at hSw); go_simp; try (with_reducible rfl))
  simp only [Act.put, List.getElem_toArray, List.getElem_cons_succ, List.getElem_cons_zero, List.setIfInBounds_toArray, List.set_cons_zero, List.set_cons_succ]
  refine' wpAnyH_take (i := 13) (v := ?vr1_13) rfl (by kernel_rfl) (by kernel_rfl) (by kernel_rfl) (fun _ _ _ h => h) (Or.inl ⟨by rfl, ?hyr1_13⟩) (by assumption) ?restr1_13
  case hyr1_13 => (intro w hSw; (try dsimp only at hSw); go_simp; try (with_reducible rfl))
  simp only [Act.put, List.getElem_toArray, List.getElem_cons_succ, List.getElem_cons_zero, List.setIfInBounds_toArray, List.set_cons_zero, List.set_cons_succ]
  refine' wpAnyH_take (i := 15) (v := ?vr1_15) rfl (by kernel_rfl) (by kernel_rfl) (by kernel_rfl) (fun _ _ _ h => h) (Or.inl ⟨by rfl, ?hyr1_15⟩) (by assumption) ?restr1_15
  case hyr1_15 => (intro w hSw; (try dsimp only at hSw); go_simp; try (with_reducible rfl))
  simp only [Act.put, List.getElem_toArray, List.getElem_cons_succ, List.getElem_cons_zero, List.setIfInBounds_toArray, List.set_cons_zero, List.set_cons_succ]
  refine' wpAnyH_take (i := 16) (v := ?vr1_16) rfl (by kernel_rfl) (by kernel_rfl) (by kernel_rfl) (fun _ _ _ h => h) (Or.inl ⟨by rfl, ?hyr1_16⟩) (by assumption) ?restr1_16
  case hyr1_16 => (intro w hSw; (try dsimp only at hSw); go_simp; try (with_reducible rfl))
  simp only [Act.put, List.getElem_toArray, List.getElem_cons_succ, List.getElem_cons_zero, List.setIfInBounds_toArray, List.set_cons_zero, List.set_cons_succ]
  refine' wpAnyH_take (i := 19) (v := ?vr1_19) rfl (by kernel_rfl) (by kernel_rfl) (by kernel_rfl) (fun _ _ _ h => h) (Or.inl ⟨by rfl, ?hyr1_19⟩) (by assumption) ?restr1_19
  case hyr1_19 => (intro w hSw; (try dsimp only at hSw); go_simp; try (with_reducible rfl))
  simp only [Act.put, List.getElem_toArray, List.getElem_cons_succ, List.getElem_cons_zero, List.setIfInBounds_toArray, List.set_cons_zero, List.set_cons_succ]
  refine' wpAnyH_take (i := 20) (v := ?vr1_20) rfl (by kernel_rfl) (by kernel_rfl) (by kernel_rfl) (fun _ _ _ h => h) (Or.inl ⟨by rfl, ?hyr1_20⟩) (by assumption) ?restr1_20
  case hyr1_20 => (intro w hSw; (try dsimp only at hSw); go_simp; try (with_reducible rfl))
  simp only [Act.put, List.getElem_toArray, List.getElem_cons_succ, List.getElem_cons_zero, List.setIfInBounds_toArray, List.set_cons_zero, List.set_cons_succ]
  refine wpAnyH_ready (rs := [14]) (by kernel_rfl) (by simp) ?_
  refine AllReadyH.cons rfl (fun K hK => ?_) AllReadyH.nil
  go_simp
  refine (sum_q p h c HC _ HPB HHB).mono ?_
  rintro e w4 ⟨rfl, b4⟩
  have HG4 := Lib.hid (HG3.out.drew.below b4 HG3.out.lt)
  have HB4 := Lib.hid (HB3.out.drew.trans (b4.mono HB3.out.size))
  refine hK.out _ _ ((hHeld.2.2.2.2.2.2.2.2.step b4).mk9) (fun hHeld1 => ?_)
  clear hK K hHeld
  have hHeld := hHeld1
  clear hHeld1
  try simp only [Act.put, List.getElem_toArray, List.getElem_cons_succ, List.getElem_cons_zero, List.setIfInBounds_toArray, List.set_cons_zero, List.set_cons_succ]
  clear b4 HG3 HB3 HE
  obtain ⟨y, k0⟩ : ∃ y, w4.cell? ⟨g, b, none⟩ = some y := ⟨_, (HG4.out.cell _).trans (nv_ps hb)⟩
  have f0 := HG4.out.frozen b
  have hg4 := HG4.out.lt
  refine' wpAnyH_take (i := 17) (v := ?vr1_17) rfl (by kernel_rfl) (by kernel_rfl) (by kernel_rfl) (fun _ _ _ h => h) (Or.inl ⟨by rfl, ?hyr1_17⟩) (by assumption) ?restr1_17
  case hyr1_17 => (intro w hSw; (try dsimp only at hSw); go_simp; try (with_reducible rfl))
  simp only [Act.put, List.getElem_toArray, List.getElem_cons_succ, List.getElem_cons_zero, List.setIfInBounds_toArray, List.set_cons_zero, List.set_cons_succ]
  refine wpAnyH_ready (rs := [18]) (by kernel_rfl) (by simp) ?_
  refine AllReadyH.cons rfl (fun K hK => ?_) AllReadyH.nil
  go_simp
  refine hK.out _ _ ((hHeld.2.2.2.2.2.2.2.2.set (o := b) (.inl (by omega)) _).mk9) (fun hHeld1 => ?_)
  clear hK K hHeld
  have hHeld := hHeld1
  clear hHeld1
  try simp only [Act.put, List.getElem_toArray, List.getElem_cons_succ, List.getElem_cons_zero, List.setIfInBounds_toArray, List.set_cons_zero, List.set_cons_succ]
  clear k0 f0 hg4
  obtain ⟨W5, HW5⟩ : ∃ W, Hid (w4.setCell ⟨g, b, none⟩ (.bool true) = W) := ⟨_, Lib.hid rfl⟩
  have HG5 := Lib.hid (show Blk W5 g 76 (nv ⟨s.pl, put s.ps (b : Int), s.tr⟩ cl) by rw [← HW5.out, ← nv_set_ps hb]; exact HG4.out.set_ b _)
  have HR5 := Lib.hid (show w.grownBy W5 (some g) by rw [← HW5.out]; exact base.grown_set (grown_of HB4.out _) _ _)
  rw [HW5.out] at hHeld ⊢
  clear HW5 HG4 HB4
  have HN5 := Lib.hid (show NOk ⟨s.pl, put s.ps (b : Int), s.tr⟩ cl from hN.out)
  obtain ⟨y0, k0⟩ : ∃ y, W5.cell? ⟨g, 8 + b * 3, none⟩ = some y := ⟨_, (HG5.out.cell _).trans (nv_pl HN5.out hb).1⟩
  obtain ⟨y1, k1⟩ : ∃ y, W5.cell? ⟨g, 8 + b * 3 + 1, none⟩ = some y := ⟨_, (HG5.out.cell _).trans (nv_pl HN5.out hb).2.1⟩
  obtain ⟨y2, k2⟩ : ∃ y, W5.cell? ⟨g, 8 + b * 3 + 2, none⟩ = some y := ⟨_, (HG5.out.cell _).trans (nv_pl HN5.out hb).2.2⟩
  have f0 := HG5.out.frozen (8 + b * 3)
  have f1 := HG5.out.frozen (8 + b * 3 + 1)
  have f2 := HG5.out.frozen (8 + b * 3 + 2)
  have hg5 := HG5.out.lt
  refine' wpAnyH_take (i := 21) (v := ?vr1_21) rfl (by kernel_rfl) (by kernel_rfl) (by kernel_rfl) (fun _ _ _ h => h) (Or.inl ⟨by rfl, ?hyr1_21⟩) (by assumption) ?restr1_21
  case hyr1_21 => (intro w hSw; (try dsimp only at hSw); go_simp; try (with_reducible rfl))
  simp only [Act.put, List.getElem_toArray, List.getElem_cons_succ, List.getElem_cons_zero, List.setIfInBounds_toArray, List.set_cons_zero, List.set_cons_succ]
  refine wpAnyH_ready (rs := [22]) (by kernel_rfl) (by simp) ?_
  refine AllReadyH.cons rfl (fun K hK => ?_) AllReadyH.nil
  go_simp
  refine hK.out _ _ ((((hHeld.2.2.2.2.2.2.2.2.set (o := 8 + b * 3) (by omega) _).set (o := 8 + b * 3 + 1) (by omega) _).set (o := 8 + b * 3 + 2) (by omega) _).mk9) (fun hHeld1 => ?_)
  clear hK K hHeld
  have hHeld := hHeld1
  clear hHeld1
  try simp only [Act.put, List.getElem_toArray, List.getElem_cons_succ, List.getElem_cons_zero, List.setIfInBounds_toArray, List.set_cons_zero, List.set_cons_succ]
  refine wpAnyH_done (by kernel_rfl) ?_ _
  clear hHeld k0 k1 k2 f0 f1 f2 hg5
  have HG6 := Lib.hid (show Blk (((W5.setCell ⟨g, 8 + b * 3, none⟩ (.int .i64 c.east)).setCell ⟨g, 8 + b * 3 + 1, none⟩ (.int .i64 c.north)).setCell ⟨g, 8 + b * 3 + 2, none⟩ (.int .i64 c.up)) g 76 (nv ⟨s.pl.set b c, put s.ps (b : Int), s.tr⟩ cl) by
    have h := ((HG5.out.set_ (8 + b * 3) (.int .i64 c.east)).set_ (8 + b * 3 + 1) (.int .i64 c.north)).set_ (8 + b * 3 + 2) (.int .i64 c.up)
    rwa [nv_set_pl HN5.out hb c] at h)
  have HR6 := Lib.hid (base.grown_set (base.grown_set (base.grown_set HR5.out (8 + b * 3) (.int .i64 c.east)) (8 + b * 3 + 1) (.int .i64 c.north)) (8 + b * 3 + 2) (.int .i64 c.up))
  go_wp2_with fail
  refine bodyPost_ret (v := .tuple #[]) (by simp [results, Tryz.results125, go_sem]) rfl ⟨rfl, HG6.out, HR6.out⟩
set_option maxHeartbeats 16000000 in
set_option maxRecDepth 100000 in
theorem place_bwd (g a b : Nat) (tp cp sl : Int) (s : Net) (cl : List Bool) (p h c : Sf) (w : World) (hN : Hid (NOk s cl)) (hok : Hid (okLg ⟨(b : Int), (a : Int), tp, cp, sl⟩ = true)) (HA : Hid (mem s.ps (a : Int) = true)) (HBF : Hid (mem s.ps (b : Int) = false)) (HP : Hid (at_ s.pl (a : Int) = p)) (HH : Hid (shf ⟨(b : Int), (a : Int), tp, cp, sl⟩ = h)) (HC : Hid (sub3 p h = c)) (HPB : Hid (BdS p)) (HG : Hid (Blk w g 76 (nv s cl))) (hT : Hid (Tab w)) :
    Calls Tryz.prog 125 #[.pointer (some ⟨g, 0, none⟩), .agg #[.int .i64 (b : Int), .int .i64 (a : Int), .int .i64 tp, .int .i64 cp, .int .i64 sl]] w (PPo g ⟨s.pl.set b c, put s.ps (b : Int), s.tr⟩ cl w) := by
  obtain ⟨l1, l2, l3, -⟩ := okLg_lim hok.out
  simp only [] at l1 l2 l3
  have ha : a < 8 := by omega
  have hb : b < 8 := by omega
  have hab : ¬ a = b := by omega
  have ha0 : (0 : Int) ≤ (a : Int) := by omega
  have hb0 : (0 : Int) ≤ (b : Int) := by omega
  have ha8 : (a : Int) < 8 := by omega
  have hb8 : (b : Int) < 8 := by omega
  clear l1 l2 l3
  have HHB := Lib.hid (show BdS h by rw [← HH.out]; exact bd_shf hok.out)
  have hgw := HG.out.lt
  obtain ⟨W0, HW0⟩ : ∃ W, Hid (w.alloc (.cells #[.int .i64 (b : Int), .int .i64 (a : Int), .int .i64 tp, .int .i64 cp, .int .i64 sl] 87) = W) := ⟨_, Lib.hid rfl⟩
  have HX := Lib.hid (show Blk W0 w.heap.size 87 #[.int .i64 (b : Int), .int .i64 (a : Int), .int .i64 tp, .int .i64 cp, .int .i64 sl] by rw [← HW0.out]; exact Blk.new _ _ _)
  have HG0 := Lib.hid (show Blk W0 g 76 (nv s cl) by rw [← HW0.out]; exact HG.out.alloc _)
  have HB0 := Lib.hid (show Below w.heap.size w W0 by rw [← HW0.out]; exact (Below.refl _ _).alloc (Nat.le_refl _) _)
  have HT0 := Lib.hid (show Tab W0 by rw [← HW0.out]; exact hT.out.alloc _)
  have x0 := HX.out.cell 0
  have x1 := HX.out.cell 1
  have x2 := HX.out.cell 2
  have x3 := HX.out.cell 3
  have x4 := HX.out.cell 4
  go_enter Tryz.func125, Tryz.ntmps125
  go_upto_region 1 with fail
  rw [HW0.out]
  clear HW0 HG hT
  go_wp2_with fail
  refine (along_is ⟨(b : Int), (a : Int), tp, cp, sl⟩ h HH W0 hok HT0).mono ?_
  rintro e w1 ⟨rfl, b1⟩
  have HX1 := Lib.hid (HX.out.below b1 HX.out.lt)
  have HG1 := Lib.hid (HG0.out.below b1 HG0.out.lt)
  have HB1 := Lib.hid (HB0.out.trans (b1.mono HB0.out.size))
  clear b1 HX HG0 HB0 HT0 x0 x1 x2 x3 x4
  obtain ⟨Y, HY⟩ : ∃ Y, Hid (w1.heap.size = Y) := ⟨_, Lib.hid rfl⟩
  obtain ⟨W2, HW2⟩ : ∃ W, Hid (w1.alloc (.cells #[.int .i64 h.east, .int .i64 h.north, .int .i64 h.up] 72) = W) := ⟨_, Lib.hid rfl⟩
  have HX2 := Lib.hid (show Blk W2 w.heap.size 87 #[.int .i64 (b : Int), .int .i64 (a : Int), .int .i64 tp, .int .i64 cp, .int .i64 sl] by rw [← HW2.out]; exact HX1.out.alloc _)
  have HG2 := Lib.hid (show Blk W2 g 76 (nv s cl) by rw [← HW2.out]; exact HG1.out.alloc _)
  have HY2 := Lib.hid (show Blk W2 Y 72 #[.int .i64 h.east, .int .i64 h.north, .int .i64 h.up] by rw [← HW2.out, ← HY.out]; exact Blk.new _ _ _)
  have HB2 := Lib.hid (show Below w.heap.size w W2 by rw [← HW2.out]; exact HB1.out.alloc HB1.out.size _)
  have hYg : ¬ Y = g := by rw [← HY.out]; have := HG1.out.lt; omega
  go_upto_region 2 with fail
  try rw [HY.out]
  try simp only [HY.out]
  rw [HW2.out]
  clear HW2 HX1 HG1 HB1 HY
  have x0 := HX2.out.cell 0
  have x1 := HX2.out.cell 1
  have fa : W2.cell? ⟨g, b, none⟩ = some (.bool false) := by rw [HG2.out.cell, nv_ps (by omega)]; rw [HBF.out]
  go_quiet (fail)
  go_upto_region 4 with fail
  obtain ⟨W3, HW3⟩ : ∃ W, Hid (W2.drewN nq = W) := ⟨_, Lib.hid rfl⟩
  have HBD := Lib.hid (show Below W2.heap.size W2 W3 by rw [← HW3.out]; exact drewN_below _ _)
  have HX3 := Lib.hid (HX2.out.below HBD.out HX2.out.lt)
  have HG3 := Lib.hid (HG2.out.below HBD.out HG2.out.lt)
  have HY3 := Lib.hid (HY2.out.below HBD.out HY2.out.lt)
  have HB3 := Lib.hid (HB2.out.trans (HBD.out.mono HB2.out.size))
  rw [HW3.out]
  clear HW3 HX2 HG2 HY2 HB2 HBD x0 x1 fa
  have HE := Lib.hid (show PE w.heap.size Y g a b a p h W3 by
    obtain ⟨p0, p1, p2⟩ := nv_pl hN.out ha
    rw [HP.out] at p0 p1 p2
    exact ⟨HX3.out.cell 0, HX3.out.cell 1, (HG3.out.cell _).trans p0, (HG3.out.cell _).trans p1, (HG3.out.cell _).trans p2, HY3.out.cell 0, HY3.out.cell 1, HY3.out.cell 2, HX3.out.lt, HY3.out.lt, HG3.out.lt, by omega, hYg⟩)
  clear HX3 HY3 HP HH hok
  refine wp_region_held_drew (S := (fun v => v.cell? ⟨w.heap.size, 0, none⟩ = some (.int .i64 (b : Int)) ∧ v.cell? ⟨w.heap.size, 1, none⟩ = some (.int .i64 (a : Int)) ∧ v.cell? ⟨g, 8 + a * 3, none⟩ = some (.int .i64 p.east) ∧ v.cell? ⟨g, 8 + a * 3 + 1, none⟩ = some (.int .i64 p.north) ∧ v.cell? ⟨g, 8 + a * 3 + 2, none⟩ = some (.int .i64 p.up) ∧ v.cell? ⟨Y, 0, none⟩ = some (.int .i64 h.east) ∧ v.cell? ⟨Y, 1, none⟩ = some (.int .i64 h.north) ∧ v.cell? ⟨Y, 2, none⟩ = some (.int .i64 h.up) ∧ PE w.heap.size Y g a b a p h v)) (by kernel_rfl) ?_ (fun hHeld => ?_)
  · exact (HE.out.step (Below.refl _ _).drew).mk9
  refine' wpAnyH_take (i := 0) (v := ?vr2_0) rfl (by kernel_rfl) (by kernel_rfl) (by kernel_rfl) (fun _ _ _ h => h) (Or.inl ⟨by rfl, ?hyr2_0⟩) (by assumption) ?restr2_0
  case hyr2_0 => (intro w hSw; (try dsimp only at hSw); go_simp; try (with_reducible rfl))
  simp only [Act.put, List.getElem_toArray, List.getElem_cons_succ, List.getElem_cons_zero, List.setIfInBounds_toArray, List.set_cons_zero, List.set_cons_succ]
  refine' wpAnyH_take (i := 1) (v := ?vr2_1) rfl (by kernel_rfl) (by kernel_rfl) (by kernel_rfl) (fun _ _ _ h => h) (Or.inl ⟨by rfl, ?hyr2_1⟩) (by assumption) ?restr2_1
  case hyr2_1 => (intro w hSw; (try dsimp only at hSw); go_simp; try (with_reducible rfl))
  simp only [Act.put, List.getElem_toArray, List.getElem_cons_succ, List.getElem_cons_zero, List.setIfInBounds_toArray, List.set_cons_zero, List.set_cons_succ]
  refine' wpAnyH_take (i := 2) (v := ?vr2_2) rfl (by kernel_rfl) (by kernel_rfl) (by kernel_rfl) (fun _ _ _ h => h) (Or.inl ⟨by rfl, ?hyr2_2⟩) (by assumption) ?restr2_2
  case hyr2_2 => (intro w hSw; (try dsimp only at hSw); go_simp; try (with_reducible rfl))
  simp only [Act.put, List.getElem_toArray, List.getElem_cons_succ, List.getElem_cons_zero, List.setIfInBounds_toArray, List.set_cons_zero, List.set_cons_succ]
  refine' wpAnyH_take (i := 3) (v := ?vr2_3) rfl (by kernel_rfl) (by kernel_rfl) (by kernel_rfl) (fun _ _ _ h => h) (Or.inl ⟨by rfl, ?hyr2_3⟩) (by assumption) ?restr2_3
  case hyr2_3 => (intro w hSw; (try dsimp only at hSw); go_simp; try (with_reducible rfl))
  simp only [Act.put, List.getElem_toArray, List.getElem_cons_succ, List.getElem_cons_zero, List.setIfInBounds_toArray, List.set_cons_zero, List.set_cons_succ]
  refine' wpAnyH_take (i := 4) (v := ?vr2_4) rfl (by kernel_rfl) (by kernel_rfl) (by kernel_rfl) (fun _ _ _ h => h) (Or.inl ⟨by rfl, ?hyr2_4⟩) (by assumption) ?restr2_4
  case hyr2_4 => (intro w hSw; (try dsimp only at hSw); go_simp; try (with_reducible rfl))
  simp only [Act.put, List.getElem_toArray, List.getElem_cons_succ, List.getElem_cons_zero, List.setIfInBounds_toArray, List.set_cons_zero, List.set_cons_succ]
  refine' wpAnyH_take (i := 5) (v := ?vr2_5) rfl (by kernel_rfl) (by kernel_rfl) (by kernel_rfl) (fun _ _ _ h => h) (Or.inl ⟨by rfl, ?hyr2_5⟩) (by assumption) ?restr2_5
  case hyr2_5 => (intro w hSw; (try dsimp only at hSw); go_simp; try (with_reducible rfl))
  simp only [Act.put, List.getElem_toArray, List.getElem_cons_succ, List.getElem_cons_zero, List.setIfInBounds_toArray, List.set_cons_zero, List.set_cons_succ]
  refine' wpAnyH_take (i := 6) (v := ?vr2_6) rfl (by kernel_rfl) (by kernel_rfl) (by kernel_rfl) (fun _ _ _ h => h) (Or.inl ⟨by rfl, ?hyr2_6⟩) (by assumption) ?restr2_6
  case hyr2_6 => (intro w hSw; (try dsimp only at hSw); go_simp; try (with_reducible rfl))
  simp only [Act.put, List.getElem_toArray, List.getElem_cons_succ, List.getElem_cons_zero, List.setIfInBounds_toArray, List.set_cons_zero, List.set_cons_succ]
  refine' wpAnyH_take (i := 7) (v := ?vr2_7) rfl (by kernel_rfl) (by kernel_rfl) (by kernel_rfl) (fun _ _ _ h => h) (Or.inl ⟨by rfl, ?hyr2_7⟩) (by assumption) ?restr2_7
  case hyr2_7 => (intro w hSw; (try dsimp only at hSw); go_simp; try (with_reducible rfl))
  simp only [Act.put, List.getElem_toArray, List.getElem_cons_succ, List.getElem_cons_zero, List.setIfInBounds_toArray, List.set_cons_zero, List.set_cons_succ]
  refine' wpAnyH_take (i := 8) (v := ?vr2_8) rfl (by kernel_rfl) (by kernel_rfl) (by kernel_rfl) (fun _ _ _ h => h) (Or.inl ⟨by rfl, ?hyr2_8⟩) (by assumption) ?restr2_8
  case hyr2_8 => (intro w hSw; (try dsimp only at hSw); go_simp; try (with_reducible rfl))
  simp only [Act.put, List.getElem_toArray, List.getElem_cons_succ, List.getElem_cons_zero, List.setIfInBounds_toArray, List.set_cons_zero, List.set_cons_succ]
  refine' wpAnyH_take (i := 9) (v := ?vr2_9) rfl (by kernel_rfl) (by kernel_rfl) (by kernel_rfl) (fun _ _ _ h => h) (Or.inl ⟨by rfl, ?hyr2_9⟩) (by assumption) ?restr2_9
  case hyr2_9 => (intro w hSw; (try dsimp only at hSw); go_simp; try (with_reducible rfl))
  simp only [Act.put, List.getElem_toArray, List.getElem_cons_succ, List.getElem_cons_zero, List.setIfInBounds_toArray, List.set_cons_zero, List.set_cons_succ]
  refine' wpAnyH_take (i := 10) (v := ?vr2_10) rfl (by kernel_rfl) (by kernel_rfl) (by kernel_rfl) (fun _ _ _ h => h) (Or.inl ⟨by rfl, ?hyr2_10⟩) (by assumption) ?restr2_10
  case hyr2_10 => (intro w hSw; (try dsimp only at hSw); go_simp; try (with_reducible rfl))
  simp only [Act.put, List.getElem_toArray, List.getElem_cons_succ, List.getElem_cons_zero, List.setIfInBounds_toArray, List.set_cons_zero, List.set_cons_succ]
  refine' wpAnyH_take (i := 11) (v := ?vr2_11) rfl (by kernel_rfl) (by kernel_rfl) (by kernel_rfl) (fun _ _ _ h => h) (Or.inl ⟨by rfl, ?hyr2_11⟩) (by assumption) ?restr2_11
  case hyr2_11 => (intro w hSw; (try dsimp only at hSw); go_simp; try (with_reducible rfl))
  simp only [Act.put, List.getElem_toArray, List.getElem_cons_succ, List.getElem_cons_zero, List.setIfInBounds_toArray, List.set_cons_zero, List.set_cons_succ]
  refine' wpAnyH_take (i := 12) (v := ?vr2_12) rfl (by kernel_rfl) (by kernel_rfl) (by kernel_rfl) (fun _ _ _ h => h) (Or.inl ⟨by rfl, ?hyr2_12⟩) (by assumption) ?restr2_12
  case hyr2_12 => (intro w hSw; (try dsimp only at hSw); go_simp; try (with_reducible rfl))
  simp only [Act.put, List.getElem_toArray, List.getElem_cons_succ, List.getElem_cons_zero, List.setIfInBounds_toArray, List.set_cons_zero, List.set_cons_succ]
  refine' wpAnyH_take (i := 13) (v := ?vr2_13) rfl (by kernel_rfl) (by kernel_rfl) (by kernel_rfl) (fun _ _ _ h => h) (Or.inl ⟨by rfl, ?hyr2_13⟩) (by assumption) ?restr2_13
  case hyr2_13 => (intro w hSw; (try dsimp only at hSw); go_simp; try (with_reducible rfl))
  simp only [Act.put, List.getElem_toArray, List.getElem_cons_succ, List.getElem_cons_zero, List.setIfInBounds_toArray, List.set_cons_zero, List.set_cons_succ]
  refine' wpAnyH_take (i := 15) (v := ?vr2_15) rfl (by kernel_rfl) (by kernel_rfl) (by kernel_rfl) (fun _ _ _ h => h) (Or.inl ⟨by rfl, ?hyr2_15⟩) (by assumption) ?restr2_15
  case hyr2_15 => (intro w hSw; (try dsimp only at hSw); go_simp; try (with_reducible rfl))
  simp only [Act.put, List.getElem_toArray, List.getElem_cons_succ, List.getElem_cons_zero, List.setIfInBounds_toArray, List.set_cons_zero, List.set_cons_succ]
  refine' wpAnyH_take (i := 16) (v := ?vr2_16) rfl (by kernel_rfl) (by kernel_rfl) (by kernel_rfl) (fun _ _ _ h => h) (Or.inl ⟨by rfl, ?hyr2_16⟩) (by assumption) ?restr2_16
  case hyr2_16 => (intro w hSw; (try dsimp only at hSw); go_simp; try (with_reducible rfl))
  simp only [Act.put, List.getElem_toArray, List.getElem_cons_succ, List.getElem_cons_zero, List.setIfInBounds_toArray, List.set_cons_zero, List.set_cons_succ]
  refine' wpAnyH_take (i := 19) (v := ?vr2_19) rfl (by kernel_rfl) (by kernel_rfl) (by kernel_rfl) (fun _ _ _ h => h) (Or.inl ⟨by rfl, ?hyr2_19⟩) (by assumption) ?restr2_19
  case hyr2_19 => (intro w hSw; (try dsimp only at hSw); go_simp; try (with_reducible rfl))
  simp only [Act.put, List.getElem_toArray, List.getElem_cons_succ, List.getElem_cons_zero, List.setIfInBounds_toArray, List.set_cons_zero, List.set_cons_succ]
  refine' wpAnyH_take (i := 20) (v := ?vr2_20) rfl (by kernel_rfl) (by kernel_rfl) (by kernel_rfl) (fun _ _ _ h => h) (Or.inl ⟨by rfl, ?hyr2_20⟩) (by assumption) ?restr2_20
  case hyr2_20 => (intro w hSw; (try dsimp only at hSw); go_simp; try (with_reducible rfl))
  simp only [Act.put, List.getElem_toArray, List.getElem_cons_succ, List.getElem_cons_zero, List.setIfInBounds_toArray, List.set_cons_zero, List.set_cons_succ]
  refine wpAnyH_ready (rs := [14]) (by kernel_rfl) (by simp) ?_
  refine AllReadyH.cons rfl (fun K hK => ?_) AllReadyH.nil
  go_simp
  refine (diff_q p h c HC _ HPB HHB).mono ?_
  rintro e w4 ⟨rfl, b4⟩
  have HG4 := Lib.hid (HG3.out.drew.below b4 HG3.out.lt)
  have HB4 := Lib.hid (HB3.out.drew.trans (b4.mono HB3.out.size))
  refine hK.out _ _ ((hHeld.2.2.2.2.2.2.2.2.step b4).mk9) (fun hHeld1 => ?_)
  clear hK K hHeld
  have hHeld := hHeld1
  clear hHeld1
  try simp only [Act.put, List.getElem_toArray, List.getElem_cons_succ, List.getElem_cons_zero, List.setIfInBounds_toArray, List.set_cons_zero, List.set_cons_succ]
  clear b4 HG3 HB3 HE
  obtain ⟨y, k0⟩ : ∃ y, w4.cell? ⟨g, b, none⟩ = some y := ⟨_, (HG4.out.cell _).trans (nv_ps hb)⟩
  have f0 := HG4.out.frozen b
  have hg4 := HG4.out.lt
  refine' wpAnyH_take (i := 17) (v := ?vr2_17) rfl (by kernel_rfl) (by kernel_rfl) (by kernel_rfl) (fun _ _ _ h => h) (Or.inl ⟨by rfl, ?hyr2_17⟩) (by assumption) ?restr2_17
  case hyr2_17 => (intro w hSw; (try dsimp only at hSw); go_simp; try (with_reducible rfl))
  simp only [Act.put, List.getElem_toArray, List.getElem_cons_succ, List.getElem_cons_zero, List.setIfInBounds_toArray, List.set_cons_zero, List.set_cons_succ]
  refine wpAnyH_ready (rs := [18]) (by kernel_rfl) (by simp) ?_
  refine AllReadyH.cons rfl (fun K hK => ?_) AllReadyH.nil
  go_simp
  refine hK.out _ _ ((hHeld.2.2.2.2.2.2.2.2.set (o := b) (.inl (by omega)) _).mk9) (fun hHeld1 => ?_)
  clear hK K hHeld
  have hHeld := hHeld1
  clear hHeld1
  try simp only [Act.put, List.getElem_toArray, List.getElem_cons_succ, List.getElem_cons_zero, List.setIfInBounds_toArray, List.set_cons_zero, List.set_cons_succ]
  clear k0 f0 hg4
  obtain ⟨W5, HW5⟩ : ∃ W, Hid (w4.setCell ⟨g, b, none⟩ (.bool true) = W) := ⟨_, Lib.hid rfl⟩
  have HG5 := Lib.hid (show Blk W5 g 76 (nv ⟨s.pl, put s.ps (b : Int), s.tr⟩ cl) by rw [← HW5.out, ← nv_set_ps hb]; exact HG4.out.set_ b _)
  have HR5 := Lib.hid (show w.grownBy W5 (some g) by rw [← HW5.out]; exact base.grown_set (grown_of HB4.out _) _ _)
  rw [HW5.out] at hHeld ⊢
  clear HW5 HG4 HB4
  have HN5 := Lib.hid (show NOk ⟨s.pl, put s.ps (b : Int), s.tr⟩ cl from hN.out)
  obtain ⟨y0, k0⟩ : ∃ y, W5.cell? ⟨g, 8 + b * 3, none⟩ = some y := ⟨_, (HG5.out.cell _).trans (nv_pl HN5.out hb).1⟩
  obtain ⟨y1, k1⟩ : ∃ y, W5.cell? ⟨g, 8 + b * 3 + 1, none⟩ = some y := ⟨_, (HG5.out.cell _).trans (nv_pl HN5.out hb).2.1⟩
  obtain ⟨y2, k2⟩ : ∃ y, W5.cell? ⟨g, 8 + b * 3 + 2, none⟩ = some y := ⟨_, (HG5.out.cell _).trans (nv_pl HN5.out hb).2.2⟩
  have f0 := HG5.out.frozen (8 + b * 3)
  have f1 := HG5.out.frozen (8 + b * 3 + 1)
  have f2 := HG5.out.frozen (8 + b * 3 + 2)
  have hg5 := HG5.out.lt
  refine' wpAnyH_take (i := 21) (v := ?vr2_21) rfl (by kernel_rfl) (by kernel_rfl) (by kernel_rfl) (fun _ _ _ h => h) (Or.inl ⟨by rfl, ?hyr2_21⟩) (by assumption) ?restr2_21
  case hyr2_21 => (intro w hSw; (try dsimp only at hSw); go_simp; try (with_reducible rfl))
  simp only [Act.put, List.getElem_toArray, List.getElem_cons_succ, List.getElem_cons_zero, List.setIfInBounds_toArray, List.set_cons_zero, List.set_cons_succ]
  refine wpAnyH_ready (rs := [22]) (by kernel_rfl) (by simp) ?_
  refine AllReadyH.cons rfl (fun K hK => ?_) AllReadyH.nil
  go_simp
  refine hK.out _ _ ((((hHeld.2.2.2.2.2.2.2.2.set (o := 8 + b * 3) (by omega) _).set (o := 8 + b * 3 + 1) (by omega) _).set (o := 8 + b * 3 + 2) (by omega) _).mk9) (fun hHeld1 => ?_)
  clear hK K hHeld
  have hHeld := hHeld1
  clear hHeld1
  try simp only [Act.put, List.getElem_toArray, List.getElem_cons_succ, List.getElem_cons_zero, List.setIfInBounds_toArray, List.set_cons_zero, List.set_cons_succ]
  refine wpAnyH_done (by kernel_rfl) ?_ _
  clear hHeld k0 k1 k2 f0 f1 f2 hg5
  have HG6 := Lib.hid (show Blk (((W5.setCell ⟨g, 8 + b * 3, none⟩ (.int .i64 c.east)).setCell ⟨g, 8 + b * 3 + 1, none⟩ (.int .i64 c.north)).setCell ⟨g, 8 + b * 3 + 2, none⟩ (.int .i64 c.up)) g 76 (nv ⟨s.pl.set b c, put s.ps (b : Int), s.tr⟩ cl) by
    have h := ((HG5.out.set_ (8 + b * 3) (.int .i64 c.east)).set_ (8 + b * 3 + 1) (.int .i64 c.north)).set_ (8 + b * 3 + 2) (.int .i64 c.up)
    rwa [nv_set_pl HN5.out hb c] at h)
  have HR6 := Lib.hid (base.grown_set (base.grown_set (base.grown_set HR5.out (8 + b * 3) (.int .i64 c.east)) (8 + b * 3 + 1) (.int .i64 c.north)) (8 + b * 3 + 2) (.int .i64 c.up))
  go_wp2_with fail
  refine bodyPost_ret (v := .tuple #[]) (by simp [results, Tryz.results125, go_sem]) rfl ⟨rfl, HG6.out, HR6.out⟩
end Go.Proofs.YtnpghhpcloljeabGreatDoor.nq
