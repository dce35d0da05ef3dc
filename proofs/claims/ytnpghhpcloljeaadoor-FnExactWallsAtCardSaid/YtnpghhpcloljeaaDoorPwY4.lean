/-
  The comparison of four shifts with themselves.
  Conditions: the passages lie in one block, at most 2000000 of them.
-/
import Derived.Test.YtnpghhpcloljeaaDoorPwY0
import Derived.Test.YtnpghhpcloljeaaDoorTySft
import Derived.BigQuiet
import Derived.Deep.QuietTactic
import Derived.Deep.Cut
import Derived.Deep.DeepCutAuto
import Derived.RegionTactic
import Derived.Deep.RegionWith
import Derived.OwnWalk
import Derived.Deep.RegionHeld3
namespace Go.Proofs.YtnpghhpcloljeaaDoor.pw
open Go.RowKit
open reads base ty rowi win inn lg
set_option linter.unusedVariables false
set_option linter.unusedSimpArgs false

/-- what the rounds keep: both boxes, and all below the entry -/
def EQ4 (w : World) (y : Wl) (v : World) : Prop := Blk v w.heap.size 28 #[.int .i64 y.a.east, .int .i64 y.a.north, .int .i64 y.a.up, .int .i64 y.b.east, .int .i64 y.b.north, .int .i64 y.b.up, .int .i64 y.c.east, .int .i64 y.c.north, .int .i64 y.c.up, .int .i64 y.d.east, .int .i64 y.d.north, .int .i64 y.d.up] ∧ Blk v (w.heap.size + 1) 28 #[.int .i64 y.a.east, .int .i64 y.a.north, .int .i64 y.a.up, .int .i64 y.b.east, .int .i64 y.b.north, .int .i64 y.b.up, .int .i64 y.c.east, .int .i64 y.c.north, .int .i64 y.c.up, .int .i64 y.d.east, .int .i64 y.d.north, .int .i64 y.d.up] ∧ Below w.heap.size w v
theorem EQ4.step {w v v' : World} {y : Wl} (h : EQ4 w y v) (b : Below v.heap.size v v') : EQ4 w y v' := ⟨h.1.below b h.1.lt, h.2.1.below b h.2.1.lt, h.2.2.trans (b.mono h.2.2.size)⟩
theorem EQ4.drew {w v : World} {y : Wl} (h : EQ4 w y v) : EQ4 w y v.drew := h.step (drewN_below _ 1)
theorem e4_mk0 {w v : World} {y : Wl} (h : EQ4 w y v) : v.cell? ⟨w.heap.size, 0, none⟩ = some (.int .i64 y.a.east) ∧ v.cell? ⟨w.heap.size, 1, none⟩ = some (.int .i64 y.a.north) ∧ v.cell? ⟨w.heap.size, 2, none⟩ = some (.int .i64 y.a.up) ∧ v.cell? ⟨w.heap.size + 1, 0, none⟩ = some (.int .i64 y.a.east) ∧ v.cell? ⟨w.heap.size + 1, 1, none⟩ = some (.int .i64 y.a.north) ∧ v.cell? ⟨w.heap.size + 1, 2, none⟩ = some (.int .i64 y.a.up) ∧ (w.heap.size < v.heap.size ∧ w.heap.size + 1 < v.heap.size) ∧ EQ4 w y v :=
  ⟨(by simpa using h.1.cell 0), (by simpa using h.1.cell 1), (by simpa using h.1.cell 2), (by simpa using h.2.1.cell 0), (by simpa using h.2.1.cell 1), (by simpa using h.2.1.cell 2), ⟨h.1.lt, h.2.1.lt⟩, h⟩
theorem e4_mk1 {w v : World} {y : Wl} (h : EQ4 w y v) : v.cell? ⟨w.heap.size, 3, none⟩ = some (.int .i64 y.b.east) ∧ v.cell? ⟨w.heap.size, 4, none⟩ = some (.int .i64 y.b.north) ∧ v.cell? ⟨w.heap.size, 5, none⟩ = some (.int .i64 y.b.up) ∧ v.cell? ⟨w.heap.size + 1, 3, none⟩ = some (.int .i64 y.b.east) ∧ v.cell? ⟨w.heap.size + 1, 4, none⟩ = some (.int .i64 y.b.north) ∧ v.cell? ⟨w.heap.size + 1, 5, none⟩ = some (.int .i64 y.b.up) ∧ (w.heap.size < v.heap.size ∧ w.heap.size + 1 < v.heap.size) ∧ EQ4 w y v :=
  ⟨(by simpa using h.1.cell 3), (by simpa using h.1.cell 4), (by simpa using h.1.cell 5), (by simpa using h.2.1.cell 3), (by simpa using h.2.1.cell 4), (by simpa using h.2.1.cell 5), ⟨h.1.lt, h.2.1.lt⟩, h⟩
theorem e4_mk2 {w v : World} {y : Wl} (h : EQ4 w y v) : v.cell? ⟨w.heap.size, 6, none⟩ = some (.int .i64 y.c.east) ∧ v.cell? ⟨w.heap.size, 7, none⟩ = some (.int .i64 y.c.north) ∧ v.cell? ⟨w.heap.size, 8, none⟩ = some (.int .i64 y.c.up) ∧ v.cell? ⟨w.heap.size + 1, 6, none⟩ = some (.int .i64 y.c.east) ∧ v.cell? ⟨w.heap.size + 1, 7, none⟩ = some (.int .i64 y.c.north) ∧ v.cell? ⟨w.heap.size + 1, 8, none⟩ = some (.int .i64 y.c.up) ∧ (w.heap.size < v.heap.size ∧ w.heap.size + 1 < v.heap.size) ∧ EQ4 w y v :=
  ⟨(by simpa using h.1.cell 6), (by simpa using h.1.cell 7), (by simpa using h.1.cell 8), (by simpa using h.2.1.cell 6), (by simpa using h.2.1.cell 7), (by simpa using h.2.1.cell 8), ⟨h.1.lt, h.2.1.lt⟩, h⟩
theorem e4_mk3 {w v : World} {y : Wl} (h : EQ4 w y v) : v.cell? ⟨w.heap.size, 9, none⟩ = some (.int .i64 y.d.east) ∧ v.cell? ⟨w.heap.size, 10, none⟩ = some (.int .i64 y.d.north) ∧ v.cell? ⟨w.heap.size, 11, none⟩ = some (.int .i64 y.d.up) ∧ v.cell? ⟨w.heap.size + 1, 9, none⟩ = some (.int .i64 y.d.east) ∧ v.cell? ⟨w.heap.size + 1, 10, none⟩ = some (.int .i64 y.d.north) ∧ v.cell? ⟨w.heap.size + 1, 11, none⟩ = some (.int .i64 y.d.up) ∧ (w.heap.size < v.heap.size ∧ w.heap.size + 1 < v.heap.size) ∧ EQ4 w y v :=
  ⟨(by simpa using h.1.cell 9), (by simpa using h.1.cell 10), (by simpa using h.1.cell 11), (by simpa using h.2.1.cell 9), (by simpa using h.2.1.cell 10), (by simpa using h.2.1.cell 11), ⟨h.1.lt, h.2.1.lt⟩, h⟩
set_option maxHeartbeats 8000000 in
set_option maxRecDepth 100000 in
theorem eq_shiftA4 (y : Wl) (w : World) : Calls Tryd.prog 10 #[.agg #[.int .i64 y.a.east, .int .i64 y.a.north, .int .i64 y.a.up, .int .i64 y.b.east, .int .i64 y.b.north, .int .i64 y.b.up, .int .i64 y.c.east, .int .i64 y.c.north, .int .i64 y.c.up, .int .i64 y.d.east, .int .i64 y.d.north, .int .i64 y.d.up], .agg #[.int .i64 y.a.east, .int .i64 y.a.north, .int .i64 y.a.up, .int .i64 y.b.east, .int .i64 y.b.north, .int .i64 y.b.up, .int .i64 y.c.east, .int .i64 y.c.north, .int .i64 y.c.up, .int .i64 y.d.east, .int .i64 y.d.north, .int .i64 y.d.up]] w fun e w' => e = .returned (.bool true) ∧ Below w.heap.size w w' := by
  go_enter Tryd.func10, Tryd.ntmps10
  go_upto_region 1 with fail
  obtain ⟨V, HV⟩ : ∃ V, Hid ((w.alloc (.cells #[.int .i64 y.a.east, .int .i64 y.a.north, .int .i64 y.a.up, .int .i64 y.b.east, .int .i64 y.b.north, .int .i64 y.b.up, .int .i64 y.c.east, .int .i64 y.c.north, .int .i64 y.c.up, .int .i64 y.d.east, .int .i64 y.d.north, .int .i64 y.d.up] 28)).alloc (.cells #[.int .i64 y.a.east, .int .i64 y.a.north, .int .i64 y.a.up, .int .i64 y.b.east, .int .i64 y.b.north, .int .i64 y.b.up, .int .i64 y.c.east, .int .i64 y.c.north, .int .i64 y.c.up, .int .i64 y.d.east, .int .i64 y.d.north, .int .i64 y.d.up] 28) = V) := ⟨_, Lib.hid rfl⟩
  have HQ := Lib.hid (show EQ4 w y V by rw [← HV.out]; exact ⟨(Blk.new _ _ _).alloc _, (by have h := Blk.new (w.alloc (.cells #[.int .i64 y.a.east, .int .i64 y.a.north, .int .i64 y.a.up, .int .i64 y.b.east, .int .i64 y.b.north, .int .i64 y.b.up, .int .i64 y.c.east, .int .i64 y.c.north, .int .i64 y.c.up, .int .i64 y.d.east, .int .i64 y.d.north, .int .i64 y.d.up] 28)) 28 #[.int .i64 y.a.east, .int .i64 y.a.north, .int .i64 y.a.up, .int .i64 y.b.east, .int .i64 y.b.north, .int .i64 y.b.up, .int .i64 y.c.east, .int .i64 y.c.north, .int .i64 y.c.up, .int .i64 y.d.east, .int .i64 y.d.north, .int .i64 y.d.up]; simpa using h), ((Below.refl _ _).alloc (Nat.le_refl _) _).alloc (by simp) _⟩)
  rw [HV.out]
  clear HV
  go_wp2_with fail
  go_loopw [5] (fun i wr => ∃ k : Nat, k ≤ 4 ∧ i = .int .i64 (k : Nat) ∧ EQ4 w y wr) (fun i _ => 4 - (intOf i).toNat)
  case atStart => exact ⟨0, by omega, rfl, HQ.out⟩
  case round =>
    clear HQ
    obtain ⟨k, hk, rfl, hQ⟩ := hrel
    have HQ := Lib.hid hQ
    clear hQ
    have hk5 : k = 0 ∨ k = 1 ∨ k = 2 ∨ k = 3 ∨ k = 4 := by omega
    rcases hk5 with rfl | rfl | rfl | rfl | rfl
    · go_wp2_with fail
      refine wp_region_held_drew (S := (fun v : World => v.cell? ⟨w.heap.size, 0, none⟩ = some (.int .i64 y.a.east) ∧ v.cell? ⟨w.heap.size, 1, none⟩ = some (.int .i64 y.a.north) ∧ v.cell? ⟨w.heap.size, 2, none⟩ = some (.int .i64 y.a.up) ∧ v.cell? ⟨w.heap.size + 1, 0, none⟩ = some (.int .i64 y.a.east) ∧ v.cell? ⟨w.heap.size + 1, 1, none⟩ = some (.int .i64 y.a.north) ∧ v.cell? ⟨w.heap.size + 1, 2, none⟩ = some (.int .i64 y.a.up) ∧ (w.heap.size < v.heap.size ∧ w.heap.size + 1 < v.heap.size) ∧ EQ4 w y v)) (by kernel_rfl) ?_ (fun hHeld => ?_)
      · exact e4_mk0 (HQ.out.drew)
      refine' wpAnyH_take (i := 0) (v := ?vr1_0) rfl (by kernel_rfl) (by kernel_rfl) (by kernel_rfl) (fun _ _ _ h => h) (Or.inl ⟨by rfl, ?hyr1_0⟩) (by assumption) ?restr1_0
      case hyr1_0 => (intro w hSw; (try dsimp only at hSw); go_simp; try (with_reducible rfl))
      simp only [Act.put, List.getElem_toArray, List.getElem_cons_succ, List.getElem_cons_zero, List.setIfInBounds_toArray, List.set_cons_zero, List.set_cons_succ]
      refine' wpAnyH_take (i := 1) (v := ?vr1_1) rfl (by kernel_rfl) (by kernel_rfl) (by kernel_rfl) (fun _ _ _ h => h) (Or.inl ⟨by rfl, ?hyr1_1⟩) (by assumption) ?restr1_1
      case hyr1_1 => (intro w hSw; (try dsimp only at hSw); go_simp; try (with_reducible rfl))
      simp only [Act.put, List.getElem_toArray, List.getElem_cons_succ, List.getElem_cons_zero, List.setIfInBounds_toArray, List.set_cons_zero, List.set_cons_succ]
      refine' wpAnyH_take (i := 2) (v := ?vr1_2) rfl (by kernel_rfl) (by kernel_rfl) (by kernel_rfl) (fun _ _ _ h => h) (Or.inl ⟨by rfl, ?hyr1_2⟩) (by assumption) ?restr1_2
      case hyr1_2 => (intro w hSw; (try dsimp only at hSw); go_simp; try (with_reducible rfl))
      simp only [Act.put, List.getElem_toArray, List.getElem_cons_succ, List.getElem_cons_zero, List.setIfInBounds_toArray, List.set_cons_zero, List.set_cons_succ]
      refine' wpAnyH_take (i := 3) (v := ?vr1_3) rfl (by kernel_rfl) (by kernel_rfl) (by kernel_rfl) (fun _ _ _ h => h) (Or.inl ⟨by rfl, ?hyr1_3⟩) (by assumption) ?restr1_3
      case hyr1_3 => (intro w hSw; (try dsimp only at hSw); go_simp; try (with_reducible rfl))
      simp only [Act.put, List.getElem_toArray, List.getElem_cons_succ, List.getElem_cons_zero, List.setIfInBounds_toArray, List.set_cons_zero, List.set_cons_succ]
      refine' wpAnyH_take (i := 4) (v := ?vr1_4) rfl (by kernel_rfl) (by kernel_rfl) (by kernel_rfl) (fun _ _ _ h => h) (Or.inl ⟨by rfl, ?hyr1_4⟩) (by assumption) ?restr1_4
      case hyr1_4 => (intro w hSw; (try dsimp only at hSw); go_simp; try (with_reducible rfl))
      simp only [Act.put, List.getElem_toArray, List.getElem_cons_succ, List.getElem_cons_zero, List.setIfInBounds_toArray, List.set_cons_zero, List.set_cons_succ]
      refine' wpAnyH_take (i := 5) (v := ?vr1_5) rfl (by kernel_rfl) (by kernel_rfl) (by kernel_rfl) (fun _ _ _ h => h) (Or.inl ⟨by rfl, ?hyr1_5⟩) (by assumption) ?restr1_5
      case hyr1_5 => (intro w hSw; (try dsimp only at hSw); go_simp; try (with_reducible rfl))
      simp only [Act.put, List.getElem_toArray, List.getElem_cons_succ, List.getElem_cons_zero, List.setIfInBounds_toArray, List.set_cons_zero, List.set_cons_succ]
      refine wpAnyH_ready (rs := [6]) (by kernel_rfl) (by simp) ?_
      refine AllReadyH.cons rfl (fun K hK => ?_) AllReadyH.nil
      go_simp
      refine (eq_shift y.a _).mono ?_
      rintro e v1 ⟨rfl, b1⟩
      refine hK.out _ _ (e4_mk0 (hHeld.2.2.2.2.2.2.2.step b1)) (fun hHeld1 => ?_)
      clear hK K hHeld
      have hHeld := hHeld1
      clear hHeld1
      try simp only [Act.put, List.getElem_toArray, List.getElem_cons_succ, List.getElem_cons_zero, List.setIfInBounds_toArray, List.set_cons_zero, List.set_cons_succ]
      refine' wpAnyH_take (i := 7) (v := ?vr1_7) rfl (by kernel_rfl) (by kernel_rfl) (by kernel_rfl) (fun _ _ _ h => h) (Or.inl ⟨by rfl, ?hyr1_7⟩) (by assumption) ?restr1_7
      case hyr1_7 => (intro w hSw; (try dsimp only at hSw); go_simp; try (with_reducible rfl))
      simp only [Act.put, List.getElem_toArray, List.getElem_cons_succ, List.getElem_cons_zero, List.setIfInBounds_toArray, List.set_cons_zero, List.set_cons_succ]
      refine wpAnyH_done (by kernel_rfl) ?_ _
      have HQ2 := Lib.hid hHeld.2.2.2.2.2.2.2
      clear hHeld HQ
      go_wp2_with fail
      go_roundw
      case rel => exact ⟨1, by omega, by go_num, HQ2.out⟩
      case measure => simp [intOf]
    · go_wp2_with fail
      refine wp_region_held_drew (S := (fun v : World => v.cell? ⟨w.heap.size, 3, none⟩ = some (.int .i64 y.b.east) ∧ v.cell? ⟨w.heap.size, 4, none⟩ = some (.int .i64 y.b.north) ∧ v.cell? ⟨w.heap.size, 5, none⟩ = some (.int .i64 y.b.up) ∧ v.cell? ⟨w.heap.size + 1, 3, none⟩ = some (.int .i64 y.b.east) ∧ v.cell? ⟨w.heap.size + 1, 4, none⟩ = some (.int .i64 y.b.north) ∧ v.cell? ⟨w.heap.size + 1, 5, none⟩ = some (.int .i64 y.b.up) ∧ (w.heap.size < v.heap.size ∧ w.heap.size + 1 < v.heap.size) ∧ EQ4 w y v)) (by kernel_rfl) ?_ (fun hHeld => ?_)
      · exact e4_mk1 (HQ.out.drew)
      refine' wpAnyH_take (i := 0) (v := ?vr2_0) rfl (by kernel_rfl) (by kernel_rfl) (by kernel_rfl) (fun _ _ _ h => h) (Or.inl ⟨by rfl, ?hyr2_0⟩) (by assumption) ?restr2_0
      case hyr2_0 => (intro w hSw; (try dsimp only at hSw); go_simp; try (with_reducible rfl))
      simp only [Act.put, List.getElem_toArray, List.getElem_cons_succ, List.getElem_cons_zero, List.setIfInBounds_toArray, List.set_cons_zero, List.set_cons_succ]
      refine' wpAnyH_take (i := 1) (v := ?vr2_1) rfl (by kernel_rfl) (by kernel_rfl) (by kernel_rfl) (fun _ _ _ h => h) (Or.inl ⟨by rfl, ?hyr2_1⟩) (by assumption) ?restr2_1
      case hyr2_1 => (intro w hSw; (try dsimp only at hSw); go_simp; try (with_reducible rfl))
      simp only [Act.put, List.getElem_toArray, List.getElem_cons_succ, List.getElem_cons_zero, List.setIfInBounds_toArray, List.set_cons_zero, List.set_cons_succ]
      refine' wpAnyH_take (i := 2) (v := ?vr2_2) rfl (by kernel_rfl) (by kernel_rfl) (by kernel_rfl) (fun _ _ _ h => h) (Or.inl ⟨by rfl, ?hyr2_2⟩) (by assumption) ?restr2_2
      case hyr2_2 => (intro w hSw; (try dsimp only at hSw); go_simp; try (with_reducible rfl))
      simp only [Act.put, List.getElem_toArray, List.getElem_cons_succ, List.getElem_cons_zero, List.setIfInBounds_toArray, List.set_cons_zero, List.set_cons_succ]
      refine' wpAnyH_take (i := 3) (v := ?vr2_3) rfl (by kernel_rfl) (by kernel_rfl) (by kernel_rfl) (fun _ _ _ h => h) (Or.inl ⟨by rfl, ?hyr2_3⟩) (by assumption) ?restr2_3
      case hyr2_3 => (intro w hSw; (try dsimp only at hSw); go_simp; try (with_reducible rfl))
      simp only [Act.put, List.getElem_toArray, List.getElem_cons_succ, List.getElem_cons_zero, List.setIfInBounds_toArray, List.set_cons_zero, List.set_cons_succ]
      refine' wpAnyH_take (i := 4) (v := ?vr2_4) rfl (by kernel_rfl) (by kernel_rfl) (by kernel_rfl) (fun _ _ _ h => h) (Or.inl ⟨by rfl, ?hyr2_4⟩) (by assumption) ?restr2_4
      case hyr2_4 => (intro w hSw; (try dsimp only at hSw); go_simp; try (with_reducible rfl))
      simp only [Act.put, List.getElem_toArray, List.getElem_cons_succ, List.getElem_cons_zero, List.setIfInBounds_toArray, List.set_cons_zero, List.set_cons_succ]
      refine' wpAnyH_take (i := 5) (v := ?vr2_5) rfl (by kernel_rfl) (by kernel_rfl) (by kernel_rfl) (fun _ _ _ h => h) (Or.inl ⟨by rfl, ?hyr2_5⟩) (by assumption) ?restr2_5
      case hyr2_5 => (intro w hSw; (try dsimp only at hSw); go_simp; try (with_reducible rfl))
      simp only [Act.put, List.getElem_toArray, List.getElem_cons_succ, List.getElem_cons_zero, List.setIfInBounds_toArray, List.set_cons_zero, List.set_cons_succ]
      refine wpAnyH_ready (rs := [6]) (by kernel_rfl) (by simp) ?_
      refine AllReadyH.cons rfl (fun K hK => ?_) AllReadyH.nil
      go_simp
      refine (eq_shift y.b _).mono ?_
      rintro e v1 ⟨rfl, b1⟩
      refine hK.out _ _ (e4_mk1 (hHeld.2.2.2.2.2.2.2.step b1)) (fun hHeld1 => ?_)
      clear hK K hHeld
      have hHeld := hHeld1
      clear hHeld1
      try simp only [Act.put, List.getElem_toArray, List.getElem_cons_succ, List.getElem_cons_zero, List.setIfInBounds_toArray, List.set_cons_zero, List.set_cons_succ]
      refine' wpAnyH_take (i := 7) (v := ?vr2_7) rfl (by kernel_rfl) (by kernel_rfl) (by kernel_rfl) (fun _ _ _ h => h) (Or.inl ⟨by rfl, ?hyr2_7⟩) (by assumption) ?restr2_7
      case hyr2_7 => (intro w hSw; (try dsimp only at hSw); go_simp; try (with_reducible rfl))
      simp only [Act.put, List.getElem_toArray, List.getElem_cons_succ, List.getElem_cons_zero, List.setIfInBounds_toArray, List.set_cons_zero, List.set_cons_succ]
      refine wpAnyH_done (by kernel_rfl) ?_ _
      have HQ2 := Lib.hid hHeld.2.2.2.2.2.2.2
      clear hHeld HQ
      go_wp2_with fail
      go_roundw
      case rel => exact ⟨2, by omega, by go_num, HQ2.out⟩
      case measure => simp [intOf]
    · go_wp2_with fail
      refine wp_region_held_drew (S := (fun v : World => v.cell? ⟨w.heap.size, 6, none⟩ = some (.int .i64 y.c.east) ∧ v.cell? ⟨w.heap.size, 7, none⟩ = some (.int .i64 y.c.north) ∧ v.cell? ⟨w.heap.size, 8, none⟩ = some (.int .i64 y.c.up) ∧ v.cell? ⟨w.heap.size + 1, 6, none⟩ = some (.int .i64 y.c.east) ∧ v.cell? ⟨w.heap.size + 1, 7, none⟩ = some (.int .i64 y.c.north) ∧ v.cell? ⟨w.heap.size + 1, 8, none⟩ = some (.int .i64 y.c.up) ∧ (w.heap.size < v.heap.size ∧ w.heap.size + 1 < v.heap.size) ∧ EQ4 w y v)) (by kernel_rfl) ?_ (fun hHeld => ?_)
      · exact e4_mk2 (HQ.out.drew)
      refine' wpAnyH_take (i := 0) (v := ?vr3_0) rfl (by kernel_rfl) (by kernel_rfl) (by kernel_rfl) (fun _ _ _ h => h) (Or.inl ⟨by rfl, ?hyr3_0⟩) (by assumption) ?restr3_0
      case hyr3_0 => (intro w hSw; (try dsimp only at hSw); go_simp; try (with_reducible rfl))
      simp only [Act.put, List.getElem_toArray, List.getElem_cons_succ, List.getElem_cons_zero, List.setIfInBounds_toArray, List.set_cons_zero, List.set_cons_succ]
      refine' wpAnyH_take (i := 1) (v := ?vr3_1) rfl (by kernel_rfl) (by kernel_rfl) (by kernel_rfl) (fun _ _ _ h => h) (Or.inl ⟨by rfl, ?hyr3_1⟩) (by assumption) ?restr3_1
      case hyr3_1 => (intro w hSw; (try dsimp only at hSw); go_simp; try (with_reducible rfl))
      simp only [Act.put, List.getElem_toArray, List.getElem_cons_succ, List.getElem_cons_zero, List.setIfInBounds_toArray, List.set_cons_zero, List.set_cons_succ]
      refine' wpAnyH_take (i := 2) (v := ?vr3_2) rfl (by kernel_rfl) (by kernel_rfl) (by kernel_rfl) (fun _ _ _ h => h) (Or.inl ⟨by rfl, ?hyr3_2⟩) (by assumption) ?restr3_2
      case hyr3_2 => (intro w hSw; (try dsimp only at hSw); go_simp; try (with_reducible rfl))
      simp only [Act.put, List.getElem_toArray, List.getElem_cons_succ, List.getElem_cons_zero, List.setIfInBounds_toArray, List.set_cons_zero, List.set_cons_succ]
      refine' wpAnyH_take (i := 3) (v := ?vr3_3) rfl (by kernel_rfl) (by kernel_rfl) (by kernel_rfl) (fun _ _ _ h => h) (Or.inl ⟨by rfl, ?hyr3_3⟩) (by assumption) ?restr3_3
      case hyr3_3 => (intro w hSw; (try dsimp only at hSw); go_simp; try (with_reducible rfl))
      simp only [Act.put, List.getElem_toArray, List.getElem_cons_succ, List.getElem_cons_zero, List.setIfInBounds_toArray, List.set_cons_zero, List.set_cons_succ]
      refine' wpAnyH_take (i := 4) (v := ?vr3_4) rfl (by kernel_rfl) (by kernel_rfl) (by kernel_rfl) (fun _ _ _ h => h) (Or.inl ⟨by rfl, ?hyr3_4⟩) (by assumption) ?restr3_4
      case hyr3_4 => (intro w hSw; (try dsimp only at hSw); go_simp; try (with_reducible rfl))
      simp only [Act.put, List.getElem_toArray, List.getElem_cons_succ, List.getElem_cons_zero, List.setIfInBounds_toArray, List.set_cons_zero, List.set_cons_succ]
      refine' wpAnyH_take (i := 5) (v := ?vr3_5) rfl (by kernel_rfl) (by kernel_rfl) (by kernel_rfl) (fun _ _ _ h => h) (Or.inl ⟨by rfl, ?hyr3_5⟩) (by assumption) ?restr3_5
      case hyr3_5 => (intro w hSw; (try dsimp only at hSw); go_simp; try (with_reducible rfl))
      simp only [Act.put, List.getElem_toArray, List.getElem_cons_succ, List.getElem_cons_zero, List.setIfInBounds_toArray, List.set_cons_zero, List.set_cons_succ]
      refine wpAnyH_ready (rs := [6]) (by kernel_rfl) (by simp) ?_
      refine AllReadyH.cons rfl (fun K hK => ?_) AllReadyH.nil
      go_simp
      refine (eq_shift y.c _).mono ?_
      rintro e v1 ⟨rfl, b1⟩
      refine hK.out _ _ (e4_mk2 (hHeld.2.2.2.2.2.2.2.step b1)) (fun hHeld1 => ?_)
      clear hK K hHeld
      have hHeld := hHeld1
      clear hHeld1
      try simp only [Act.put, List.getElem_toArray, List.getElem_cons_succ, List.getElem_cons_zero, List.setIfInBounds_toArray, List.set_cons_zero, List.set_cons_succ]
      refine' wpAnyH_take (i := 7) (v := ?vr3_7) rfl (by kernel_rfl) (by kernel_rfl) (by kernel_rfl) (fun _ _ _ h => h) (Or.inl ⟨by rfl, ?hyr3_7⟩) (by assumption) ?restr3_7
      case hyr3_7 => (intro w hSw; (try dsimp only at hSw); go_simp; try (with_reducible rfl))
      simp only [Act.put, List.getElem_toArray, List.getElem_cons_succ, List.getElem_cons_zero, List.setIfInBounds_toArray, List.set_cons_zero, List.set_cons_succ]
      refine wpAnyH_done (by kernel_rfl) ?_ _
      have HQ2 := Lib.hid hHeld.2.2.2.2.2.2.2
      clear hHeld HQ
      go_wp2_with fail
      go_roundw
      case rel => exact ⟨3, by omega, by go_num, HQ2.out⟩
      case measure => simp [intOf]
    · go_wp2_with fail
      refine wp_region_held_drew (S := (fun v : World => v.cell? ⟨w.heap.size, 9, none⟩ = some (.int .i64 y.d.east) ∧ v.cell? ⟨w.heap.size, 10, none⟩ = some (.int .i64 y.d.north) ∧ v.cell? ⟨w.heap.size, 11, none⟩ = some (.int .i64 y.d.up) ∧ v.cell? ⟨w.heap.size + 1, 9, none⟩ = some (.int .i64 y.d.east) ∧ v.cell? ⟨w.heap.size + 1, 10, none⟩ = some (.int .i64 y.d.north) ∧ v.cell? ⟨w.heap.size + 1, 11, none⟩ = some (.int .i64 y.d.up) ∧ (w.heap.size < v.heap.size ∧ w.heap.size + 1 < v.heap.size) ∧ EQ4 w y v)) (by kernel_rfl) ?_ (fun hHeld => ?_)
      · exact e4_mk3 (HQ.out.drew)
      refine' wpAnyH_take (i := 0) (v := ?vr4_0) rfl (by kernel_rfl) (by kernel_rfl) (by kernel_rfl) (fun _ _ _ h => h) (Or.inl ⟨by rfl, ?hyr4_0⟩) (by assumption) ?restr4_0
      case hyr4_0 => (intro w hSw; (try dsimp only at hSw); go_simp; try (with_reducible rfl))
      simp only [Act.put, List.getElem_toArray, List.getElem_cons_succ, List.getElem_cons_zero, List.setIfInBounds_toArray, List.set_cons_zero, List.set_cons_succ]
      refine' wpAnyH_take (i := 1) (v := ?vr4_1) rfl (by kernel_rfl) (by kernel_rfl) (by kernel_rfl) (fun _ _ _ h => h) (Or.inl ⟨by rfl, ?hyr4_1⟩) (by assumption) ?restr4_1
      case hyr4_1 => (intro w hSw; (try dsimp only at hSw); go_simp; try (with_reducible rfl))
      simp only [Act.put, List.getElem_toArray, List.getElem_cons_succ, List.getElem_cons_zero, List.setIfInBounds_toArray, List.set_cons_zero, List.set_cons_succ]
      refine' wpAnyH_take (i := 2) (v := ?vr4_2) rfl (by kernel_rfl) (by kernel_rfl) (by kernel_rfl) (fun _ _ _ h => h) (Or.inl ⟨by rfl, ?hyr4_2⟩) (by assumption) ?restr4_2
      case hyr4_2 => (intro w hSw; (try dsimp only at hSw); go_simp; try (with_reducible rfl))
      simp only [Act.put, List.getElem_toArray, List.getElem_cons_succ, List.getElem_cons_zero, List.setIfInBounds_toArray, List.set_cons_zero, List.set_cons_succ]
      refine' wpAnyH_take (i := 3) (v := ?vr4_3) rfl (by kernel_rfl) (by kernel_rfl) (by kernel_rfl) (fun _ _ _ h => h) (Or.inl ⟨by rfl, ?hyr4_3⟩) (by assumption) ?restr4_3
      case hyr4_3 => (intro w hSw; (try dsimp only at hSw); go_simp; try (with_reducible rfl))
      simp only [Act.put, List.getElem_toArray, List.getElem_cons_succ, List.getElem_cons_zero, List.setIfInBounds_toArray, List.set_cons_zero, List.set_cons_succ]
      refine' wpAnyH_take (i := 4) (v := ?vr4_4) rfl (by kernel_rfl) (by kernel_rfl) (by kernel_rfl) (fun _ _ _ h => h) (Or.inl ⟨by rfl, ?hyr4_4⟩) (by assumption) ?restr4_4
      case hyr4_4 => (intro w hSw; (try dsimp only at hSw); go_simp; try (with_reducible rfl))
      simp only [Act.put, List.getElem_toArray, List.getElem_cons_succ, List.getElem_cons_zero, List.setIfInBounds_toArray, List.set_cons_zero, List.set_cons_succ]
      refine' wpAnyH_take (i := 5) (v := ?vr4_5) rfl (by kernel_rfl) (by kernel_rfl) (by kernel_rfl) (fun _ _ _ h => h) (Or.inl ⟨by rfl, ?hyr4_5⟩) (by assumption) ?restr4_5
      case hyr4_5 => (intro w hSw; (try dsimp only at hSw); go_simp; try (with_reducible rfl))
      simp only [Act.put, List.getElem_toArray, List.getElem_cons_succ, List.getElem_cons_zero, List.setIfInBounds_toArray, List.set_cons_zero, List.set_cons_succ]
      refine wpAnyH_ready (rs := [6]) (by kernel_rfl) (by simp) ?_
      refine AllReadyH.cons rfl (fun K hK => ?_) AllReadyH.nil
      go_simp
      refine (eq_shift y.d _).mono ?_
      rintro e v1 ⟨rfl, b1⟩
      refine hK.out _ _ (e4_mk3 (hHeld.2.2.2.2.2.2.2.step b1)) (fun hHeld1 => ?_)
      clear hK K hHeld
      have hHeld := hHeld1
      clear hHeld1
      try simp only [Act.put, List.getElem_toArray, List.getElem_cons_succ, List.getElem_cons_zero, List.setIfInBounds_toArray, List.set_cons_zero, List.set_cons_succ]
      refine' wpAnyH_take (i := 7) (v := ?vr4_7) rfl (by kernel_rfl) (by kernel_rfl) (by kernel_rfl) (fun _ _ _ h => h) (Or.inl ⟨by rfl, ?hyr4_7⟩) (by assumption) ?restr4_7
      case hyr4_7 => (intro w hSw; (try dsimp only at hSw); go_simp; try (with_reducible rfl))
      simp only [Act.put, List.getElem_toArray, List.getElem_cons_succ, List.getElem_cons_zero, List.setIfInBounds_toArray, List.set_cons_zero, List.set_cons_succ]
      refine wpAnyH_done (by kernel_rfl) ?_ _
      have HQ2 := Lib.hid hHeld.2.2.2.2.2.2.2
      clear hHeld HQ
      go_wp2_with fail
      go_roundw
      case rel => exact ⟨4, by omega, by go_num, HQ2.out⟩
      case measure => simp [intOf]
    · go_wp2_with fail
      go_ret
      exact ⟨rfl, HQ.out.2.2⟩
theorem fw_mk {w v : World} {x : Lg} (h1 : Blk v w.heap.size 24 #[.int .i64 x.frm, .int .i64 x.to_, .int .i64 x.tape, .int .i64 x.comp, .int .i64 x.slope]) (h2 : Below w.heap.size w v) : v.cell? ⟨w.heap.size, 0, none⟩ = some (.int .i64 x.frm) ∧ v.cell? ⟨w.heap.size, 1, none⟩ = some (.int .i64 x.to_) ∧ v.cell? ⟨w.heap.size, 2, none⟩ = some (.int .i64 x.tape) ∧ v.cell? ⟨w.heap.size, 3, none⟩ = some (.int .i64 x.comp) ∧ v.cell? ⟨w.heap.size, 4, none⟩ = some (.int .i64 x.slope) ∧ Blk v w.heap.size 24 #[.int .i64 x.frm, .int .i64 x.to_, .int .i64 x.tape, .int .i64 x.comp, .int .i64 x.slope] ∧ Below w.heap.size w v := ⟨h1.cell 0, h1.cell 1, h1.cell 2, h1.cell 3, h1.cell 4, h1, h2⟩
theorem fw_put {w v : World} {x : Lg} {R : Nat} (h1 : Blk v w.heap.size 24 #[.int .i64 x.frm, .int .i64 x.to_, .int .i64 x.tape, .int .i64 x.comp, .int .i64 x.slope]) (h2 : BW w v) (hr : w.heap.size < R) (a0 a1 a2 a3 a4 a5 a6 a7 a8 a9 a10 a11 : Value) : ((((((((((((v.setCell ⟨R, 0, none⟩ a0).setCell ⟨R, 1, none⟩ a1).setCell ⟨R, 2, none⟩ a2).setCell ⟨R, 3, none⟩ a3).setCell ⟨R, 4, none⟩ a4).setCell ⟨R, 5, none⟩ a5).setCell ⟨R, 6, none⟩ a6).setCell ⟨R, 7, none⟩ a7).setCell ⟨R, 8, none⟩ a8).setCell ⟨R, 9, none⟩ a9).setCell ⟨R, 10, none⟩ a10).setCell ⟨R, 11, none⟩ a11).cell? ⟨w.heap.size, 0, none⟩ = some (.int .i64 x.frm) ∧ ((((((((((((v.setCell ⟨R, 0, none⟩ a0).setCell ⟨R, 1, none⟩ a1).setCell ⟨R, 2, none⟩ a2).setCell ⟨R, 3, none⟩ a3).setCell ⟨R, 4, none⟩ a4).setCell ⟨R, 5, none⟩ a5).setCell ⟨R, 6, none⟩ a6).setCell ⟨R, 7, none⟩ a7).setCell ⟨R, 8, none⟩ a8).setCell ⟨R, 9, none⟩ a9).setCell ⟨R, 10, none⟩ a10).setCell ⟨R, 11, none⟩ a11).cell? ⟨w.heap.size, 1, none⟩ = some (.int .i64 x.to_) ∧ ((((((((((((v.setCell ⟨R, 0, none⟩ a0).setCell ⟨R, 1, none⟩ a1).setCell ⟨R, 2, none⟩ a2).setCell ⟨R, 3, none⟩ a3).setCell ⟨R, 4, none⟩ a4).setCell ⟨R, 5, none⟩ a5).setCell ⟨R, 6, none⟩ a6).setCell ⟨R, 7, none⟩ a7).setCell ⟨R, 8, none⟩ a8).setCell ⟨R, 9, none⟩ a9).setCell ⟨R, 10, none⟩ a10).setCell ⟨R, 11, none⟩ a11).cell? ⟨w.heap.size, 2, none⟩ = some (.int .i64 x.tape) ∧ ((((((((((((v.setCell ⟨R, 0, none⟩ a0).setCell ⟨R, 1, none⟩ a1).setCell ⟨R, 2, none⟩ a2).setCell ⟨R, 3, none⟩ a3).setCell ⟨R, 4, none⟩ a4).setCell ⟨R, 5, none⟩ a5).setCell ⟨R, 6, none⟩ a6).setCell ⟨R, 7, none⟩ a7).setCell ⟨R, 8, none⟩ a8).setCell ⟨R, 9, none⟩ a9).setCell ⟨R, 10, none⟩ a10).setCell ⟨R, 11, none⟩ a11).cell? ⟨w.heap.size, 3, none⟩ = some (.int .i64 x.comp) ∧ ((((((((((((v.setCell ⟨R, 0, none⟩ a0).setCell ⟨R, 1, none⟩ a1).setCell ⟨R, 2, none⟩ a2).setCell ⟨R, 3, none⟩ a3).setCell ⟨R, 4, none⟩ a4).setCell ⟨R, 5, none⟩ a5).setCell ⟨R, 6, none⟩ a6).setCell ⟨R, 7, none⟩ a7).setCell ⟨R, 8, none⟩ a8).setCell ⟨R, 9, none⟩ a9).setCell ⟨R, 10, none⟩ a10).setCell ⟨R, 11, none⟩ a11).cell? ⟨w.heap.size, 4, none⟩ = some (.int .i64 x.slope) ∧ Blk ((((((((((((v.setCell ⟨R, 0, none⟩ a0).setCell ⟨R, 1, none⟩ a1).setCell ⟨R, 2, none⟩ a2).setCell ⟨R, 3, none⟩ a3).setCell ⟨R, 4, none⟩ a4).setCell ⟨R, 5, none⟩ a5).setCell ⟨R, 6, none⟩ a6).setCell ⟨R, 7, none⟩ a7).setCell ⟨R, 8, none⟩ a8).setCell ⟨R, 9, none⟩ a9).setCell ⟨R, 10, none⟩ a10).setCell ⟨R, 11, none⟩ a11) w.heap.size 24 #[.int .i64 x.frm, .int .i64 x.to_, .int .i64 x.tape, .int .i64 x.comp, .int .i64 x.slope] ∧ Below w.heap.size w ((((((((((((v.setCell ⟨R, 0, none⟩ a0).setCell ⟨R, 1, none⟩ a1).setCell ⟨R, 2, none⟩ a2).setCell ⟨R, 3, none⟩ a3).setCell ⟨R, 4, none⟩ a4).setCell ⟨R, 5, none⟩ a5).setCell ⟨R, 6, none⟩ a6).setCell ⟨R, 7, none⟩ a7).setCell ⟨R, 8, none⟩ a8).setCell ⟨R, 9, none⟩ a9).setCell ⟨R, 10, none⟩ a10).setCell ⟨R, 11, none⟩ a11) := by
  have hx : w.heap.size ≠ R := by omega
  exact fw_mk ((((((((((((h1.far (p := (⟨R, 0, none⟩ : Addr)) hx _).far (p := (⟨R, 1, none⟩ : Addr)) hx _).far (p := (⟨R, 2, none⟩ : Addr)) hx _).far (p := (⟨R, 3, none⟩ : Addr)) hx _).far (p := (⟨R, 4, none⟩ : Addr)) hx _).far (p := (⟨R, 5, none⟩ : Addr)) hx _).far (p := (⟨R, 6, none⟩ : Addr)) hx _).far (p := (⟨R, 7, none⟩ : Addr)) hx _).far (p := (⟨R, 8, none⟩ : Addr)) hx _).far (p := (⟨R, 9, none⟩ : Addr)) hx _).far (p := (⟨R, 10, none⟩ : Addr)) hx _).far (p := (⟨R, 11, none⟩ : Addr)) hx _) ((((((((((((h2.far (Nat.le_of_lt hr) 0 _).far (Nat.le_of_lt hr) 1 _).far (Nat.le_of_lt hr) 2 _).far (Nat.le_of_lt hr) 3 _).far (Nat.le_of_lt hr) 4 _).far (Nat.le_of_lt hr) 5 _).far (Nat.le_of_lt hr) 6 _).far (Nat.le_of_lt hr) 7 _).far (Nat.le_of_lt hr) 8 _).far (Nat.le_of_lt hr) 9 _).far (Nat.le_of_lt hr) 10 _).far (Nat.le_of_lt hr) 11 _)
theorem wa_form (c : List Pg) (x : Lg) : ∃ (v0 : Wl) (ok : Bool), ansWa c x = .tuple #[.agg #[.int .i64 v0.a.east, .int .i64 v0.a.north, .int .i64 v0.a.up, .int .i64 v0.b.east, .int .i64 v0.b.north, .int .i64 v0.b.up, .int .i64 v0.c.east, .int .i64 v0.c.north, .int .i64 v0.c.up, .int .i64 v0.d.east, .int .i64 v0.d.north, .int .i64 v0.d.up], .bool ok] := ⟨waV c x, waOk c x, rfl⟩
end Go.Proofs.YtnpghhpcloljeaaDoor.pw
