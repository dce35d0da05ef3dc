/-
  The drawn entries.
  Conditions: the code has at most 65536 bytes.
-/
import Derived.Test.YtnlljdepcldibaaGreatDoorDrA0
import Derived.Test.YtnlljdepcldibaaGreatDoorTyEn
import Derived.Deep.DeepCutAuto
import Derived.Deep.RegionHeld3
namespace Go.Proofs.YtnlljdepcldibaaGreatDoor.dre
open Go.RowKit
open reads curs curd cure ty
set_option linter.unusedVariables false
set_option linter.unusedSimpArgs false

/-- a struct in the making: the cursor, the answer's block, the struct's own -/
def DS (w : World) (B b k : Nat) (A : Option Addr) (n cap : Nat) (zs : List UInt8) (X : Nat) (t : En) (v : World) : Prop :=
  Cur v B b k A n cap zs ∧ w.grownBy v (some b) ∧ Blk v w.heap.size 25 #[.int .i64 0, .int .i64 0, .int .i64 0, .int .i64 0, .int .i64 0, .bool false] ∧ Blk v X 25 #[.int .i64 t.frm, .int .i64 t.to_, .int .i64 t.tape, .int .i64 t.comp, .int .i64 t.slope, .bool t.back] ∧ w.heap.size < X ∧ b < w.heap.size ∧ B ≤ w.heap.size
section
variable {w v v' : World} {B b k k' : Nat} {A : Option Addr} {n cap : Nat} {zs : List UInt8} {X : Nat} {t : En}
theorem DS.step (h : DS w B b k A n cap zs X t v) (hC : Cur v' B b k' A n cap zs) (hg : v.grownBy v' (some b)) : DS w B b k' A n cap zs X t v' := by
  obtain ⟨h1, h2, h3, h4, h5, h6, h7⟩ := h
  exact ⟨hC, h2.trans hg, h3.grown hg (by intro e; injection e with e; omega), h4.grown hg (by intro e; injection e with e; omega), h5, h6, h7⟩
theorem DS.more (h : DS w B b k A n cap zs X t v) (hk : k ≤ k') : DS w B b k' A n cap zs X t v := ⟨cur_more h.1 k' hk, h.2⟩
theorem DS.cells (h : DS w B b k A n cap zs X t v) : v.cell? ⟨X, 0, none⟩ = some (.int .i64 t.frm) ∧ v.cell? ⟨X, 1, none⟩ = some (.int .i64 t.to_) ∧ v.cell? ⟨X, 2, none⟩ = some (.int .i64 t.tape) ∧ v.cell? ⟨X, 3, none⟩ = some (.int .i64 t.comp) ∧ v.cell? ⟨X, 4, none⟩ = some (.int .i64 t.slope) ∧ v.cell? ⟨X, 5, none⟩ = some (.bool t.back) := ⟨h.2.2.2.1.cell 0, h.2.2.2.1.cell 1, h.2.2.2.1.cell 2, h.2.2.2.1.cell 3, h.2.2.2.1.cell 4, h.2.2.2.1.cell 5⟩
theorem DS.rcells (h : DS w B b k A n cap zs X t v) : v.cell? ⟨w.heap.size, 0, none⟩ = some (.int .i64 0) ∧ v.cell? ⟨w.heap.size, 1, none⟩ = some (.int .i64 0) ∧ v.cell? ⟨w.heap.size, 2, none⟩ = some (.int .i64 0) ∧ v.cell? ⟨w.heap.size, 3, none⟩ = some (.int .i64 0) ∧ v.cell? ⟨w.heap.size, 4, none⟩ = some (.int .i64 0) ∧ v.cell? ⟨w.heap.size, 5, none⟩ = some (.bool false) := ⟨h.2.2.1.cell 0, h.2.2.1.cell 1, h.2.2.1.cell 2, h.2.2.1.cell 3, h.2.2.1.cell 4, h.2.2.1.cell 5⟩
theorem DS.fro (h : DS w B b k A n cap zs X t v) : ∀ o, v.frozen? ⟨X, o, none⟩ = false := fun o => h.2.2.2.1.frozen o
theorem DS.rfro (h : DS w B b k A n cap zs X t v) : v.frozen? ⟨w.heap.size, 0, none⟩ = false ∧ v.frozen? ⟨w.heap.size, 1, none⟩ = false ∧ v.frozen? ⟨w.heap.size, 2, none⟩ = false ∧ v.frozen? ⟨w.heap.size, 3, none⟩ = false ∧ v.frozen? ⟨w.heap.size, 4, none⟩ = false ∧ v.frozen? ⟨w.heap.size, 5, none⟩ = false := ⟨h.2.2.1.frozen 0, h.2.2.1.frozen 1, h.2.2.1.frozen 2, h.2.2.1.frozen 3, h.2.2.1.frozen 4, h.2.2.1.frozen 5⟩
theorem DS.put (h : DS w B b k A n cap zs X t v) (j : Nat) (y : Value) (t' : En) (e : (#[.int .i64 t.frm, .int .i64 t.to_, .int .i64 t.tape, .int .i64 t.comp, .int .i64 t.slope, .bool t.back] : Array Value).setIfInBounds j y = #[.int .i64 t'.frm, .int .i64 t'.to_, .int .i64 t'.tape, .int .i64 t'.comp, .int .i64 t'.slope, .bool t'.back]) :
    DS w B b k A n cap zs X t' (v.setCell ⟨X, j, none⟩ y) := by
  obtain ⟨h1, h2, h3, h4, h5, h6, h7⟩ := h
  refine ⟨cur_set h1 (by show b ≠ X; omega) (by show B ≤ X; omega) _, grown_set h2 (by show _ ≤ X; omega) _, h3.far (by show _ ≠ X; omega) _, ?_, h5, h6, h7⟩
  rw [← e]; exact h4.set_ j _
/-- the struct goes out -/
theorem DS.out (h : DS w B b k A n cap zs X t v) : Cur ((((((v.setCell ⟨w.heap.size, 0, none⟩ (.int .i64 t.frm)).setCell ⟨w.heap.size, 1, none⟩ (.int .i64 t.to_)).setCell ⟨w.heap.size, 2, none⟩ (.int .i64 t.tape)).setCell ⟨w.heap.size, 3, none⟩ (.int .i64 t.comp)).setCell ⟨w.heap.size, 4, none⟩ (.int .i64 t.slope)).setCell ⟨w.heap.size, 5, none⟩ (.bool t.back)) B b k A n cap zs ∧ w.grownBy ((((((v.setCell ⟨w.heap.size, 0, none⟩ (.int .i64 t.frm)).setCell ⟨w.heap.size, 1, none⟩ (.int .i64 t.to_)).setCell ⟨w.heap.size, 2, none⟩ (.int .i64 t.tape)).setCell ⟨w.heap.size, 3, none⟩ (.int .i64 t.comp)).setCell ⟨w.heap.size, 4, none⟩ (.int .i64 t.slope)).setCell ⟨w.heap.size, 5, none⟩ (.bool t.back)) (some b) := by
  obtain ⟨h1, h2, h3, h4, h5, h6, h7⟩ := h
  have hne : b ≠ w.heap.size := by omega
  exact ⟨(cur_set (cur_set (cur_set (cur_set (cur_set (cur_set h1 hne h7 _) hne h7 _) hne h7 _) hne h7 _) hne h7 _) hne h7 _), (grown_set (grown_set (grown_set (grown_set (grown_set (grown_set h2 (Nat.le_refl _) _) (Nat.le_refl _) _) (Nat.le_refl _) _) (Nat.le_refl _) _) (Nat.le_refl _) _) (Nat.le_refl _) _)⟩
end
/-- a drawn entry -/
def EPo (B b k : Nat) (A : Option Addr) (n cap : Nat) (zs : List UInt8) (w : World) (e : Ending) (w' : World) : Prop :=
  ∃ t : En, e = .returned (.agg #[.int .i64 t.frm, .int .i64 t.to_, .int .i64 t.tape, .int .i64 t.comp, .int .i64 t.slope, .bool t.back]) ∧ Cur w' B b k A n cap zs ∧ w.grownBy w' (some b)
/-- the cursor, the answer's block, the leg's box -/
def ED (w : World) (B b k : Nat) (A : Option Addr) (n cap : Nat) (zs : List UInt8) (Y : Nat) (x : Lg) (v : World) : Prop :=
  Cur v B b k A n cap zs ∧ w.grownBy v (some b) ∧ Blk v w.heap.size 25 #[.int .i64 0, .int .i64 0, .int .i64 0, .int .i64 0, .int .i64 0, .bool false] ∧ Blk v Y 45 #[.int .i64 x.frm, .int .i64 x.to_, .int .i64 x.tape, .int .i64 x.comp, .int .i64 x.slope] ∧ w.heap.size < Y ∧ b < w.heap.size ∧ B ≤ w.heap.size
section
variable {w v v' : World} {B b k k' : Nat} {A : Option Addr} {n cap : Nat} {zs : List UInt8} {Y : Nat} {x : Lg}
theorem ED.step (h : ED w B b k A n cap zs Y x v) (hC : Cur v' B b k' A n cap zs) (hg : v.grownBy v' (some b)) : ED w B b k' A n cap zs Y x v' := by
  obtain ⟨h1, h2, h3, h4, h5, h6, h7⟩ := h
  exact ⟨hC, h2.trans hg, h3.grown hg (by intro e; injection e with e; omega), h4.grown hg (by intro e; injection e with e; omega), h5, h6, h7⟩
theorem ED.drew (h : ED w B b k A n cap zs Y x v) : ED w B b k A n cap zs Y x v.drew := h.step (cur_below h.1 (base.drewN_below _ 1)) (grown_draw (drl.grown_refl _ _) 1)
theorem ED.alloc (h : ED w B b k A n cap zs Y x v) (o : Obj) : ED w B b k A n cap zs Y x (v.alloc o) := h.step (cur_alloc h.1 (by have := h.2.1.size; have := h.2.2.2.2.2.2; omega) o) (World.grownBy_alloc v o (some b))
theorem bx_mk (h : Blk v Y 45 #[.int .i64 x.frm, .int .i64 x.to_, .int .i64 x.tape, .int .i64 x.comp, .int .i64 x.slope]) : v.cell? ⟨Y, 0, none⟩ = some (.int .i64 x.frm) ∧ v.cell? ⟨Y, 1, none⟩ = some (.int .i64 x.to_) ∧ v.cell? ⟨Y, 2, none⟩ = some (.int .i64 x.tape) ∧ v.cell? ⟨Y, 3, none⟩ = some (.int .i64 x.comp) ∧ v.cell? ⟨Y, 4, none⟩ = some (.int .i64 x.slope) ∧ Blk v Y 45 #[.int .i64 x.frm, .int .i64 x.to_, .int .i64 x.tape, .int .i64 x.comp, .int .i64 x.slope] := ⟨h.cell 0, h.cell 1, h.cell 2, h.cell 3, h.cell 4, h⟩
theorem ED.mk (h : ED w B b k A n cap zs Y x v) : v.cell? ⟨Y, 0, none⟩ = some (.int .i64 x.frm) ∧ v.cell? ⟨Y, 1, none⟩ = some (.int .i64 x.to_) ∧ v.cell? ⟨Y, 2, none⟩ = some (.int .i64 x.tape) ∧ v.cell? ⟨Y, 3, none⟩ = some (.int .i64 x.comp) ∧ v.cell? ⟨Y, 4, none⟩ = some (.int .i64 x.slope) ∧ Blk v Y 45 #[.int .i64 x.frm, .int .i64 x.to_, .int .i64 x.tape, .int .i64 x.comp, .int .i64 x.slope] := bx_mk h.2.2.2.1
end
set_option maxHeartbeats 4000000 in
set_option maxRecDepth 100000 in
theorem entry_any (B b k : Nat) (A : Option Addr) (n cap : Nat) (zs : List UInt8) (w : World) (hk : k ≤ 50000) (h : Hid (Cur w B b k A n cap zs)) :
    Calls Tryz.prog 32 #[.pointer (some ⟨b, 0, none⟩)] w (EPo B b (k + 10) A n cap zs w) := by
  have hbl := cur_lt h.out
  have HBB := Lib.hid (show B ≤ w.heap.size by have := h.out.1; omega)
  have HC0 := Lib.hid (cur_alloc h.out HBB.out (.cells #[.int .i64 0, .int .i64 0, .int .i64 0, .int .i64 0, .int .i64 0, .bool false] 25))
  go_enter Tryz.func32, Tryz.ntmps32
  go_wp2_with fail
  refine (drl.leg_any B b k A n cap zs _ (by omega) HC0).mono ?_
  rintro e w1 ⟨x, rfl, hok, hC, hg⟩
  have HC1 := Lib.hid hC
  have HG1 := Lib.hid hg
  clear hC hg hok HC0
  obtain ⟨Y, HY⟩ : ∃ Y, Hid (w1.heap.size = Y) := ⟨_, Lib.hid rfl⟩
  obtain ⟨W1, HW1⟩ : ∃ W, Hid (w1.alloc (.cells #[.int .i64 x.frm, .int .i64 x.to_, .int .i64 x.tape, .int .i64 x.comp, .int .i64 x.slope] 45) = W) := ⟨_, Lib.hid rfl⟩
  have HD0 := Lib.hid (show ED w B b (k + 7) A n cap zs Y x W1 by
    have s0 := HG1.out.size
    simp at s0
    have hB2 : B ≤ w1.heap.size := by have := HBB.out; omega
    rw [← HW1.out, ← HY.out]
    exact ⟨cur_alloc HC1.out hB2 _, (World.grownBy_alloc w _ (some b)).trans (HG1.out.trans (World.grownBy_alloc w1 _ (some b))), ((Blk.new w _ _).grown HG1.out (by intro e; injection e with e; omega)).alloc _, Blk.new w1 _ _, by omega, hbl, HBB.out⟩)
  have HD := Lib.hid HD0.out.drew
  clear HC1 HG1 h
  go_upto_region 2 with fail
  rw [HW1.out, HY.out]
  clear HW1 HY HD0
  go_cut [4] (fun v wx => ∃ (X : Nat) (t : En), v = .pointer (some ⟨X, 0, none⟩) ∧ DS w B b (k + 8) A n cap zs X t wx)
  case first =>
    rename_i J0 K0 hJ0 hK0
    refine wp_region_held_drew (S := (fun v => v.cell? ⟨Y, 0, none⟩ = some (.int .i64 x.frm) ∧ v.cell? ⟨Y, 1, none⟩ = some (.int .i64 x.to_) ∧ v.cell? ⟨Y, 2, none⟩ = some (.int .i64 x.tape) ∧ v.cell? ⟨Y, 3, none⟩ = some (.int .i64 x.comp) ∧ v.cell? ⟨Y, 4, none⟩ = some (.int .i64 x.slope) ∧ Blk v Y 45 #[.int .i64 x.frm, .int .i64 x.to_, .int .i64 x.tape, .int .i64 x.comp, .int .i64 x.slope])) (by kernel_rfl) ?_ (fun hHeld => ?_)
    · exact HD.out.mk
    refine' wpAnyH_take (i := 0) (v := ?vr1_0) rfl (by kernel_rfl) (by kernel_rfl) (by kernel_rfl) (fun _ _ _ h => h) (Or.inl ⟨by rfl, ?hyr1_0⟩) (by assumption) ?restr1_0
    case hyr1_0 => (intro w hSw; (try dsimp only at hSw); go_simp; try (with_reducible rfl))
    simp only [Act.put, List.getElem_toArray, List.getElem_cons_succ, List.getElem_cons_zero, List.setIfInBounds_toArray, List.set_cons_zero, List.set_cons_succ]
    refine' wpAnyH_take (i := 1) (v := ?vr1_1) rfl (by kernel_rfl) (by kernel_rfl) (by kernel_rfl) (fun _ _ _ h => h) (Or.inl ⟨by rfl, ?hyr1_1⟩) (by assumption) ?restr1_1
    case hyr1_1 => (intro w hSw; (try dsimp only at hSw); go_simp; try (with_reducible rfl))
    simp only [Act.put, List.getElem_toArray, List.getElem_cons_succ, List.getElem_cons_zero, List.setIfInBounds_toArray, List.set_cons_zero, List.set_cons_succ]
    refine' wpAnyH_take (i := 2) (v := ?vr1_2) rfl (by kernel_rfl) (by kernel_rfl) (by kernel_rfl) (fun _ _ _ h => h) (Or.inl ⟨by rfl, ?hyr1_2⟩) (by assumption) ?restr1_2
    case hyr1_2 => (intro w hSw; (try dsimp only at hSw); go_simp; try (with_reducible rfl))
    simp only [Act.put, List.getElem_toArray, List.getElem_cons_succ, List.getElem_cons_zero, List.setIfInBounds_toArray, List.set_cons_zero, List.set_cons_succ]
    refine' wpAnyH_take (i := 3) (v := ?vr1_3) rfl (by kernel_rfl) (by kernel_rfl) (by kernel_rfl) (fun _ _ _ h => h) (Or.inl ⟨by rfl, ?hyr1_3⟩) (by assumption) ?restr1_3
    case hyr1_3 => (intro w hSw; (try dsimp only at hSw); go_simp; try (with_reducible rfl))
    simp only [Act.put, List.getElem_toArray, List.getElem_cons_succ, List.getElem_cons_zero, List.setIfInBounds_toArray, List.set_cons_zero, List.set_cons_succ]
    refine' wpAnyH_take (i := 4) (v := ?vr1_4) rfl (by kernel_rfl) (by kernel_rfl) (by kernel_rfl) (fun _ _ _ h => h) (Or.inl ⟨by rfl, ?hyr1_4⟩) (by assumption) ?restr1_4
    case hyr1_4 => (intro w hSw; (try dsimp only at hSw); go_simp; try (with_reducible rfl))
    simp only [Act.put, List.getElem_toArray, List.getElem_cons_succ, List.getElem_cons_zero, List.setIfInBounds_toArray, List.set_cons_zero, List.set_cons_succ]
    refine' wpAnyH_take (i := 5) (v := ?vr1_5) rfl (by kernel_rfl) (by kernel_rfl) (by kernel_rfl) (fun _ _ _ h => h) (Or.inl ⟨by rfl, ?hyr1_5⟩) (by assumption) ?restr1_5
    case hyr1_5 => (intro w hSw; (try dsimp only at hSw); go_simp; try (with_reducible rfl))
    simp only [Act.put, List.getElem_toArray, List.getElem_cons_succ, List.getElem_cons_zero, List.setIfInBounds_toArray, List.set_cons_zero, List.set_cons_succ]
    refine' wpAnyH_take (i := 6) (v := ?vr1_6) rfl (by kernel_rfl) (by kernel_rfl) (by kernel_rfl) (fun _ _ _ h => h) (Or.inl ⟨by rfl, ?hyr1_6⟩) (by assumption) ?restr1_6
    case hyr1_6 => (intro w hSw; (try dsimp only at hSw); go_simp; try (with_reducible rfl))
    simp only [Act.put, List.getElem_toArray, List.getElem_cons_succ, List.getElem_cons_zero, List.setIfInBounds_toArray, List.set_cons_zero, List.set_cons_succ]
    refine' wpAnyH_take (i := 7) (v := ?vr1_7) rfl (by kernel_rfl) (by kernel_rfl) (by kernel_rfl) (fun _ _ _ h => h) (Or.inl ⟨by rfl, ?hyr1_7⟩) (by assumption) ?restr1_7
    case hyr1_7 => (intro w hSw; (try dsimp only at hSw); go_simp; try (with_reducible rfl))
    simp only [Act.put, List.getElem_toArray, List.getElem_cons_succ, List.getElem_cons_zero, List.setIfInBounds_toArray, List.set_cons_zero, List.set_cons_succ]
    refine' wpAnyH_take (i := 8) (v := ?vr1_8) rfl (by kernel_rfl) (by kernel_rfl) (by kernel_rfl) (fun _ _ _ h => h) (Or.inl ⟨by rfl, ?hyr1_8⟩) (by assumption) ?restr1_8
    case hyr1_8 => (intro w hSw; (try dsimp only at hSw); go_simp; try (with_reducible rfl))
    simp only [Act.put, List.getElem_toArray, List.getElem_cons_succ, List.getElem_cons_zero, List.setIfInBounds_toArray, List.set_cons_zero, List.set_cons_succ]
    refine' wpAnyH_take (i := 9) (v := ?vr1_9) rfl (by kernel_rfl) (by kernel_rfl) (by kernel_rfl) (fun _ _ _ h => h) (Or.inl ⟨by rfl, ?hyr1_9⟩) (by assumption) ?restr1_9
    case hyr1_9 => (intro w hSw; (try dsimp only at hSw); go_simp; try (with_reducible rfl))
    simp only [Act.put, List.getElem_toArray, List.getElem_cons_succ, List.getElem_cons_zero, List.setIfInBounds_toArray, List.set_cons_zero, List.set_cons_succ]
    refine' wpAnyH_take (i := 10) (v := ?vr1_10) rfl (by kernel_rfl) (by kernel_rfl) (by kernel_rfl) (fun _ _ _ h => h) (Or.inl ⟨by rfl, ?hyr1_10⟩) (by assumption) ?restr1_10
    case hyr1_10 => (intro w hSw; (try dsimp only at hSw); go_simp; try (with_reducible rfl))
    simp only [Act.put, List.getElem_toArray, List.getElem_cons_succ, List.getElem_cons_zero, List.setIfInBounds_toArray, List.set_cons_zero, List.set_cons_succ]
    refine wpAnyH_ready (rs := [11, 13]) (by kernel_rfl) (by simp) ?_
    refine AllReadyH.cons rfl (fun K hK => ?_) (AllReadyH.cons rfl (fun K hK => ?_) AllReadyH.nil)
    · go_simp
      refine (one_any B b (k + 7) A n cap zs _ 3 (by omega) HD.out.1 (by decide) (by decide)).mono ?_
      rintro e w4 ⟨t1, rfl, hC, hg⟩
      have HD4 := Lib.hid (HD.out.step hC hg)
      clear hC hg
      refine hK.out _ _ HD4.out.mk (fun hHeld1 => ?_)
      clear hK K hHeld
      have hHeld := hHeld1
      clear hHeld1
      try simp only [Act.put, List.getElem_toArray, List.getElem_cons_succ, List.getElem_cons_zero, List.setIfInBounds_toArray, List.set_cons_zero, List.set_cons_succ]
      refine' wpAnyH_take (i := 12) (v := ?vr2_12) rfl (by kernel_rfl) (by kernel_rfl) (by kernel_rfl) (fun _ _ _ h => h) (Or.inl ⟨by rfl, ?hyr2_12⟩) (by assumption) ?restr2_12
      case hyr2_12 => (intro w hSw; (try dsimp only at hSw); go_simp; try (with_reducible rfl))
      simp only [Act.put, List.getElem_toArray, List.getElem_cons_succ, List.getElem_cons_zero, List.setIfInBounds_toArray, List.set_cons_zero, List.set_cons_succ]
      refine wpAnyH_ready (rs := [13]) (by kernel_rfl) (by simp) ?_
      refine AllReadyH.cons rfl (fun K hK => ?_) AllReadyH.nil
      go_simp
      refine hK.out _ _ (HD4.out.alloc _).mk (fun hHeld1 => ?_)
      clear hK K hHeld
      have hHeld := hHeld1
      clear hHeld1
      try simp only [Act.put, List.getElem_toArray, List.getElem_cons_succ, List.getElem_cons_zero, List.setIfInBounds_toArray, List.set_cons_zero, List.set_cons_succ]
      refine wpAnyH_ready (rs := [14]) (by kernel_rfl) (by simp) ?_
      refine AllReadyH.cons rfl (fun K hK => ?_) AllReadyH.nil
      go_simp
      refine hK.out _ _ (HD4.out.alloc _).mk (fun hHeld1 => ?_)
      clear hK K hHeld hHeld1
      try simp only [Act.put, List.getElem_toArray, List.getElem_cons_succ, List.getElem_cons_zero, List.setIfInBounds_toArray, List.set_cons_zero, List.set_cons_succ]
      refine wpAnyH_done (by kernel_rfl) ?_ _
      have HZ := Lib.hid (HD4.out.alloc (.cells #[.int .i64 x.frm, .int .i64 x.to_, .int .i64 x.tape, .int .i64 x.comp, .int .i64 x.slope, .bool t1] 25))
      have HZB := Lib.hid (Blk.new w4 25 #[.int .i64 x.frm, .int .i64 x.to_, .int .i64 x.tape, .int .i64 x.comp, .int .i64 x.slope, .bool t1])
      have hwl : w.heap.size < w4.heap.size := HD4.out.2.2.1.lt
      first | refine hK0 _ _ (Met.intro (hJ0 _ _ ?_)) | refine Met.intro (hK0 _ _ (Met.intro (hJ0 _ _ ?_)))
      (repeat apply Exists.intro)
      exact ⟨⟨w4.heap.size, (⟨x.frm, x.to_, x.tape, x.comp, x.slope, t1⟩ : En), rfl, HZ.out.1, HZ.out.2.1, HZ.out.2.2.1, HZB.out, hwl, HZ.out.2.2.2.2.2⟩, rfl⟩
    · obtain ⟨X, HX⟩ : ∃ X, Hid (W1.heap.size = X) := ⟨_, Lib.hid rfl⟩
      have HDa := Lib.hid (HD.out.alloc (.cells #[.int .i64 0, .int .i64 0, .int .i64 0, .int .i64 0, .int .i64 0, .bool false] 25))
      have HXB := Lib.hid (show Blk (W1.drew.alloc (.cells #[.int .i64 0, .int .i64 0, .int .i64 0, .int .i64 0, .int .i64 0, .bool false] 25)) X 25 #[.int .i64 0, .int .i64 0, .int .i64 0, .int .i64 0, .int .i64 0, .bool false] by rw [← HX.out]; exact Blk.new _ _ _)
      have hXb : b < X ∧ w.heap.size < X ∧ Y ≠ X := by rw [← HX.out]; have h2 : w.heap.size < W1.heap.size := HD.out.2.2.1.lt; have h3 := HD.out.2.2.2.2.2.1; have h4 : Y < W1.heap.size := HD.out.2.2.2.1.lt; exact ⟨by omega, h2, by omega⟩
      go_simp
      try rw [HX.out]
      refine hK.out _ _ HDa.out.mk (fun hHeld1 => ?_)
      clear hK K hHeld
      have hHeld := hHeld1
      clear hHeld1
      try simp only [Act.put, List.getElem_toArray, List.getElem_cons_succ, List.getElem_cons_zero, List.setIfInBounds_toArray, List.set_cons_zero, List.set_cons_succ]
      refine wpAnyH_ready (rs := [11]) (by kernel_rfl) (by simp) ?_
      refine AllReadyH.cons rfl (fun K hK => ?_) AllReadyH.nil
      go_simp
      refine (one_any B b (k + 7) A n cap zs _ 3 (by omega) HDa.out.1 (by decide) (by decide)).mono ?_
      rintro e w4 ⟨t1, rfl, hC, hg⟩
      have HD4 := Lib.hid (HDa.out.step hC hg)
      have HXB4 := Lib.hid (HXB.out.grown hg (by intro e; injection e with e; omega))
      clear hC hg
      refine hK.out _ _ HD4.out.mk (fun hHeld1 => ?_)
      clear hK K hHeld
      have hHeld := hHeld1
      clear hHeld1
      try simp only [Act.put, List.getElem_toArray, List.getElem_cons_succ, List.getElem_cons_zero, List.setIfInBounds_toArray, List.set_cons_zero, List.set_cons_succ]
      refine' wpAnyH_take (i := 12) (v := ?vr3_12) rfl (by kernel_rfl) (by kernel_rfl) (by kernel_rfl) (fun _ _ _ h => h) (Or.inl ⟨by rfl, ?hyr3_12⟩) (by assumption) ?restr3_12
      case hyr3_12 => (intro w hSw; (try dsimp only at hSw); go_simp; try (with_reducible rfl))
      simp only [Act.put, List.getElem_toArray, List.getElem_cons_succ, List.getElem_cons_zero, List.setIfInBounds_toArray, List.set_cons_zero, List.set_cons_succ]
      obtain ⟨g0, g1, g2, g3, g4, g5⟩ := (⟨HXB4.out.frozen 0, HXB4.out.frozen 1, HXB4.out.frozen 2, HXB4.out.frozen 3, HXB4.out.frozen 4, HXB4.out.frozen 5⟩ : w4.frozen? ⟨X, 0, none⟩ = false ∧ w4.frozen? ⟨X, 1, none⟩ = false ∧ w4.frozen? ⟨X, 2, none⟩ = false ∧ w4.frozen? ⟨X, 3, none⟩ = false ∧ w4.frozen? ⟨X, 4, none⟩ = false ∧ w4.frozen? ⟨X, 5, none⟩ = false)
      obtain ⟨y0, y1, y2, y3, y4, y5, yl⟩ := (⟨HXB4.out.cell 0, HXB4.out.cell 1, HXB4.out.cell 2, HXB4.out.cell 3, HXB4.out.cell 4, HXB4.out.cell 5, HXB4.out.lt⟩ : w4.cell? ⟨X, 0, none⟩ = some (.int .i64 0) ∧ w4.cell? ⟨X, 1, none⟩ = some (.int .i64 0) ∧ w4.cell? ⟨X, 2, none⟩ = some (.int .i64 0) ∧ w4.cell? ⟨X, 3, none⟩ = some (.int .i64 0) ∧ w4.cell? ⟨X, 4, none⟩ = some (.int .i64 0) ∧ w4.cell? ⟨X, 5, none⟩ = some (.bool false) ∧ X < w4.heap.size)
      refine wpAnyH_ready (rs := [14]) (by kernel_rfl) (by simp) ?_
      refine AllReadyH.cons rfl (fun K hK => ?_) AllReadyH.nil
      go_simp
      have HS0 := Lib.hid (show DS w B b (k + 7 + 1) A n cap zs X ⟨0, 0, 0, 0, 0, false⟩ w4 from ⟨HD4.out.1, HD4.out.2.1, HD4.out.2.2.1, HXB4.out, hXb.2.1, HD4.out.2.2.2.2.2⟩)
      have HS1 := Lib.hid (HS0.out.put 0 (.int .i64 x.frm) ⟨x.frm, 0, 0, 0, 0, false⟩ rfl)
      have HS2 := Lib.hid (HS1.out.put 1 (.int .i64 x.to_) ⟨x.frm, x.to_, 0, 0, 0, false⟩ rfl)
      have HS3 := Lib.hid (HS2.out.put 2 (.int .i64 x.tape) ⟨x.frm, x.to_, x.tape, 0, 0, false⟩ rfl)
      have HS4 := Lib.hid (HS3.out.put 3 (.int .i64 x.comp) ⟨x.frm, x.to_, x.tape, x.comp, 0, false⟩ rfl)
      have HS5 := Lib.hid (HS4.out.put 4 (.int .i64 x.slope) ⟨x.frm, x.to_, x.tape, x.comp, x.slope, false⟩ rfl)
      have HS6 := Lib.hid (HS5.out.put 5 (.bool t1) ⟨x.frm, x.to_, x.tape, x.comp, x.slope, t1⟩ rfl)
      have HBY := Lib.hid ((((((HD4.out.2.2.2.1.far (p := ⟨X, 0, none⟩) hXb.2.2 (.int .i64 x.frm)).far (p := ⟨X, 1, none⟩) hXb.2.2 (.int .i64 x.to_)).far (p := ⟨X, 2, none⟩) hXb.2.2 (.int .i64 x.tape)).far (p := ⟨X, 3, none⟩) hXb.2.2 (.int .i64 x.comp)).far (p := ⟨X, 4, none⟩) hXb.2.2 (.int .i64 x.slope)).far (p := ⟨X, 5, none⟩) hXb.2.2 (.bool t1))
      refine hK.out _ _ (bx_mk HBY.out) (fun hHeld1 => ?_)
      clear hK K hHeld hHeld1
      try simp only [Act.put, List.getElem_toArray, List.getElem_cons_succ, List.getElem_cons_zero, List.setIfInBounds_toArray, List.set_cons_zero, List.set_cons_succ]
      refine wpAnyH_done (by kernel_rfl) ?_ _
      first | refine hK0 _ _ (Met.intro (hJ0 _ _ ?_)) | refine Met.intro (hK0 _ _ (Met.intro (hJ0 _ _ ?_)))
      (repeat apply Exists.intro)
      exact ⟨⟨X, (⟨x.frm, x.to_, x.tape, x.comp, x.slope, t1⟩ : En), rfl, HS6.out⟩, rfl⟩
  case rest =>
    obtain ⟨X, t, rfl, hT⟩ := hcut
    have HT := Lib.hid hT
    clear hT HD
    go_wp2_with fail
    refine (one_any B b (k + 8) A n cap zs _ 60 (by omega) HT.out.1 (by decide) (by decide)).mono ?_
    rintro e w3 ⟨t1, rfl, hC, hg⟩
    have HT2 := Lib.hid (HT.out.step hC hg)
    clear hC hg HT
    cases t1
    · have HT5 := Lib.hid (HT2.out.more (show k + 8 + 1 ≤ k + 10 by omega))
      obtain ⟨c0, c1, c2, c3, c4, c5⟩ := HT5.out.cells
      obtain ⟨d0, d1, d2, d3, d4, d5⟩ := HT5.out.rcells
      obtain ⟨e0, e1, e2, e3, e4, e5⟩ := HT5.out.rfro
      clear HT2
      go_wp2_with fail
      refine bodyPost_ret (v := .agg #[.int .i64 t.frm, .int .i64 t.to_, .int .i64 t.tape, .int .i64 t.comp, .int .i64 t.slope, .bool t.back]) (by simp [results, Tryz.results32, go_sem, *]) rfl ⟨t, rfl, HT5.out.out⟩
    · go_wp2_with fail
      refine (among_new B b (k + 8 + 1) A n cap zs w3 3 _ [0, -5, 501] (by omega) HT2.out.1 rfl (by decide) (by decide)).mono ?_
      rintro e w4 ⟨y, hy, rfl, hC, hg⟩
      have HT5 := Lib.hid (HT2.out.step hC hg)
      clear hC hg HT2 hy
      obtain ⟨c0, c1, c2, c3, c4, c5⟩ := HT5.out.cells
      have ff := HT5.out.fro 2
      obtain ⟨d0, d1, d2, d3, d4, d5⟩ := HT5.out.rcells
      obtain ⟨e0, e1, e2, e3, e4, e5⟩ := HT5.out.rfro
      have HT6 := Lib.hid (HT5.out.put 2 (.int .i64 y) ⟨t.frm, t.to_, y, t.comp, t.slope, t.back⟩ rfl)
      have hne : w.heap.size ≠ X := by have := HT6.out.2.2.2.2.1; omega
      go_wp2_with fail
      refine bodyPost_ret (v := .agg #[.int .i64 t.frm, .int .i64 t.to_, .int .i64 y, .int .i64 t.comp, .int .i64 t.slope, .bool t.back]) (by simp [results, Tryz.results32, go_sem, *]) rfl ⟨⟨t.frm, t.to_, y, t.comp, t.slope, t.back⟩, rfl, HT6.out.out⟩
end Go.Proofs.YtnlljdepcldibaaGreatDoor.dre
