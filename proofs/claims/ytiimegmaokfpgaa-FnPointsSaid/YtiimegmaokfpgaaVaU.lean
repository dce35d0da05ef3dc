/-
  The draws of a point that is added and of bearings that are corrected.
  Conditions: the code has at most 65536 bytes.
-/
import Derived.Test.YtiimegmaokfpgaaVaT
import Derived.Test.YtiimegmaokfpgaaRowI
import Derived.Deep.DeepCutAuto
import Derived.Deep.RegionHeld3
import Derived.Deep.AppendLies
import Derived.OwnWalk
namespace Go.Proofs.Ytiimegmaokfpgaa.drp
open Go.RowKit
open reads base curs curd cure ty va rowi
set_option linter.unusedVariables false
set_option linter.unusedSimpArgs false

def PA (w : World) (e : Ending) (w' : World) : Prop := ∃ (v : Value) (L : Nat) (ts : List Dp) (p : Dp), e = .returned (.tuple #[v, .agg #[.int .i64 p.day, .int .i64 p.tn]]) ∧ w'.ownsRow w.heap.size 42 2 v L (flatDp ts) ∧ ts.length = L ∧ L ≤ 9 ∧ Below w.heap.size w w'
set_option maxHeartbeats 8000000 in
set_option maxRecDepth 100000 in
theorem addPoint_draw (A : Option Addr) (n cap : Nat) (zs : List UInt8) (w : World) (h : Hid (curs.Code w A n zs)) : Calls Try.prog 32 #[.slice A n cap] w (PA w) := by
  obtain ⟨W0, HW0, hs0, HB0, HR⟩ : ∃ W0, Hid (w.alloc (.cells #[.int .i64 0, .int .i64 0] 42) = W0) ∧ W0.heap.size = w.heap.size + 1 ∧ Hid (Below w.heap.size w W0) ∧ Hid (Blk W0 w.heap.size 42 #[.int .i64 0, .int .i64 0]) :=
    ⟨_, Lib.hid rfl, by simp, Lib.hid ((Below.refl w.heap.size w).alloc (Nat.le_refl _) _), Lib.hid (Blk.new w _ _)⟩
  have HC0 := Lib.hid (cur_new cap (h.out.below HB0.out))
  rw [hs0] at HC0
  obtain ⟨W1, HW1⟩ : ∃ W, Hid (W0.alloc (.cells #[.slice A n cap, .int .i64 0, .int .u64 0] 66) = W) := ⟨_, Lib.hid rfl⟩
  have hs1 : W1.heap.size = w.heap.size + 2 := by rw [← HW1.out]; simp [hs0]
  rw [HW1.out] at HC0
  have HR1 := Lib.hid (show Blk W1 w.heap.size 42 #[.int .i64 0, .int .i64 0] by rw [← HW1.out]; exact HR.out.alloc _)
  have HLW := Lib.hid (show ∀ u, W1.grownBy u (some (w.heap.size + 1)) → Below w.heap.size w u from fun u hu => by
    rw [← HW1.out] at hu
    exact (HB0.out.alloc (by omega) _).grown hu (by simp; omega) (fun k hk => by injection hk with hk; omega))
  go_enter Try.func32, Try.ntmps32
  go_upto_region 1 with fail
  rw [HW0.out]
  go_upto_region 2 with fail
  try rw [hs0]
  rw [HW1.out]
  clear HW0 HW1 HR
  go_wp2_with fail
  refine (points_any (w.heap.size + 1) (w.heap.size + 1) 0 A n cap zs _ (by omega) HC0).mono ?_
  rintro e w1 ⟨v, L, ts, rfl, hl, hG⟩
  have HG := Lib.hid hG
  have HR2 := Lib.hid (HR1.out.grown hG.2.1 (by intro e; injection e with e; omega))
  clear hG HC0 HR1
  go_wp2_with fail
  refine (day11_any (w.heap.size + 1) (w.heap.size + 1) (0 + 80) A n cap zs _ (by omega) (Lib.hid HG.out.1)).mono ?_
  rintro e w2 ⟨x2, rfl, hC, hg⟩
  have HG2 := Lib.hid (HG.out.step hC hg)
  have HR3 := Lib.hid (HR2.out.grown hg (by intro e; injection e with e; omega))
  clear hC hg HG HR2
  go_wp2_with fail
  refine (among_new (w.heap.size + 1) (w.heap.size + 1) (0 + 80 + 3) A n cap zs w2 4 _ [0, 12, 900, -901] (by omega) HG2.out.1 rfl (by decide) (by decide)).mono ?_
  rintro e w3 ⟨x3, hx3, rfl, hC, hg⟩
  have HG3 := Lib.hid (HG2.out.step hC hg)
  have HR3a := Lib.hid (HR3.out.grown hg (by intro e; injection e with e; omega))
  clear hC hg HG2 HR3 hx3
  obtain ⟨X, HX⟩ : ∃ X, Hid (w3.heap.size = X) := ⟨_, Lib.hid rfl⟩
  obtain ⟨W, HW⟩ : ∃ W, Hid (w3.alloc (.cells #[.int .i64 x2, .int .i64 x3] 42) = W) := ⟨_, Lib.hid rfl⟩
  have HB := Lib.hid (show GB W1 (w.heap.size + 1) (w.heap.size + 1) (0 + 80 + 3 + 1) A n cap zs v L ts X ⟨x2, x3⟩ W by
    rw [← HW.out, ← HX.out]
    exact ⟨HG3.out.alloc _, Blk.new _ _ _, HG3.out.2.1.size, fun e => by have := (HG3.out.2.2.1.lt _ e).2; omega⟩)
  have HR4 := Lib.hid (show Blk W w.heap.size 42 #[.int .i64 0, .int .i64 0] by rw [← HW.out]; exact HR3a.out.alloc _)
  go_upto_region 4 with fail
  rw [HW.out, HX.out]
  clear HW HX HG3 HR3a
  obtain ⟨A', c, rfl⟩ := row_slice HB.out.1.2.2.1
  by_cases hL0 : 0 < L
  · have hz : decide ((0 : Int) < (L : Int)) = true := by simp; omega
    have hz2 : decide (0 < L) = true := by simpa using hL0
    go_wp2_with fail
    refine (one_any (w.heap.size + 1) (w.heap.size + 1) (0 + 80 + 3 + 1) A n cap zs _ 3 (by omega) HB.out.1.1 (by decide) (by decide)).mono ?_
    rintro e w5 ⟨t1, rfl, hC, hg⟩
    have HB5 := Lib.hid (HB.out.step hC hg)
    have HR5 := Lib.hid (HR4.out.grown hg (by intro e; injection e with e; omega))
    clear hC hg HB HR4
    cases t1
    · have HBX := HB5
      have HRX := HR5
      clear HB5 HR5
      go_upto_region 6 with fail
      refine wp_region_held_drew (S := (fun v : World => v.cell? ⟨X, 0, none⟩ = some (.int .i64 (x2)) ∧ v.cell? ⟨X, 1, none⟩ = some (.int .i64 (x3)) ∧ Blk v X 42 #[.int .i64 (x2), .int .i64 (x3)])) (by kernel_rfl) (by have h := HBX.out.2.1.drew; exact ⟨h.cell 0, h.cell 1, h⟩) (fun hHeld => ?_)
      obtain ⟨V0, HV0⟩ : ∃ V, Hid (w5.drew = V) := ⟨_, Lib.hid rfl⟩
      have HR6 := Lib.hid (show Blk V0 w.heap.size 42 #[.int .i64 0, .int .i64 0] by rw [← HV0.out]; exact HRX.out.drew)
      have HG6 := Lib.hid (show GB W1 (w.heap.size + 1) (w.heap.size + 1) (0 + 80 + 3 + 1 + 1) A n cap zs (.slice A' L c) L ts X ⟨x2, x3⟩ V0 by rw [← HV0.out]; exact HBX.out.step (cur_below HBX.out.1.1 (drewN_below _ 1)) (grown_draw (grown_refl _ _) 1))
      rw [HV0.out] at hHeld ⊢
      clear HV0 HBX HRX
      refine' wpAnyH_take (i := 0) (v := ?vr1_0) rfl (by kernel_rfl) (by kernel_rfl) (by kernel_rfl) (fun _ _ _ h => h) (Or.inl ⟨by rfl, ?hyr1_0⟩) (by assumption) ?restr1_0
      case hyr1_0 => (intro w hSw; (try dsimp only at hSw); go_simp; try (with_reducible rfl))
      simp only [Act.put, List.getElem_toArray, List.getElem_cons_succ, List.getElem_cons_zero, List.setIfInBounds_toArray, List.set_cons_zero, List.set_cons_succ]
      refine' wpAnyH_take (i := 1) (v := ?vr1_1) rfl (by kernel_rfl) (by kernel_rfl) (by kernel_rfl) (fun _ _ _ h => h) (Or.inl ⟨by rfl, ?hyr1_1⟩) (by assumption) ?restr1_1
      case hyr1_1 => (intro w hSw; (try dsimp only at hSw); go_simp; try (with_reducible rfl))
      simp only [Act.put, List.getElem_toArray, List.getElem_cons_succ, List.getElem_cons_zero, List.setIfInBounds_toArray, List.set_cons_zero, List.set_cons_succ]
      refine' wpAnyH_take (i := 2) (v := ?vr1_2) rfl (by kernel_rfl) (by kernel_rfl) (by kernel_rfl) (fun _ _ _ h => h) (Or.inl ⟨by rfl, ?hyr1_2⟩) (by assumption) ?restr1_2
      case hyr1_2 => (intro w hSw; (try dsimp only at hSw); go_simp; try (with_reducible rfl))
      simp only [Act.put, List.getElem_toArray, List.getElem_cons_succ, List.getElem_cons_zero, List.setIfInBounds_toArray, List.set_cons_zero, List.set_cons_succ]
      obtain ⟨d0, d1, e0, e1, dl⟩ := (⟨HR6.out.cell 0, HR6.out.cell 1, HR6.out.frozen 0, HR6.out.frozen 1, HR6.out.lt⟩ : V0.cell? ⟨w.heap.size, 0, none⟩ = some (.int .i64 0) ∧ V0.cell? ⟨w.heap.size, 1, none⟩ = some (.int .i64 0) ∧ V0.frozen? ⟨w.heap.size, 0, none⟩ = false ∧ V0.frozen? ⟨w.heap.size, 1, none⟩ = false ∧ w.heap.size < V0.heap.size)
      have hXR : X ≠ w.heap.size := by have := HG6.out.2.2.1; omega
      have HX7 := Lib.hid (show Blk ((V0.setCell ⟨w.heap.size, 0, none⟩ (.int .i64 (x2))).setCell ⟨w.heap.size, 1, none⟩ (.int .i64 (x3))) X 42 #[.int .i64 (x2), .int .i64 (x3)] from (hHeld.2.2.far (p := ⟨w.heap.size, 0, none⟩) hXR _).far (p := ⟨w.heap.size, 1, none⟩) hXR _)
      have HR7 := Lib.hid (show Blk ((V0.setCell ⟨w.heap.size, 0, none⟩ (.int .i64 (x2))).setCell ⟨w.heap.size, 1, none⟩ (.int .i64 (x3))) w.heap.size 42 #[.int .i64 (x2), .int .i64 (x3)] from (HR6.out.set_ 0 _).set_ 1 _)
      have HRW := Lib.hid (show ((V0.setCell ⟨w.heap.size, 0, none⟩ (.int .i64 (x2))).setCell ⟨w.heap.size, 1, none⟩ (.int .i64 (x3))).ownsRow w.heap.size 42 2 (.slice A' L c) L (flatDp ts) from own_base (by omega) ((HG6.out.1.2.2.1.kept (row := some w.heap.size) (grown_cell (grown_refl _ _) _ _) (.inr (fun q => by have := (HG6.out.1.2.2.1.lt _ q).1; omega))).kept (row := some w.heap.size) (grown_cell (grown_refl _ _) _ _) (.inr (fun q => by have := (HG6.out.1.2.2.1.lt _ q).1; omega))))
      have HBL := Lib.hid (show Below w.heap.size w ((V0.setCell ⟨w.heap.size, 0, none⟩ (.int .i64 (x2))).setCell ⟨w.heap.size, 1, none⟩ (.int .i64 (x3))) from ((HLW.out V0 HG6.out.1.2.1).setCell (Nat.le_refl _) _).setCell (Nat.le_refl _) _)
      refine wpAnyH_ready (rs := [3]) (by kernel_rfl) (by simp) ?_
      refine AllReadyH.cons rfl (fun K hK => ?_) AllReadyH.nil
      go_simp
      refine hK.out _ _ (by have h := HX7.out; exact ⟨h.cell 0, h.cell 1, h⟩) (fun hHeld1 => ?_)
      clear hK K hHeld
      have hHeld := hHeld1
      clear hHeld1
      try simp only [Act.put, List.getElem_toArray, List.getElem_cons_succ, List.getElem_cons_zero, List.setIfInBounds_toArray, List.set_cons_zero, List.set_cons_succ]
      refine wpAnyH_done (by kernel_rfl) ?_ _
      clear hHeld d0 d1 e0 e1 dl
      obtain ⟨W9, HW9⟩ : ∃ W, Hid ((V0.setCell ⟨w.heap.size, 0, none⟩ (.int .i64 (x2))).setCell ⟨w.heap.size, 1, none⟩ (.int .i64 (x3)) = W) := ⟨_, Lib.hid rfl⟩
      rw [HW9.out] at HR7 HRW HBL ⊢
      obtain ⟨d0, d1, dl⟩ := (⟨HR7.out.cell 0, HR7.out.cell 1, HR7.out.lt⟩ : W9.cell? ⟨w.heap.size, 0, none⟩ = some (.int .i64 (x2)) ∧ W9.cell? ⟨w.heap.size, 1, none⟩ = some (.int .i64 (x3)) ∧ w.heap.size < W9.heap.size)
      go_wp2_with fail
      refine bodyPost_ret (v := .tuple #[.slice A' L c, .agg #[.int .i64 (x2), .int .i64 (x3)]]) (by simp [results, Try.results32, go_sem, *]) rfl ⟨_, L, ts, ⟨x2, x3⟩, rfl, HRW.out, HG6.out.1.2.2.2.1, hl, HBL.out⟩
    · obtain ⟨g, c', hv, -⟩ := HB5.out.1.2.2.1.form hL0
      injection hv with hA hn2 hc2
      subst hA
      clear hc2 hn2
      go_wp2_with fail
      refine (pick_any (w.heap.size + 1) (w.heap.size + 1) (0 + 80 + 3 + 1 + 1) A n cap zs _ L (by omega) HB5.out.1.1 hL0 (by omega)).mono ?_
      rintro e w6 ⟨r, rfl, hr, hC, hg⟩
      have hrL : r < L := by omega
      have hri : (r : Int) < (L : Int) := by omega
      have hr0 : (0 : Int) ≤ (r : Int) := by omega
      have HB6 := Lib.hid (HB5.out.step hC hg)
      have HR6 := Lib.hid (HR5.out.grown hg (by intro e; injection e with e; omega))
      clear hC hg HB5 HR5 hr
      obtain ⟨q, c0, c1, f0, f1, gl⟩ := HB6.out.1.row_at hrL
      obtain ⟨⟨y0, y1⟩, ⟨z0, z1⟩, xl⟩ := HB6.out.cells
      have HBX := Lib.hid (HB6.out.put 0 (.int .i64 q.day) ⟨q.day, x3⟩ rfl)
      have HRX := Lib.hid (HR6.out.far (p := ⟨X, 0, none⟩) (by have := HB6.out.2.2.1; intro e; have e : w.heap.size = X := e; omega) (.int .i64 q.day))
      obtain ⟨W7, HW7⟩ : ∃ W, Hid (w6.setCell ⟨X, 0, none⟩ (.int .i64 q.day) = W) := ⟨_, Lib.hid rfl⟩
      rw [HW7.out] at HBX HRX
      go_upto_region 6 with fail
      rw [HW7.out]
      clear HW7 HB6 HR6 c0 c1 f0 f1 gl y0 y1 z0 z1 xl
      refine wp_region_held_drew (S := (fun v : World => v.cell? ⟨X, 0, none⟩ = some (.int .i64 (q.day)) ∧ v.cell? ⟨X, 1, none⟩ = some (.int .i64 (x3)) ∧ Blk v X 42 #[.int .i64 (q.day), .int .i64 (x3)])) (by kernel_rfl) (by have h := HBX.out.2.1.drew; exact ⟨h.cell 0, h.cell 1, h⟩) (fun hHeld => ?_)
      obtain ⟨V0, HV0⟩ : ∃ V, Hid (W7.drew = V) := ⟨_, Lib.hid rfl⟩
      have HR6 := Lib.hid (show Blk V0 w.heap.size 42 #[.int .i64 0, .int .i64 0] by rw [← HV0.out]; exact HRX.out.drew)
      have HG6 := Lib.hid (show GB W1 (w.heap.size + 1) (w.heap.size + 1) (0 + 80 + 3 + 1 + 1 + 1) A n cap zs (.slice (some ⟨g, 0, none⟩) L c) L ts X ⟨q.day, x3⟩ V0 by rw [← HV0.out]; exact HBX.out.step (cur_below HBX.out.1.1 (drewN_below _ 1)) (grown_draw (grown_refl _ _) 1))
      rw [HV0.out] at hHeld ⊢
      clear HV0 HBX HRX
      refine' wpAnyH_take (i := 0) (v := ?vr2_0) rfl (by kernel_rfl) (by kernel_rfl) (by kernel_rfl) (fun _ _ _ h => h) (Or.inl ⟨by rfl, ?hyr2_0⟩) (by assumption) ?restr2_0
      case hyr2_0 => (intro w hSw; (try dsimp only at hSw); go_simp; try (with_reducible rfl))
      simp only [Act.put, List.getElem_toArray, List.getElem_cons_succ, List.getElem_cons_zero, List.setIfInBounds_toArray, List.set_cons_zero, List.set_cons_succ]
      refine' wpAnyH_take (i := 1) (v := ?vr2_1) rfl (by kernel_rfl) (by kernel_rfl) (by kernel_rfl) (fun _ _ _ h => h) (Or.inl ⟨by rfl, ?hyr2_1⟩) (by assumption) ?restr2_1
      case hyr2_1 => (intro w hSw; (try dsimp only at hSw); go_simp; try (with_reducible rfl))
      simp only [Act.put, List.getElem_toArray, List.getElem_cons_succ, List.getElem_cons_zero, List.setIfInBounds_toArray, List.set_cons_zero, List.set_cons_succ]
      refine' wpAnyH_take (i := 2) (v := ?vr2_2) rfl (by kernel_rfl) (by kernel_rfl) (by kernel_rfl) (fun _ _ _ h => h) (Or.inl ⟨by rfl, ?hyr2_2⟩) (by assumption) ?restr2_2
      case hyr2_2 => (intro w hSw; (try dsimp only at hSw); go_simp; try (with_reducible rfl))
      simp only [Act.put, List.getElem_toArray, List.getElem_cons_succ, List.getElem_cons_zero, List.setIfInBounds_toArray, List.set_cons_zero, List.set_cons_succ]
      obtain ⟨d0, d1, e0, e1, dl⟩ := (⟨HR6.out.cell 0, HR6.out.cell 1, HR6.out.frozen 0, HR6.out.frozen 1, HR6.out.lt⟩ : V0.cell? ⟨w.heap.size, 0, none⟩ = some (.int .i64 0) ∧ V0.cell? ⟨w.heap.size, 1, none⟩ = some (.int .i64 0) ∧ V0.frozen? ⟨w.heap.size, 0, none⟩ = false ∧ V0.frozen? ⟨w.heap.size, 1, none⟩ = false ∧ w.heap.size < V0.heap.size)
      have hXR : X ≠ w.heap.size := by have := HG6.out.2.2.1; omega
      have HX7 := Lib.hid (show Blk ((V0.setCell ⟨w.heap.size, 0, none⟩ (.int .i64 (q.day))).setCell ⟨w.heap.size, 1, none⟩ (.int .i64 (x3))) X 42 #[.int .i64 (q.day), .int .i64 (x3)] from (hHeld.2.2.far (p := ⟨w.heap.size, 0, none⟩) hXR _).far (p := ⟨w.heap.size, 1, none⟩) hXR _)
      have HR7 := Lib.hid (show Blk ((V0.setCell ⟨w.heap.size, 0, none⟩ (.int .i64 (q.day))).setCell ⟨w.heap.size, 1, none⟩ (.int .i64 (x3))) w.heap.size 42 #[.int .i64 (q.day), .int .i64 (x3)] from (HR6.out.set_ 0 _).set_ 1 _)
      have HRW := Lib.hid (show ((V0.setCell ⟨w.heap.size, 0, none⟩ (.int .i64 (q.day))).setCell ⟨w.heap.size, 1, none⟩ (.int .i64 (x3))).ownsRow w.heap.size 42 2 (.slice (some ⟨g, 0, none⟩) L c) L (flatDp ts) from own_base (by omega) ((HG6.out.1.2.2.1.kept (row := some w.heap.size) (grown_cell (grown_refl _ _) _ _) (.inr (fun q => by have := (HG6.out.1.2.2.1.lt _ q).1; omega))).kept (row := some w.heap.size) (grown_cell (grown_refl _ _) _ _) (.inr (fun q => by have := (HG6.out.1.2.2.1.lt _ q).1; omega))))
      have HBL := Lib.hid (show Below w.heap.size w ((V0.setCell ⟨w.heap.size, 0, none⟩ (.int .i64 (q.day))).setCell ⟨w.heap.size, 1, none⟩ (.int .i64 (x3))) from ((HLW.out V0 HG6.out.1.2.1).setCell (Nat.le_refl _) _).setCell (Nat.le_refl _) _)
      refine wpAnyH_ready (rs := [3]) (by kernel_rfl) (by simp) ?_
      refine AllReadyH.cons rfl (fun K hK => ?_) AllReadyH.nil
      go_simp
      refine hK.out _ _ (by have h := HX7.out; exact ⟨h.cell 0, h.cell 1, h⟩) (fun hHeld1 => ?_)
      clear hK K hHeld
      have hHeld := hHeld1
      clear hHeld1
      try simp only [Act.put, List.getElem_toArray, List.getElem_cons_succ, List.getElem_cons_zero, List.setIfInBounds_toArray, List.set_cons_zero, List.set_cons_succ]
      refine wpAnyH_done (by kernel_rfl) ?_ _
      clear hHeld d0 d1 e0 e1 dl
      obtain ⟨W9, HW9⟩ : ∃ W, Hid ((V0.setCell ⟨w.heap.size, 0, none⟩ (.int .i64 (q.day))).setCell ⟨w.heap.size, 1, none⟩ (.int .i64 (x3)) = W) := ⟨_, Lib.hid rfl⟩
      rw [HW9.out] at HR7 HRW HBL ⊢
      obtain ⟨d0, d1, dl⟩ := (⟨HR7.out.cell 0, HR7.out.cell 1, HR7.out.lt⟩ : W9.cell? ⟨w.heap.size, 0, none⟩ = some (.int .i64 (q.day)) ∧ W9.cell? ⟨w.heap.size, 1, none⟩ = some (.int .i64 (x3)) ∧ w.heap.size < W9.heap.size)
      go_wp2_with fail
      refine bodyPost_ret (v := .tuple #[.slice (some ⟨g, 0, none⟩) L c, .agg #[.int .i64 (q.day), .int .i64 (x3)]]) (by simp [results, Try.results32, go_sem, *]) rfl ⟨_, L, ts, ⟨q.day, x3⟩, rfl, HRW.out, HG6.out.1.2.2.2.1, hl, HBL.out⟩
  · have hz : decide ((0 : Int) < (L : Int)) = false := by simp; omega
    have hz2 : decide (0 < L) = false := by simpa using hL0
    have HBX := HB
    have HRX := HR4
    clear HB HR4
    go_upto_region 6 with fail
    refine wp_region_held_drew (S := (fun v : World => v.cell? ⟨X, 0, none⟩ = some (.int .i64 (x2)) ∧ v.cell? ⟨X, 1, none⟩ = some (.int .i64 (x3)) ∧ Blk v X 42 #[.int .i64 (x2), .int .i64 (x3)])) (by kernel_rfl) (by have h := HBX.out.2.1.drew; exact ⟨h.cell 0, h.cell 1, h⟩) (fun hHeld => ?_)
    obtain ⟨V0, HV0⟩ : ∃ V, Hid (W.drew = V) := ⟨_, Lib.hid rfl⟩
    have HR6 := Lib.hid (show Blk V0 w.heap.size 42 #[.int .i64 0, .int .i64 0] by rw [← HV0.out]; exact HRX.out.drew)
    have HG6 := Lib.hid (show GB W1 (w.heap.size + 1) (w.heap.size + 1) (0 + 80 + 3 + 1) A n cap zs (.slice A' L c) L ts X ⟨x2, x3⟩ V0 by rw [← HV0.out]; exact HBX.out.step (cur_below HBX.out.1.1 (drewN_below _ 1)) (grown_draw (grown_refl _ _) 1))
    rw [HV0.out] at hHeld ⊢
    clear HV0 HBX HRX
    refine' wpAnyH_take (i := 0) (v := ?vr3_0) rfl (by kernel_rfl) (by kernel_rfl) (by kernel_rfl) (fun _ _ _ h => h) (Or.inl ⟨by rfl, ?hyr3_0⟩) (by assumption) ?restr3_0
    case hyr3_0 => (intro w hSw; (try dsimp only at hSw); go_simp; try (with_reducible rfl))
    simp only [Act.put, List.getElem_toArray, List.getElem_cons_succ, List.getElem_cons_zero, List.setIfInBounds_toArray, List.set_cons_zero, List.set_cons_succ]
    refine' wpAnyH_take (i := 1) (v := ?vr3_1) rfl (by kernel_rfl) (by kernel_rfl) (by kernel_rfl) (fun _ _ _ h => h) (Or.inl ⟨by rfl, ?hyr3_1⟩) (by assumption) ?restr3_1
    case hyr3_1 => (intro w hSw; (try dsimp only at hSw); go_simp; try (with_reducible rfl))
    simp only [Act.put, List.getElem_toArray, List.getElem_cons_succ, List.getElem_cons_zero, List.setIfInBounds_toArray, List.set_cons_zero, List.set_cons_succ]
    refine' wpAnyH_take (i := 2) (v := ?vr3_2) rfl (by kernel_rfl) (by kernel_rfl) (by kernel_rfl) (fun _ _ _ h => h) (Or.inl ⟨by rfl, ?hyr3_2⟩) (by assumption) ?restr3_2
    case hyr3_2 => (intro w hSw; (try dsimp only at hSw); go_simp; try (with_reducible rfl))
    simp only [Act.put, List.getElem_toArray, List.getElem_cons_succ, List.getElem_cons_zero, List.setIfInBounds_toArray, List.set_cons_zero, List.set_cons_succ]
    obtain ⟨d0, d1, e0, e1, dl⟩ := (⟨HR6.out.cell 0, HR6.out.cell 1, HR6.out.frozen 0, HR6.out.frozen 1, HR6.out.lt⟩ : V0.cell? ⟨w.heap.size, 0, none⟩ = some (.int .i64 0) ∧ V0.cell? ⟨w.heap.size, 1, none⟩ = some (.int .i64 0) ∧ V0.frozen? ⟨w.heap.size, 0, none⟩ = false ∧ V0.frozen? ⟨w.heap.size, 1, none⟩ = false ∧ w.heap.size < V0.heap.size)
    have hXR : X ≠ w.heap.size := by have := HG6.out.2.2.1; omega
    have HX7 := Lib.hid (show Blk ((V0.setCell ⟨w.heap.size, 0, none⟩ (.int .i64 (x2))).setCell ⟨w.heap.size, 1, none⟩ (.int .i64 (x3))) X 42 #[.int .i64 (x2), .int .i64 (x3)] from (hHeld.2.2.far (p := ⟨w.heap.size, 0, none⟩) hXR _).far (p := ⟨w.heap.size, 1, none⟩) hXR _)
    have HR7 := Lib.hid (show Blk ((V0.setCell ⟨w.heap.size, 0, none⟩ (.int .i64 (x2))).setCell ⟨w.heap.size, 1, none⟩ (.int .i64 (x3))) w.heap.size 42 #[.int .i64 (x2), .int .i64 (x3)] from (HR6.out.set_ 0 _).set_ 1 _)
    have HRW := Lib.hid (show ((V0.setCell ⟨w.heap.size, 0, none⟩ (.int .i64 (x2))).setCell ⟨w.heap.size, 1, none⟩ (.int .i64 (x3))).ownsRow w.heap.size 42 2 (.slice A' L c) L (flatDp ts) from own_base (by omega) ((HG6.out.1.2.2.1.kept (row := some w.heap.size) (grown_cell (grown_refl _ _) _ _) (.inr (fun q => by have := (HG6.out.1.2.2.1.lt _ q).1; omega))).kept (row := some w.heap.size) (grown_cell (grown_refl _ _) _ _) (.inr (fun q => by have := (HG6.out.1.2.2.1.lt _ q).1; omega))))
    have HBL := Lib.hid (show Below w.heap.size w ((V0.setCell ⟨w.heap.size, 0, none⟩ (.int .i64 (x2))).setCell ⟨w.heap.size, 1, none⟩ (.int .i64 (x3))) from ((HLW.out V0 HG6.out.1.2.1).setCell (Nat.le_refl _) _).setCell (Nat.le_refl _) _)
    refine wpAnyH_ready (rs := [3]) (by kernel_rfl) (by simp) ?_
    refine AllReadyH.cons rfl (fun K hK => ?_) AllReadyH.nil
    go_simp
    refine hK.out _ _ (by have h := HX7.out; exact ⟨h.cell 0, h.cell 1, h⟩) (fun hHeld1 => ?_)
    clear hK K hHeld
    have hHeld := hHeld1
    clear hHeld1
    try simp only [Act.put, List.getElem_toArray, List.getElem_cons_succ, List.getElem_cons_zero, List.setIfInBounds_toArray, List.set_cons_zero, List.set_cons_succ]
    refine wpAnyH_done (by kernel_rfl) ?_ _
    clear hHeld d0 d1 e0 e1 dl
    obtain ⟨W9, HW9⟩ : ∃ W, Hid ((V0.setCell ⟨w.heap.size, 0, none⟩ (.int .i64 (x2))).setCell ⟨w.heap.size, 1, none⟩ (.int .i64 (x3)) = W) := ⟨_, Lib.hid rfl⟩
    rw [HW9.out] at HR7 HRW HBL ⊢
    obtain ⟨d0, d1, dl⟩ := (⟨HR7.out.cell 0, HR7.out.cell 1, HR7.out.lt⟩ : W9.cell? ⟨w.heap.size, 0, none⟩ = some (.int .i64 (x2)) ∧ W9.cell? ⟨w.heap.size, 1, none⟩ = some (.int .i64 (x3)) ∧ w.heap.size < W9.heap.size)
    go_wp2_with fail
    refine bodyPost_ret (v := .tuple #[.slice A' L c, .agg #[.int .i64 (x2), .int .i64 (x3)]]) (by simp [results, Try.results32, go_sem, *]) rfl ⟨_, L, ts, ⟨x2, x3⟩, rfl, HRW.out, HG6.out.1.2.2.2.1, hl, HBL.out⟩
end Go.Proofs.Ytiimegmaokfpgaa.drp
