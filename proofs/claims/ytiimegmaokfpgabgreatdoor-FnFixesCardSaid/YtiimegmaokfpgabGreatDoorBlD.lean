/-
  Fixes by the program: fixedLeg, FixLeg, strainAfter, StrainAfter.
  The best fix and CleanLegs by the program.
  BestFix and CleanLegs by the program.
  Conditions: those that each theorem names.
-/
import Derived.Test.YtiimegmaokfpgabGreatDoorBlC
namespace Go.Proofs.YtiimegmaokfpgabGreatDoor.bl
open Go.RowKit
open reads base ty lg lgi win hs nt nq rowi sn mt ml dt pg ph lp
set_option linter.unusedVariables false
set_option linter.unusedSimpArgs false

section
variable {ops : Array Oper} {rest : List Oper} {o : Oper} {a : Act} {Q : Exit → Act → World → Prop}
theorem step_not (w : World) (hg : o.guard = none) (x : Operand) (ty : TypeId) (hop : o.op = .unOp .not ty x) (b : Bool) (hx : a.eval x = .bool b)
    (hK : wpList Tryz.prog ops Q rest (a.put o.dst (.bool (!b))) w) : wpList Tryz.prog ops Q (o :: rest) a w := by
  refine wpList_plain hg fun K hK' => ?_
  unfold Oper.wp execOp
  simp only [hop, hx]
  simp [go_sem]
  exact hK' _ _ hK
theorem step_loadg (w : World) (hw : Region.wanted o (yielded ops a.tmps) = true) (p : Operand) (hop : o.op = .load 76 p) (g : Nat) (C : Array Value) (hp : a.eval p = .pointer (some ⟨g, 0, none⟩)) (hB : Blk w g 76 C) (h0 : C.size = 56)
    (hK : wpList Tryz.prog ops Q rest (a.put o.dst (.agg C)) w) : wpList Tryz.prog ops Q (o :: rest) a w := by
  refine wpList_step fun K hK' => ?_
  rw [if_pos hw]
  unfold Oper.wp execOp
  simp only [hop, hp, Sem.run_bind, run_load_net hB h0, Result.andThen, Sem.run_pure, Oper.upon]
  exact hK' _ _ hK
end
theorem contains_int (A : Option Addr) (n c : Nat) (xs : List Int) (a : Int) (t : Bool) (h : Hid (mem xs a = t)) (w : World) (hn : n ≤ 2000000) (hx : Hid (ints.IL w A n xs)) :
    Calls Tryz.prog 77 #[.slice A n c, .int .i64 a] w fun e w' => e = .returned (.bool t) ∧ w = w' := by
  go_enter Tryz.func77, Tryz.ntmps77
  go_wp2_with fail
  refine (index_int A n c xs a t h _ hn hx).mono ?_
  rintro e w1 ⟨r, rfl, ⟨h1, h2⟩, h3, rfl⟩
  go_wp2_with fail
  go_ret
  exact ⟨rfl, rfl⟩
set_option maxHeartbeats 4000000 in
theorem back_ok (a r : Int) (w : World) (h0 : 0 ≤ a) (h1 : a ≤ 359) (HR : Hid ((a + 180) % 360 = r)) : Calls Tryz.prog 143 #[.int .i64 a] w (APost (.tuple #[.int .i64 r, .bool true]) w) := by
  have H1 := Lib.hid (show allIn 0 359 [a] = true by simp [allIn, btw_mk h0 h1])
  have xa : IntKind.i64.wrap (a + 180) = a + 180 := IntWalk.i64_in _ (by omega)
  have xm : (a + 180).tmod 360 = (a + 180) % 360 := Int.tmod_eq_emod_of_nonneg (by omega)
  have hrb : 0 ≤ r ∧ r < 360 := by rw [← HR.out]; omega
  rw [HR.out] at xm
  have xr : IntKind.i64.wrap r = r := IntWalk.i64_in _ (by omega)
  go_enter Tryz.func143, Tryz.ntmps143
  go_wp2_with fail
  refine (bearings_new _ [a] _ _ _ true _ _ rfl rfl (by simp) rfl H1.out).mono ?_
  rintro e w' ⟨rfl, rfl⟩
  go_wp2_with fail
  go_ret2
  exact ⟨rfl, (Below.refl _ _).alloc (Nat.le_refl _) _⟩
set_option maxHeartbeats 8000000 in
set_option maxRecDepth 100000 in
theorem fixed_1 (x : Lg) (w : World) (hx : Hid (okLg x = true)) :
    Calls Tryz.prog 110 #[.agg #[.int .i64 x.frm, .int .i64 x.to_, .int .i64 x.tape, .int .i64 x.comp, .int .i64 x.slope], .int .i64 1] w (APost (.tuple #[.agg #[.int .i64 (fixLg x 1).frm, .int .i64 (fixLg x 1).to_, .int .i64 (fixLg x 1).tape, .int .i64 (fixLg x 1).comp, .int .i64 (fixLg x 1).slope], .bool (okLg (fixLg x 1))]) w) := by
  obtain ⟨⟨b0, b1⟩, ⟨b2, b3⟩, b4, ⟨b5, b6⟩, ⟨b7, b8⟩, ⟨b9, b10⟩⟩ := okLg_lim hx.out
  have xa : IntKind.i64.wrap (x.comp + 180) = x.comp + 180 := IntWalk.i64_in _ (by omega)
  have xm : (x.comp + 180).tmod 360 = (x.comp + 180) % 360 := Int.tmod_eq_emod_of_nonneg (by omega)
  obtain ⟨r, HRR⟩ : ∃ r, Hid ((x.comp + 180) % 360 = r) := ⟨_, Lib.hid rfl⟩
  have hrb : 0 ≤ r ∧ r < 360 := by rw [← HRR.out]; omega
  have HY := Lib.hid (show fixLg x 1 = ⟨x.frm, x.to_, x.tape, r, x.slope⟩ from by unfold fixLg; rw [if_pos rfl, HRR.out])
  obtain ⟨t, HT⟩ : ∃ t, Hid (okLg (⟨x.frm, x.to_, x.tape, r, x.slope⟩ : Lg) = t) := ⟨_, Lib.hid rfl⟩
  go_enter Tryz.func110, Tryz.ntmps110
  go_upto_region 4 with fail
  obtain ⟨V, HV⟩ : ∃ V, Hid ((w.alloc (.cells #[.int .i64 x.frm, .int .i64 x.to_, .int .i64 x.tape, .int .i64 x.comp, .int .i64 x.slope] 87)).alloc (.cells #[.int .i64 0, .int .i64 0, .int .i64 0, .int .i64 0, .int .i64 0] 87) = V) := ⟨_, Lib.hid rfl⟩
  have HBV := Lib.hid (show Below w.heap.size w V by rw [← HV.out]; exact ((Below.refl _ _).alloc (Nat.le_refl _) _).alloc (by simp) _)
  have HX := Lib.hid (show Blk V w.heap.size 87 #[.int .i64 x.frm, .int .i64 x.to_, .int .i64 x.tape, .int .i64 x.comp, .int .i64 x.slope] by rw [← HV.out]; exact (Blk.new _ _ _).alloc _)
  have HR := Lib.hid (show Blk V (w.heap.size + 1) 87 #[.int .i64 0, .int .i64 0, .int .i64 0, .int .i64 0, .int .i64 0] by rw [← HV.out]; have h := Blk.new (w.alloc (.cells #[.int .i64 x.frm, .int .i64 x.to_, .int .i64 x.tape, .int .i64 x.comp, .int .i64 x.slope] 87)) 87 #[.int .i64 0, .int .i64 0, .int .i64 0, .int .i64 0, .int .i64 0]; simpa using h)
  rw [HV.out]
  clear HV
  have q3 := HX.out.cell 3
  simp at q3
  go_wp2_with fail
  refine (back_ok x.comp r _ b7 b8 HRR).mono ?_
  rintro e V1 ⟨rfl, b1⟩
  have HB1 := Lib.hid (HBV.out.trans (b1.mono HBV.out.size))
  have HX1 := Lib.hid (HX.out.below b1 HX.out.lt)
  have HR1 := Lib.hid (HR.out.below b1 HR.out.lt)
  clear b1 HBV HX HR q3
  have q0 := HX1.out.cell 0
  have q1 := HX1.out.cell 1
  have q2 := HX1.out.cell 2
  have q3 := HX1.out.cell 3
  have q4 := HX1.out.cell 4
  have f3 := HX1.out.frozen 3
  have xl := HX1.out.lt
  simp at q0 q1 q2 q3 q4
  go_upto_region 11 with fail
  obtain ⟨U, HU⟩ : ∃ V, Hid (V1.setCell ⟨w.heap.size, 3, none⟩ (.int .i64 r) = V) := ⟨_, Lib.hid rfl⟩
  have HBU := Lib.hid (show Below w.heap.size w U by rw [← HU.out]; exact HB1.out.setCell (p := ⟨w.heap.size, 3, none⟩) (Nat.le_refl _) _)
  have HXU := Lib.hid (show Blk U w.heap.size 87 #[.int .i64 x.frm, .int .i64 x.to_, .int .i64 x.tape, .int .i64 r, .int .i64 x.slope] by rw [← HU.out]; have h := HX1.out.set_ 3 (.int .i64 r); simpa using h)
  have HRU := Lib.hid (show Blk U (w.heap.size + 1) 87 #[.int .i64 0, .int .i64 0, .int .i64 0, .int .i64 0, .int .i64 0] by rw [← HU.out]; exact HR1.out.far (by show w.heap.size + 1 ≠ w.heap.size; omega) _)
  rw [HU.out]
  clear HU HB1 HX1 HR1 q0 q1 q2 q3 q4 f3 xl
  refine wp_region_held_drew (S := (fun v => v.cell? ⟨w.heap.size, 0, none⟩ = some (.int .i64 x.frm) ∧ v.cell? ⟨w.heap.size, 1, none⟩ = some (.int .i64 x.to_) ∧ v.cell? ⟨w.heap.size, 2, none⟩ = some (.int .i64 x.tape) ∧ v.cell? ⟨w.heap.size, 3, none⟩ = some (.int .i64 r) ∧ v.cell? ⟨w.heap.size, 4, none⟩ = some (.int .i64 x.slope))) (by kernel_rfl) ?_ (fun hHeld => ?_)
  · exact ⟨HXU.out.cell 0, HXU.out.cell 1, HXU.out.cell 2, HXU.out.cell 3, HXU.out.cell 4⟩
  obtain ⟨V0, HV0⟩ : ∃ V, Hid (U.drew = V) := ⟨_, Lib.hid rfl⟩
  have HB0 := Lib.hid (show Below w.heap.size w V0 by rw [← HV0.out]; exact HBU.out.drew)
  have HX0 := Lib.hid (show Blk V0 w.heap.size 87 #[.int .i64 x.frm, .int .i64 x.to_, .int .i64 x.tape, .int .i64 r, .int .i64 x.slope] by rw [← HV0.out]; exact HXU.out)
  have HR0 := Lib.hid (show Blk V0 (w.heap.size + 1) 87 #[.int .i64 0, .int .i64 0, .int .i64 0, .int .i64 0, .int .i64 0] by rw [← HV0.out]; exact HRU.out)
  rw [HV0.out] at hHeld ⊢
  clear HV0 HBU HXU HRU
  refine' wpAnyH_take (i := 0) (v := .agg #[.int .i64 x.frm, .int .i64 x.to_, .int .i64 x.tape, .int .i64 r, .int .i64 x.slope]) rfl (by kernel_rfl) (by kernel_rfl) (by kernel_rfl) (fun _ _ _ h => h) (Or.inl ⟨by rfl, ?hyf1_0⟩) (by assumption) ?restf1_0
  case hyf1_0 => (intro w hSw; obtain ⟨s0, s1, s2, s3, s4⟩ := hSw; go_simp; try (with_reducible rfl))
  simp only [Act.put, List.getElem_toArray, List.getElem_cons_succ, List.getElem_cons_zero, List.setIfInBounds_toArray, List.set_cons_zero, List.set_cons_succ]
  refine' wpAnyH_take (i := 1) (v := .agg #[.int .i64 x.frm, .int .i64 x.to_, .int .i64 x.tape, .int .i64 r, .int .i64 x.slope]) rfl (by kernel_rfl) (by kernel_rfl) (by kernel_rfl) (fun _ _ _ h => h) (Or.inl ⟨by rfl, ?hyf1_1⟩) (by assumption) ?restf1_1
  case hyf1_1 => (intro w hSw; obtain ⟨s0, s1, s2, s3, s4⟩ := hSw; go_simp; try (with_reducible rfl))
  simp only [Act.put, List.getElem_toArray, List.getElem_cons_succ, List.getElem_cons_zero, List.setIfInBounds_toArray, List.set_cons_zero, List.set_cons_succ]
  refine wpAnyH_ready (rs := [2]) (by kernel_rfl) (by simp) ?_
  refine AllReadyH.cons rfl (fun K hK => ?_) AllReadyH.nil
  go_simp
  refine (isLeg_is ⟨x.frm, x.to_, x.tape, r, x.slope⟩ t HT _).mono ?_
  rintro e V3 ⟨rfl, b3⟩
  have HB3 := Lib.hid (HB0.out.trans (b3.mono HB0.out.size))
  have HX3 := Lib.hid (HX0.out.below b3 HX0.out.lt)
  have HR3 := Lib.hid (HR0.out.below b3 HR0.out.lt)
  refine hK.out _ _ ⟨HX3.out.cell 0, HX3.out.cell 1, HX3.out.cell 2, HX3.out.cell 3, HX3.out.cell 4⟩ (fun hHeld1 => ?_)
  clear b3 HB0 HX0 HR0
  clear hK K hHeld
  have hHeld := hHeld1
  clear hHeld1
  try simp only [Act.put, List.getElem_toArray, List.getElem_cons_succ, List.getElem_cons_zero, List.setIfInBounds_toArray, List.set_cons_zero, List.set_cons_succ]
  have z0 := HR3.out.cell 0
  have z1 := HR3.out.cell 1
  have z2 := HR3.out.cell 2
  have z3 := HR3.out.cell 3
  have z4 := HR3.out.cell 4
  have g0 := HR3.out.frozen 0
  have g1 := HR3.out.frozen 1
  have g2 := HR3.out.frozen 2
  have g3 := HR3.out.frozen 3
  have g4 := HR3.out.frozen 4
  have zl := HR3.out.lt
  simp at z0 z1 z2 z3 z4
  refine wpAnyH_ready (rs := [3]) (by kernel_rfl) (by simp) ?_
  refine AllReadyH.cons rfl (fun K hK => ?_) AllReadyH.nil
  go_simp
  have HXZ := (((((HX3.out.far (p := ⟨w.heap.size + 1, 0, none⟩) (by show w.heap.size ≠ w.heap.size + 1; omega) (.int .i64 x.frm)).far (p := ⟨w.heap.size + 1, 1, none⟩) (by show w.heap.size ≠ w.heap.size + 1; omega) (.int .i64 x.to_)).far (p := ⟨w.heap.size + 1, 2, none⟩) (by show w.heap.size ≠ w.heap.size + 1; omega) (.int .i64 x.tape)).far (p := ⟨w.heap.size + 1, 3, none⟩) (by show w.heap.size ≠ w.heap.size + 1; omega) (.int .i64 r)).far (p := ⟨w.heap.size + 1, 4, none⟩) (by show w.heap.size ≠ w.heap.size + 1; omega) (.int .i64 x.slope))
  refine hK.out _ _ ⟨HXZ.cell 0, HXZ.cell 1, HXZ.cell 2, HXZ.cell 3, HXZ.cell 4⟩ (fun hHeld1 => ?_)
  clear HXZ
  clear hK K hHeld
  have hHeld := hHeld1
  clear hHeld1
  try simp only [Act.put, List.getElem_toArray, List.getElem_cons_succ, List.getElem_cons_zero, List.setIfInBounds_toArray, List.set_cons_zero, List.set_cons_succ]
  refine' wpAnyH_take (i := 4) (v := ?vb1_4) rfl (by kernel_rfl) (by kernel_rfl) (by kernel_rfl) (fun _ _ _ h => h) (Or.inl ⟨by rfl, ?hyb1_4⟩) (by assumption) ?restb1_4
  case hyb1_4 => (intro w hSw; (try dsimp only at hSw); go_simp; try (with_reducible rfl))
  simp only [Act.put, List.getElem_toArray, List.getElem_cons_succ, List.getElem_cons_zero, List.setIfInBounds_toArray, List.set_cons_zero, List.set_cons_succ]
  refine wpAnyH_done (by kernel_rfl) ?_ _
  clear hHeld
  go_wp2_with fail
  refine bodyPost_ret (v := .tuple #[.agg #[.int .i64 x.frm, .int .i64 x.to_, .int .i64 x.tape, .int .i64 r, .int .i64 x.slope], .bool t]) (by simp [results, Tryz.results110, go_sem, *]) rfl ⟨by rw [HY.out, HT.out], ?_⟩
  exact (((((HB3.out.setCell (p := ⟨w.heap.size + 1, 0, none⟩) (by show w.heap.size ≤ w.heap.size + 1; omega) _).setCell (p := ⟨w.heap.size + 1, 1, none⟩) (by show w.heap.size ≤ w.heap.size + 1; omega) _).setCell (p := ⟨w.heap.size + 1, 2, none⟩) (by show w.heap.size ≤ w.heap.size + 1; omega) _).setCell (p := ⟨w.heap.size + 1, 3, none⟩) (by show w.heap.size ≤ w.heap.size + 1; omega) _).setCell (p := ⟨w.heap.size + 1, 4, none⟩) (by show w.heap.size ≤ w.heap.size + 1; omega) _)
set_option maxHeartbeats 8000000 in
set_option maxRecDepth 100000 in
theorem fixed_2 (x : Lg) (w : World) (hx : Hid (okLg x = true)) :
    Calls Tryz.prog 110 #[.agg #[.int .i64 x.frm, .int .i64 x.to_, .int .i64 x.tape, .int .i64 x.comp, .int .i64 x.slope], .int .i64 2] w (APost (.tuple #[.agg #[.int .i64 (fixLg x 2).frm, .int .i64 (fixLg x 2).to_, .int .i64 (fixLg x 2).tape, .int .i64 (fixLg x 2).comp, .int .i64 (fixLg x 2).slope], .bool (okLg (fixLg x 2))]) w) := by
  obtain ⟨⟨b0, b1⟩, ⟨b2, b3⟩, b4, ⟨b5, b6⟩, ⟨b7, b8⟩, ⟨b9, b10⟩⟩ := okLg_lim hx.out
  have xa : IntKind.i64.wrap (-x.slope) = -x.slope := IntWalk.i64_in _ (by omega)
  have HY := Lib.hid (show fixLg x 2 = ⟨x.frm, x.to_, x.tape, x.comp, -x.slope⟩ from rfl)
  obtain ⟨t, HT⟩ : ∃ t, Hid (okLg (⟨x.frm, x.to_, x.tape, x.comp, -x.slope⟩ : Lg) = t) := ⟨_, Lib.hid rfl⟩
  go_enter Tryz.func110, Tryz.ntmps110
  go_upto_region 11 with fail
  obtain ⟨U, HU⟩ : ∃ V, Hid ((w.alloc (.cells #[.int .i64 x.frm, .int .i64 x.to_, .int .i64 x.tape, .int .i64 x.comp, .int .i64 (-x.slope)] 87)).alloc (.cells #[.int .i64 0, .int .i64 0, .int .i64 0, .int .i64 0, .int .i64 0] 87) = V) := ⟨_, Lib.hid rfl⟩
  have HBU := Lib.hid (show Below w.heap.size w U by rw [← HU.out]; exact ((Below.refl _ _).alloc (Nat.le_refl _) _).alloc (by simp) _)
  have HXU := Lib.hid (show Blk U w.heap.size 87 #[.int .i64 x.frm, .int .i64 x.to_, .int .i64 x.tape, .int .i64 x.comp, .int .i64 (-x.slope)] by rw [← HU.out]; exact (Blk.new _ _ _).alloc _)
  have HRU := Lib.hid (show Blk U (w.heap.size + 1) 87 #[.int .i64 0, .int .i64 0, .int .i64 0, .int .i64 0, .int .i64 0] by rw [← HU.out]; have h := Blk.new (w.alloc (.cells #[.int .i64 x.frm, .int .i64 x.to_, .int .i64 x.tape, .int .i64 x.comp, .int .i64 (-x.slope)] 87)) 87 #[.int .i64 0, .int .i64 0, .int .i64 0, .int .i64 0, .int .i64 0]; simpa using h)
  rw [HU.out]
  clear HU
  refine wp_region_held_drew (S := (fun v => v.cell? ⟨w.heap.size, 0, none⟩ = some (.int .i64 x.frm) ∧ v.cell? ⟨w.heap.size, 1, none⟩ = some (.int .i64 x.to_) ∧ v.cell? ⟨w.heap.size, 2, none⟩ = some (.int .i64 x.tape) ∧ v.cell? ⟨w.heap.size, 3, none⟩ = some (.int .i64 x.comp) ∧ v.cell? ⟨w.heap.size, 4, none⟩ = some (.int .i64 (-x.slope)))) (by kernel_rfl) ?_ (fun hHeld => ?_)
  · exact ⟨HXU.out.cell 0, HXU.out.cell 1, HXU.out.cell 2, HXU.out.cell 3, HXU.out.cell 4⟩
  obtain ⟨V0, HV0⟩ : ∃ V, Hid (U.drew = V) := ⟨_, Lib.hid rfl⟩
  have HB0 := Lib.hid (show Below w.heap.size w V0 by rw [← HV0.out]; exact HBU.out.drew)
  have HX0 := Lib.hid (show Blk V0 w.heap.size 87 #[.int .i64 x.frm, .int .i64 x.to_, .int .i64 x.tape, .int .i64 x.comp, .int .i64 (-x.slope)] by rw [← HV0.out]; exact HXU.out)
  have HR0 := Lib.hid (show Blk V0 (w.heap.size + 1) 87 #[.int .i64 0, .int .i64 0, .int .i64 0, .int .i64 0, .int .i64 0] by rw [← HV0.out]; exact HRU.out)
  rw [HV0.out] at hHeld ⊢
  clear HV0 HBU HXU HRU
  refine' wpAnyH_take (i := 0) (v := .agg #[.int .i64 x.frm, .int .i64 x.to_, .int .i64 x.tape, .int .i64 x.comp, .int .i64 (-x.slope)]) rfl (by kernel_rfl) (by kernel_rfl) (by kernel_rfl) (fun _ _ _ h => h) (Or.inl ⟨by rfl, ?hyf2_0⟩) (by assumption) ?restf2_0
  case hyf2_0 => (intro w hSw; obtain ⟨s0, s1, s2, s3, s4⟩ := hSw; go_simp; try (with_reducible rfl))
  simp only [Act.put, List.getElem_toArray, List.getElem_cons_succ, List.getElem_cons_zero, List.setIfInBounds_toArray, List.set_cons_zero, List.set_cons_succ]
  refine' wpAnyH_take (i := 1) (v := .agg #[.int .i64 x.frm, .int .i64 x.to_, .int .i64 x.tape, .int .i64 x.comp, .int .i64 (-x.slope)]) rfl (by kernel_rfl) (by kernel_rfl) (by kernel_rfl) (fun _ _ _ h => h) (Or.inl ⟨by rfl, ?hyf2_1⟩) (by assumption) ?restf2_1
  case hyf2_1 => (intro w hSw; obtain ⟨s0, s1, s2, s3, s4⟩ := hSw; go_simp; try (with_reducible rfl))
  simp only [Act.put, List.getElem_toArray, List.getElem_cons_succ, List.getElem_cons_zero, List.setIfInBounds_toArray, List.set_cons_zero, List.set_cons_succ]
  refine wpAnyH_ready (rs := [2]) (by kernel_rfl) (by simp) ?_
  refine AllReadyH.cons rfl (fun K hK => ?_) AllReadyH.nil
  go_simp
  refine (isLeg_is ⟨x.frm, x.to_, x.tape, x.comp, -x.slope⟩ t HT _).mono ?_
  rintro e V3 ⟨rfl, b3⟩
  have HB3 := Lib.hid (HB0.out.trans (b3.mono HB0.out.size))
  have HX3 := Lib.hid (HX0.out.below b3 HX0.out.lt)
  have HR3 := Lib.hid (HR0.out.below b3 HR0.out.lt)
  refine hK.out _ _ ⟨HX3.out.cell 0, HX3.out.cell 1, HX3.out.cell 2, HX3.out.cell 3, HX3.out.cell 4⟩ (fun hHeld1 => ?_)
  clear b3 HB0 HX0 HR0
  clear hK K hHeld
  have hHeld := hHeld1
  clear hHeld1
  try simp only [Act.put, List.getElem_toArray, List.getElem_cons_succ, List.getElem_cons_zero, List.setIfInBounds_toArray, List.set_cons_zero, List.set_cons_succ]
  have z0 := HR3.out.cell 0
  have z1 := HR3.out.cell 1
  have z2 := HR3.out.cell 2
  have z3 := HR3.out.cell 3
  have z4 := HR3.out.cell 4
  have g0 := HR3.out.frozen 0
  have g1 := HR3.out.frozen 1
  have g2 := HR3.out.frozen 2
  have g3 := HR3.out.frozen 3
  have g4 := HR3.out.frozen 4
  have zl := HR3.out.lt
  simp at z0 z1 z2 z3 z4
  refine wpAnyH_ready (rs := [3]) (by kernel_rfl) (by simp) ?_
  refine AllReadyH.cons rfl (fun K hK => ?_) AllReadyH.nil
  go_simp
  have HXZ := (((((HX3.out.far (p := ⟨w.heap.size + 1, 0, none⟩) (by show w.heap.size ≠ w.heap.size + 1; omega) (.int .i64 x.frm)).far (p := ⟨w.heap.size + 1, 1, none⟩) (by show w.heap.size ≠ w.heap.size + 1; omega) (.int .i64 x.to_)).far (p := ⟨w.heap.size + 1, 2, none⟩) (by show w.heap.size ≠ w.heap.size + 1; omega) (.int .i64 x.tape)).far (p := ⟨w.heap.size + 1, 3, none⟩) (by show w.heap.size ≠ w.heap.size + 1; omega) (.int .i64 x.comp)).far (p := ⟨w.heap.size + 1, 4, none⟩) (by show w.heap.size ≠ w.heap.size + 1; omega) (.int .i64 (-x.slope)))
  refine hK.out _ _ ⟨HXZ.cell 0, HXZ.cell 1, HXZ.cell 2, HXZ.cell 3, HXZ.cell 4⟩ (fun hHeld1 => ?_)
  clear HXZ
  clear hK K hHeld
  have hHeld := hHeld1
  clear hHeld1
  try simp only [Act.put, List.getElem_toArray, List.getElem_cons_succ, List.getElem_cons_zero, List.setIfInBounds_toArray, List.set_cons_zero, List.set_cons_succ]
  refine' wpAnyH_take (i := 4) (v := ?vb2_4) rfl (by kernel_rfl) (by kernel_rfl) (by kernel_rfl) (fun _ _ _ h => h) (Or.inl ⟨by rfl, ?hyb2_4⟩) (by assumption) ?restb2_4
  case hyb2_4 => (intro w hSw; (try dsimp only at hSw); go_simp; try (with_reducible rfl))
  simp only [Act.put, List.getElem_toArray, List.getElem_cons_succ, List.getElem_cons_zero, List.setIfInBounds_toArray, List.set_cons_zero, List.set_cons_succ]
  refine wpAnyH_done (by kernel_rfl) ?_ _
  clear hHeld
  go_wp2_with fail
  refine bodyPost_ret (v := .tuple #[.agg #[.int .i64 x.frm, .int .i64 x.to_, .int .i64 x.tape, .int .i64 x.comp, .int .i64 (-x.slope)], .bool t]) (by simp [results, Tryz.results110, go_sem, *]) rfl ⟨by rw [HY.out, HT.out], ?_⟩
  exact (((((HB3.out.setCell (p := ⟨w.heap.size + 1, 0, none⟩) (by show w.heap.size ≤ w.heap.size + 1; omega) _).setCell (p := ⟨w.heap.size + 1, 1, none⟩) (by show w.heap.size ≤ w.heap.size + 1; omega) _).setCell (p := ⟨w.heap.size + 1, 2, none⟩) (by show w.heap.size ≤ w.heap.size + 1; omega) _).setCell (p := ⟨w.heap.size + 1, 3, none⟩) (by show w.heap.size ≤ w.heap.size + 1; omega) _).setCell (p := ⟨w.heap.size + 1, 4, none⟩) (by show w.heap.size ≤ w.heap.size + 1; omega) _)
set_option maxHeartbeats 8000000 in
set_option maxRecDepth 100000 in
theorem fixed_3 (x : Lg) (w : World) (hx : Hid (okLg x = true)) :
    Calls Tryz.prog 110 #[.agg #[.int .i64 x.frm, .int .i64 x.to_, .int .i64 x.tape, .int .i64 x.comp, .int .i64 x.slope], .int .i64 3] w (APost (.tuple #[.agg #[.int .i64 (fixLg x 3).frm, .int .i64 (fixLg x 3).to_, .int .i64 (fixLg x 3).tape, .int .i64 (fixLg x 3).comp, .int .i64 (fixLg x 3).slope], .bool (okLg (fixLg x 3))]) w) := by
  obtain ⟨⟨b0, b1⟩, ⟨b2, b3⟩, b4, ⟨b5, b6⟩, ⟨b7, b8⟩, ⟨b9, b10⟩⟩ := okLg_lim hx.out
  have xa : IntKind.i64.wrap (x.tape + 100) = x.tape + 100 := IntWalk.i64_in _ (by omega)
  have HY := Lib.hid (show fixLg x 3 = ⟨x.frm, x.to_, x.tape + 100, x.comp, x.slope⟩ from rfl)
  obtain ⟨t, HT⟩ : ∃ t, Hid (okLg (⟨x.frm, x.to_, x.tape + 100, x.comp, x.slope⟩ : Lg) = t) := ⟨_, Lib.hid rfl⟩
  go_enter Tryz.func110, Tryz.ntmps110
  go_upto_region 11 with fail
  obtain ⟨U, HU⟩ : ∃ V, Hid ((w.alloc (.cells #[.int .i64 x.frm, .int .i64 x.to_, .int .i64 (x.tape + 100), .int .i64 x.comp, .int .i64 x.slope] 87)).alloc (.cells #[.int .i64 0, .int .i64 0, .int .i64 0, .int .i64 0, .int .i64 0] 87) = V) := ⟨_, Lib.hid rfl⟩
  have HBU := Lib.hid (show Below w.heap.size w U by rw [← HU.out]; exact ((Below.refl _ _).alloc (Nat.le_refl _) _).alloc (by simp) _)
  have HXU := Lib.hid (show Blk U w.heap.size 87 #[.int .i64 x.frm, .int .i64 x.to_, .int .i64 (x.tape + 100), .int .i64 x.comp, .int .i64 x.slope] by rw [← HU.out]; exact (Blk.new _ _ _).alloc _)
  have HRU := Lib.hid (show Blk U (w.heap.size + 1) 87 #[.int .i64 0, .int .i64 0, .int .i64 0, .int .i64 0, .int .i64 0] by rw [← HU.out]; have h := Blk.new (w.alloc (.cells #[.int .i64 x.frm, .int .i64 x.to_, .int .i64 (x.tape + 100), .int .i64 x.comp, .int .i64 x.slope] 87)) 87 #[.int .i64 0, .int .i64 0, .int .i64 0, .int .i64 0, .int .i64 0]; simpa using h)
  rw [HU.out]
  clear HU
  refine wp_region_held_drew (S := (fun v => v.cell? ⟨w.heap.size, 0, none⟩ = some (.int .i64 x.frm) ∧ v.cell? ⟨w.heap.size, 1, none⟩ = some (.int .i64 x.to_) ∧ v.cell? ⟨w.heap.size, 2, none⟩ = some (.int .i64 (x.tape + 100)) ∧ v.cell? ⟨w.heap.size, 3, none⟩ = some (.int .i64 x.comp) ∧ v.cell? ⟨w.heap.size, 4, none⟩ = some (.int .i64 x.slope))) (by kernel_rfl) ?_ (fun hHeld => ?_)
  · exact ⟨HXU.out.cell 0, HXU.out.cell 1, HXU.out.cell 2, HXU.out.cell 3, HXU.out.cell 4⟩
  obtain ⟨V0, HV0⟩ : ∃ V, Hid (U.drew = V) := ⟨_, Lib.hid rfl⟩
  have HB0 := Lib.hid (show Below w.heap.size w V0 by rw [← HV0.out]; exact HBU.out.drew)
  have HX0 := Lib.hid (show Blk V0 w.heap.size 87 #[.int .i64 x.frm, .int .i64 x.to_, .int .i64 (x.tape + 100), .int .i64 x.comp, .int .i64 x.slope] by rw [← HV0.out]; exact HXU.out)
  have HR0 := Lib.hid (show Blk V0 (w.heap.size + 1) 87 #[.int .i64 0, .int .i64 0, .int .i64 0, .int .i64 0, .int .i64 0] by rw [← HV0.out]; exact HRU.out)
  rw [HV0.out] at hHeld ⊢
  clear HV0 HBU HXU HRU
  refine' wpAnyH_take (i := 0) (v := .agg #[.int .i64 x.frm, .int .i64 x.to_, .int .i64 (x.tape + 100), .int .i64 x.comp, .int .i64 x.slope]) rfl (by kernel_rfl) (by kernel_rfl) (by kernel_rfl) (fun _ _ _ h => h) (Or.inl ⟨by rfl, ?hyf3_0⟩) (by assumption) ?restf3_0
  case hyf3_0 => (intro w hSw; obtain ⟨s0, s1, s2, s3, s4⟩ := hSw; go_simp; try (with_reducible rfl))
  simp only [Act.put, List.getElem_toArray, List.getElem_cons_succ, List.getElem_cons_zero, List.setIfInBounds_toArray, List.set_cons_zero, List.set_cons_succ]
  refine' wpAnyH_take (i := 1) (v := .agg #[.int .i64 x.frm, .int .i64 x.to_, .int .i64 (x.tape + 100), .int .i64 x.comp, .int .i64 x.slope]) rfl (by kernel_rfl) (by kernel_rfl) (by kernel_rfl) (fun _ _ _ h => h) (Or.inl ⟨by rfl, ?hyf3_1⟩) (by assumption) ?restf3_1
  case hyf3_1 => (intro w hSw; obtain ⟨s0, s1, s2, s3, s4⟩ := hSw; go_simp; try (with_reducible rfl))
  simp only [Act.put, List.getElem_toArray, List.getElem_cons_succ, List.getElem_cons_zero, List.setIfInBounds_toArray, List.set_cons_zero, List.set_cons_succ]
  refine wpAnyH_ready (rs := [2]) (by kernel_rfl) (by simp) ?_
  refine AllReadyH.cons rfl (fun K hK => ?_) AllReadyH.nil
  go_simp
  refine (isLeg_is ⟨x.frm, x.to_, x.tape + 100, x.comp, x.slope⟩ t HT _).mono ?_
  rintro e V3 ⟨rfl, b3⟩
  have HB3 := Lib.hid (HB0.out.trans (b3.mono HB0.out.size))
  have HX3 := Lib.hid (HX0.out.below b3 HX0.out.lt)
  have HR3 := Lib.hid (HR0.out.below b3 HR0.out.lt)
  refine hK.out _ _ ⟨HX3.out.cell 0, HX3.out.cell 1, HX3.out.cell 2, HX3.out.cell 3, HX3.out.cell 4⟩ (fun hHeld1 => ?_)
  clear b3 HB0 HX0 HR0
  clear hK K hHeld
  have hHeld := hHeld1
  clear hHeld1
  try simp only [Act.put, List.getElem_toArray, List.getElem_cons_succ, List.getElem_cons_zero, List.setIfInBounds_toArray, List.set_cons_zero, List.set_cons_succ]
  have z0 := HR3.out.cell 0
  have z1 := HR3.out.cell 1
  have z2 := HR3.out.cell 2
  have z3 := HR3.out.cell 3
  have z4 := HR3.out.cell 4
  have g0 := HR3.out.frozen 0
  have g1 := HR3.out.frozen 1
  have g2 := HR3.out.frozen 2
  have g3 := HR3.out.frozen 3
  have g4 := HR3.out.frozen 4
  have zl := HR3.out.lt
  simp at z0 z1 z2 z3 z4
  refine wpAnyH_ready (rs := [3]) (by kernel_rfl) (by simp) ?_
  refine AllReadyH.cons rfl (fun K hK => ?_) AllReadyH.nil
  go_simp
  have HXZ := (((((HX3.out.far (p := ⟨w.heap.size + 1, 0, none⟩) (by show w.heap.size ≠ w.heap.size + 1; omega) (.int .i64 x.frm)).far (p := ⟨w.heap.size + 1, 1, none⟩) (by show w.heap.size ≠ w.heap.size + 1; omega) (.int .i64 x.to_)).far (p := ⟨w.heap.size + 1, 2, none⟩) (by show w.heap.size ≠ w.heap.size + 1; omega) (.int .i64 (x.tape + 100))).far (p := ⟨w.heap.size + 1, 3, none⟩) (by show w.heap.size ≠ w.heap.size + 1; omega) (.int .i64 x.comp)).far (p := ⟨w.heap.size + 1, 4, none⟩) (by show w.heap.size ≠ w.heap.size + 1; omega) (.int .i64 x.slope))
  refine hK.out _ _ ⟨HXZ.cell 0, HXZ.cell 1, HXZ.cell 2, HXZ.cell 3, HXZ.cell 4⟩ (fun hHeld1 => ?_)
  clear HXZ
  clear hK K hHeld
  have hHeld := hHeld1
  clear hHeld1
  try simp only [Act.put, List.getElem_toArray, List.getElem_cons_succ, List.getElem_cons_zero, List.setIfInBounds_toArray, List.set_cons_zero, List.set_cons_succ]
  refine' wpAnyH_take (i := 4) (v := ?vb3_4) rfl (by kernel_rfl) (by kernel_rfl) (by kernel_rfl) (fun _ _ _ h => h) (Or.inl ⟨by rfl, ?hyb3_4⟩) (by assumption) ?restb3_4
  case hyb3_4 => (intro w hSw; (try dsimp only at hSw); go_simp; try (with_reducible rfl))
  simp only [Act.put, List.getElem_toArray, List.getElem_cons_succ, List.getElem_cons_zero, List.setIfInBounds_toArray, List.set_cons_zero, List.set_cons_succ]
  refine wpAnyH_done (by kernel_rfl) ?_ _
  clear hHeld
  go_wp2_with fail
  refine bodyPost_ret (v := .tuple #[.agg #[.int .i64 x.frm, .int .i64 x.to_, .int .i64 (x.tape + 100), .int .i64 x.comp, .int .i64 x.slope], .bool t]) (by simp [results, Tryz.results110, go_sem, *]) rfl ⟨by rw [HY.out, HT.out], ?_⟩
  exact (((((HB3.out.setCell (p := ⟨w.heap.size + 1, 0, none⟩) (by show w.heap.size ≤ w.heap.size + 1; omega) _).setCell (p := ⟨w.heap.size + 1, 1, none⟩) (by show w.heap.size ≤ w.heap.size + 1; omega) _).setCell (p := ⟨w.heap.size + 1, 2, none⟩) (by show w.heap.size ≤ w.heap.size + 1; omega) _).setCell (p := ⟨w.heap.size + 1, 3, none⟩) (by show w.heap.size ≤ w.heap.size + 1; omega) _).setCell (p := ⟨w.heap.size + 1, 4, none⟩) (by show w.heap.size ≤ w.heap.size + 1; omega) _)
set_option maxHeartbeats 8000000 in
set_option maxRecDepth 100000 in
theorem fixed_4 (x : Lg) (w : World) (hx : Hid (okLg x = true)) :
    Calls Tryz.prog 110 #[.agg #[.int .i64 x.frm, .int .i64 x.to_, .int .i64 x.tape, .int .i64 x.comp, .int .i64 x.slope], .int .i64 4] w (APost (.tuple #[.agg #[.int .i64 (fixLg x 4).frm, .int .i64 (fixLg x 4).to_, .int .i64 (fixLg x 4).tape, .int .i64 (fixLg x 4).comp, .int .i64 (fixLg x 4).slope], .bool (okLg (fixLg x 4))]) w) := by
  obtain ⟨⟨b0, b1⟩, ⟨b2, b3⟩, b4, ⟨b5, b6⟩, ⟨b7, b8⟩, ⟨b9, b10⟩⟩ := okLg_lim hx.out
  have xa : IntKind.i64.wrap (x.tape - 100) = x.tape - 100 := IntWalk.i64_in _ (by omega)
  have HY := Lib.hid (show fixLg x 4 = ⟨x.frm, x.to_, x.tape - 100, x.comp, x.slope⟩ from rfl)
  obtain ⟨t, HT⟩ : ∃ t, Hid (okLg (⟨x.frm, x.to_, x.tape - 100, x.comp, x.slope⟩ : Lg) = t) := ⟨_, Lib.hid rfl⟩
  go_enter Tryz.func110, Tryz.ntmps110
  go_upto_region 11 with fail
  obtain ⟨U, HU⟩ : ∃ V, Hid ((w.alloc (.cells #[.int .i64 x.frm, .int .i64 x.to_, .int .i64 (x.tape - 100), .int .i64 x.comp, .int .i64 x.slope] 87)).alloc (.cells #[.int .i64 0, .int .i64 0, .int .i64 0, .int .i64 0, .int .i64 0] 87) = V) := ⟨_, Lib.hid rfl⟩
  have HBU := Lib.hid (show Below w.heap.size w U by rw [← HU.out]; exact ((Below.refl _ _).alloc (Nat.le_refl _) _).alloc (by simp) _)
  have HXU := Lib.hid (show Blk U w.heap.size 87 #[.int .i64 x.frm, .int .i64 x.to_, .int .i64 (x.tape - 100), .int .i64 x.comp, .int .i64 x.slope] by rw [← HU.out]; exact (Blk.new _ _ _).alloc _)
  have HRU := Lib.hid (show Blk U (w.heap.size + 1) 87 #[.int .i64 0, .int .i64 0, .int .i64 0, .int .i64 0, .int .i64 0] by rw [← HU.out]; have h := Blk.new (w.alloc (.cells #[.int .i64 x.frm, .int .i64 x.to_, .int .i64 (x.tape - 100), .int .i64 x.comp, .int .i64 x.slope] 87)) 87 #[.int .i64 0, .int .i64 0, .int .i64 0, .int .i64 0, .int .i64 0]; simpa using h)
  rw [HU.out]
  clear HU
  refine wp_region_held_drew (S := (fun v => v.cell? ⟨w.heap.size, 0, none⟩ = some (.int .i64 x.frm) ∧ v.cell? ⟨w.heap.size, 1, none⟩ = some (.int .i64 x.to_) ∧ v.cell? ⟨w.heap.size, 2, none⟩ = some (.int .i64 (x.tape - 100)) ∧ v.cell? ⟨w.heap.size, 3, none⟩ = some (.int .i64 x.comp) ∧ v.cell? ⟨w.heap.size, 4, none⟩ = some (.int .i64 x.slope))) (by kernel_rfl) ?_ (fun hHeld => ?_)
  · exact ⟨HXU.out.cell 0, HXU.out.cell 1, HXU.out.cell 2, HXU.out.cell 3, HXU.out.cell 4⟩
  obtain ⟨V0, HV0⟩ : ∃ V, Hid (U.drew = V) := ⟨_, Lib.hid rfl⟩
  have HB0 := Lib.hid (show Below w.heap.size w V0 by rw [← HV0.out]; exact HBU.out.drew)
  have HX0 := Lib.hid (show Blk V0 w.heap.size 87 #[.int .i64 x.frm, .int .i64 x.to_, .int .i64 (x.tape - 100), .int .i64 x.comp, .int .i64 x.slope] by rw [← HV0.out]; exact HXU.out)
  have HR0 := Lib.hid (show Blk V0 (w.heap.size + 1) 87 #[.int .i64 0, .int .i64 0, .int .i64 0, .int .i64 0, .int .i64 0] by rw [← HV0.out]; exact HRU.out)
  rw [HV0.out] at hHeld ⊢
  clear HV0 HBU HXU HRU
  refine' wpAnyH_take (i := 0) (v := .agg #[.int .i64 x.frm, .int .i64 x.to_, .int .i64 (x.tape - 100), .int .i64 x.comp, .int .i64 x.slope]) rfl (by kernel_rfl) (by kernel_rfl) (by kernel_rfl) (fun _ _ _ h => h) (Or.inl ⟨by rfl, ?hyf4_0⟩) (by assumption) ?restf4_0
  case hyf4_0 => (intro w hSw; obtain ⟨s0, s1, s2, s3, s4⟩ := hSw; go_simp; try (with_reducible rfl))
  simp only [Act.put, List.getElem_toArray, List.getElem_cons_succ, List.getElem_cons_zero, List.setIfInBounds_toArray, List.set_cons_zero, List.set_cons_succ]
  refine' wpAnyH_take (i := 1) (v := .agg #[.int .i64 x.frm, .int .i64 x.to_, .int .i64 (x.tape - 100), .int .i64 x.comp, .int .i64 x.slope]) rfl (by kernel_rfl) (by kernel_rfl) (by kernel_rfl) (fun _ _ _ h => h) (Or.inl ⟨by rfl, ?hyf4_1⟩) (by assumption) ?restf4_1
  case hyf4_1 => (intro w hSw; obtain ⟨s0, s1, s2, s3, s4⟩ := hSw; go_simp; try (with_reducible rfl))
  simp only [Act.put, List.getElem_toArray, List.getElem_cons_succ, List.getElem_cons_zero, List.setIfInBounds_toArray, List.set_cons_zero, List.set_cons_succ]
  refine wpAnyH_ready (rs := [2]) (by kernel_rfl) (by simp) ?_
  refine AllReadyH.cons rfl (fun K hK => ?_) AllReadyH.nil
  go_simp
  refine (isLeg_is ⟨x.frm, x.to_, x.tape - 100, x.comp, x.slope⟩ t HT _).mono ?_
  rintro e V3 ⟨rfl, b3⟩
  have HB3 := Lib.hid (HB0.out.trans (b3.mono HB0.out.size))
  have HX3 := Lib.hid (HX0.out.below b3 HX0.out.lt)
  have HR3 := Lib.hid (HR0.out.below b3 HR0.out.lt)
  refine hK.out _ _ ⟨HX3.out.cell 0, HX3.out.cell 1, HX3.out.cell 2, HX3.out.cell 3, HX3.out.cell 4⟩ (fun hHeld1 => ?_)
  clear b3 HB0 HX0 HR0
  clear hK K hHeld
  have hHeld := hHeld1
  clear hHeld1
  try simp only [Act.put, List.getElem_toArray, List.getElem_cons_succ, List.getElem_cons_zero, List.setIfInBounds_toArray, List.set_cons_zero, List.set_cons_succ]
  have z0 := HR3.out.cell 0
  have z1 := HR3.out.cell 1
  have z2 := HR3.out.cell 2
  have z3 := HR3.out.cell 3
  have z4 := HR3.out.cell 4
  have g0 := HR3.out.frozen 0
  have g1 := HR3.out.frozen 1
  have g2 := HR3.out.frozen 2
  have g3 := HR3.out.frozen 3
  have g4 := HR3.out.frozen 4
  have zl := HR3.out.lt
  simp at z0 z1 z2 z3 z4
  refine wpAnyH_ready (rs := [3]) (by kernel_rfl) (by simp) ?_
  refine AllReadyH.cons rfl (fun K hK => ?_) AllReadyH.nil
  go_simp
  have HXZ := (((((HX3.out.far (p := ⟨w.heap.size + 1, 0, none⟩) (by show w.heap.size ≠ w.heap.size + 1; omega) (.int .i64 x.frm)).far (p := ⟨w.heap.size + 1, 1, none⟩) (by show w.heap.size ≠ w.heap.size + 1; omega) (.int .i64 x.to_)).far (p := ⟨w.heap.size + 1, 2, none⟩) (by show w.heap.size ≠ w.heap.size + 1; omega) (.int .i64 (x.tape - 100))).far (p := ⟨w.heap.size + 1, 3, none⟩) (by show w.heap.size ≠ w.heap.size + 1; omega) (.int .i64 x.comp)).far (p := ⟨w.heap.size + 1, 4, none⟩) (by show w.heap.size ≠ w.heap.size + 1; omega) (.int .i64 x.slope))
  refine hK.out _ _ ⟨HXZ.cell 0, HXZ.cell 1, HXZ.cell 2, HXZ.cell 3, HXZ.cell 4⟩ (fun hHeld1 => ?_)
  clear HXZ
  clear hK K hHeld
  have hHeld := hHeld1
  clear hHeld1
  try simp only [Act.put, List.getElem_toArray, List.getElem_cons_succ, List.getElem_cons_zero, List.setIfInBounds_toArray, List.set_cons_zero, List.set_cons_succ]
  refine' wpAnyH_take (i := 4) (v := ?vb4_4) rfl (by kernel_rfl) (by kernel_rfl) (by kernel_rfl) (fun _ _ _ h => h) (Or.inl ⟨by rfl, ?hyb4_4⟩) (by assumption) ?restb4_4
  case hyb4_4 => (intro w hSw; (try dsimp only at hSw); go_simp; try (with_reducible rfl))
  simp only [Act.put, List.getElem_toArray, List.getElem_cons_succ, List.getElem_cons_zero, List.setIfInBounds_toArray, List.set_cons_zero, List.set_cons_succ]
  refine wpAnyH_done (by kernel_rfl) ?_ _
  clear hHeld
  go_wp2_with fail
  refine bodyPost_ret (v := .tuple #[.agg #[.int .i64 x.frm, .int .i64 x.to_, .int .i64 (x.tape - 100), .int .i64 x.comp, .int .i64 x.slope], .bool t]) (by simp [results, Tryz.results110, go_sem, *]) rfl ⟨by rw [HY.out, HT.out], ?_⟩
  exact (((((HB3.out.setCell (p := ⟨w.heap.size + 1, 0, none⟩) (by show w.heap.size ≤ w.heap.size + 1; omega) _).setCell (p := ⟨w.heap.size + 1, 1, none⟩) (by show w.heap.size ≤ w.heap.size + 1; omega) _).setCell (p := ⟨w.heap.size + 1, 2, none⟩) (by show w.heap.size ≤ w.heap.size + 1; omega) _).setCell (p := ⟨w.heap.size + 1, 3, none⟩) (by show w.heap.size ≤ w.heap.size + 1; omega) _).setCell (p := ⟨w.heap.size + 1, 4, none⟩) (by show w.heap.size ≤ w.heap.size + 1; omega) _)
set_option maxHeartbeats 4000000 in
set_option maxRecDepth 100000 in
theorem fixed_no (x : Lg) (f : Int) (w : World) (n1 : ¬ f = 1) (n2 : ¬ f = 2) (n3 : ¬ f = 3) (n4 : ¬ f = 4) :
    Calls Tryz.prog 110 #[.agg #[.int .i64 x.frm, .int .i64 x.to_, .int .i64 x.tape, .int .i64 x.comp, .int .i64 x.slope], .int .i64 f] w (APost (.tuple #[.agg #[.int .i64 0, .int .i64 0, .int .i64 0, .int .i64 0, .int .i64 0], .bool false]) w) := by
  have m1 : (f == 1) = false := by simpa using n1
  have m2 : (f == 2) = false := by simpa using n2
  have m3 : (f == 3) = false := by simpa using n3
  have m4 : (f == 4) = false := by simpa using n4
  go_enter Tryz.func110, Tryz.ntmps110
  go_wp2_with fail
  refine bodyPost_ret (v := .tuple #[.agg #[.int .i64 0, .int .i64 0, .int .i64 0, .int .i64 0, .int .i64 0], .bool false]) (by simp [results, Tryz.results110, go_sem, *]) rfl ⟨rfl, ?_⟩
  exact ((Below.refl _ _).alloc (Nat.le_refl _) _).alloc (by simp) _
/-- what fixedLeg returns -/
def fxY (x : Lg) (f : Int) : Lg := if btw 1 f 4 then fixLg x f else ⟨0, 0, 0, 0, 0⟩
def fxT (x : Lg) (f : Int) : Bool := btw 1 f 4 && okLg (fixLg x f)
theorem fixed_any (x y : Lg) (f : Int) (t : Bool) (w : World) (hx : Hid (okLg x = true)) (HY : Hid (fxY x f = y)) (HT : Hid (fxT x f = t)) :
    Calls Tryz.prog 110 #[.agg #[.int .i64 x.frm, .int .i64 x.to_, .int .i64 x.tape, .int .i64 x.comp, .int .i64 x.slope], .int .i64 f] w (APost (.tuple #[.agg #[.int .i64 y.frm, .int .i64 y.to_, .int .i64 y.tape, .int .i64 y.comp, .int .i64 y.slope], .bool t]) w) := by
  rw [← HY.out, ← HT.out]
  unfold fxY fxT
  cases hb : btw 1 f 4
  · have h : ¬ (1 ≤ f ∧ f ≤ 4) := fun h => by rw [btw_mk h.1 h.2] at hb; cases hb
    exact fixed_no x f w (by omega) (by omega) (by omega) (by omega)
  · have h := btw_yes hb
    have hc : f = 1 ∨ f = 2 ∨ f = 3 ∨ f = 4 := by omega
    rw [if_pos rfl, Bool.true_and]
    rcases hc with rfl | rfl | rfl | rfl
    · exact fixed_1 x w hx
    · exact fixed_2 x w hx
    · exact fixed_3 x w hx
    · exact fixed_4 x w hx
theorem step_moveg {ops : Array Oper} {rest : List Oper} {o : Oper} {a : Act} {Q : Exit → Act → World → Prop} (w : World) (hw : Region.wanted o (yielded ops a.tmps) = true) (x : Operand) (hop : o.op = .move x) (v : Value) (hx : a.eval x = v)
    (hK : wpList Tryz.prog ops Q rest (a.put o.dst v) w) : wpList Tryz.prog ops Q (o :: rest) a w := by
  refine wpList_step fun K hK' => ?_
  rw [if_pos hw]
  unfold Oper.wp execOp
  simp only [hop, hx, Sem.run_pure, Oper.upon]
  exact hK' _ _ hK
set_option maxHeartbeats 8000000 in
set_option maxRecDepth 100000 in
theorem fixLeg_impl (A : Option Addr) (n cap : Nat) (ts : List Lg) (q f : Int) (w : World) (hn : n ≤ 2000000) (hts : Hid (LgAt w w.heap.size A n ts)) (hT : Hid (Tab w)) :
    Calls Tryz.prog 53 #[.slice A n cap, .int .i64 q, .int .i64 f] w (FPo (fxTs ts q f) (canB ts q f) w) := by
  have HL := Lib.hid hts.out.1
  obtain ⟨C, HC⟩ : ∃ C, Hid (nv (netS ts) (clS ts) = C) := ⟨_, Lib.hid rfl⟩
  obtain ⟨g, HG⟩ : ∃ g, Hid (goodLg ts = g) := ⟨_, Lib.hid rfl⟩
  have hcz : C.size = 56 := by rw [← HC.out]; exact nv_size (nok_S ts)
  have HC1 := Lib.hid (show C.all (·.oneCell') = true by rw [← HC.out]; exact nv_one)
  obtain ⟨T, HTT⟩ : ∃ t, Hid (canB ts q f = t) := ⟨_, Lib.hid rfl⟩
  rw [HTT.out]
  have HNO := Lib.hid (show T = false → fxTs ts q f = [] from fun e => by unfold fxTs; rw [HTT.out, e]; rfl)
  go_enter Tryz.func53, Tryz.ntmps53
  go_wp2_with fail
  refine (net_any A n cap ts C g HC HG _ hn hts hT).mono ?_
  rintro e w1 ⟨rfl, b1⟩
  have HB1 := Lib.hid b1
  clear b1
  have hst := lay_net hcz HC1.out w1
  have HB2 := Lib.hid (HB1.out.alloc HB1.out.size (.cells C 76))
  have HN2 := Lib.hid (Blk.new w1 76 C)
  go_upto_region 2 with fail
  clear hst
  obtain ⟨W, HW⟩ : ∃ W, Hid (w1.alloc (.cells C 76) = W) := ⟨_, Lib.hid rfl⟩
  obtain ⟨G, HGG⟩ : ∃ q, Hid (w1.heap.size = q) := ⟨_, Lib.hid rfl⟩
  rw [HGG.out] at HN2
  rw [HW.out] at HB2 HN2 ⊢
  try simp only [HGG.out]
  clear HW HB1 HGG
  cases g
  · obtain rfl : T = false := by rw [← HTT.out]; unfold canB plB; rw [HG.out]; rfl
    go_wp2_with fail
    go_ret2
    exact ⟨some ⟨W.heap.size, 0, none⟩, 0, by rw [HNO.out (by first | trivial | rfl)]; rfl, by rw [HNO.out (by first | trivial | rfl)]; exact World.ownsRow_made W #[] 0 HB2.out.size (by decide) (by simp), HB2.out.alloc HB2.out.size _⟩
  have hn12 := len12 HL.out HG.out
  have HCN := Lib.hid (show nv (net ts) (clS ts) = C by rw [← HC.out]; unfold netS; rw [HG.out]; rfl)
  have hcl12 : (clS ts).length = 12 := (nok_S ts).2
  refine wp_region_list ?_
  refine step_move _ rfl _ rfl _ rfl ?_
  simp only [Act.put, List.getElem_toArray, List.getElem_cons_succ, List.getElem_cons_zero, List.setIfInBounds_toArray, List.set_cons_zero, List.set_cons_succ, Bool.not_true, Bool.not_false]
  refine step_not _ rfl _ _ rfl true rfl ?_
  simp only [Act.put, List.getElem_toArray, List.getElem_cons_succ, List.getElem_cons_zero, List.setIfInBounds_toArray, List.set_cons_zero, List.set_cons_succ, Bool.not_true, Bool.not_false]
  refine step_move _ rfl _ rfl _ rfl ?_
  simp only [Act.put, List.getElem_toArray, List.getElem_cons_succ, List.getElem_cons_zero, List.setIfInBounds_toArray, List.set_cons_zero, List.set_cons_succ, Bool.not_true, Bool.not_false]
  refine step_moveg _ rfl _ rfl _ rfl ?_
  simp only [Act.put, List.getElem_toArray, List.getElem_cons_succ, List.getElem_cons_zero, List.setIfInBounds_toArray, List.set_cons_zero, List.set_cons_succ, Bool.not_true, Bool.not_false]
  refine step_loadg _ rfl _ rfl G _ rfl HN2.out hcz ?_
  simp only [Act.put, List.getElem_toArray, List.getElem_cons_succ, List.getElem_cons_zero, List.setIfInBounds_toArray, List.set_cons_zero, List.set_cons_succ, Bool.not_true, Bool.not_false]
  go_wp2_with fail
  refine (placedLegs_any A n cap ts (clS ts) C _ HCN hcl12 HG (Lib.hid (hts.out.step HB2.out))).mono ?_
  rintro e w3 ⟨vU, rfl, hOU, b3⟩
  obtain ⟨U, HU⟩ : ∃ q, Hid (plIds ts = q) := ⟨_, Lib.hid rfl⟩
  obtain ⟨nu, HNU⟩ : ∃ q, Hid (U.length = q) := ⟨_, Lib.hid rfl⟩
  have hnu : nu ≤ 12 := by rw [← HNU.out, ← HU.out]; have := plIds_len' ts; rw [HL.out] at this; omega
  rw [HU.out, HNU.out] at hOU
  obtain ⟨AU, cU, rfl⟩ := row_slice hOU
  have HI3 := Lib.hid (ints.IL.of_own hOU)
  have HB3 := Lib.hid (HB2.out.trans (b3.mono HB2.out.size))
  clear b3 hOU HB2 HN2
  obtain ⟨p, HPL⟩ : ∃ p, Hid (plB ts q = p) := ⟨_, Lib.hid rfl⟩
  have HM := Lib.hid (show mem U q = p by rw [← HPL.out, ← HU.out]; unfold plB; rw [HG.out]; rfl)
  cases p
  · obtain rfl : T = false := by rw [← HTT.out]; unfold canB; rw [HPL.out]; rfl
    go_wp2_with fail
    refine (contains_int AU nu cU U q false HM _ (by omega) HI3).mono ?_
    rintro e w4 ⟨rfl, rfl⟩
    go_wp2_with fail
    go_ret2
    exact ⟨some ⟨w3.heap.size, 0, none⟩, 0, by rw [HNO.out (by first | trivial | rfl)]; rfl, by rw [HNO.out (by first | trivial | rfl)]; exact World.ownsRow_made w3 #[] 0 HB3.out.size (by decide) (by simp), HB3.out.alloc HB3.out.size _⟩
  obtain ⟨j, x, rfl, hx, -, hfx, hcn, -⟩ := can_at (f := f) HPL.out
  have HX := Lib.hid hx
  have hjn : j < n := by have := lt_at hx; rw [HL.out] at this; exact this
  have hji : (j : Int) < (n : Int) := by omega
  have hj0 : (0 : Int) ≤ (j : Int) := by omega
  have HOX := Lib.hid (goodLg_at HG.out hx)
  obtain ⟨y, HY⟩ : ∃ y, Hid (fxY x f = y) := ⟨_, Lib.hid rfl⟩
  have HTF := Lib.hid (show fxT x f = T by rw [← HTT.out, hcn, fix_good HG.out (lt_at hx)]; rfl)
  have HFX := Lib.hid hfx
  obtain ⟨gL, rfl⟩ := lg_addr hts.out hx
  obtain ⟨gX, eX, hgX, e0, e1, e2, e3, e4⟩ := (hts.out.below HB3.out).2 j x hx
  obtain rfl : gL = gX := by injection eX with eX; injection eX
  clear eX hx hfx hcn hgX
  go_wp2_with fail
  refine (contains_int AU nu cU U (j : Int) true HM _ (by omega) HI3).mono ?_
  rintro e w4 ⟨rfl, rfl⟩
  go_wp2_with fail
  refine (fixed_any x y f T _ HOX HY HTF).mono ?_
  rintro e w5 ⟨rfl, b5⟩
  have HB5 := Lib.hid (HB3.out.trans (b5.mono HB3.out.size))
  have HB6 := Lib.hid (HB5.out.alloc HB5.out.size (.cells #[.int .i64 y.frm, .int .i64 y.to_, .int .i64 y.tape, .int .i64 y.comp, .int .i64 y.slope] 87))
  have HY6 := Lib.hid (Blk.new w5 87 #[.int .i64 y.frm, .int .i64 y.to_, .int .i64 y.tape, .int .i64 y.comp, .int .i64 y.slope])
  clear b5 HB3 HB5 e0 e1 e2 e3 e4 HI3
  go_upto_region 5 with fail
  obtain ⟨V, HV⟩ : ∃ V, Hid (w5.alloc (.cells #[.int .i64 y.frm, .int .i64 y.to_, .int .i64 y.tape, .int .i64 y.comp, .int .i64 y.slope] 87) = V) := ⟨_, Lib.hid rfl⟩
  obtain ⟨Y, HYY⟩ : ∃ q, Hid (w5.heap.size = q) := ⟨_, Lib.hid rfl⟩
  rw [HYY.out] at HY6
  rw [HV.out] at HY6 HB6 ⊢
  try simp only [HYY.out]
  clear HV HYY
  cases T
  · go_wp2_with fail
    go_ret2
    exact ⟨some ⟨V.heap.size, 0, none⟩, 0, by rw [HNO.out (by first | trivial | rfl)]; rfl, by rw [HNO.out (by first | trivial | rfl)]; exact World.ownsRow_made V #[] 0 HB6.out.size (by decide) (by simp), HB6.out.alloc HB6.out.size _⟩
  have HYE := Lib.hid (show fixLg x f = y by
    have h := HTF.out
    unfold fxT at h
    rw [Bool.and_eq_true] at h
    rw [← HY.out]; unfold fxY; rw [if_pos h.1])
  have HF := Lib.hid (show fxTs ts (j : Int) f = ts.set j y by unfold fxTs; rw [HTT.out, if_pos rfl, HFX.out, HYE.out])
  have HFL := Lib.hid (show (flatLg ts).length = n * 5 by rw [flatLg_len, HL.out])
  go_wp2_with fail
  refine (clone_any (some ⟨gL, 0, none⟩) n cap ts _ hn (Lib.hid (hts.out.step HB6.out))).mono ?_
  rintro e w7 ⟨A7, c7, rfl, hO7, b7⟩
  rw [HL.out] at hO7 ⊢
  have HO7 := Lib.hid (own_low HB6.out.size hO7)
  have HB7 := Lib.hid (HB6.out.trans (b7.mono HB6.out.size))
  have HY7 := Lib.hid (HY6.out.below b7 HY6.out.lt)
  obtain ⟨g7, rfl⟩ := lg_addr (own_Lg HL.out hO7) HX.out
  have hlo7 : V.heap.size ≤ g7 := (hO7.lt g7 rfl).1
  have hYg : Y < g7 := by have := HY6.out.lt; omega
  clear b7 hO7 HY6 HB6 hlo7
  have hrow := HO7.out
  obtain ⟨d0, k0⟩ : ∃ c, w7.cell? ⟨g7, j * 5, none⟩ = some c := ⟨_, (hrow.cellAt (j * 5) (by omega)).trans (List.getElem?_eq_getElem (by rw [HFL.out]; omega))⟩
  have f0 := hrow.frozenAt (j * 5)
  obtain ⟨d1, k1⟩ : ∃ c, w7.cell? ⟨g7, j * 5 + 1, none⟩ = some c := ⟨_, (hrow.cellAt (j * 5 + 1) (by omega)).trans (List.getElem?_eq_getElem (by rw [HFL.out]; omega))⟩
  have f1 := hrow.frozenAt (j * 5 + 1)
  obtain ⟨d2, k2⟩ : ∃ c, w7.cell? ⟨g7, j * 5 + 2, none⟩ = some c := ⟨_, (hrow.cellAt (j * 5 + 2) (by omega)).trans (List.getElem?_eq_getElem (by rw [HFL.out]; omega))⟩
  have f2 := hrow.frozenAt (j * 5 + 2)
  obtain ⟨d3, k3⟩ : ∃ c, w7.cell? ⟨g7, j * 5 + 3, none⟩ = some c := ⟨_, (hrow.cellAt (j * 5 + 3) (by omega)).trans (List.getElem?_eq_getElem (by rw [HFL.out]; omega))⟩
  have f3 := hrow.frozenAt (j * 5 + 3)
  obtain ⟨d4, k4⟩ : ∃ c, w7.cell? ⟨g7, j * 5 + 4, none⟩ = some c := ⟨_, (hrow.cellAt (j * 5 + 4) (by omega)).trans (List.getElem?_eq_getElem (by rw [HFL.out]; omega))⟩
  have f4 := hrow.frozenAt (j * 5 + 4)
  have q0 := HY7.out.cell 0
  have q1 := HY7.out.cell 1
  have q2 := HY7.out.cell 2
  have q3 := HY7.out.cell 3
  have q4 := HY7.out.cell 4
  have zl := (hrow.lt g7 rfl).2
  have hlo := (hrow.lt g7 rfl).1
  simp at q0 q1 q2 q3 q4
  clear hrow
  go_wp2_with fail
  go_ret2
  refine ⟨some ⟨g7, 0, none⟩, c7, by rw [HF.out, List.length_set, HL.out]; rfl, ?_, ?_⟩
  · rw [HF.out, List.length_set, HL.out, ← flat_put y ts j (by rw [HL.out]; exact hjn)]
    exact (((((HO7.out.stored (j * 5) _).1.stored (j * 5 + 1) _).1.stored (j * 5 + 2) _).1.stored (j * 5 + 3) _).1.stored (j * 5 + 4) _).1
  · exact ((((HB7.out.setCell (p := ⟨g7, j * 5, none⟩) hlo _).setCell (p := ⟨g7, j * 5 + 1, none⟩) hlo _).setCell (p := ⟨g7, j * 5 + 2, none⟩) hlo _).setCell (p := ⟨g7, j * 5 + 3, none⟩) hlo _).setCell (p := ⟨g7, j * 5 + 4, none⟩) hlo _
/-- what strainAfter returns -/
def aN (ts : List Lg) (q f : Int) : Int := if canB ts q f then snV (fixTs ts q f) else 0
def aD (ts : List Lg) (q f : Int) : Int := if canB ts q f then sdV (fixTs ts q f) else 0
theorem ansSa_is (ts : List Lg) (q f : Int) : ansSa ts q f = .tuple #[.int .i64 (aN ts q f), .int .i64 (aD ts q f), .bool (canB ts q f)] := by unfold ansSa aN aD; split <;> simp_all
set_option maxHeartbeats 8000000 in
set_option maxRecDepth 100000 in
theorem strainAfterF (A : Option Addr) (n cap : Nat) (ts : List Lg) (q f a d : Int) (T : Bool) (w : World) (HA : Hid (aN ts q f = a)) (HD : Hid (aD ts q f = d)) (HTT : Hid (canB ts q f = T)) (hn : n ≤ 2000000) (hts : Hid (LgAt w w.heap.size A n ts)) (hT : Hid (Tab w)) :
    Calls Tryz.prog 114 #[.slice A n cap, .agg #[.int .i64 q, .int .i64 f]] w (APost (.tuple #[.agg #[.int .i64 a, .int .i64 d], .bool T]) w) := by
  obtain ⟨us, HUS⟩ : ∃ q2, Hid (fxTs ts q f = q2) := ⟨_, Lib.hid rfl⟩
  obtain ⟨m, HM⟩ : ∃ q2, Hid (us.length = q2) := ⟨_, Lib.hid rfl⟩
  have hm : m ≤ 2000000 := by rw [← HM.out, ← HUS.out]; have := fxTs_len ts q f; rw [hts.out.1] at this; omega
  have HFL := Lib.hid (fun (v : World) (h1 : Hid (LgAt v v.heap.size A n ts)) (h2 : Hid (Tab v)) => fixLeg_impl A n cap ts q f v hn h1 h2)
  rw [HUS.out, HTT.out] at HFL
  go_enter Tryz.func114, Tryz.ntmps114
  go_upto_region 1 with fail
  obtain ⟨V, HV⟩ : ∃ V, Hid ((w.alloc (.cells #[.int .i64 q, .int .i64 f] 123)).alloc (.cells #[.int .i64 0, .int .i64 0] 105) = V) := ⟨_, Lib.hid rfl⟩
  have HB := Lib.hid (show Below w.heap.size w V by rw [← HV.out]; exact ((Below.refl _ _).alloc (Nat.le_refl _) _).alloc (by simp) _)
  have HX := Lib.hid (show Blk V w.heap.size 123 #[.int .i64 q, .int .i64 f] by rw [← HV.out]; exact (Blk.new _ _ _).alloc _)
  have HR := Lib.hid (show Blk V (w.heap.size + 1) 105 #[.int .i64 0, .int .i64 0] by rw [← HV.out]; have h := Blk.new (w.alloc (.cells #[.int .i64 q, .int .i64 f] 123)) 105 #[.int .i64 0, .int .i64 0]; simpa using h)
  rw [HV.out]
  clear HV
  have q0 := HX.out.cell 0
  have q1 := HX.out.cell 1
  simp at q0 q1
  go_wp2_with fail
  refine (HFL.out _ (Lib.hid (hts.out.step HB.out)) (Lib.hid (hT.out.below HB.out))).mono ?_
  rintro e w1 ⟨A1, c1, rfl, hO1, b1⟩
  rw [HM.out] at hO1 ⊢
  have HS1 := Lib.hid (own_Lg HM.out hO1)
  have HB1 := Lib.hid (HB.out.trans (b1.mono HB.out.size))
  have HR1 := Lib.hid (HR.out.below b1 HR.out.lt)
  clear b1 hO1 HB HX HR q0 q1
  cases T
  · obtain rfl : a = 0 := by rw [← HA.out]; unfold aN; rw [HTT.out]; rfl
    obtain rfl : d = 0 := by rw [← HD.out]; unfold aD; rw [HTT.out]; rfl
    have z0 := HR1.out.cell 0
    have z1 := HR1.out.cell 1
    have f0 := HR1.out.frozen 0
    have f1 := HR1.out.frozen 1
    have zl := HR1.out.lt
    simp at z0 z1
    go_wp2_with fail
    refine bodyPost_ret (v := .tuple #[.agg #[.int .i64 0, .int .i64 0], .bool false]) (by simp [results, Tryz.results114, go_sem, *]) rfl ⟨rfl, ?_⟩
    exact (HB1.out.setCell (p := ⟨w.heap.size + 1, 0, none⟩) (by show w.heap.size ≤ w.heap.size + 1; omega) _).setCell (p := ⟨w.heap.size + 1, 1, none⟩) (by show w.heap.size ≤ w.heap.size + 1; omega) _
  · have hU : us = fixTs ts q f := by rw [← HUS.out]; unfold fxTs; rw [HTT.out]; rfl
    have hGU : goodLg us = true := by rw [hU]; exact (can_good HTT.out).1
    have HAN := Lib.hid (show ansF us = .tuple #[.agg #[.int .i64 a, .int .i64 d], .bool true] by unfold ansF; rw [hGU, if_pos rfl, ← HA.out, ← HD.out, hU]; unfold aN aD; rw [HTT.out]; rfl)
    clear hU hGU
    go_wp2_with fail
    refine (strainF_any A1 m c1 us _ _ HAN hm HS1 (Lib.hid (hT.out.below HB1.out))).mono ?_
    rintro e w2 ⟨rfl, b2⟩
    have HB2 := Lib.hid (HB1.out.trans (b2.mono HB1.out.size))
    have HR2 := Lib.hid (HR1.out.below b2 HR1.out.lt)
    clear b2 HB1 HR1 HS1
    have z0 := HR2.out.cell 0
    have z1 := HR2.out.cell 1
    have f0 := HR2.out.frozen 0
    have f1 := HR2.out.frozen 1
    have zl := HR2.out.lt
    simp at z0 z1
    go_wp2_with fail
    refine bodyPost_ret (v := .tuple #[.agg #[.int .i64 a, .int .i64 d], .bool true]) (by simp [results, Tryz.results114, go_sem, *]) rfl ⟨rfl, ?_⟩
    exact (HB2.out.setCell (p := ⟨w.heap.size + 1, 0, none⟩) (by show w.heap.size ≤ w.heap.size + 1; omega) _).setCell (p := ⟨w.heap.size + 1, 1, none⟩) (by show w.heap.size ≤ w.heap.size + 1; omega) _
set_option maxHeartbeats 4000000 in
set_option maxRecDepth 100000 in
theorem strainAfter_impl (A : Option Addr) (n cap : Nat) (ts : List Lg) (q f : Int) (w : World) (hn : n ≤ 2000000) (hts : Hid (LgAt w w.heap.size A n ts)) (hT : Hid (Tab w)) :
    Calls Tryz.prog 56 #[.slice A n cap, .int .i64 q, .int .i64 f] w (APost (ansSa ts q f) w) := by
  obtain ⟨g, HG⟩ : ∃ z, Hid (canB ts q f = z) := ⟨_, Lib.hid rfl⟩
  obtain ⟨rn, HRN⟩ : ∃ z, Hid (aN ts q f = z) := ⟨_, Lib.hid rfl⟩
  obtain ⟨rd, HRD⟩ : ∃ z, Hid (aD ts q f = z) := ⟨_, Lib.hid rfl⟩
  have HF := Lib.hid (show ansSa ts q f = .tuple #[.int .i64 rn, .int .i64 rd, .bool g] by rw [ansSa_is, HG.out, HRN.out, HRD.out])
  go_enter Tryz.func56, Tryz.ntmps56
  go_wp2_with fail
  refine (strainAfterF A n cap ts q f rn rd g _ HRN HRD HG hn hts hT).mono ?_
  rintro e w1 ⟨rfl, b1⟩
  have HB := Lib.hid (b1.alloc b1.size (.cells #[.int .i64 rn, .int .i64 rd] 105))
  have HX := Lib.hid (Blk.new w1 105 #[.int .i64 rn, .int .i64 rd])
  clear b1
  go_upto_region 2 with fail
  obtain ⟨V, HV⟩ : ∃ q, Hid (w1.alloc (.cells #[.int .i64 rn, .int .i64 rd] 105) = q) := ⟨_, Lib.hid rfl⟩
  obtain ⟨X, HXX⟩ : ∃ q, Hid (w1.heap.size = q) := ⟨_, Lib.hid rfl⟩
  rw [HXX.out] at HX
  rw [HV.out] at HX HB ⊢
  try simp only [HXX.out]
  clear HV
  have q0 := HX.out.cell 0
  have q1 := HX.out.cell 1
  simp at q0 q1
  go_region
  go_wp2_with fail
  go_ret3
  exact ⟨by rw [HF.out]; rfl, HB.out.drew⟩
end Go.Proofs.YtiimegmaokfpgabGreatDoor.bl

namespace Go.Proofs.YtiimegmaokfpgabGreatDoor.bl
open Go.RowKit
open reads base ty lg lgi win hs nt nq rowi sn mt ml dt pg ph lp
set_option linter.unusedVariables false
set_option linter.unusedSimpArgs false

/-! fixes in memory -/
def FxAt (w : World) (B : Nat) (A : Option Addr) (n : Nat) (cs : List (Int × Int)) : Prop :=
  cs.length = n ∧ ∀ (k : Nat) c, cs[k]? = some c → ∃ g, A = some ⟨g, 0, none⟩ ∧ g < B ∧ w.cell? ⟨g, k * 2, none⟩ = some (.int .i64 c.1) ∧ w.cell? ⟨g, k * 2 + 1, none⟩ = some (.int .i64 c.2)
theorem FxAt.step {w w' : World} {A : Option Addr} {n : Nat} {cs : List (Int × Int)} (h : FxAt w w.heap.size A n cs) (hb : Below w.heap.size w w') : FxAt w' w'.heap.size A n cs :=
  ⟨h.1, fun k c hc => by
    obtain ⟨g, e, hg, h0, h1⟩ := h.2 k c hc
    exact ⟨g, e, by have := hb.size; omega, (hb.cell (p := ⟨g, k * 2, none⟩) hg).trans h0, (hb.cell (p := ⟨g, k * 2 + 1, none⟩) hg).trans h1⟩⟩
def flatFx (cs : List (Int × Int)) : List Value := cs.flatMap fun c => [.int .i64 c.1, .int .i64 c.2]
theorem flatFx_len (cs : List (Int × Int)) : (flatFx cs).length = cs.length * 2 := by
  induction cs with
  | nil => rfl
  | cons c cs ih =>
    have e : flatFx (c :: cs) = [.int .i64 c.1, .int .i64 c.2] ++ flatFx cs := rfl
    rw [e, List.length_append, ih]
    simp only [List.length_cons, List.length_nil]
    omega
theorem flatFx_app (cs : List (Int × Int)) (c : Int × Int) : flatFx (cs ++ [c]) = flatFx cs ++ [.int .i64 c.1, .int .i64 c.2] := by simp [flatFx]
theorem flatFx_at : ∀ (cs : List (Int × Int)) (k : Nat) (c : Int × Int), cs[k]? = some c → (flatFx cs)[k * 2]? = some (.int .i64 c.1) ∧ (flatFx cs)[k * 2 + 1]? = some (.int .i64 c.2)
  | [], k, c, h => by simp at h
  | d :: cs, 0, c, h => by
    simp at h
    subst h
    exact ⟨rfl, rfl⟩
  | d :: cs, k + 1, c, h => by
    obtain ⟨k0, k1⟩ := flatFx_at cs k c (by simpa using h)
    have e : flatFx (d :: cs) = .int .i64 d.1 :: .int .i64 d.2 :: flatFx cs := rfl
    rw [e, show (k + 1) * 2 = k * 2 + 1 + 1 by omega, show k * 2 + 1 + 1 + 1 = (k * 2 + 1) + 1 + 1 by omega]
    exact ⟨by simpa using k0, by simpa using k1⟩
theorem own_Fx {w : World} {base c n : Nat} {e : TypeId} {A : Option Addr} {cs : List (Int × Int)} (hn : cs.length = n) (h : w.ownsRow base e 2 (.slice A n c) n (flatFx cs)) : FxAt w w.heap.size A n cs := by
  refine ⟨hn, fun k d hd => ?_⟩
  have hk : k < cs.length := (List.getElem?_eq_some_iff.1 hd).1
  obtain ⟨g, cap, hv, -, hg⟩ := h.form (by omega)
  injection hv with hA _ hc
  subst hA hc
  obtain ⟨f0, f1⟩ := flatFx_at cs k d hd
  exact ⟨g, rfl, hg, (h.cellAt (k * 2) (by omega)).trans f0, (h.cellAt (k * 2 + 1) (by omega)).trans f1⟩
theorem infoFx : (Tryz.prog.info? 123).map (fun i => (i.zero, i.size, i.bytes)) = some (some (.agg #[.int .i64 0, .int .i64 0]), 2, 16) := by kernel_rfl
/-- the first fixes of a leg -/
def fx4 (i : Int) : Nat → List (Int × Int)
  | 0 => []
  | m + 1 => fx4 i m ++ [(i, (m : Int) + 1)]
theorem fx4_len (i : Int) : ∀ m, (fx4 i m).length = m
  | 0 => rfl
  | m + 1 => by rw [fx4, List.length_append, fx4_len i m]; rfl
theorem fx4_all (i : Int) : fx4 i 4 = [(i, 1), (i, 2), (i, 3), (i, 4)] := rfl
theorem fxAll_len : ∀ U : List Int, (fxAll U).length = 4 * U.length
  | [] => rfl
  | a :: U => by
    have e : fxAll (a :: U) = [(a, 1), (a, 2), (a, 3), (a, 4)] ++ fxAll U := rfl
    rw [e, List.length_append, fxAll_len U, List.length_cons]
    simp only [List.length_cons, List.length_nil]; omega
theorem fxAll_step {U : List Int} {k : Nat} {i : Int} (h : U[k]? = some i) : fxAll (U.take (k + 1)) = fxAll (U.take k) ++ fx4 i 4 := by
  rw [take_snoc h, fxAll_app]; rfl
def FOPo (cs : List (Int × Int)) (w : World) (e : Ending) (w' : World) : Prop :=
  ∃ A c, e = .returned (.slice A cs.length c) ∧ w'.ownsRow w.heap.size 123 2 (.slice A cs.length c) cs.length (flatFx cs) ∧ Below w.heap.size w w'
set_option maxHeartbeats 8000000 in
set_option maxRecDepth 100000 in
theorem fixesOf_any (AU : Option Addr) (nu cU : Nat) (U : List Int) (w : World) (hnu : nu ≤ 12) (hU : Hid (IO w w.heap.size AU nu U)) :
    Calls Tryz.prog 116 #[.slice AU nu cU] w (FOPo (fxAll U) w) := by
  obtain ⟨i0, hi, hz0, hz1, hz2⟩ := info_parts infoFx
  have HNU := Lib.hid hU.out.1
  have HR0 := Lib.hid (show (w.alloc (.cells #[] 123)).ownsRow w.heap.size 123 2 (.slice (some ⟨w.heap.size, 0, none⟩) 0 0) 0 (flatFx []) from World.ownsRow_made w #[] 0 (Nat.le_refl _) (by decide) (by simp))
  have HB0 := Lib.hid ((Below.refl w.heap.size w).alloc (Nat.le_refl _) (.cells #[] 123))
  go_enter Tryz.func116, Tryz.ntmps116
  go_wp2_with fail
  go_loopw [3, 10] (fun v i wr => ∃ (k p c3 : Nat) (A3 : Option Addr) (cs : List (Int × Int)), k ≤ nu ∧ p = 4 * k ∧ i = .int .i64 (k : Nat) ∧ v = .slice A3 p c3 ∧ Hid (cs.length = p) ∧ Hid (fxAll (U.take k) = cs) ∧ Hid (wr.ownsRow w.heap.size 123 2 (.slice A3 p c3) p (flatFx cs)) ∧ Below w.heap.size w wr) (fun _ i _ => nu - (intOf i).toNat)
  case atStart => exact ⟨0, 0, _, _, [], Nat.zero_le _, rfl, rfl, rfl, Lib.hid rfl, Lib.hid rfl, HR0, HB0.out⟩
  case round =>
    clear HR0 HB0
    obtain ⟨k, p, c3, A3, cs, hk, hp, rfl, rfl, HPL, HFX, HO, hB⟩ := hrel
    have HB := Lib.hid hB
    clear hB
    have hk0 : (0 : Int) ≤ (k : Int) := by omega
    by_cases hlt : k < nu
    · have hki : (k : Int) < (nu : Int) := by omega
      have hkd : decide (k < nu) = true := by simpa using hlt
      obtain ⟨q, hq⟩ := at_lt HNU.out hlt
      obtain ⟨gU, oU, rfl, hgU, eU⟩ := (hU.out.step HB.out).2 k _ hq
      have HQ := Lib.hid hq
      clear hq
      go_wp2_with fail
      go_loopw [3, 6] (fun v i wr => ∃ (m p2 c4 : Nat) (A4 : Option Addr) (ds : List (Int × Int)), m ≤ 4 ∧ p2 = p + m ∧ i = .int .i64 ((m : Int) + 1) ∧ v = .slice A4 p2 c4 ∧ Hid (ds.length = p2) ∧ Hid (cs ++ fx4 q m = ds) ∧ Hid (wr.ownsRow w.heap.size 123 2 (.slice A4 p2 c4) p2 (flatFx ds)) ∧ Below w.heap.size w wr) (fun _ i _ => 5 - (intOf i).toNat)
      case atStart => exact ⟨0, p, c3, A3, cs, Nat.zero_le _, rfl, rfl, rfl, HPL, Lib.hid (by simp [fx4]), HO, HB.out⟩
      case round =>
        clear eU hgU HO HB
        obtain ⟨m, p2, c4, A4, ds, hm, hp2, rfl, rfl, HDL, HDS, HO4, hB⟩ := hrel
        have HB4 := Lib.hid hB
        have hsz := hB.size
        clear hB
        by_cases hlm : m < 4
        · have hm4 : (m : Int) + 1 ≤ 4 := by omega
          have xm : IntKind.i64.wrap ((m : Int) + 1 + 1) = (m : Int) + 1 + 1 := IntWalk.i64_in _ (by omega)
          have HN := Lib.hid (show cs ++ fx4 q (m + 1) = ds ++ [(q, (m : Int) + 1)] by rw [fx4, ← List.append_assoc, HDS.out])
          go_wp2_with (at_builtin; refine wpList_append_own _ rfl _ _ 126 rfl w.heap.size 123 i0 (.agg #[.int .i64 0, .int .i64 0]) 2 16 Tryz.underlying126 hi hz0 hz1 hz2 rfl (by decide) _ _ _ rfl (HO4.out.alloc _) ⟨wr.heap.size, 0, none⟩ 1 1 [.int .i64 q, .int .i64 ((m : Int) + 1)] rfl rfl (World.news_of_block (alloc_at rfl)) (by simp [Value.oneCell']) (by unfold maxLen; omega) (by omega) (by simp; omega) ?_; intro v' w9 hown' hgrow _; obtain ⟨A9, c9, rfl⟩ := row_slice hown')
          go_roundw
          case rel => exact ⟨m + 1, p2 + 1, c9, A9, ds ++ [(q, (m : Int) + 1)], by omega, by omega, by go_num, (by first | rfl | (congr 1; omega)), Lib.hid (by rw [List.length_append, HDL.out]; rfl), HN, Lib.hid (by rw [flatFx_app]; exact hown'), (HB4.out.alloc hsz _).grown hgrow (by simp; omega) (fun q eq => (HO4.out.lt q eq).1)⟩
          case measure => simp [intOf]; omega
        · obtain rfl : m = 4 := by omega
          have hm4 : ¬ ((4 : Nat) : Int) + 1 ≤ 4 := by omega
          have HN := Lib.hid (show fxAll (U.take (k + 1)) = ds by rw [fxAll_step HQ.out, HFX.out]; exact HDS.out)
          go_wp2_with fail
          go_roundw
          case rel => exact ⟨k + 1, p2, c4, A4, ds, by omega, by omega, by go_num, rfl, HDL, HN, HO4, HB4.out⟩
          case measure => simp [intOf]; omega
    · have hkd : decide (k < nu) = false := by simpa using hlt
      obtain rfl : k = nu := by omega
      have HE := Lib.hid (show fxAll U = cs by rw [← HFX.out, List.take_of_length_le (by rw [HNU.out]; exact Nat.le_refl _)])
      go_wp2_with fail
      go_ret
      exact ⟨A3, c3, by rw [HE.out, HPL.out]; rfl, by rw [HE.out, HPL.out]; exact HO.out, HB.out⟩
set_option maxHeartbeats 4000000 in
set_option maxRecDepth 100000 in
theorem clo_bf (X : Nat) (A : Option Addr) (n cap : Nat) (ts : List Lg) (q f a d : Int) (b : Bool) (w : World) (HA : Hid (aN ts q f = a)) (HD : Hid (aD ts q f = d)) (HTT : Hid (canB ts q f = b)) (hn : n ≤ 2000000) (hX : Hid (Blk w X 24 #[.slice A n cap])) (hts : Hid (LgAt w w.heap.size A n ts)) (hT : Hid (Tab w)) :
    Calls Tryz.prog 117 #[.agg #[.int .i64 q, .int .i64 f], .pointer (some ⟨X, 0, none⟩)] w (APost (.tuple #[.agg #[.int .i64 a, .int .i64 d], .bool b]) w) := by
  have hxl := hX.out.lt
  go_enter Tryz.func117, Tryz.ntmps117
  go_upto_region 1 with fail
  obtain ⟨V, HV⟩ : ∃ V, Hid ((w.alloc (.cells #[.int .i64 q, .int .i64 f] 123)).alloc (.cells #[.int .i64 0, .int .i64 0] 105) = V) := ⟨_, Lib.hid rfl⟩
  have HB := Lib.hid (show Below w.heap.size w V by rw [← HV.out]; exact ((Below.refl _ _).alloc (Nat.le_refl _) _).alloc (by simp) _)
  have HQ := Lib.hid (show Blk V w.heap.size 123 #[.int .i64 q, .int .i64 f] by rw [← HV.out]; exact (Blk.new _ _ _).alloc _)
  have HR := Lib.hid (show Blk V (w.heap.size + 1) 105 #[.int .i64 0, .int .i64 0] by rw [← HV.out]; have h := Blk.new (w.alloc (.cells #[.int .i64 q, .int .i64 f] 123)) 105 #[.int .i64 0, .int .i64 0]; simpa using h)
  have HX := Lib.hid (hX.out.below HB.out hX.out.lt)
  rw [HV.out]
  clear HV
  have q0 := HQ.out.cell 0
  have q1 := HQ.out.cell 1
  have x0 := HX.out.cell 0
  simp at q0 q1 x0
  go_wp2_with fail
  refine (strainAfterF A n cap ts q f a d b _ HA HD HTT hn (Lib.hid (hts.out.step HB.out)) (Lib.hid (hT.out.below HB.out))).mono ?_
  rintro e w1 ⟨rfl, b1⟩
  have HB1 := Lib.hid (HB.out.trans (b1.mono HB.out.size))
  have HR1 := Lib.hid (HR.out.below b1 HR.out.lt)
  clear b1 HB HR HQ HX q0 q1 x0
  have z0 := HR1.out.cell 0
  have z1 := HR1.out.cell 1
  have f0 := HR1.out.frozen 0
  have f1 := HR1.out.frozen 1
  have zl := HR1.out.lt
  simp at z0 z1
  go_wp2_with fail
  refine bodyPost_ret (v := .tuple #[.agg #[.int .i64 a, .int .i64 d], .bool b]) (by simp [results, Tryz.results117, go_sem, *]) rfl ⟨rfl, ?_⟩
  exact (HB1.out.setCell (p := ⟨w.heap.size + 1, 0, none⟩) (by show w.heap.size ≤ w.heap.size + 1; omega) _).setCell (p := ⟨w.heap.size + 1, 1, none⟩) (by show w.heap.size ≤ w.heap.size + 1; omega) _
/-- the search's strain in numbers -/
def nB (ts : List Lg) (o : Option (Int × Int)) : Int := match o with | none => 0 | some c => snV (fixTs ts c.1 c.2)
def dB (ts : List Lg) (o : Option (Int × Int)) : Int := match o with | none => 0 | some c => sdV (fixTs ts c.1 c.2)
def bfK (ts : List Lg) (k : Nat) : Option (Int × Int) := flN (fun c : Int × Int => canB ts c.1 c.2) (fun c => fixTs ts c.1 c.2) (fxAll (plIds ts)) k
theorem bfK_step {ts : List Lg} {k : Nat} {c : Int × Int} (h : (fxAll (plIds ts))[k]? = some c) : bfK ts (k + 1) = flS (fun c : Int × Int => canB ts c.1 c.2) (fun c => fixTs ts c.1 c.2) (bfK ts k) c := flN_succ h
theorem bfK_good {ts : List Lg} {k : Nat} {c : Int × Int} (h : bfK ts k = some c) : goodLg (fixTs ts c.1 c.2) = true := (can_good (flN_mem h).2).1
/-- the boxes of the search -/
def LB (w : World) (s : Nat) (o : Option (Int × Int)) (n d : Int) : Prop :=
  Blk w s 123 #[.int .i64 0, .int .i64 0] ∧ Blk w (s + 1) 105 #[.int .i64 0, .int .i64 0] ∧ Blk w (s + 1 + 1) 123 #[.int .i64 (oI o), .int .i64 (oF o)] ∧ Blk w (s + 1 + 1 + 1) 105 #[.int .i64 n, .int .i64 d]
theorem LB.below {w w' : World} {s : Nat} {o : Option (Int × Int)} {n d : Int} (h : LB w s o n d) (hb : Below w.heap.size w w') : LB w' s o n d :=
  ⟨h.1.below hb h.1.lt, h.2.1.below hb h.2.1.lt, h.2.2.1.below hb h.2.2.1.lt, h.2.2.2.below hb h.2.2.2.lt⟩
theorem LB.alloc {w : World} {s : Nat} {o : Option (Int × Int)} {n d : Int} (h : LB w s o n d) (x : Obj) : LB (w.alloc x) s o n d :=
  ⟨h.1.alloc x, h.2.1.alloc x, h.2.2.1.alloc x, h.2.2.2.alloc x⟩
theorem LB.put {w : World} {s : Nat} {o : Option (Int × Int)} {n d : Int} (h : LB w s o n d) (i f a b : Int) : LB ((((w.setCell ⟨s + 1 + 1, 0, none⟩ (.int .i64 i)).setCell ⟨s + 1 + 1, 1, none⟩ (.int .i64 f)).setCell ⟨s + 1 + 1 + 1, 0, none⟩ (.int .i64 a)).setCell ⟨s + 1 + 1 + 1, 1, none⟩ (.int .i64 b)) s (some (i, f)) a b := by
  have n1 : ∀ x : Nat, s ≠ s + 1 + x := fun x => by omega
  have n2 : ∀ x : Nat, s + 1 ≠ s + 1 + 1 + x := fun x => by omega
  refine ⟨(((h.1.far (n1 1) _).far (n1 1) _).far (n1 2) _).far (n1 2) _, (((h.2.1.far (n2 0) _).far (n2 0) _).far (n2 1) _).far (n2 1) _, ?_, ?_⟩
  · have k := ((h.2.2.1.set_ 0 (.int .i64 i)).set_ 1 (.int .i64 f))
    have k2 : Blk ((w.setCell ⟨s + 1 + 1, 0, none⟩ (.int .i64 i)).setCell ⟨s + 1 + 1, 1, none⟩ (.int .i64 f)) (s + 1 + 1) 123 #[.int .i64 i, .int .i64 f] := by simpa using k
    exact (k2.far (show s + 1 + 1 ≠ s + 1 + 1 + 1 by omega) _).far (show s + 1 + 1 ≠ s + 1 + 1 + 1 by omega) _
  · have k := ((((h.2.2.2.far (p := ⟨s + 1 + 1, 0, none⟩) (show s + 1 + 1 + 1 ≠ s + 1 + 1 by omega) (.int .i64 i)).far (p := ⟨s + 1 + 1, 1, none⟩) (show s + 1 + 1 + 1 ≠ s + 1 + 1 by omega) (.int .i64 f)).set_ 0 (.int .i64 a)).set_ 1 (.int .i64 b))
    simpa using k
theorem LB.drew {w : World} {s : Nat} {o : Option (Int × Int)} {n d : Int} (h : LB w s o n d) : LB w.drew s o n d := ⟨h.1.drew, h.2.1.drew, h.2.2.1.drew, h.2.2.2.drew⟩
theorem below_put {w0 w : World} {s : Nat} (h : Below s w0 w) (hs : w0.heap.size = s) (i f a b : Value) : Below s w0 ((((w.setCell ⟨s + 1 + 1, 0, none⟩ i).setCell ⟨s + 1 + 1, 1, none⟩ f).setCell ⟨s + 1 + 1 + 1, 0, none⟩ a).setCell ⟨s + 1 + 1 + 1, 1, none⟩ b) :=
  (((h.setCell (p := ⟨s + 1 + 1, 0, none⟩) (by show s ≤ s + 1 + 1; omega) _).setCell (p := ⟨s + 1 + 1, 1, none⟩) (by show s ≤ s + 1 + 1; omega) _).setCell (p := ⟨s + 1 + 1 + 1, 0, none⟩) (by show s ≤ s + 1 + 1 + 1; omega) _).setCell (p := ⟨s + 1 + 1 + 1, 1, none⟩) (by show s ≤ s + 1 + 1 + 1; omega) _
set_option maxHeartbeats 16000000 in
set_option maxRecDepth 100000 in
theorem least_bf (X : Nat) (A : Option Addr) (n cap : Nat) (ts : List Lg) (AU : Option Addr) (nu cU : Nat) (cs : List (Int × Int)) (w : World) (hn : n ≤ 2000000) (hnu : nu ≤ 48) (HG : Hid (goodLg ts = true)) (hX : Hid (Blk w X 24 #[.slice A n cap])) (HCS : Hid (fxAll (plIds ts) = cs)) (hU : Hid (FxAt w w.heap.size AU nu cs)) (hts : Hid (LgAt w w.heap.size A n ts)) (hT : Hid (Tab w)) :
    Calls Tryz.prog 115 #[.slice AU nu cU, .func (.func 117) #[] #[.pointer (some ⟨X, 0, none⟩)]] w (APost (.tuple #[.agg #[.int .i64 (oI (bfO ts)), .int .i64 (oF (bfO ts))], .agg #[.int .i64 (nB ts (bfO ts)), .int .i64 (dB ts (bfO ts))], .bool (bfO ts).isSome]) w) := by
  have HNU := Lib.hid hU.out.1
  have hsz0 : w.heap.size ≤ w.heap.size := Nat.le_refl _
  go_enter Tryz.func115, Tryz.ntmps115
  go_upto_region 3 with fail
  obtain ⟨V, HV⟩ : ∃ V, Hid ((((w.alloc (.cells #[.int .i64 0, .int .i64 0] 123)).alloc (.cells #[.int .i64 0, .int .i64 0] 105)).alloc (.cells #[.int .i64 0, .int .i64 0] 123)).alloc (.cells #[.int .i64 0, .int .i64 0] 105) = V) := ⟨_, Lib.hid rfl⟩
  have HB0 := Lib.hid (show Below w.heap.size w V by rw [← HV.out]; exact ((((Below.refl _ _).alloc (Nat.le_refl _) _).alloc (by simp) _).alloc (by simp; omega) _).alloc (by simp; omega) _)
  have HLB := Lib.hid (show LB V w.heap.size none 0 0 by
    rw [← HV.out]
    refine ⟨(((Blk.new _ _ _).alloc _).alloc _).alloc _, ?_, ?_, ?_⟩
    · have h := ((Blk.new (w.alloc (.cells #[.int .i64 0, .int .i64 0] 123)) 105 #[.int .i64 0, .int .i64 0]).alloc (.cells #[.int .i64 0, .int .i64 0] 123)).alloc (.cells #[.int .i64 0, .int .i64 0] 105)
      simpa using h
    · have h := (Blk.new ((w.alloc (.cells #[.int .i64 0, .int .i64 0] 123)).alloc (.cells #[.int .i64 0, .int .i64 0] 105)) 123 #[.int .i64 0, .int .i64 0]).alloc (.cells #[.int .i64 0, .int .i64 0] 105)
      simpa [oI, oF] using h
    · have h := Blk.new (((w.alloc (.cells #[.int .i64 0, .int .i64 0] 123)).alloc (.cells #[.int .i64 0, .int .i64 0] 105)).alloc (.cells #[.int .i64 0, .int .i64 0] 123)) 105 #[.int .i64 0, .int .i64 0]
      simpa using h)
  rw [HV.out]
  clear HV
  go_wp2_with fail
  go_loopw [9, 17] (fun f i wr => ∃ (k : Nat) (o : Option (Int × Int)), k ≤ nu ∧ i = .int .i64 (k : Nat) ∧ Hid (bfK ts k = o) ∧ f = .bool o.isSome ∧ LB wr w.heap.size o (nB ts o) (dB ts o) ∧ Below w.heap.size w wr) (fun _ i _ => nu - (intOf i).toNat)
  case atStart => exact ⟨0, none, Nat.zero_le _, rfl, Lib.hid rfl, rfl, HLB.out, HB0.out⟩
  case round =>
    clear HLB HB0
    obtain ⟨k, o, hk, rfl, HO, rfl, hLB, hB⟩ := hrel
    have HLB := Lib.hid hLB
    have HB := Lib.hid hB
    clear hLB hB
    have hk0 : (0 : Int) ≤ (k : Int) := by omega
    obtain ⟨bo, HBO⟩ : ∃ z, Hid (o.isSome = z) := ⟨_, Lib.hid rfl⟩
    rw [HBO.out]
    by_cases hlt : k < nu
    · have hki : (k : Int) < (nu : Int) := by omega
      have hkd : decide (k < nu) = true := by simpa using hlt
      obtain ⟨⟨qi, qf⟩, hq⟩ := at_lt HNU.out hlt
      have HQ := Lib.hid (show (fxAll (plIds ts))[k]? = some (qi, qf) by rw [HCS.out]; exact hq)
      obtain ⟨gU, rfl, hgU, e0, e1⟩ := (hU.out.step HB.out).2 k _ hq
      simp only [] at e0 e1
      clear hq
      obtain ⟨b, HBW⟩ : ∃ z, Hid (canB ts qi qf = z) := ⟨_, Lib.hid rfl⟩
      obtain ⟨a, HAW⟩ : ∃ z, Hid (aN ts qi qf = z) := ⟨_, Lib.hid rfl⟩
      obtain ⟨d, HDW⟩ : ∃ z, Hid (aD ts qi qf = z) := ⟨_, Lib.hid rfl⟩
      have HST := Lib.hid (show bfK ts (k + 1) = flS (fun c : Int × Int => canB ts c.1 c.2) (fun c => fixTs ts c.1 c.2) o (qi, qf) by rw [bfK_step HQ.out, HO.out])
      obtain ⟨bn, HBN⟩ : ∃ z, Hid (nB ts o = z) := ⟨_, Lib.hid rfl⟩
      obtain ⟨bd, HBD⟩ : ∃ z, Hid (dB ts o = z) := ⟨_, Lib.hid rfl⟩
      rw [HBN.out, HBD.out] at HLB
      go_upto_region 6 with fail
      obtain ⟨V1, HV⟩ : ∃ q, Hid (wr.alloc (.cells #[.int .i64 qi, .int .i64 qf] 123) = q) := ⟨_, Lib.hid rfl⟩
      obtain ⟨Z, HZZ⟩ : ∃ q, Hid (wr.heap.size = q) := ⟨_, Lib.hid rfl⟩
      have HB1 := Lib.hid (show Below w.heap.size w V1 by rw [← HV.out]; exact HB.out.alloc HB.out.size _)
      have HL1 := Lib.hid (show LB V1 w.heap.size o bn bd by rw [← HV.out]; exact HLB.out.alloc _)
      have HZ1 := Lib.hid (show Blk V1 Z 123 #[.int .i64 qi, .int .i64 qf] by rw [← HV.out, ← HZZ.out]; exact Blk.new _ _ _)
      have hsZ : w.heap.size + 1 + 1 + 1 < Z := by rw [← HZZ.out]; exact HLB.out.2.2.2.lt
      rw [HV.out]
      try simp only [HZZ.out]
      clear HV HZZ e0 e1 hgU HB HLB
      have q0 := HZ1.out.cell 0
      have q1 := HZ1.out.cell 1
      simp at q0 q1
      go_wp2_with fail
      refine (clo_bf X A n cap ts qi qf a d b _ HAW HDW HBW hn (Lib.hid (hX.out.below HB1.out hX.out.lt)) (Lib.hid (hts.out.step HB1.out)) (Lib.hid (hT.out.below HB1.out))).mono ?_
      rintro e w1 ⟨rfl, b1⟩
      have hb2 := HB1.out.trans (b1.mono HB1.out.size)
      have HB2 := Lib.hid (hb2.alloc hb2.size (.cells #[.int .i64 a, .int .i64 d] 105))
      have HL2 := Lib.hid ((HL1.out.below b1).alloc (.cells #[.int .i64 a, .int .i64 d] 105))
      have HZ2 := Lib.hid ((HZ1.out.below b1 HZ1.out.lt).alloc (.cells #[.int .i64 a, .int .i64 d] 105))
      have HY2 := Lib.hid (Blk.new w1 105 #[.int .i64 a, .int .i64 d])
      have hZY := (HZ1.out.below b1 HZ1.out.lt).lt
      clear b1 hb2 HB1 HL1 HZ1 q0 q1
      go_upto_region 7 with fail
      obtain ⟨V2, HV⟩ : ∃ q, Hid (w1.alloc (.cells #[.int .i64 a, .int .i64 d] 105) = q) := ⟨_, Lib.hid rfl⟩
      obtain ⟨Y, HYY⟩ : ∃ q, Hid (w1.heap.size = q) := ⟨_, Lib.hid rfl⟩
      rw [HYY.out] at HY2 hZY
      rw [HV.out] at HB2 HL2 HZ2 HY2 ⊢
      try simp only [HYY.out]
      clear HV HYY
      cases b
      · have HN := Lib.hid (show bfK ts (k + 1) = o by rw [HST.out]; exact flS_no HBW.out)
        go_wp2_with fail
        go_roundw
        case rel => exact ⟨k + 1, o, by omega, by go_num, HN, by rw [HBO.out], by rw [HBN.out, HBD.out]; exact HL2.out, HB2.out⟩
        case measure => simp [intOf]; omega
      · have hcg := (can_good HBW.out).1
        have HGU := Lib.hid hcg
        have e1 : snV (fixTs ts qi qf) = a := by rw [← HAW.out]; unfold aN; rw [HBW.out]; rfl
        have e2 : sdV (fixTs ts qi qf) = d := by rw [← HDW.out]; unfold aD; rw [HBW.out]; rfl
        have HE1 := Lib.hid (show nB ts (some (qi, qf)) = a from e1)
        have HE2 := Lib.hid (show dB ts (some (qi, qf)) = d from e2)
        clear hcg
        cases o with
        | none =>
          obtain rfl : bo = false := HBO.out.symm
          have HN := Lib.hid (show bfK ts (k + 1) = some (qi, qf) by rw [HST.out]; exact flS_none HBW.out)
          clear e1 e2
          have q0 := HZ2.out.cell 0
          have q1 := HZ2.out.cell 1
          have y0 := HY2.out.cell 0
          have y1 := HY2.out.cell 1
          have u0 := HL2.out.2.2.1.cell 0
          have u1 := HL2.out.2.2.1.cell 1
          have uf0 := HL2.out.2.2.1.frozen 0
          have uf1 := HL2.out.2.2.1.frozen 1
          have ul := HL2.out.2.2.1.lt
          have v0 := HL2.out.2.2.2.cell 0
          have v1 := HL2.out.2.2.2.cell 1
          have vf0 := HL2.out.2.2.2.frozen 0
          have vf1 := HL2.out.2.2.2.frozen 1
          have vl := HL2.out.2.2.2.lt
          simp at q0 q1 y0 y1 u0 u1 v0 v1
          go_upto_region 8 with fail
          go_region
          go_wp2_with fail
          go_roundw
          case rel => exact ⟨k + 1, some (qi, qf), by omega, by go_num, HN, rfl, by rw [HE1.out, HE2.out]; exact (HL2.out.put qi qf a d).drew, (below_put HB2.out rfl _ _ _ _).drew⟩
          case measure => simp [intOf]; omega
        | some c =>
          obtain rfl : bo = true := HBO.out.symm
          obtain ⟨ci, cf⟩ := c
          have HGV := Lib.hid (show goodLg (fixTs ts ci cf) = true from bfK_good HO.out)
          have e3 : snV (fixTs ts ci cf) = bn := HBN.out
          have e4 : sdV (fixTs ts ci cf) = bd := HBD.out
          have m1 := st_mul (st_bd HGU.out) (st_bd HGV.out)
          have m2 := st_mul (st_bd HGV.out) (st_bd HGU.out)
          rw [e1, e4] at m1
          rw [e2, e3] at m2
          have l1 : lim62 (a * bd) := by unfold lim62; omega
          have l2 : lim62 (bn * d) := by unfold lim62; omega
          obtain ⟨r, HRR⟩ : ∃ q, Hid (cpI (a * bd) (bn * d) = q) := ⟨_, Lib.hid rfl⟩
          have HCP := Lib.hid (show cpS (fixTs ts qi qf) (fixTs ts ci cf) = r by rw [← HRR.out]; unfold cpS; rw [e1, e2, e3, e4])
          have y0 := HY2.out.cell 0
          have y1 := HY2.out.cell 1
          have u0 := HL2.out.2.2.2.cell 0
          have u1 := HL2.out.2.2.2.cell 1
          simp at y0 y1 u0 u1
          clear e1 e2 e3 e4 m1 m2
          go_wp2_with fail
          refine (cmpF_any a d bn bd r _ l1 l2 HRR).mono ?_
          rintro e w2 ⟨rfl, b2⟩
          have HB3 := Lib.hid (HB2.out.trans (b2.mono HB2.out.size))
          have HL3 := Lib.hid (HL2.out.below b2)
          have HZ3 := Lib.hid (HZ2.out.below b2 HZ2.out.lt)
          have HY3 := Lib.hid (HY2.out.below b2 HY2.out.lt)
          clear b2 HB2 HL2 HZ2 HY2 y0 y1 u0 u1
          by_cases hr : r < 0
          · have HN := Lib.hid (show bfK ts (k + 1) = some (qi, qf) by
              rw [HST.out]
              refine flS_yes HBW.out ?_
              show cpS (fixTs ts qi qf) (fixTs ts ci cf) < 0
              rw [HCP.out]; exact hr)
            have q0 := HZ3.out.cell 0
            have q1 := HZ3.out.cell 1
            have y0 := HY3.out.cell 0
            have y1 := HY3.out.cell 1
            have u0 := HL3.out.2.2.1.cell 0
            have u1 := HL3.out.2.2.1.cell 1
            have uf0 := HL3.out.2.2.1.frozen 0
            have uf1 := HL3.out.2.2.1.frozen 1
            have ul := HL3.out.2.2.1.lt
            have v0 := HL3.out.2.2.2.cell 0
            have v1 := HL3.out.2.2.2.cell 1
            have vf0 := HL3.out.2.2.2.frozen 0
            have vf1 := HL3.out.2.2.2.frozen 1
            have vl := HL3.out.2.2.2.lt
            simp at q0 q1 y0 y1 u0 u1 v0 v1
            go_upto_region 8 with fail
            go_region
            go_wp2_with fail
            go_roundw
            case rel => exact ⟨k + 1, some (qi, qf), by omega, by go_num, HN, rfl, by rw [HE1.out, HE2.out]; exact (HL3.out.put qi qf a d).drew, (below_put HB3.out rfl _ _ _ _).drew⟩
            case measure => simp [intOf]; omega
          · have HN := Lib.hid (show bfK ts (k + 1) = some (ci, cf) by
              rw [HST.out]
              refine flS_keep ?_
              show ¬ cpS (fixTs ts qi qf) (fixTs ts ci cf) < 0
              rw [HCP.out]; exact hr)
            go_wp2_with fail
            go_roundw
            case rel => exact ⟨k + 1, some (ci, cf), by omega, by go_num, HN, rfl, by rw [HBN.out, HBD.out]; exact HL3.out, HB3.out⟩
            case measure => simp [intOf]; omega
    · have hkd : decide (k < nu) = false := by simpa using hlt
      obtain rfl : k = nu := by omega
      have HE := Lib.hid (show bfO ts = o by rw [← HO.out]; unfold bfO bfK; rw [HCS.out, HNU.out])
      obtain ⟨bn, HBN⟩ : ∃ z, Hid (nB ts o = z) := ⟨_, Lib.hid rfl⟩
      obtain ⟨bd, HBD⟩ : ∃ z, Hid (dB ts o = z) := ⟨_, Lib.hid rfl⟩
      obtain ⟨bi, HBI⟩ : ∃ z, Hid (oI o = z) := ⟨_, Lib.hid rfl⟩
      obtain ⟨bf, HBF⟩ : ∃ z, Hid (oF o = z) := ⟨_, Lib.hid rfl⟩
      have hl := HLB.out
      unfold LB at hl
      rw [HBN.out, HBD.out, HBI.out, HBF.out] at hl
      have p0 := hl.1.cell 0
      have p1 := hl.1.cell 1
      have g0 := hl.1.frozen 0
      have g1 := hl.1.frozen 1
      have pl := hl.1.lt
      have r0 := hl.2.1.cell 0
      have r1 := hl.2.1.cell 1
      have h0 := hl.2.1.frozen 0
      have h1 := hl.2.1.frozen 1
      have rl := hl.2.1.lt
      have u0 := hl.2.2.1.cell 0
      have u1 := hl.2.2.1.cell 1
      have v0 := hl.2.2.2.cell 0
      have v1 := hl.2.2.2.cell 1
      simp at p0 p1 r0 r1 u0 u1 v0 v1
      clear hl
      go_upto_region 10 with fail
      go_region
      go_wp2_with fail
      refine bodyPost_ret (v := .tuple #[.agg #[.int .i64 bi, .int .i64 bf], .agg #[.int .i64 bn, .int .i64 bd], .bool bo]) (by simp [results, Tryz.results115, go_sem, *]) rfl ⟨by rw [HE.out, HBI.out, HBF.out, HBN.out, HBD.out, HBO.out], ?_⟩
      exact ((((HB.out.setCell (p := ⟨w.heap.size, 0, none⟩) hsz0 _).setCell (p := ⟨w.heap.size, 1, none⟩) hsz0 _).setCell (p := ⟨w.heap.size + 1, 0, none⟩) (by show w.heap.size ≤ w.heap.size + 1; omega) _).setCell (p := ⟨w.heap.size + 1, 1, none⟩) (by show w.heap.size ≤ w.heap.size + 1; omega) _).drew
end Go.Proofs.YtiimegmaokfpgabGreatDoor.bl

namespace Go.Proofs.YtiimegmaokfpgabGreatDoor.bl
open Go.RowKit
open reads base ty lg lgi win hs nt nq rowi sn mt ml dt pg ph lp
set_option linter.unusedVariables false
set_option linter.unusedSimpArgs false

theorem bfV_is {ts : List Lg} (hg : goodLg ts = true) : bfV ts = below (F := fun c : Int × Int => fixTs ts c.1 c.2) ts (bfO ts) := by unfold bfV; rw [if_pos hg]
set_option maxHeartbeats 8000000 in
set_option maxRecDepth 100000 in
theorem bestFix_impl (A : Option Addr) (n cap : Nat) (ts : List Lg) (w : World) (hn : n ≤ 2000000) (hts : Hid (LgAt w w.heap.size A n ts)) (hT : Hid (Tab w)) :
    Calls Tryz.prog 58 #[.slice A n cap] w (APost (ansBf ts) w) := by
  obtain ⟨C, HC⟩ : ∃ C, Hid (nv (netS ts) (clS ts) = C) := ⟨_, Lib.hid rfl⟩
  obtain ⟨g, HG⟩ : ∃ g, Hid (goodLg ts = g) := ⟨_, Lib.hid rfl⟩
  have hcz : C.size = 56 := by rw [← HC.out]; exact nv_size (nok_S ts)
  have HC1 := Lib.hid (show C.all (·.oneCell') = true by rw [← HC.out]; exact nv_one)
  have HL := Lib.hid hts.out.1
  have HA0 := Lib.hid (hts.out.alloc (.cells #[.slice A n cap] 24))
  have HT0 := Lib.hid (hT.out.alloc (.cells #[.slice A n cap] 24))
  have HB0 := Lib.hid ((Below.refl w.heap.size w).alloc (Nat.le_refl _) (.cells #[.slice A n cap] 24))
  have HX0 := Lib.hid (Blk.new w 24 #[.slice A n cap])
  go_enter Tryz.func58, Tryz.ntmps58
  go_wp2_with fail
  refine (net_any A n cap ts C g HC HG _ hn HA0 HT0).mono ?_
  rintro e w1 ⟨rfl, b1⟩
  have HB1 := Lib.hid (HB0.out.trans (b1.mono HB0.out.size))
  have HX1 := Lib.hid (HX0.out.below b1 HX0.out.lt)
  clear b1 HA0 HT0 HB0 HX0
  have hst := lay_net hcz HC1.out w1
  have HB2 := Lib.hid (HB1.out.alloc HB1.out.size (.cells C 76))
  have HX2 := Lib.hid (HX1.out.alloc (.cells C 76))
  have HN2 := Lib.hid (Blk.new w1 76 C)
  go_upto_region 2 with fail
  clear hst
  obtain ⟨W, HW⟩ : ∃ W, Hid (w1.alloc (.cells C 76) = W) := ⟨_, Lib.hid rfl⟩
  obtain ⟨X, HXX⟩ : ∃ q, Hid (w.heap.size = q) := ⟨_, Lib.hid rfl⟩
  obtain ⟨G, HGG⟩ : ∃ q, Hid (w1.heap.size = q) := ⟨_, Lib.hid rfl⟩
  rw [HGG.out] at HN2
  rw [HXX.out] at HX2
  rw [HW.out] at HB2 HX2 HN2 ⊢
  try simp only [HXX.out, HGG.out]
  clear HW HB1 HX1 HGG
  cases g
  · have HF := Lib.hid (show ansBf ts = .tuple #[.int .i64 0, .int .i64 0, .bool false] by unfold ansBf bfV; rw [HG.out]; rfl)
    go_wp2_with fail
    go_ret3
    exact ⟨by rw [HF.out]; rfl, HB2.out⟩
  have hn12 := len12 HL.out HG.out
  have HCN := Lib.hid (show nv (net ts) (clS ts) = C by rw [← HC.out]; unfold netS; rw [HG.out]; rfl)
  have hcl12 : (clS ts).length = 12 := (nok_S ts).2
  have x0 := HX2.out.cell 0
  simp at x0
  go_upto_region 4 with fail
  refine wp_region_list ?_
  refine step_loadl _ rfl _ rfl X _ rfl x0 ?_
  simp only [Act.put, List.getElem_toArray, List.getElem_cons_succ, List.getElem_cons_zero, List.setIfInBounds_toArray, List.set_cons_zero, List.set_cons_succ]
  refine step_load _ rfl _ rfl G _ rfl HN2.out hcz ?_
  simp only [Act.put, List.getElem_toArray, List.getElem_cons_succ, List.getElem_cons_zero, List.setIfInBounds_toArray, List.set_cons_zero, List.set_cons_succ]
  go_wp2_with fail
  refine (placedLegs_any A n cap ts (clS ts) C _ HCN hcl12 HG (Lib.hid (hts.out.step HB2.out))).mono ?_
  rintro e w3 ⟨vU, rfl, hOU, b3⟩
  obtain ⟨U, HU⟩ : ∃ q, Hid (plIds ts = q) := ⟨_, Lib.hid rfl⟩
  obtain ⟨nu, HNU⟩ : ∃ q, Hid (U.length = q) := ⟨_, Lib.hid rfl⟩
  have hnu : nu ≤ 12 := by rw [← HNU.out, ← HU.out]; have := plIds_len' ts; rw [HL.out] at this; omega
  rw [HU.out, HNU.out] at hOU
  obtain ⟨AU, cU, rfl⟩ := row_slice hOU
  have HI3 := Lib.hid (show IO w3 w3.heap.size AU nu U from IO.of_own hOU)
  have HB3 := Lib.hid (HB2.out.trans (b3.mono HB2.out.size))
  have HX3 := Lib.hid (HX2.out.below b3 HX2.out.lt)
  clear b3 hOU HB2 HX2 HN2 x0
  obtain ⟨cs, HCS⟩ : ∃ q, Hid (fxAll U = q) := ⟨_, Lib.hid rfl⟩
  obtain ⟨nc, HNC⟩ : ∃ q, Hid (cs.length = q) := ⟨_, Lib.hid rfl⟩
  have hnc : nc ≤ 48 := by rw [← HNC.out, ← HCS.out, fxAll_len, HNU.out]; omega
  have HCP := Lib.hid (show fxAll (plIds ts) = cs by rw [HU.out, HCS.out])
  have HFO := Lib.hid (fun (v : World) (h : Hid (IO v v.heap.size AU nu U)) => fixesOf_any AU nu cU U v hnu h)
  rw [HCS.out] at HFO
  go_wp2_with fail
  refine (HFO.out _ HI3).mono ?_
  rintro e w4 ⟨AF, cF, rfl, hOF, b4⟩
  rw [HNC.out] at hOF ⊢
  have HF4 := Lib.hid (own_Fx HNC.out hOF)
  have HB4 := Lib.hid (HB3.out.trans (b4.mono HB3.out.size))
  have HX4 := Lib.hid (HX3.out.below b4 HX3.out.lt)
  clear b4 hOF HB3 HX3 HFO
  obtain ⟨o, HO⟩ : ∃ q, Hid (bfO ts = q) := ⟨_, Lib.hid rfl⟩
  have HLS := Lib.hid (fun (v : World) (h1 : Hid (Blk v X 24 #[.slice A n cap])) (h2 : Hid (FxAt v v.heap.size AF nc cs)) (h3 : Hid (LgAt v v.heap.size A n ts)) (h4 : Hid (Tab v)) => least_bf X A n cap ts AF nc cF cs v hn hnc HG h1 HCP h2 h3 h4)
  rw [HO.out] at HLS
  obtain ⟨bn, HBN⟩ : ∃ z, Hid (nB ts o = z) := ⟨_, Lib.hid rfl⟩
  obtain ⟨bd, HBD⟩ : ∃ z, Hid (dB ts o = z) := ⟨_, Lib.hid rfl⟩
  obtain ⟨bi, HBI⟩ : ∃ z, Hid (oI o = z) := ⟨_, Lib.hid rfl⟩
  obtain ⟨bf, HBF⟩ : ∃ z, Hid (oF o = z) := ⟨_, Lib.hid rfl⟩
  obtain ⟨bo, HBO⟩ : ∃ z, Hid (o.isSome = z) := ⟨_, Lib.hid rfl⟩
  rw [HBN.out, HBD.out, HBI.out, HBF.out, HBO.out] at HLS
  have HV := Lib.hid (show bfV ts = below (F := fun c : Int × Int => fixTs ts c.1 c.2) ts o by rw [bfV_is HG.out, HO.out])
  obtain ⟨sn0, HS0⟩ : ∃ z, Hid (snV ts = z) := ⟨_, Lib.hid rfl⟩
  obtain ⟨sd0, HD0⟩ : ∃ z, Hid (sdV ts = z) := ⟨_, Lib.hid rfl⟩
  have HAN := Lib.hid (show ansF ts = .tuple #[.agg #[.int .i64 sn0, .int .i64 sd0], .bool true] by unfold ansF; rw [HG.out, HS0.out, HD0.out]; rfl)
  go_wp2_with fail
  refine (HLS.out _ HX4 HF4 (Lib.hid (hts.out.step HB4.out)) (Lib.hid (hT.out.below HB4.out))).mono ?_
  rintro e w5 ⟨rfl, b5⟩
  have hb5 := HB4.out.trans (b5.mono HB4.out.size)
  have hx5 := HX4.out.below b5 HX4.out.lt
  clear b5 HB4 HX4 HF4 HLS
  go_upto_region 5 with fail
  obtain ⟨V, HV5⟩ : ∃ V, Hid ((w5.alloc (.cells #[.int .i64 bi, .int .i64 bf] 123)).alloc (.cells #[.int .i64 bn, .int .i64 bd] 105) = V) := ⟨_, Lib.hid rfl⟩
  obtain ⟨Y, HYY⟩ : ∃ q, Hid (w5.heap.size = q) := ⟨_, Lib.hid rfl⟩
  have HB5 := Lib.hid (show Below w.heap.size w V by rw [← HV5.out]; exact (hb5.alloc hb5.size _).alloc (by have := hb5.size; simp; omega) _)
  have HX5 := Lib.hid (show Blk V X 24 #[.slice A n cap] by rw [← HV5.out]; exact (hx5.alloc _).alloc _)
  have HY5 := Lib.hid (show Blk V Y 123 #[.int .i64 bi, .int .i64 bf] by rw [← HV5.out, ← HYY.out]; exact (Blk.new _ _ _).alloc _)
  have HZ5 := Lib.hid (show Blk V (Y + 1) 105 #[.int .i64 bn, .int .i64 bd] by rw [← HV5.out, ← HYY.out]; have h := Blk.new (w5.alloc (.cells #[.int .i64 bi, .int .i64 bf] 123)) 105 #[.int .i64 bn, .int .i64 bd]; simpa using h)
  rw [HV5.out]
  try simp only [HYY.out]
  clear HV5 HYY hb5 hx5
  have x0 := HX5.out.cell 0
  simp at x0
  go_wp2_with fail
  refine (strainF_any A n cap ts _ _ HAN hn (Lib.hid (hts.out.step HB5.out)) (Lib.hid (hT.out.below HB5.out))).mono ?_
  rintro e w6 ⟨rfl, b6⟩
  have hb6 := HB5.out.trans (b6.mono HB5.out.size)
  have HB6 := Lib.hid (hb6.alloc hb6.size (.cells #[.int .i64 sn0, .int .i64 sd0] 105))
  have HY6 := Lib.hid ((HY5.out.below b6 HY5.out.lt).alloc (.cells #[.int .i64 sn0, .int .i64 sd0] 105))
  have HZ6 := Lib.hid ((HZ5.out.below b6 HZ5.out.lt).alloc (.cells #[.int .i64 sn0, .int .i64 sd0] 105))
  have HQ6 := Lib.hid (Blk.new w6 105 #[.int .i64 sn0, .int .i64 sd0])
  have hzq := (HZ5.out.below b6 HZ5.out.lt).lt
  clear b6 hb6 HB5 HX5 HY5 HZ5 x0
  go_upto_region 6 with fail
  obtain ⟨V6, HV6⟩ : ∃ V, Hid (w6.alloc (.cells #[.int .i64 sn0, .int .i64 sd0] 105) = V) := ⟨_, Lib.hid rfl⟩
  obtain ⟨Q, HQQ⟩ : ∃ q, Hid (w6.heap.size = q) := ⟨_, Lib.hid rfl⟩
  rw [HQQ.out] at HQ6 hzq
  rw [HV6.out] at HB6 HY6 HZ6 HQ6 ⊢
  try simp only [HQQ.out]
  clear HV6 HQQ
  cases o with
  | none =>
    obtain rfl : bo = false := HBO.out.symm
    have HF := Lib.hid (show ansBf ts = .tuple #[.int .i64 0, .int .i64 0, .bool false] by unfold ansBf; rw [HV.out]; rfl)
    go_wp2_with fail
    go_ret3
    exact ⟨by rw [HF.out]; rfl, HB6.out⟩
  | some c =>
    obtain rfl : bo = true := HBO.out.symm
    obtain ⟨ci, cf⟩ := c
    have HGV := Lib.hid (show goodLg (fixTs ts ci cf) = true from (can_good (flN_mem (show flN (fun c : Int × Int => canB ts c.1 c.2) (fun c => fixTs ts c.1 c.2) (fxAll (plIds ts)) (fxAll (plIds ts)).length = some (ci, cf) from HO.out)).2).1)
    have e3 : snV (fixTs ts ci cf) = bn := HBN.out
    have e4 : sdV (fixTs ts ci cf) = bd := HBD.out
    have m1 := st_mul (st_bd HGV.out) (st_bd HG.out)
    have m2 := st_mul (st_bd HG.out) (st_bd HGV.out)
    rw [e3, HD0.out] at m1
    rw [e4, HS0.out] at m2
    have l1 : lim62 (bn * sd0) := by unfold lim62; omega
    have l2 : lim62 (sn0 * bd) := by unfold lim62; omega
    obtain ⟨r, HRR⟩ : ∃ q, Hid (cpI (bn * sd0) (sn0 * bd) = q) := ⟨_, Lib.hid rfl⟩
    have HCP2 := Lib.hid (show cpS (fixTs ts ci cf) ts = r by rw [← HRR.out]; unfold cpS; rw [e3, e4, HS0.out, HD0.out])
    clear e3 e4 m1 m2
    have q0 := HZ6.out.cell 0
    have q1 := HZ6.out.cell 1
    have y0 := HQ6.out.cell 0
    have y1 := HQ6.out.cell 1
    simp at q0 q1 y0 y1
    go_wp2_with fail
    refine (cmpF_any bn bd sn0 sd0 r _ l1 l2 HRR).mono ?_
    rintro e w7 ⟨rfl, b7⟩
    have HB7 := Lib.hid (HB6.out.trans (b7.mono HB6.out.size))
    have HY7 := Lib.hid (HY6.out.below b7 HY6.out.lt)
    clear b7 HB6 HY6 HZ6 HQ6 q0 q1 y0 y1
    by_cases hr : r < 0
    · have hr2 : ¬ (0 ≤ r) := by omega
      have HF := Lib.hid (show ansBf ts = .tuple #[.int .i64 bi, .int .i64 bf, .bool true] by
        have e : bfV ts = some (ci, cf) := by rw [HV.out]; unfold below; simp only []; rw [if_pos (by show cpS (fixTs ts ci cf) ts < 0; rw [HCP2.out]; exact hr)]
        unfold ansBf
        rw [e, ← HBI.out, ← HBF.out]; rfl)
      have u0 := HY7.out.cell 0
      have u1 := HY7.out.cell 1
      simp at u0 u1
      go_upto_region 8 with fail
      go_region
      go_wp2_with fail
      go_ret3
      exact ⟨by rw [HF.out]; rfl, HB7.out.drew⟩
    · have hr2 : 0 ≤ r := by omega
      have HF := Lib.hid (show ansBf ts = .tuple #[.int .i64 0, .int .i64 0, .bool false] by
        have e : bfV ts = none := by rw [HV.out]; unfold below; simp only []; rw [if_neg (by show ¬ cpS (fixTs ts ci cf) ts < 0; rw [HCP2.out]; exact hr)]
        unfold ansBf
        rw [e]; rfl)
      go_wp2_with fail
      go_ret3
      exact ⟨by rw [HF.out]; rfl, HB7.out⟩
theorem bestFix_is (A : Option Addr) (n cap : Nat) (ts : List Lg) (a b : Int) (s : Bool) (w : World) (h1 : Hid (oI (bfV ts) = a)) (h2 : Hid (oF (bfV ts) = b)) (h3 : Hid ((bfV ts).isSome = s)) (hn : n ≤ 2000000) (hts : Hid (LgAt w w.heap.size A n ts)) (hT : Hid (Tab w)) :
    Calls Tryz.prog 58 #[.slice A n cap] w (APost (.tuple #[.int .i64 a, .int .i64 b, .bool s]) w) := by
  rw [← h1.out, ← h2.out, ← h3.out]; exact bestFix_impl A n cap ts w hn hts hT
set_option maxHeartbeats 16000000 in
set_option maxRecDepth 100000 in
theorem cleanLegs_impl (A : Option Addr) (n cap : Nat) (ts : List Lg) (w : World) (hn : n ≤ 2000000) (hts : Hid (LgAt w w.heap.size A n ts)) (hT : Hid (Tab w)) :
    Calls Tryz.prog 61 #[.slice A n cap] w (CPo (clTs ts) (clN' ts) (goodLg ts) w) := by
  have HL := Lib.hid hts.out.1
  obtain ⟨g, HG⟩ : ∃ q, Hid (goodLg ts = q) := ⟨_, Lib.hid rfl⟩
  rw [HG.out]
  cases g
  · have HF := Lib.hid (show clTs ts = [] by unfold clTs; rw [HG.out]; rfl)
    have HF2 := Lib.hid (show clN' ts = 0 by unfold clN'; rw [HG.out]; rfl)
    rw [HF.out, HF2.out]
    go_enter Tryz.func61, Tryz.ntmps61
    go_wp2_with fail
    refine (areLegs_is A n cap ts false _ hn hts HG).mono ?_
    rintro e w1 ⟨rfl, b1⟩
    have HB := Lib.hid b1
    clear b1
    go_wp2_with fail
    go_ret3
    exact ⟨some ⟨w1.heap.size, 0, none⟩, 0, rfl, World.ownsRow_made w1 #[] 0 HB.out.size (by decide) (by simp), HB.out.alloc HB.out.size _⟩
  have hn12 := len12 HL.out HG.out
  have HF := Lib.hid (show clTs ts = clK ts (clE ts) by unfold clTs; rw [HG.out]; rfl)
  have HF2 := Lib.hid (show clN' ts = (clE ts : Int) by unfold clN'; rw [HG.out]; rfl)
  rw [HF.out, HF2.out]
  go_enter Tryz.func61, Tryz.ntmps61
  go_wp2_with fail
  refine (areLegs_is A n cap ts true _ hn hts HG).mono ?_
  rintro e w1 ⟨rfl, b1⟩
  have HB1 := Lib.hid b1
  clear b1
  go_wp2_with fail
  refine (clone_any A n cap ts _ hn (Lib.hid (hts.out.step HB1.out))).mono ?_
  rintro e w2 ⟨A3, c3, rfl, hO3, b2⟩
  rw [HL.out] at hO3 ⊢
  have HO3 := Lib.hid (own_low HB1.out.size hO3)
  have HB3 := Lib.hid (HB1.out.trans (b2.mono HB1.out.size))
  clear b2 hO3 HB1
  go_wp2_with fail
  go_loopw [5, 16] (fun v i wr => ∃ (m : Nat) (A2 : Option Addr) (c2 : Nat), m ≤ 3 ∧ i = .int .i64 (m : Nat) ∧ v = .slice A2 n c2 ∧ Hid (∀ j, j < m → (bfV (clK ts j)).isNone = false) ∧ wr.ownsRow w.heap.size 87 5 (.slice A2 n c2) n (flatLg (clK ts m)) ∧ Below w.heap.size w wr) (fun _ i _ => 3 - (intOf i).toNat)
  case atStart => exact ⟨0, A3, c3, by omega, rfl, rfl, Lib.hid (fun j h => by omega), HO3.out, HB3.out⟩
  case round =>
    clear HO3 HB3
    obtain ⟨m, A2, c2, hm, rfl, rfl, HNO, hO, hB⟩ := hrel
    have HO := Lib.hid hO
    have HB := Lib.hid hB
    clear hO hB
    obtain ⟨us, HU⟩ : ∃ q, Hid (clK ts m = q) := ⟨_, Lib.hid rfl⟩
    have HGU := Lib.hid (show goodLg us = true by rw [← HU.out]; exact clK_good HG.out m)
    have HM := Lib.hid (show us.length = n by rw [← HU.out, clK_len, HL.out])
    by_cases hlt : m < 3
    · have hki : (m : Int) < 3 := by omega
      have hm0 : (0 : Int) ≤ (m : Int) := by omega
      have hkd : decide (m < 3) = true := by simpa using hlt
      obtain ⟨a, HA⟩ : ∃ q, Hid (oI (bfV us) = q) := ⟨_, Lib.hid rfl⟩
      obtain ⟨b, HBB⟩ : ∃ q, Hid (oF (bfV us) = q) := ⟨_, Lib.hid rfl⟩
      obtain ⟨s, HSS⟩ : ∃ q, Hid ((bfV us).isSome = q) := ⟨_, Lib.hid rfl⟩
      have HS := Lib.hid (own_Lg HM.out (by rw [← HU.out]; exact HO.out))
      go_wp2_with fail
      refine (bestFix_is A2 n c2 us a b s _ HA HBB HSS hn HS (Lib.hid (hT.out.below HB.out))).mono ?_
      rintro e w4 ⟨rfl, b4⟩
      have HO4 := Lib.hid (row_below HO.out b4)
      have HB4 := Lib.hid (HB.out.trans (b4.mono HB.out.size))
      have HS4 := Lib.hid (HS.out.step b4)
      clear b4 HO HB HS
      cases hs : bfV us with
      | none =>
        obtain rfl : s = false := by rw [← HSS.out, hs]; rfl
        have HE := Lib.hid (clE_is (ts := ts) (m := m) (by omega) HNO.out (.inr (by rw [HU.out, hs]; rfl)))
        clear hs
        go_wp2_with fail
        go_ret3
        exact ⟨A2, c2, by rw [HE.out, HU.out, HM.out]; rfl, by rw [HE.out, HU.out, HM.out, ← HU.out]; exact HO4.out, HB4.out⟩
      | some cc =>
        obtain ⟨jj, f⟩ := cc
        obtain rfl : s = true := by rw [← HSS.out, hs]; rfl
        obtain rfl : a = jj := by rw [← HA.out, hs]; rfl
        obtain rfl : b = f := by rw [← HBB.out, hs]; rfl
        have hcan := (bfV_can hs).1
        obtain ⟨vs, HVS⟩ : ∃ q, Hid (fxTs us a b = q) := ⟨_, Lib.hid rfl⟩
        have HN1 := Lib.hid (show clK ts (m + 1) = vs by
          rw [← HVS.out]; unfold fxTs; rw [hcan, if_pos rfl, clK, HU.out, hs])
        have HMV := Lib.hid (show vs.length = n by rw [← HN1.out, clK_len, HL.out])
        have HNO1 := Lib.hid (show ∀ j, j < m + 1 → (bfV (clK ts j)).isNone = false from fun j h => by
          by_cases e : j = m
          · rw [e, HU.out, hs]; rfl
          · exact HNO.out j (by omega))
        have HFL := Lib.hid (fun (v : World) (h1 : Hid (LgAt v v.heap.size A2 n us)) (h2 : Hid (Tab v)) => fixLeg_impl A2 n c2 us a b v hn h1 h2)
        rw [HVS.out, hcan] at HFL
        clear hcan hs
        go_wp2_with fail
        refine (HFL.out _ HS4 (Lib.hid (hT.out.below HB4.out))).mono ?_
        rintro e w5 ⟨A5, c5, rfl, hO5, b5⟩
        rw [HMV.out] at hO5 ⊢
        have HO5 := Lib.hid (own_low HB4.out.size hO5)
        have HB5 := Lib.hid (HB4.out.trans (b5.mono HB4.out.size))
        clear hO5 b5
        go_wp2_with fail
        go_roundw
        case rel => exact ⟨m + 1, A5, c5, by omega, by go_num, rfl, HNO1, by rw [HN1.out]; exact HO5.out, HB5.out⟩
        case measure => simp [intOf]; omega
    · have hkd : decide (m < 3) = false := by simpa using hlt
      obtain rfl : m = 3 := by omega
      have HE := Lib.hid (clE_is (ts := ts) (m := 3) (by omega) HNO.out (.inl rfl))
      go_wp2_with fail
      go_ret3
      exact ⟨A2, c2, by rw [HE.out, HU.out, HM.out]; rfl, by rw [HE.out, HU.out, HM.out, ← HU.out]; exact HO.out, HB.out⟩
end Go.Proofs.YtiimegmaokfpgabGreatDoor.bl
