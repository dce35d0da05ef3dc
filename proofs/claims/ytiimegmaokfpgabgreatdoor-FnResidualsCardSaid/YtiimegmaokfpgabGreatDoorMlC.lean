/-
  The model: the residual of a leg, times a denominator.
  Conditions: the leg is valid, the axis is one; the coordinates lie within 2000000000, the denominator within 1000000.
-/
import Derived.Test.YtiimegmaokfpgabGreatDoorMlB
namespace Go.Proofs.YtiimegmaokfpgabGreatDoor.ml
open Go.RowKit
open reads base ty lg rowi hs nt mt
set_option linter.unusedVariables false
set_option linter.unusedSimpArgs false

/-- the coordinate of a station -/
def cat (cs : List Int) (s : Int) : Int := (cs[s.toNat]?).getD 0
theorem cat_at {cs : List Int} {k : Nat} (h : k < cs.length) : cs[k]? = some (cat cs (k : Int)) := by
  unfold cat; rw [Int.toNat_natCast, List.getElem?_eq_getElem h]; rfl
/-- coordinates within limits -/
def CBd (cs : List Int) : Prop := cs.length = 8 ∧ ∀ c ∈ cs, -2000000000 ≤ c ∧ c ≤ 2000000000
theorem CBd.at_ {cs : List Int} (h : CBd cs) (s : Int) : -2000000000 ≤ cat cs s ∧ cat cs s ≤ 2000000000 := by
  unfold cat
  cases e : cs[s.toNat]? with
  | none => simp
  | some c => exact h.2 c (List.mem_of_getElem? e)
def rsV (x : Lg) (ax : Int) (cs : List Int) (den : Int) : Int := msA x ax * den - cat cs x.to_ + cat cs x.frm
theorem md_bd {m d : Int} (h : -500 ≤ m ∧ m ≤ 500) (k : -1000000 ≤ d ∧ d ≤ 1000000) : -500000000 ≤ m * d ∧ m * d ≤ 500000000 := by
  have h1 := Int.mul_le_mul (show (m.natAbs : Int) ≤ 500 by omega) (show (d.natAbs : Int) ≤ 1000000 by omega) (by omega) (by omega)
  have e : ((m * d).natAbs : Int) = (m.natAbs : Int) * (d.natAbs : Int) := by rw [Int.natAbs_mul]; simp
  omega
theorem rsV_bd {x : Lg} {ax den : Int} {cs : List Int} (hx : okLg x = true) (hc : CBd cs) (hd : -1000000 ≤ den ∧ den ≤ 1000000) : -4500000000 ≤ rsV x ax cs den ∧ rsV x ax cs den ≤ 4500000000 := by
  have a := md_bd (msA_bd hx ax) hd
  have b := hc.at_ x.to_
  have c := hc.at_ x.frm
  unfold rsV; omega
set_option maxHeartbeats 8000000 in
set_option maxRecDepth 100000 in
theorem rest_any (x : Lg) (ax den r : Int) (A : Option Addr) (c : Nat) (cs : List Int) (w : World) (hx : Hid (okLg x = true)) (h0 : 0 ≤ ax) (h2 : ax ≤ 2) (hd : -1000000 ≤ den ∧ den ≤ 1000000) (hc : Hid (CBd cs)) (hA : Hid (IO w w.heap.size A 8 cs)) (hr : Hid (rsV x ax cs den = r)) :
    Calls Tryz.prog 82 #[.agg #[.int .i64 x.frm, .int .i64 x.to_, .int .i64 x.tape, .int .i64 x.comp, .int .i64 x.slope], .int .i64 ax, .slice A 8 c, .int .i64 den] w (APost (.int .i64 r) w) := by
  obtain ⟨fr, tt, tp, cm, sl⟩ := x
  obtain ⟨⟨f0, f1⟩, ⟨t0, t1⟩, -⟩ := okLg_lim hx.out
  simp only [] at f0 f1 t0 t1
  obtain ⟨f, rfl⟩ : ∃ f : Nat, fr = f := ⟨fr.toNat, by omega⟩
  obtain ⟨t, rfl⟩ : ∃ t : Nat, tt = t := ⟨tt.toNat, by omega⟩
  have hl := hA.out.1
  obtain ⟨m, HMV⟩ : ∃ m, Hid (msA ⟨(f : Int), (t : Int), tp, cm, sl⟩ ax = m) := ⟨_, Lib.hid rfl⟩
  obtain ⟨cf, HCF⟩ : ∃ m, Hid (cat cs (f : Int) = m) := ⟨_, Lib.hid rfl⟩
  obtain ⟨ct, HCT⟩ : ∃ m, Hid (cat cs (t : Int) = m) := ⟨_, Lib.hid rfl⟩
  have HRV := Lib.hid (show m * den - ct + cf = r by rw [← hr.out, ← HMV.out, ← HCF.out, ← HCT.out]; rfl)
  have bm := msA_bd hx.out ax
  rw [HMV.out] at bm
  have bp := md_bd bm hd
  have bf := hc.out.at_ (f : Int)
  have bt := hc.out.at_ (t : Int)
  rw [HCF.out] at bf
  rw [HCT.out] at bt
  have HA1 := Lib.hid (hA.out.step ((Below.refl w.heap.size w).alloc (Nat.le_refl _) (.cells #[.int .i64 (f : Int), .int .i64 (t : Int), .int .i64 tp, .int .i64 cm, .int .i64 sl] 87)))
  have HB0 := Lib.hid ((Below.refl w.heap.size w).alloc (Nat.le_refl _) (.cells #[.int .i64 (f : Int), .int .i64 (t : Int), .int .i64 tp, .int .i64 cm, .int .i64 sl] 87))
  have HK := Lib.hid (Blk.new w 87 #[.int .i64 (f : Int), .int .i64 (t : Int), .int .i64 tp, .int .i64 cm, .int .i64 sl])
  go_enter Tryz.func82, Tryz.ntmps82
  obtain ⟨W0, HW0⟩ : ∃ W, Hid (w.alloc (.cells #[.int .i64 (f : Int), .int .i64 (t : Int), .int .i64 tp, .int .i64 cm, .int .i64 sl] 87) = W) := ⟨_, Lib.hid rfl⟩
  go_upto_region 1 with fail
  rw [HW0.out] at HA1 HB0 HK ⊢
  have hs : w.heap.size < W0.heap.size := HK.out.lt
  obtain ⟨L, HLL⟩ : ∃ L, Hid (w.heap.size = L) := ⟨_, Lib.hid rfl⟩
  rw [HLL.out] at HK hs HB0
  try simp only [HLL.out]
  obtain ⟨g, o, rfl, hg, ef⟩ := HA1.out.2 f _ (cat_at (by omega))
  obtain ⟨g', o', eg, -, et⟩ := HA1.out.2 t _ (cat_at (by omega))
  obtain ⟨rfl, rfl⟩ : g = g' ∧ o = o' := by injection eg with eg; injection eg with e1 e2; exact ⟨e1, e2⟩
  rw [HCF.out] at ef
  rw [HCT.out] at et
  have y0 := HK.out.cell 0
  have y1 := HK.out.cell 1
  have y2 := HK.out.cell 2
  have y3 := HK.out.cell 3
  have y4 := HK.out.cell 4
  simp at y0 y1 y2 y3 y4
  have hf8 : (f : Int) < 8 := by omega
  have ht8 : (t : Int) < 8 := by omega
  have x1 : IntKind.i64.wrap (m * den) = m * den := IntWalk.i64_in _ (by omega)
  have x2 : IntKind.i64.wrap (m * den - ct) = m * den - ct := IntWalk.i64_in _ (by omega)
  have x3 : IntKind.i64.wrap (m * den - ct + cf) = m * den - ct + cf := IntWalk.i64_in _ (by omega)
  clear eg bm bf bt bp
  obtain ⟨B, HBB⟩ : ∃ B, Hid (W0.heap.size = B) := ⟨_, Lib.hid rfl⟩
  rw [HBB.out] at hs hg
  have HWB := Lib.hid (show B ≤ W0.heap.size by rw [HBB.out]; exact Nat.le_refl _)
  clear HW0
  refine wp_region_held_drew (S := (fun v => (∀ b o, b < B → v.cell? ⟨b, o, none⟩ = W0.cell? ⟨b, o, none⟩) ∧ Below B W0 v)) (by kernel_rfl) ?_ (fun hHeld => ?_)
  · exact sb_start (Below.refl _ _)
  refine' wpAnyH_take (i := 0) (v := ?vr1_0) rfl (by kernel_rfl) (by kernel_rfl) (by kernel_rfl) (fun _ _ _ h => h) (Or.inl ⟨by rfl, ?hyr1_0⟩) (by assumption) ?restr1_0
  case hyr1_0 => (intro w hSw; (try dsimp only at hSw); go_simp; try (with_reducible rfl))
  simp only [Act.put, List.getElem_toArray, List.getElem_cons_succ, List.getElem_cons_zero, List.setIfInBounds_toArray, List.set_cons_zero, List.set_cons_succ]
  refine' wpAnyH_take (i := 1) (v := ?vr1_1) rfl (by kernel_rfl) (by kernel_rfl) (by kernel_rfl) (fun _ _ _ h => h) (Or.inl ⟨by rfl, ?hyr1_1⟩) (by assumption) ?restr1_1
  case hyr1_1 => (intro w hSw; (try dsimp only at hSw); go_simp; try (with_reducible rfl))
  simp only [Act.put, List.getElem_toArray, List.getElem_cons_succ, List.getElem_cons_zero, List.setIfInBounds_toArray, List.set_cons_zero, List.set_cons_succ]
  refine' wpAnyH_take (i := 3) (v := ?vr1_3) rfl (by kernel_rfl) (by kernel_rfl) (by kernel_rfl) (fun _ _ _ h => h) (Or.inl ⟨by rfl, ?hyr1_3⟩) (by assumption) ?restr1_3
  case hyr1_3 => (intro w hSw; (try dsimp only at hSw); go_simp; try (with_reducible rfl))
  simp only [Act.put, List.getElem_toArray, List.getElem_cons_succ, List.getElem_cons_zero, List.setIfInBounds_toArray, List.set_cons_zero, List.set_cons_succ]
  refine' wpAnyH_take (i := 5) (v := ?vr1_5) rfl (by kernel_rfl) (by kernel_rfl) (by kernel_rfl) (fun _ _ _ h => h) (Or.inl ⟨by rfl, ?hyr1_5⟩) (by assumption) ?restr1_5
  case hyr1_5 => (intro w hSw; (try dsimp only at hSw); go_simp; try (with_reducible rfl))
  simp only [Act.put, List.getElem_toArray, List.getElem_cons_succ, List.getElem_cons_zero, List.setIfInBounds_toArray, List.set_cons_zero, List.set_cons_succ]
  refine' wpAnyH_take (i := 6) (v := ?vr1_6) rfl (by kernel_rfl) (by kernel_rfl) (by kernel_rfl) (fun _ _ _ h => h) (Or.inl ⟨by rfl, ?hyr1_6⟩) (by assumption) ?restr1_6
  case hyr1_6 => (intro w hSw; (try dsimp only at hSw); go_simp; try (with_reducible rfl))
  simp only [Act.put, List.getElem_toArray, List.getElem_cons_succ, List.getElem_cons_zero, List.setIfInBounds_toArray, List.set_cons_zero, List.set_cons_succ]
  refine' wpAnyH_take (i := 7) (v := ?vr1_7) rfl (by kernel_rfl) (by kernel_rfl) (by kernel_rfl) (fun _ _ _ h => h) (Or.inl ⟨by rfl, ?hyr1_7⟩) (by assumption) ?restr1_7
  case hyr1_7 => (intro w hSw; (try dsimp only at hSw); go_simp; try (with_reducible rfl))
  simp only [Act.put, List.getElem_toArray, List.getElem_cons_succ, List.getElem_cons_zero, List.setIfInBounds_toArray, List.set_cons_zero, List.set_cons_succ]
  refine' wpAnyH_take (i := 8) (v := ?vr1_8) rfl (by kernel_rfl) (by kernel_rfl) (by kernel_rfl) (fun _ _ _ h => h) (Or.inl ⟨by rfl, ?hyr1_8⟩) (by assumption) ?restr1_8
  case hyr1_8 => (intro w hSw; (try dsimp only at hSw); go_simp; try (with_reducible rfl))
  simp only [Act.put, List.getElem_toArray, List.getElem_cons_succ, List.getElem_cons_zero, List.setIfInBounds_toArray, List.set_cons_zero, List.set_cons_succ]
  refine' wpAnyH_take (i := 9) (v := ?vr1_9) rfl (by kernel_rfl) (by kernel_rfl) (by kernel_rfl) (fun _ _ _ h => h) (Or.inl ⟨by rfl, ?hyr1_9⟩) (by assumption) ?restr1_9
  case hyr1_9 => (intro w hSw; (try dsimp only at hSw); go_simp; try (with_reducible rfl))
  simp only [Act.put, List.getElem_toArray, List.getElem_cons_succ, List.getElem_cons_zero, List.setIfInBounds_toArray, List.set_cons_zero, List.set_cons_succ]
  refine' wpAnyH_take (i := 11) (v := ?vr1_11) rfl (by kernel_rfl) (by kernel_rfl) (by kernel_rfl) (fun _ _ _ h => h) (Or.inl ⟨by rfl, ?hyr1_11⟩) (by assumption) ?restr1_11
  case hyr1_11 => (intro w hSw; (try dsimp only at hSw); go_simp; try (with_reducible rfl))
  simp only [Act.put, List.getElem_toArray, List.getElem_cons_succ, List.getElem_cons_zero, List.setIfInBounds_toArray, List.set_cons_zero, List.set_cons_succ]
  refine' wpAnyH_take (i := 12) (v := ?vr1_12) rfl (by kernel_rfl) (by kernel_rfl) (by kernel_rfl) (fun _ _ _ h => h) (Or.inl ⟨by rfl, ?hyr1_12⟩) (by assumption) ?restr1_12
  case hyr1_12 => (intro w hSw; (try dsimp only at hSw); go_simp; try (with_reducible rfl))
  simp only [Act.put, List.getElem_toArray, List.getElem_cons_succ, List.getElem_cons_zero, List.setIfInBounds_toArray, List.set_cons_zero, List.set_cons_succ]
  refine' wpAnyH_take (i := 13) (v := ?vr1_13) rfl (by kernel_rfl) (by kernel_rfl) (by kernel_rfl) (fun _ _ _ h => h) (Or.inl ⟨by rfl, ?hyr1_13⟩) (by assumption) ?restr1_13
  case hyr1_13 => (intro w hSw; (try dsimp only at hSw); go_simp; try (with_reducible rfl))
  simp only [Act.put, List.getElem_toArray, List.getElem_cons_succ, List.getElem_cons_zero, List.setIfInBounds_toArray, List.set_cons_zero, List.set_cons_succ]
  refine' wpAnyH_take (i := 14) (v := ?vr1_14) rfl (by kernel_rfl) (by kernel_rfl) (by kernel_rfl) (fun _ _ _ h => h) (Or.inl ⟨by rfl, ?hyr1_14⟩) (by assumption) ?restr1_14
  case hyr1_14 => (intro w hSw; (try dsimp only at hSw); go_simp; try (with_reducible rfl))
  simp only [Act.put, List.getElem_toArray, List.getElem_cons_succ, List.getElem_cons_zero, List.setIfInBounds_toArray, List.set_cons_zero, List.set_cons_succ]
  refine' wpAnyH_take (i := 15) (v := ?vr1_15) rfl (by kernel_rfl) (by kernel_rfl) (by kernel_rfl) (fun _ _ _ h => h) (Or.inl ⟨by rfl, ?hyr1_15⟩) (by assumption) ?restr1_15
  case hyr1_15 => (intro w hSw; (try dsimp only at hSw); go_simp; try (with_reducible rfl))
  simp only [Act.put, List.getElem_toArray, List.getElem_cons_succ, List.getElem_cons_zero, List.setIfInBounds_toArray, List.set_cons_zero, List.set_cons_succ]
  refine wpAnyH_ready (rs := [2]) (by kernel_rfl) (by simp) ?_
  refine AllReadyH.cons rfl (fun K hK => ?_) AllReadyH.nil
  go_simp
  refine (measure_any ⟨(f : Int), (t : Int), tp, cm, sl⟩ ax m _ hx h0 h2 HMV).mono ?_
  rintro e w1 ⟨rfl, b1⟩
  refine hK.out _ _ (sb_step hHeld HWB.out b1) (fun hHeld1 => ?_)
  clear hK K hHeld
  have hHeld := hHeld1
  clear hHeld1
  try simp only [Act.put, List.getElem_toArray, List.getElem_cons_succ, List.getElem_cons_zero, List.setIfInBounds_toArray, List.set_cons_zero, List.set_cons_succ]
  refine' wpAnyH_take (i := 4) (v := ?vr1_4) rfl (by kernel_rfl) (by kernel_rfl) (by kernel_rfl) (fun _ _ _ h => h) (Or.inl ⟨by rfl, ?hyr1_4⟩) (by assumption) ?restr1_4
  case hyr1_4 => (intro w hSw; (try dsimp only at hSw); go_simp; try (with_reducible rfl))
  simp only [Act.put, List.getElem_toArray, List.getElem_cons_succ, List.getElem_cons_zero, List.setIfInBounds_toArray, List.set_cons_zero, List.set_cons_succ]
  refine' wpAnyH_take (i := 10) (v := ?vr1_10) rfl (by kernel_rfl) (by kernel_rfl) (by kernel_rfl) (fun _ _ _ h => h) (Or.inl ⟨by rfl, ?hyr1_10⟩) (by assumption) ?restr1_10
  case hyr1_10 => (intro w hSw; (try dsimp only at hSw); go_simp; try (with_reducible rfl))
  simp only [Act.put, List.getElem_toArray, List.getElem_cons_succ, List.getElem_cons_zero, List.setIfInBounds_toArray, List.set_cons_zero, List.set_cons_succ]
  refine' wpAnyH_take (i := 16) (v := ?vr1_16) rfl (by kernel_rfl) (by kernel_rfl) (by kernel_rfl) (fun _ _ _ h => h) (Or.inl ⟨by rfl, ?hyr1_16⟩) (by assumption) ?restr1_16
  case hyr1_16 => (intro w hSw; (try dsimp only at hSw); go_simp; try (with_reducible rfl))
  simp only [Act.put, List.getElem_toArray, List.getElem_cons_succ, List.getElem_cons_zero, List.setIfInBounds_toArray, List.set_cons_zero, List.set_cons_succ]
  refine' wpAnyH_take (i := 17) (v := ?vr1_17) rfl (by kernel_rfl) (by kernel_rfl) (by kernel_rfl) (fun _ _ _ h => h) (Or.inl ⟨by rfl, ?hyr1_17⟩) (by assumption) ?restr1_17
  case hyr1_17 => (intro w hSw; (try dsimp only at hSw); go_simp; try (with_reducible rfl))
  simp only [Act.put, List.getElem_toArray, List.getElem_cons_succ, List.getElem_cons_zero, List.setIfInBounds_toArray, List.set_cons_zero, List.set_cons_succ]
  refine wpAnyH_done (by kernel_rfl) ?_ _
  go_wp2_with fail
  go_ret
  exact ⟨by rw [HRV.out]; rfl, by rw [HLL.out]; exact HB0.out.trans (hHeld.2.mono (by omega))⟩
#print axioms rest_any
end Go.Proofs.YtiimegmaokfpgabGreatDoor.ml
