/-
  The residuals of all legs, by the program.
  The adjustment of a network on an axis, by the program.
  The adjustment of any legs, TreeCount and AdjustAxis, by the program.
  TreeCount and AdjustAxis, by the program.
  Conditions: those that each theorem names.
-/
import Derived.Test.YtnpghhpcloljeabGreatDoorPgM
import Derived.Test.YtnpghhpcloljeabGreatDoorMlGq
import Derived.Test.YtnpghhpcloljeabGreatDoorPgS
namespace Go.Proofs.YtnpghhpcloljeabGreatDoor.pg
open Go.RowKit
open reads base ty lg lgi win hs nt nq rowi sn mt ml dt
set_option linter.unusedVariables false
set_option linter.unusedSimpArgs false

/-- the residuals of all legs; nothing for those that are not placed -/
def rsF (ts : List Lg) (ax : Int) (cs : List Int) (den : Int) (U : List Int) (i : Nat) : Int := if (i : Int) ∈ U then rsV (lgAt ts i) ax cs den else 0
def rsL (ts : List Lg) (ax : Int) (cs : List Int) (den : Int) : List Int := (List.range ts.length).map (rsF ts ax cs den (plIds ts))
theorem rsL_len (ts : List Lg) (ax : Int) (cs : List Int) (den : Int) : (rsL ts ax cs den).length = ts.length := by simp [rsL]
set_option maxHeartbeats 16000000 in
set_option maxRecDepth 100000 in
theorem residuals_any (A : Option Addr) (n cap : Nat) (ts : List Lg) (cl : List Bool) (C : Array Value) (ax den : Int) (Ac : Option Addr) (cc : Nat) (cs : List Int) (w : World) (h0 : 0 ≤ ax) (h2 : ax ≤ 2) (hd : -1000000 ≤ den ∧ den ≤ 1000000) (hcb : Hid (CBd cs)) (hca : Hid (IO w w.heap.size Ac 8 cs)) (hC : Hid (nv (net ts) cl = C)) (hcl : cl.length = 12) (hg : Hid (goodLg ts = true)) (hts : Hid (LgAt w w.heap.size A n ts)) (hT : Hid (Tab w)) :
    Calls Tryz.prog 74 #[.slice A n cap, .agg C, .int .i64 ax, .slice Ac 8 cc, .int .i64 den] w (JPo (rsL ts ax cs den) w) := by
  obtain ⟨i0, hi, hz0, hz1, hz2⟩ := info_parts infoI
  have HL := Lib.hid hts.out.1
  have hn12 := len12 HL.out hg.out
  have hcz : C.size = 56 := by rw [← hC.out]; exact nv_size ⟨(ok_net hg.out).1, hcl⟩
  have hmk : ∀ W : World, (Instr.makeSlice 27 (.int .i64 (n : Int)) (.int .i64 (n : Int))).run Tryz.prog W = .ok (.slice (some ⟨W.heap.size, 0, none⟩) n n) (W.alloc (.cells (cs1 n (fun _ => 0)) 3)) := fun W => by
    have h := run_make_rowN (P := Tryz.prog) 27 3 i0 _ Tryz.underlying27 hi hz0 .i64 .i64 n n (Nat.le_refl _) (by rw [hz2]; omega) (by omega) W
    rw [hz1] at h
    rw [← cs1_zero]
    exact h
  obtain ⟨G, HGE⟩ : ∃ q, Hid (w.heap.size = q) := ⟨_, Lib.hid rfl⟩
  obtain ⟨R, HRE⟩ : ∃ q, Hid (G + 1 = q) := ⟨_, Lib.hid rfl⟩
  have HG0 := Lib.hid (show Blk ((w.alloc (.cells C 76)).alloc (.cells (cs1 n (fun _ => 0)) 3)) G 76 C by rw [← HGE.out]; exact (Blk.new _ _ _).alloc _)
  have HR0 := Lib.hid (show RwB ((w.alloc (.cells C 76)).alloc (.cells (cs1 n (fun _ => 0)) 3)) R n (fun _ => 0) by
    have h := Blk.new (w.alloc (.cells C 76)) 3 (cs1 n (fun _ => 0))
    rw [← HRE.out, ← HGE.out]; unfold RwB; simpa using h)
  have HB0 := Lib.hid (((Below.refl w.heap.size w).alloc (Nat.le_refl _) (.cells C 76)).alloc (by simp) (.cells (cs1 n (fun _ => 0)) 3))
  have hcc := Lib.hid (show ∀ g o, Ac = some ⟨g, o, none⟩ → g < G from fun g o e => by
    obtain ⟨g', o', e', hg', -⟩ := hca.out.2 0 _ (cat_at (by rw [hca.out.1]; omega))
    rw [e] at e'
    obtain rfl : g = g' := by injection e' with e'; injection e'
    rw [← HGE.out]; exact hg')
  go_enter Tryz.func74, Tryz.ntmps74
  go_upto_region 2 with fail
  obtain ⟨V, HV⟩ : ∃ q, Hid ((w.alloc (.cells C 76)).alloc (.cells (cs1 n (fun _ => 0)) 3) = q) := ⟨_, Lib.hid rfl⟩
  rw [HV.out] at HG0 HR0 HB0 ⊢
  try simp only [HGE.out]
  try simp only [HRE.out]
  clear HV
  refine wp_region_list ?_
  refine step_move _ rfl _ rfl _ rfl ?_
  simp only [Act.put, List.getElem_toArray, List.getElem_cons_succ, List.getElem_cons_zero, List.setIfInBounds_toArray, List.set_cons_zero, List.set_cons_succ]
  refine step_load _ rfl _ rfl G _ rfl HG0.out hcz ?_
  simp only [Act.put, List.getElem_toArray, List.getElem_cons_succ, List.getElem_cons_zero, List.setIfInBounds_toArray, List.set_cons_zero, List.set_cons_succ]
  go_wp2_with fail
  refine (placedLegs_any A n cap ts cl C _ hC hcl hg (Lib.hid (hts.out.step HB0.out))).mono ?_
  rintro e w2 ⟨vU, rfl, hOU, b2⟩
  obtain ⟨U, HU⟩ : ∃ q, Hid (plIds ts = q) := ⟨_, Lib.hid rfl⟩
  rw [HU.out] at hOU
  obtain ⟨nu, HNU⟩ : ∃ q, Hid (U.length = q) := ⟨_, Lib.hid rfl⟩
  rw [HNU.out] at hOU
  obtain ⟨AU, cU, rfl⟩ := row_slice hOU
  have hnu : nu ≤ 12 := by rw [← HNU.out, ← HU.out]; have := plIds_len' ts; rw [HL.out] at this; omega
  have HR1 := Lib.hid (HR0.out.below b2 HR0.out.lt)
  have HB1 := Lib.hid (HB0.out.trans (b2.mono HB0.out.size))
  have HUG := Lib.hid (show ∀ g o, AU = some ⟨g, o, none⟩ → ¬ g = R from fun g o e z => by
    have h1 : V.heap.size ≤ g := by
      rcases Nat.eq_zero_or_pos nu with y | y
      · rcases hOU.2 with ⟨z1, -⟩ | ⟨g1, c1, u1, z1, z2, -⟩
        · injection z1 with z1 _ _; rw [e] at z1; cases z1
        · injection z1 with z1 _ _; rw [e] at z1; injection z1 with z1; injection z1 with z1 _; omega
      · obtain ⟨g1, c1, z1, z2, -⟩ := hOU.form y
        injection z1 with z1 _ _; rw [e] at z1; injection z1 with z1; injection z1 with z1 _; omega
    have h2 := HR0.out.lt
    omega)
  have HUO := Lib.hid hOU
  clear hOU b2 HR0 HB0 HG0
  go_wp2_with fail
  go_loopw [22] (fun i wr => ∃ k : Nat, k ≤ nu ∧ i = .int .i64 (k : Nat) ∧ RwB wr R n (rsF ts ax cs den (U.take k)) ∧ IO wr wr.heap.size AU nu U ∧ Below w.heap.size w wr) (fun i _ => nu - (intOf i).toNat)
  case atStart => exact ⟨0, Nat.zero_le _, rfl, HR1.out.congr (fun j _ => rfl), IO.of_own HUO.out, HB1.out⟩
  case round =>
    obtain ⟨k, hk, rfl, hR, hS, hB⟩ := hrel
    have HRQ := Lib.hid hR
    have HSQ := Lib.hid hS
    have HBQ := Lib.hid hB
    clear hR hS hB HR1 HUO HB1
    have hk0 : (0 : Int) ≤ (k : Int) := by omega
    by_cases hlt : k < nu
    · have hki : (k : Int) < (nu : Int) := by omega
      have hkd : decide (k < nu) = true := by simpa using hlt
      obtain ⟨q, hq⟩ := at_lt HNU.out hlt
      have hqm := List.mem_of_getElem? hq
      obtain ⟨jq, rfl, ⟨fr, tt, tp, cm, sl⟩, hx, -⟩ := plIds_at (by rw [HU.out]; exact hqm)
      have hjn : jq < n := by have := lt_at hx; rw [HL.out] at this; exact this
      have hji : (jq : Int) < (n : Int) := by omega
      have hj0 : (0 : Int) ≤ (jq : Int) := by omega
      have HOX := Lib.hid (goodLg_at hg.out hx)
      obtain ⟨⟨f0, f7⟩, ⟨t0, t7⟩, hne, -⟩ := okLg_lim HOX.out
      simp only [] at f0 f7 t0 t7 hne
      obtain ⟨f, rfl⟩ : ∃ f : Nat, fr = f := ⟨fr.toNat, by omega⟩
      obtain ⟨t, rfl⟩ : ∃ t : Nat, tt = t := ⟨tt.toNat, by omega⟩
      have hfi : (f : Int) < 8 := by omega
      have hti : (t : Int) < 8 := by omega
      obtain ⟨mu, HMU⟩ : ∃ q, Hid (msA ⟨(f : Int), (t : Int), tp, cm, sl⟩ ax = q) := ⟨_, Lib.hid rfl⟩
      obtain ⟨cf, HCF⟩ : ∃ m, Hid (cat cs (f : Int) = m) := ⟨_, Lib.hid rfl⟩
      obtain ⟨ct, HCT⟩ : ∃ m, Hid (cat cs (t : Int) = m) := ⟨_, Lib.hid rfl⟩
      have HRV := Lib.hid (show rsV (lgAt ts (jq : Int)) ax cs den = mu * den - (ct - cf) by
        rw [lgAt_is hx]
        show msA ⟨(f : Int), (t : Int), tp, cm, sl⟩ ax * den - cat cs (t : Int) + cat cs (f : Int) = _
        rw [HMU.out, HCF.out, HCT.out]; omega)
      have bm := msA_bd HOX.out ax
      rw [HMU.out] at bm
      have bp := md_bd bm hd
      have bf := hcb.out.at_ (f : Int)
      have bt := hcb.out.at_ (t : Int)
      rw [HCF.out] at bf
      rw [HCT.out] at bt
      have x1 : IntKind.i64.wrap (mu * den) = mu * den := IntWalk.i64_in _ (by omega)
      have x2 : IntKind.i64.wrap (ct - cf) = ct - cf := IntWalk.i64_in _ (by omega)
      have x3 : IntKind.i64.wrap (mu * den - (ct - cf)) = mu * den - (ct - cf) := IntWalk.i64_in _ (by omega)
      have HTK := Lib.hid (take_snoc hq)
      obtain ⟨gU, oU, rfl, hgU, eU⟩ := HSQ.out.2 k _ hq
      have hUR2 := HUG.out gU oU rfl
      obtain ⟨gL, rfl, hgL, e0, e1, e2, e3, e4⟩ := (hts.out.below HBQ.out).2 jq _ hx
      simp only [] at e0 e1 e2 e3 e4
      clear hq hqm hx f0 f7 t0 t7 hne bm bp bf bt
      obtain ⟨W0, HW0⟩ : ∃ W, Hid (wr.alloc (.cells #[.int .i64 (f : Int), .int .i64 (t : Int), .int .i64 tp, .int .i64 cm, .int .i64 sl] 87) = W) := ⟨_, Lib.hid rfl⟩
      have HAL := Lib.hid ((Below.refl wr.heap.size wr).alloc (Nat.le_refl _) (.cells #[.int .i64 (f : Int), .int .i64 (t : Int), .int .i64 tp, .int .i64 cm, .int .i64 sl] 87))
      have HSW := Lib.hid (HSQ.out.step HAL.out)
      have HRW := Lib.hid (HRQ.out.below HAL.out HRQ.out.lt)
      have HBW := Lib.hid (HBQ.out.trans (HAL.out.mono HBQ.out.size))
      have HK1 := Lib.hid (Blk.new wr 87 #[.int .i64 (f : Int), .int .i64 (t : Int), .int .i64 tp, .int .i64 cm, .int .i64 sl])
      go_upto_region 6 with fail
      rw [HW0.out] at HSW HRW HBW HK1 ⊢
      obtain ⟨X, HXX⟩ : ∃ X, Hid (wr.heap.size = X) := ⟨_, Lib.hid rfl⟩
      rw [HXX.out] at HK1
      try simp only [HXX.out]
      have hXR : ¬ X = R := fun z => by have := HRQ.out.lt; rw [HXX.out] at this; omega
      clear HW0 HXX e0 e1 e2 e3 e4 eU hgL HAL HSQ HRQ HBQ
      have y0 := HK1.out.cell 0
      have y1 := HK1.out.cell 1
      have y2 := HK1.out.cell 2
      have y3 := HK1.out.cell 3
      have y4 := HK1.out.cell 4
      have lX := HK1.out.lt
      simp at y0 y1 y2 y3 y4
      obtain ⟨gc, oc, rfl, hgc, ef⟩ := (hca.out.below HBW.out).2 f _ (cat_at (by rw [hca.out.1]; omega))
      obtain ⟨g', o', eg, -, et⟩ := (hca.out.below HBW.out).2 t _ (cat_at (by rw [hca.out.1]; omega))
      obtain ⟨rfl, rfl⟩ : gc = g' ∧ oc = o' := by injection eg with eg; injection eg with e1 e2; exact ⟨e1, e2⟩
      rw [HCF.out] at ef
      rw [HCT.out] at et
      have hcR : ¬ gc = R := fun z => by have := hcc.out gc oc rfl; rw [← HRE.out] at z; omega
      have HTB := Lib.hid (show Below w.heap.size w W0.drew from HBW.out.drew)
      obtain ⟨B, HBB⟩ : ∃ B, Hid (W0.heap.size = B) := ⟨_, Lib.hid rfl⟩
      have hRB : R < B := by rw [← HBB.out]; exact HRW.out.lt
      rw [HBB.out] at lX
      have hgcB : gc < B := by rw [← HBB.out]; have := HBW.out.size; omega
      clear eg hgc
      refine wp_region_held_drew (S := (fun v => ∀ b o, b < B → b ≠ R → v.cell? ⟨b, o, none⟩ = W0.cell? ⟨b, o, none⟩)) (by kernel_rfl) ?_ (fun hHeld => ?_)
      · exact (fun b o _ _ => rfl)
      refine' wpAnyH_take (i := 0) (v := ?vr1_0) rfl (by kernel_rfl) (by kernel_rfl) (by kernel_rfl) (fun _ _ _ h => h) (Or.inl ⟨by rfl, ?hyr1_0⟩) (by assumption) ?restr1_0
      case hyr1_0 => (intro w hSw; (try dsimp only at hSw); go_simp; try (with_reducible rfl))
      simp only [Act.put, List.getElem_toArray, List.getElem_cons_succ, List.getElem_cons_zero, List.setIfInBounds_toArray, List.set_cons_zero, List.set_cons_succ]
      refine' wpAnyH_take (i := 1) (v := ?vr1_1) rfl (by kernel_rfl) (by kernel_rfl) (by kernel_rfl) (fun _ _ _ h => h) (Or.inl ⟨by rfl, ?hyr1_1⟩) (by assumption) ?restr1_1
      case hyr1_1 => (intro w hSw; (try dsimp only at hSw); go_simp; try (with_reducible rfl))
      simp only [Act.put, List.getElem_toArray, List.getElem_cons_succ, List.getElem_cons_zero, List.setIfInBounds_toArray, List.set_cons_zero, List.set_cons_succ]
      refine' wpAnyH_take (i := 2) (v := ?vr1_2) rfl (by kernel_rfl) (by kernel_rfl) (by kernel_rfl) (fun _ _ _ h => h) (Or.inl ⟨by rfl, ?hyr1_2⟩) (by assumption) ?restr1_2
      case hyr1_2 => (intro w hSw; (try dsimp only at hSw); go_simp; try (with_reducible rfl))
      simp only [Act.put, List.getElem_toArray, List.getElem_cons_succ, List.getElem_cons_zero, List.setIfInBounds_toArray, List.set_cons_zero, List.set_cons_succ]
      refine' wpAnyH_take (i := 3) (v := ?vr1_3) rfl (by kernel_rfl) (by kernel_rfl) (by kernel_rfl) (fun _ _ _ h => h) (Or.inl ⟨by rfl, ?hyr1_3⟩) (by assumption) ?restr1_3
      case hyr1_3 => (intro w hSw; (try dsimp only at hSw); go_simp; try (with_reducible rfl))
      simp only [Act.put, List.getElem_toArray, List.getElem_cons_succ, List.getElem_cons_zero, List.setIfInBounds_toArray, List.set_cons_zero, List.set_cons_succ]
      refine' wpAnyH_take (i := 5) (v := ?vr1_5) rfl (by kernel_rfl) (by kernel_rfl) (by kernel_rfl) (fun _ _ _ h => h) (Or.inl ⟨by rfl, ?hyr1_5⟩) (by assumption) ?restr1_5
      case hyr1_5 => (intro w hSw; (try dsimp only at hSw); go_simp; try (with_reducible rfl))
      simp only [Act.put, List.getElem_toArray, List.getElem_cons_succ, List.getElem_cons_zero, List.setIfInBounds_toArray, List.set_cons_zero, List.set_cons_succ]
      refine' wpAnyH_take (i := 7) (v := ?vr1_7) rfl (by kernel_rfl) (by kernel_rfl) (by kernel_rfl) (fun _ _ _ h => h) (Or.inl ⟨by rfl, ?hyr1_7⟩) (by assumption) ?restr1_7
      case hyr1_7 => (intro w hSw; (try dsimp only at hSw); go_simp; try (with_reducible rfl))
      simp only [Act.put, List.getElem_toArray, List.getElem_cons_succ, List.getElem_cons_zero, List.setIfInBounds_toArray, List.set_cons_zero, List.set_cons_succ]
      refine' wpAnyH_take (i := 8) (v := ?vr1_8) rfl (by kernel_rfl) (by kernel_rfl) (by kernel_rfl) (fun _ _ _ h => h) (Or.inl ⟨by rfl, ?hyr1_8⟩) (by assumption) ?restr1_8
      case hyr1_8 => (intro w hSw; (try dsimp only at hSw); go_simp; try (with_reducible rfl))
      simp only [Act.put, List.getElem_toArray, List.getElem_cons_succ, List.getElem_cons_zero, List.setIfInBounds_toArray, List.set_cons_zero, List.set_cons_succ]
      refine' wpAnyH_take (i := 9) (v := ?vr1_9) rfl (by kernel_rfl) (by kernel_rfl) (by kernel_rfl) (fun _ _ _ h => h) (Or.inl ⟨by rfl, ?hyr1_9⟩) (by assumption) ?restr1_9
      case hyr1_9 => (intro w hSw; (try dsimp only at hSw); go_simp; try (with_reducible rfl))
      simp only [Act.put, List.getElem_toArray, List.getElem_cons_succ, List.getElem_cons_zero, List.setIfInBounds_toArray, List.set_cons_zero, List.set_cons_succ]
      refine' wpAnyH_take (i := 10) (v := ?vr1_10) rfl (by kernel_rfl) (by kernel_rfl) (by kernel_rfl) (fun _ _ _ h => h) (Or.inl ⟨by rfl, ?hyr1_10⟩) (by assumption) ?restr1_10
      case hyr1_10 => (intro w hSw; (try dsimp only at hSw); go_simp; try (with_reducible rfl))
      simp only [Act.put, List.getElem_toArray, List.getElem_cons_succ, List.getElem_cons_zero, List.setIfInBounds_toArray, List.set_cons_zero, List.set_cons_succ]
      refine' wpAnyH_take (i := 11) (v := ?vr1_11) rfl (by kernel_rfl) (by kernel_rfl) (by kernel_rfl) (fun _ _ _ h => h) (Or.inl ⟨by rfl, ?hyr1_11⟩) (by assumption) ?restr1_11
      case hyr1_11 => (intro w hSw; (try dsimp only at hSw); go_simp; try (with_reducible rfl))
      simp only [Act.put, List.getElem_toArray, List.getElem_cons_succ, List.getElem_cons_zero, List.setIfInBounds_toArray, List.set_cons_zero, List.set_cons_succ]
      refine' wpAnyH_take (i := 12) (v := ?vr1_12) rfl (by kernel_rfl) (by kernel_rfl) (by kernel_rfl) (fun _ _ _ h => h) (Or.inl ⟨by rfl, ?hyr1_12⟩) (by assumption) ?restr1_12
      case hyr1_12 => (intro w hSw; (try dsimp only at hSw); go_simp; try (with_reducible rfl))
      simp only [Act.put, List.getElem_toArray, List.getElem_cons_succ, List.getElem_cons_zero, List.setIfInBounds_toArray, List.set_cons_zero, List.set_cons_succ]
      refine' wpAnyH_take (i := 13) (v := ?vr1_13) rfl (by kernel_rfl) (by kernel_rfl) (by kernel_rfl) (fun _ _ _ h => h) (Or.inl ⟨by rfl, ?hyr1_13⟩) (by assumption) ?restr1_13
      case hyr1_13 => (intro w hSw; (try dsimp only at hSw); go_simp; try (with_reducible rfl))
      simp only [Act.put, List.getElem_toArray, List.getElem_cons_succ, List.getElem_cons_zero, List.setIfInBounds_toArray, List.set_cons_zero, List.set_cons_succ]
      refine' wpAnyH_take (i := 14) (v := ?vr1_14) rfl (by kernel_rfl) (by kernel_rfl) (by kernel_rfl) (fun _ _ _ h => h) (Or.inl ⟨by rfl, ?hyr1_14⟩) (by assumption) ?restr1_14
      case hyr1_14 => (intro w hSw; (try dsimp only at hSw); go_simp; try (with_reducible rfl))
      simp only [Act.put, List.getElem_toArray, List.getElem_cons_succ, List.getElem_cons_zero, List.setIfInBounds_toArray, List.set_cons_zero, List.set_cons_succ]
      refine' wpAnyH_take (i := 15) (v := ?vr1_15) rfl (by kernel_rfl) (by kernel_rfl) (by kernel_rfl) (fun _ _ _ h => h) (Or.inl ⟨by rfl, ?hyr1_15⟩) (by assumption) ?restr1_15
      case hyr1_15 => (intro w hSw; (try dsimp only at hSw); go_simp; try (with_reducible rfl))
      simp only [Act.put, List.getElem_toArray, List.getElem_cons_succ, List.getElem_cons_zero, List.setIfInBounds_toArray, List.set_cons_zero, List.set_cons_succ]
      refine' wpAnyH_take (i := 16) (v := ?vr1_16) rfl (by kernel_rfl) (by kernel_rfl) (by kernel_rfl) (fun _ _ _ h => h) (Or.inl ⟨by rfl, ?hyr1_16⟩) (by assumption) ?restr1_16
      case hyr1_16 => (intro w hSw; (try dsimp only at hSw); go_simp; try (with_reducible rfl))
      simp only [Act.put, List.getElem_toArray, List.getElem_cons_succ, List.getElem_cons_zero, List.setIfInBounds_toArray, List.set_cons_zero, List.set_cons_succ]
      refine' wpAnyH_take (i := 17) (v := ?vr1_17) rfl (by kernel_rfl) (by kernel_rfl) (by kernel_rfl) (fun _ _ _ h => h) (Or.inl ⟨by rfl, ?hyr1_17⟩) (by assumption) ?restr1_17
      case hyr1_17 => (intro w hSw; (try dsimp only at hSw); go_simp; try (with_reducible rfl))
      simp only [Act.put, List.getElem_toArray, List.getElem_cons_succ, List.getElem_cons_zero, List.setIfInBounds_toArray, List.set_cons_zero, List.set_cons_succ]
      refine wpAnyH_ready (rs := [4]) (by kernel_rfl) (by simp) ?_
      refine AllReadyH.cons rfl (fun K hK => ?_) AllReadyH.nil
      go_simp
      refine (msOn_any ⟨(f : Int), (t : Int), tp, cm, sl⟩ ax mu _ HOX h0 h2 HMU (Lib.hid (hT.out.below HTB.out))).mono ?_
      rintro e w1 ⟨rfl, b1⟩
      have HB2 := Lib.hid b1
      clear b1
      refine hK.out _ _ (sr_step hHeld (HB2.out.mono (by rw [← HBB.out]; exact Nat.le_refl _))) (fun hHeld1 => ?_)
      clear hK K hHeld
      have hHeld := hHeld1
      clear hHeld1
      try simp only [Act.put, List.getElem_toArray, List.getElem_cons_succ, List.getElem_cons_zero, List.setIfInBounds_toArray, List.set_cons_zero, List.set_cons_succ]
      refine' wpAnyH_take (i := 6) (v := ?vr1_6) rfl (by kernel_rfl) (by kernel_rfl) (by kernel_rfl) (fun _ _ _ h => h) (Or.inl ⟨by rfl, ?hyr1_6⟩) (by assumption) ?restr1_6
      case hyr1_6 => (intro w hSw; (try dsimp only at hSw); go_simp; try (with_reducible rfl))
      simp only [Act.put, List.getElem_toArray, List.getElem_cons_succ, List.getElem_cons_zero, List.setIfInBounds_toArray, List.set_cons_zero, List.set_cons_succ]
      refine' wpAnyH_take (i := 18) (v := ?vr1_18) rfl (by kernel_rfl) (by kernel_rfl) (by kernel_rfl) (fun _ _ _ h => h) (Or.inl ⟨by rfl, ?hyr1_18⟩) (by assumption) ?restr1_18
      case hyr1_18 => (intro w hSw; (try dsimp only at hSw); go_simp; try (with_reducible rfl))
      simp only [Act.put, List.getElem_toArray, List.getElem_cons_succ, List.getElem_cons_zero, List.setIfInBounds_toArray, List.set_cons_zero, List.set_cons_succ]
      have HR3 := Lib.hid ((HRW.out.below (Below.refl _ _).drew HRW.out.lt).below HB2.out HRW.out.lt)
      have f3 := HR3.out.fro jq
      have l3 := HR3.out.lt
      have d3 := HR3.out.at_ hjn
      refine' wpAnyH_take (i := 19) (v := ?vr1_19) rfl (by kernel_rfl) (by kernel_rfl) (by kernel_rfl) (fun _ _ _ h => h) (Or.inl ⟨by rfl, ?hyr1_19⟩) (by assumption) ?restr1_19
      case hyr1_19 => (intro w hSw; (try dsimp only at hSw); go_simp; try (with_reducible rfl))
      simp only [Act.put, List.getElem_toArray, List.getElem_cons_succ, List.getElem_cons_zero, List.setIfInBounds_toArray, List.set_cons_zero, List.set_cons_succ]
      refine wpAnyH_ready (rs := [20]) (by kernel_rfl) (by simp) ?_
      refine AllReadyH.cons rfl (fun K hK => ?_) AllReadyH.nil
      go_simp
      refine hK.out _ _ (sr_set hHeld _ _) (fun hHeld1 => ?_)
      clear hK K hHeld hHeld1
      try simp only [Act.put, List.getElem_toArray, List.getElem_cons_succ, List.getElem_cons_zero, List.setIfInBounds_toArray, List.set_cons_zero, List.set_cons_succ]
      refine wpAnyH_done (by kernel_rfl) ?_ _
      have HRF := Lib.hid ((HR3.out.set hjn (mu * den - (ct - cf))).congr (g := rsF ts ax cs den (U.take (k + 1))) (fun j _ => by
        unfold upd rsF
        rw [HTK.out]
        by_cases z : j = jq
        · rw [if_pos z, z, if_pos (List.mem_append_right _ (List.mem_singleton.2 rfl)), HRV.out]
        · rw [if_neg z]
          by_cases z2 : (j : Int) ∈ U.take k
          · rw [if_pos z2, if_pos (List.mem_append_left _ z2)]
          · rw [if_neg z2, if_neg (fun y => by rcases List.mem_append.1 y with y | y; exact z2 y; exact z (by have := List.mem_singleton.1 y; omega))]))
      have hsW := HBW.out.size
      have HBF := Lib.hid (((HTB.out).trans (HB2.out.mono (by have := HTB.out.size; exact this))).setCell (p := ⟨R, jq, none⟩) (by show w.heap.size ≤ R; rw [HGE.out, ← HRE.out]; omega) (.int .i64 (mu * den - (ct - cf))))
      have HSF := Lib.hid (show IO (w1.setCell ⟨R, jq, none⟩ (.int .i64 (mu * den - (ct - cf)))) (w1.setCell ⟨R, jq, none⟩ (.int .i64 (mu * den - (ct - cf)))).heap.size (some ⟨gU, oU, none⟩) nu U from by
        have h9 := (HSW.out.below (Below.refl _ _).drew).below HB2.out
        refine ⟨h9.1, fun q x hx => ?_⟩
        obtain ⟨g, o, e, hg9, hc⟩ := h9.2 q x hx
        refine ⟨g, o, e, ?_, ?_⟩
        · have : (w1.setCell ⟨R, jq, none⟩ (.int .i64 (mu * den - (ct - cf)))).heap.size = w1.heap.size := by simp [World.setCell]
          rw [this]; have z2 := HB2.out.size; have z3 : W0.drew.heap.size = W0.heap.size := rfl; omega
        · refine (World.cell?_setCell_other w1 _ _ _ (fun z => ?_)).trans hc
          injection z with z1 _
          injection e with e; injection e with e1 _
          exact hUR2 (by rw [e1]; exact z1.symm))
      clear HB2 HR3
      go_wp2_with fail
      go_roundw
      case rel => exact ⟨k + 1, by omega, by go_num, HRF.out, HSF.out, HBF.out⟩
      case measure => simp [intOf]; omega
    · have hkd : decide (k < nu) = false := by simpa using hlt
      obtain rfl : k = nu := by omega
      have HTA := Lib.hid (show U.take k = U by rw [← HNU.out, List.take_length])
      rw [HTA.out] at HRQ
      have HFIN := Lib.hid (show wr.ownsRow w.heap.size 3 1 (.slice (some ⟨R, 0, none⟩) n n) (rsL ts ax cs den).length (ints.intsV (rsL ts ax cs den)) from by
        rw [rsL_len, HL.out]
        have := HRQ.out.own (base := w.heap.size) (by rw [HGE.out, ← HRE.out]; omega) (by unfold maxLen; omega)
        unfold rsL
        rw [HL.out, HU.out]; exact this)
      clear hlt
      go_wp2_with fail
      go_ret
      exact ⟨_, rfl, HFIN.out, HBQ.out⟩
end Go.Proofs.YtnpghhpcloljeabGreatDoor.pg

namespace Go.Proofs.YtnpghhpcloljeabGreatDoor.pg
open Go.RowKit
open reads base ty lg lgi win hs nt nq rowi sn mt ml dt
set_option linter.unusedVariables false
set_option linter.unusedSimpArgs false

/-- an adjustment that the call has made -/
def AJo (ts : List Lg) (ax : Int) (w : World) (e : Ending) (w' : World) : Prop :=
  ∃ (AU : Option Addr) (cU : Nat) (Ax : Option Addr) (cx : Nat) (Ar : Option Addr) (cr : Nat), e = .returned (.agg #[.slice AU (plIds ts).length cU, .int .i64 (TC ts), .slice Ax 8 cx, .slice Ar ts.length cr]) ∧
    w'.ownsRow w.heap.size 3 1 (.slice AU (plIds ts).length cU) (plIds ts).length (ints.intsV (plIds ts)) ∧
    w'.ownsRow w.heap.size 3 1 (.slice Ax 8 cx) 8 (ints.intsV (xcN ts ax)) ∧
    w'.ownsRow w.heap.size 3 1 (.slice Ar ts.length cr) ts.length (ints.intsV (rsL ts ax (xcN ts ax) (TC ts))) ∧ Below w.heap.size w w'
set_option maxHeartbeats 16000000 in
set_option maxRecDepth 100000 in
theorem adjOn_any (A : Option Addr) (n cap : Nat) (ts : List Lg) (cl : List Bool) (C : Array Value) (ax : Int) (w : World) (h0 : 0 ≤ ax) (h2 : ax ≤ 2) (hC : Hid (nv (net ts) cl = C)) (hcl : cl.length = 12) (hg : Hid (goodLg ts = true)) (hts : Hid (LgAt w w.heap.size A n ts)) (hT : Hid (Tab w)) :
    Calls Tryz.prog 92 #[.slice A n cap, .agg C, .int .i64 ax] w (AJo ts ax w) := by
  obtain ⟨i0, hi, hz0, hz1, hz2⟩ := info_parts infoI
  have HL := Lib.hid hts.out.1
  have hn12 := len12 HL.out hg.out
  have hcz : C.size = 56 := by rw [← hC.out]; exact nv_size ⟨(ok_net hg.out).1, hcl⟩
  obtain ⟨G, HGE⟩ : ∃ q, Hid (w.heap.size = q) := ⟨_, Lib.hid rfl⟩
  obtain ⟨RV, HRE⟩ : ∃ q, Hid (G + 1 = q) := ⟨_, Lib.hid rfl⟩
  have HG0 := Lib.hid (show Blk ((w.alloc (.cells C 76)).alloc (.cells #[.slice none 0 0, .int .i64 0, .slice none 0 0, .slice none 0 0] 64)) G 76 C by rw [← HGE.out]; exact (Blk.new _ _ _).alloc _)
  have HV0 := Lib.hid (show Blk ((w.alloc (.cells C 76)).alloc (.cells #[.slice none 0 0, .int .i64 0, .slice none 0 0, .slice none 0 0] 64)) RV 64 #[.slice none 0 0, .int .i64 0, .slice none 0 0, .slice none 0 0] by
    have h := Blk.new (w.alloc (.cells C 76)) 64 #[.slice none 0 0, .int .i64 0, .slice none 0 0, .slice none 0 0]
    rw [← HRE.out, ← HGE.out]; simpa using h)
  have HB0 := Lib.hid (((Below.refl w.heap.size w).alloc (Nat.le_refl _) (.cells C 76)).alloc (by simp) (.cells #[.slice none 0 0, .int .i64 0, .slice none 0 0, .slice none 0 0] 64))
  go_enter Tryz.func92, Tryz.ntmps92
  go_upto_region 1 with fail
  obtain ⟨V, HV⟩ : ∃ q, Hid ((w.alloc (.cells C 76)).alloc (.cells #[.slice none 0 0, .int .i64 0, .slice none 0 0, .slice none 0 0] 64) = q) := ⟨_, Lib.hid rfl⟩
  rw [HV.out] at HG0 HV0 HB0 ⊢
  try simp only [HGE.out]
  try simp only [HRE.out]
  clear HV
  refine wp_region_list ?_
  refine step_move _ rfl _ rfl _ rfl ?_
  simp only [Act.put, List.getElem_toArray, List.getElem_cons_succ, List.getElem_cons_zero, List.setIfInBounds_toArray, List.set_cons_zero, List.set_cons_succ]
  refine step_load _ rfl _ rfl G _ rfl HG0.out hcz ?_
  simp only [Act.put, List.getElem_toArray, List.getElem_cons_succ, List.getElem_cons_zero, List.setIfInBounds_toArray, List.set_cons_zero, List.set_cons_succ]
  go_wp2_with fail
  refine (balance_any A n cap ts cl C ax _ h0 h2 hC hcl hg (Lib.hid (hts.out.step HB0.out)) (Lib.hid (hT.out.below HB0.out))).mono ?_
  rintro e w1 ⟨AB, cB, PB', rfl, hMX, b1⟩
  have HMX := Lib.hid hMX
  have HB1 := Lib.hid (HB0.out.trans (b1.mono HB0.out.size))
  have HG1 := Lib.hid (HG0.out.below b1 HG0.out.lt)
  have HV1 := Lib.hid (HV0.out.below b1 HV0.out.lt)
  clear hMX b1 HG0 HV0 HB0
  go_wp2_with fail
  refine (minors_any _ AB cB PB' _ w1 (Lib.hid (fun i j => pr_bd (nw_net hg.out ax).hu (US_len hg.out ax) i j)) HMX).mono ?_
  rintro e w2 ⟨RM, rfl, hRM, hRMb, b2⟩
  have HRW := Lib.hid hRM
  have HBW := Lib.hid (HB1.out.trans (b2.mono HB1.out.size))
  have HGW := Lib.hid (HG1.out.below b2 HG1.out.lt)
  have HVW := Lib.hid (HV1.out.below b2 HV1.out.lt)
  clear hRM b2 hRMb HMX HB1 HG1 HV1
  obtain ⟨tr, HTR⟩ : ∃ q, Hid (TC ts = q) := ⟨_, Lib.hid rfl⟩
  have d255 := HRW.out.at_ (j := 255) (by omega)
  rw [ms_TC hg.out ax, HTR.out] at d255
  have lRM := HRW.out.lt
  obtain ⟨U, HU⟩ : ∃ q, Hid (plIds ts = q) := ⟨_, Lib.hid rfl⟩
  obtain ⟨nu, HNU⟩ : ∃ q, Hid (U.length = q) := ⟨_, Lib.hid rfl⟩
  have hnu : nu ≤ 12 := by rw [← HNU.out, ← HU.out]; have := plIds_len' ts; rw [HL.out] at this; omega
  go_upto_region 4 with fail
  obtain ⟨W0, HW0⟩ : ∃ W, Hid (w2 = W) := ⟨_, Lib.hid rfl⟩
  rw [HW0.out] at HRW HBW HGW HVW d255 lRM ⊢
  clear HW0
  have HBD := Lib.hid HBW.out.drew
  obtain ⟨B, HBB⟩ : ∃ B, Hid (W0.heap.size = B) := ⟨_, Lib.hid rfl⟩
  have hBB := HBB.out
  rw [hBB] at lRM
  go_cut [10] (fun v wx => ∃ (X cU : Nat) (AU : Option Addr), v = .pointer (some ⟨X, 0, none⟩) ∧ RV < X ∧ Blk wx X 64 #[.slice AU nu cU, .int .i64 tr, .slice none 0 0, .slice none 0 0] ∧ wx.ownsRow w.heap.size 3 1 (.slice AU nu cU) nu (ints.intsV U) ∧ RwB wx RM 512 (ms (prF (US ts ax) (stN ts)) 512) ∧ Blk wx RV 64 #[.slice none 0 0, .int .i64 0, .slice none 0 0, .slice none 0 0] ∧ Blk wx G 76 C ∧ Below w.heap.size w wx)
  case first =>
    rename_i J0 K0 hJ0 hK0
    refine wp_region_held_drew (S := (fun v => (∀ b o, b < B → v.cell? ⟨b, o, none⟩ = W0.cell? ⟨b, o, none⟩) ∧ Blk v G 76 C)) (by kernel_rfl) ?_ (fun hHeld => ?_)
    · exact ⟨fun b o _ => rfl, HGW.out.drew⟩
    refine' wpAnyH_take (i := 0) (v := ?v300) rfl (by kernel_rfl) (by kernel_rfl) (by kernel_rfl) (fun _ _ _ h => h) (Or.inl ⟨by rfl, ?hy300⟩) (by assumption) ?rest300
    case hy300 => (intro w hSw; (try dsimp only at hSw); go_simp; try (with_reducible rfl))
    simp only [Act.put, List.getElem_toArray, List.getElem_cons_succ, List.getElem_cons_zero, List.setIfInBounds_toArray, List.set_cons_zero, List.set_cons_succ]
    refine' wpAnyH_take (i := 1) (v := .agg C) rfl (by kernel_rfl) (by kernel_rfl) (by kernel_rfl) (fun _ _ _ h => h) (Or.inl ⟨by rfl, fun v hSv => exec_load rfl rfl hSv.2 hcz⟩) (by assumption) ?_
    simp only [Act.put, List.getElem_toArray, List.getElem_cons_succ, List.getElem_cons_zero, List.setIfInBounds_toArray, List.set_cons_zero, List.set_cons_succ]
    refine' wpAnyH_take (i := 3) (v := ?v303) rfl (by kernel_rfl) (by kernel_rfl) (by kernel_rfl) (fun _ _ _ h => h) (Or.inl ⟨by rfl, ?hy303⟩) (by assumption) ?rest303
    case hy303 => (intro w hSw; (try dsimp only at hSw); go_simp; try (with_reducible rfl))
    simp only [Act.put, List.getElem_toArray, List.getElem_cons_succ, List.getElem_cons_zero, List.setIfInBounds_toArray, List.set_cons_zero, List.set_cons_succ]
    refine' wpAnyH_take (i := 4) (v := ?v304) rfl (by kernel_rfl) (by kernel_rfl) (by kernel_rfl) (fun _ _ _ h => h) (Or.inl ⟨by rfl, ?hy304⟩) (by assumption) ?rest304
    case hy304 => (intro w hSw; (try dsimp only at hSw); go_simp; try (with_reducible rfl))
    simp only [Act.put, List.getElem_toArray, List.getElem_cons_succ, List.getElem_cons_zero, List.setIfInBounds_toArray, List.set_cons_zero, List.set_cons_succ]
    refine' wpAnyH_take (i := 5) (v := ?v305) rfl (by kernel_rfl) (by kernel_rfl) (by kernel_rfl) (fun _ _ _ h => h) (Or.inl ⟨by rfl, ?hy305⟩) (by assumption) ?rest305
    case hy305 => (intro w hSw; (try dsimp only at hSw); go_simp; try (with_reducible rfl))
    simp only [Act.put, List.getElem_toArray, List.getElem_cons_succ, List.getElem_cons_zero, List.setIfInBounds_toArray, List.set_cons_zero, List.set_cons_succ]
    refine' wpAnyH_take (i := 6) (v := ?v306) rfl (by kernel_rfl) (by kernel_rfl) (by kernel_rfl) (fun _ _ _ h => h) (Or.inl ⟨by rfl, ?hy306⟩) (by assumption) ?rest306
    case hy306 => (intro w hSw; (try dsimp only at hSw); go_simp; try (with_reducible rfl))
    simp only [Act.put, List.getElem_toArray, List.getElem_cons_succ, List.getElem_cons_zero, List.setIfInBounds_toArray, List.set_cons_zero, List.set_cons_succ]
    refine wpAnyH_ready (rs := [2, 8]) (by kernel_rfl) (by simp) ?_
    refine AllReadyH.cons rfl (fun K hK => ?_) (AllReadyH.cons rfl (fun K hK => ?_) AllReadyH.nil)
    · go_simp
      refine (placedLegs_any A n cap ts cl C _ hC hcl hg (Lib.hid (hts.out.step HBD.out))).mono ?_
      rintro e w5 ⟨vU, rfl, hOU, b5⟩
      rw [HU.out, HNU.out] at hOU
      obtain ⟨AU, cU, rfl⟩ := row_slice hOU
      have HO5 := Lib.hid hOU
      have HB5 := Lib.hid b5
      clear hOU b5
      refine hK.out _ _ ⟨fun b o hb => (HB5.out.cell (p := ⟨b, o, none⟩) (by show b < W0.heap.size; omega)).trans (hHeld.1 b o hb), hHeld.2.below HB5.out hHeld.2.lt⟩ (fun hHeld1 => ?_)
      clear hK K hHeld
      have hHeld := hHeld1
      clear hHeld1
      try simp only [Act.put, List.getElem_toArray, List.getElem_cons_succ, List.getElem_cons_zero, List.setIfInBounds_toArray, List.set_cons_zero, List.set_cons_succ]
      have HC5 := Lib.hid hHeld.1
      have HG5 := Lib.hid hHeld.2
      refine' wpAnyH_take (i := 7) (v := ?v207) rfl (by kernel_rfl) (by kernel_rfl) (by kernel_rfl) (fun _ _ _ h => h) (Or.inl ⟨by rfl, ?hy207⟩) (by assumption) ?rest207
      case hy207 => (intro w hSw; (try dsimp only at hSw); go_simp; try (with_reducible rfl))
      simp only [Act.put, List.getElem_toArray, List.getElem_cons_succ, List.getElem_cons_zero, List.setIfInBounds_toArray, List.set_cons_zero, List.set_cons_succ]
      refine wpAnyH_ready (rs := [8]) (by kernel_rfl) (by simp) ?_
      refine AllReadyH.cons rfl (fun K hK => ?_) AllReadyH.nil
      go_simp
      refine hK.out _ _ ⟨fun b o hb => (World.cell?_alloc_lt _ _ ⟨b, o, none⟩ (by show b < w5.heap.size; have h9 := HB5.out.size; have h8 : W0.drew.heap.size = W0.heap.size := rfl; omega)).trans (hHeld.1 b o hb), hHeld.2.alloc _⟩ (fun hHeld1 => ?_)
      clear hK K hHeld
      have hHeld := hHeld1
      clear hHeld1
      try simp only [Act.put, List.getElem_toArray, List.getElem_cons_succ, List.getElem_cons_zero, List.setIfInBounds_toArray, List.set_cons_zero, List.set_cons_succ]
      refine wpAnyH_ready (rs := [9]) (by kernel_rfl) (by simp) ?_
      refine AllReadyH.cons rfl (fun K hK => ?_) AllReadyH.nil
      go_simp
      have hs5 : W0.drew.heap.size ≤ w5.heap.size := HB5.out.size
      have hsd : W0.drew.heap.size = W0.heap.size := rfl
      refine hK.out _ _ ⟨fun b o hb => (World.cell?_alloc_lt w5 _ ⟨b, o, none⟩ (by show b < w5.heap.size; omega)).trans (HC5.out b o hb), HG5.out.alloc _⟩ (fun hHeld1 => ?_)
      clear hK K hHeld hHeld1
      try simp only [Act.put, List.getElem_toArray, List.getElem_cons_succ, List.getElem_cons_zero, List.setIfInBounds_toArray, List.set_cons_zero, List.set_cons_succ]
      refine wpAnyH_done (by kernel_rfl) ?_ _
      refine hK0 _ _ (Met.intro (hJ0 _ _ ?_))
      (repeat apply Exists.intro)
      exact ⟨⟨w5.heap.size, cU, AU, rfl, (by have h7 := HVW.out.lt; omega), Blk.new _ _ _, own_mono (HO5.out.alloc _) HBD.out.size, Blk.alloc (Blk.below (Blk.drew HRW.out) HB5.out HRW.out.lt) _, ((HVW.out.drew).below HB5.out HVW.out.lt).alloc _, HG5.out.alloc _, (HBD.out.trans (HB5.out.mono HBD.out.size)).alloc (by have h8 := HBD.out.size; omega) _⟩, rfl⟩
    · go_simp
      refine hK.out _ _ ⟨fun b o hb => (World.cell?_alloc_lt _ _ ⟨b, o, none⟩ (by show b < W0.heap.size; omega)).trans (hHeld.1 b o hb), hHeld.2.alloc _⟩ (fun hHeld1 => ?_)
      clear hK K hHeld
      have hHeld := hHeld1
      clear hHeld1
      try simp only [Act.put, List.getElem_toArray, List.getElem_cons_succ, List.getElem_cons_zero, List.setIfInBounds_toArray, List.set_cons_zero, List.set_cons_succ]
      have HBE := Lib.hid (HBD.out.alloc HBD.out.size (.cells #[.slice none 0 0, .int .i64 0, .slice none 0 0, .slice none 0 0] 64))
      refine wpAnyH_ready (rs := [2]) (by kernel_rfl) (by simp) ?_
      refine AllReadyH.cons rfl (fun K hK => ?_) AllReadyH.nil
      go_simp
      refine (placedLegs_any A n cap ts cl C _ hC hcl hg (Lib.hid (hts.out.step HBE.out))).mono ?_
      rintro e w5 ⟨vU, rfl, hOU, b5⟩
      rw [HU.out, HNU.out] at hOU
      obtain ⟨AU, cU, rfl⟩ := row_slice hOU
      have HO5 := Lib.hid hOU
      have HB5 := Lib.hid b5
      clear hOU b5
      refine hK.out _ _ ⟨fun b o hb => (HB5.out.cell (p := ⟨b, o, none⟩) (by show b < (W0.drew.alloc _).heap.size; have h8 : W0.drew.heap.size = W0.heap.size := rfl; simp; omega)).trans (hHeld.1 b o hb), hHeld.2.below HB5.out hHeld.2.lt⟩ (fun hHeld1 => ?_)
      clear hK K hHeld
      have hHeld := hHeld1
      clear hHeld1
      try simp only [Act.put, List.getElem_toArray, List.getElem_cons_succ, List.getElem_cons_zero, List.setIfInBounds_toArray, List.set_cons_zero, List.set_cons_succ]
      refine' wpAnyH_take (i := 7) (v := ?v307) rfl (by kernel_rfl) (by kernel_rfl) (by kernel_rfl) (fun _ _ _ h => h) (Or.inl ⟨by rfl, ?hy307⟩) (by assumption) ?rest307
      case hy307 => (intro w hSw; (try dsimp only at hSw); go_simp; try (with_reducible rfl))
      simp only [Act.put, List.getElem_toArray, List.getElem_cons_succ, List.getElem_cons_zero, List.setIfInBounds_toArray, List.set_cons_zero, List.set_cons_succ]
      have HC5 := Lib.hid hHeld.1
      have HG5 := Lib.hid hHeld.2
      have HX9 := Lib.hid (show Blk w5 B 64 #[.slice none 0 0, .int .i64 0, .slice none 0 0, .slice none 0 0] from by have h9 := (Blk.new W0.drew 64 #[.slice none 0 0, .int .i64 0, .slice none 0 0, .slice none 0 0]).below HB5.out (by simp); rw [← hBB]; exact h9)
      have l9 := HX9.out.lt
      have z0 := HX9.out.cell 0
      have z1 := HX9.out.cell 1
      have z2 := HX9.out.cell 2
      have z3 := HX9.out.cell 3
      have f0 := HX9.out.frozen 0
      have f1 := HX9.out.frozen 1
      have f2 := HX9.out.frozen 2
      have f3 := HX9.out.frozen 3
      simp at z0 z1 z2 z3
      refine wpAnyH_ready (rs := [9]) (by kernel_rfl) (by simp) ?_
      refine AllReadyH.cons rfl (fun K hK => ?_) AllReadyH.nil
      go_simp
      have hGB := Lib.hid (grown_set (grown_set (grown_set (grown_set (g := B) (show w5.grownBy w5 (some B) from ⟨rfl, rfl, rfl, Nat.le_refl _, fun _ _ _ => rfl⟩) 0 (.slice AU nu cU)) 1 (.int .i64 tr)) 2 (.slice none 0 0)) 3 (.slice none 0 0))
      have HXF := Lib.hid ((((HX9.out.set_ 0 (.slice AU nu cU)).set_ 1 (.int .i64 tr)).set_ 2 (.slice none 0 0)).set_ 3 (.slice none 0 0))
      have hs5 : (W0.drew.alloc (.cells #[.slice none 0 0, .int .i64 0, .slice none 0 0, .slice none 0 0] 64)).heap.size ≤ w5.heap.size := HB5.out.size
      have hsd : (W0.drew.alloc (.cells #[.slice none 0 0, .int .i64 0, .slice none 0 0, .slice none 0 0] 64)).heap.size = W0.heap.size + 1 := by simp
      refine hK.out _ _ ⟨fun b o hb => (World.cell?_of_block (hGB.out.block b (by omega) (fun e => by injection e with e; omega))).trans (HC5.out b o hb), HG5.out.grown hGB.out (fun e => Blk.ne_ HG5.out HX9.out (by decide) (by injection e))⟩ (fun hHeld1 => ?_)
      clear hK K hHeld hHeld1
      try simp only [Act.put, List.getElem_toArray, List.getElem_cons_succ, List.getElem_cons_zero, List.setIfInBounds_toArray, List.set_cons_zero, List.set_cons_succ]
      refine wpAnyH_done (by kernel_rfl) ?_ _
      refine hK0 _ _ (Met.intro (hJ0 _ _ ?_))
      (repeat apply Exists.intro)
      exact ⟨⟨B, cU, AU, rfl, (by have h7 := HVW.out.lt; omega), HXF.out, (own_mono HO5.out (by have h8 := HBD.out.size; have h9 : W0.drew.heap.size = W0.heap.size := rfl; omega)).kept hGB.out (.inr (own_blk_ne HO5.out HX9.out (by decide))), Blk.grown (Blk.below (Blk.alloc (Blk.drew HRW.out) _) HB5.out (Blk.alloc (Blk.drew HRW.out) _).lt) hGB.out (fun e => by injection e with e; have h7 := HRW.out.lt; omega), ((HVW.out.drew.alloc _).below HB5.out (HVW.out.drew.alloc _).lt).grown hGB.out (fun e => by injection e with e; have h7 := HVW.out.lt; omega), HG5.out.grown hGB.out (fun e => Blk.ne_ HG5.out HX9.out (by decide) (by injection e)), (HBE.out.trans (HB5.out.mono HBE.out.size)).grown hGB.out (by have h8 := HBE.out.size; omega) (fun k e => by injection e with e; have h8 := HBD.out.size; have h9 : W0.drew.heap.size = W0.heap.size := rfl; omega)⟩, rfl⟩
  case rest =>
    obtain ⟨X, cU, AU, rfl, hRX, hX, hO, hRm, hV, hG, hB⟩ := hcut
    have HX := Lib.hid hX
    have HO := Lib.hid hO
    have HRM := Lib.hid hRm
    have HV := Lib.hid hV
    have HG := Lib.hid hG
    have HB := Lib.hid hB
    have HNR := Lib.hid (show RM < B ∧ B ≤ W0.heap.size from ⟨lRM, by rw [hBB]; exact Nat.le_refl _⟩)
    clear hX hO hRm hV hG hB HRW HGW HVW HBW HBD hBB HBB d255
    obtain ⟨g0, HG00⟩ : ∃ q, Hid (w.heap.size = q) := ⟨_, Lib.hid rfl⟩
    have HO0 := Lib.hid (show ∀ v : World, v.ownsRow w.heap.size 3 1 (.slice none 0 0) 0 (ints.intsV ((List.range 0).map (XC ts ax))) from fun v => World.ownsRow_nil v _ _ _)
    go_wp2_with fail
    go_loopw [28] (fun i wr => ∃ (k cx : Nat) (Ax : Option Addr), k ≤ 8 ∧ i = .int .i64 (k : Nat) ∧ Blk wr X 64 #[.slice AU nu cU, .int .i64 tr, .slice Ax k cx, .slice none 0 0] ∧ wr.ownsRow w.heap.size 3 1 (.slice AU nu cU) nu (ints.intsV U) ∧ wr.ownsRow w.heap.size 3 1 (.slice Ax k cx) k (ints.intsV ((List.range k).map (XC ts ax))) ∧ RwB wr RM 512 (ms (prF (US ts ax) (stN ts)) 512) ∧ Blk wr RV 64 #[.slice none 0 0, .int .i64 0, .slice none 0 0, .slice none 0 0] ∧ Blk wr G 76 C ∧ (∀ g, (Value.slice Ax k cx).ownBlock = some g → g ≠ RM ∧ (Value.slice AU nu cU).ownBlock ≠ some g) ∧ Below w.heap.size w wr) (fun i _ => 8 - (intOf i).toNat)
    case atStart => exact ⟨0, 0, none, by omega, rfl, HX.out, HO.out, HO0.out _, HRM.out, HV.out, HG.out, fun g e => by simp [Value.ownBlock] at e, HB.out⟩
    case round =>
      obtain ⟨k, cx, Ax, hk, rfl, hX, hO, hP, hRm, hV, hG, hN, hB⟩ := hrel
      have HXQ := Lib.hid hX
      have HOQ := Lib.hid hO
      have HPQ := Lib.hid hP
      have HRQ := Lib.hid hRm
      have HVQ := Lib.hid hV
      have HGQ := Lib.hid hG
      have HNQ := Lib.hid hN
      have HBQ := Lib.hid hB
      have hBs := hB.size
      clear hX hO hP hRm hV hG hN hB HX HO HRM HV HG HB
      have hk0 : (0 : Int) ≤ (k : Int) := by omega
      by_cases hlt : k < 8
      · have hki : (k : Int) < 8 := by omega
        have o1 := ix_is k hlt
        obtain ⟨J, HJ⟩ : ∃ q, Hid (511 - 2 ^ k = q) := ⟨_, Lib.hid rfl⟩
        rw [HJ.out] at o1
        have hJ : J < 512 := by rw [← HJ.out]; exact ix_lt k hlt
        have hJi : (J : Int) < 512 := by omega
        have hJ0 : (0 : Int) ≤ (J : Int) := by omega
        obtain ⟨x, HXV⟩ : ∃ q, Hid (XC ts ax k = q) := ⟨_, Lib.hid rfl⟩
        have bx := XC_le hg.out ax k
        rw [HXV.out] at bx
        have d1 := HRQ.out.at_ hJ
        have HDV := Lib.hid (ms_XC hg.out ax hlt)
        rw [HJ.out, HXV.out] at HDV
        rw [HDV.out] at d1
        have k7 : (7 : Int) - (k : Int) = ((7 - k : Nat) : Int) := by omega
        have k1 : ((7 - k : Nat) : Int).tmod 2 = (((7 - k) % 2 : Nat) : Int) := rfl
        have k2 : ((7 : Int) - (k : Int)).tmod 2 = (((7 - k) % 2 : Nat) : Int) := by rw [k7, k1]
        have k3 : IntKind.i64.wrap (((7 - k) % 2 : Nat) : Int) = (((7 - k) % 2 : Nat) : Int) := IntWalk.i64_in _ (by omega)
        have k4 : IntKind.i64.wrap (7 - (k : Int)) = 7 - (k : Int) := IntWalk.i64_in _ (by omega)
        have xw : IntKind.i64.wrap x = x := IntWalk.i64_in _ (by omega)
        have HS1 := Lib.hid (show (List.range (k + 1)).map (XC ts ax) = (List.range k).map (XC ts ax) ++ [x] by rw [List.range_succ, List.map_append, ← HXV.out]; rfl)
        clear k7 k1 HDV HJ HXV
        by_cases hp : (7 - k) % 2 = 1
        · rw [if_pos hp] at d1
          rw [hp] at k2 k3
          clear hp
          go_upto_region 11 with fail
          obtain ⟨W1, HW1⟩ : ∃ W, Hid (wr = W) := ⟨_, Lib.hid rfl⟩
          rw [HW1.out] at HXQ HOQ HPQ HRQ HVQ HGQ HBQ hBs d1 ⊢
          clear HW1 d1
          have q2 := HXQ.out.cell 2
          have q2f := HXQ.out.frozen 2
          have ql := HXQ.out.lt
          simp at q2
          have HAL := Lib.hid ((Below.refl W1.heap.size W1).alloc (Nat.le_refl _) (.cells #[.int .i64 x] 3))
          have q2a : (W1.alloc (.cells #[.int .i64 x] 3)).cell? ⟨X, 2, none⟩ = some (.slice Ax k cx) := (HXQ.out.alloc _).cell 2
          go_wp2_with (at_builtin; refine wpList_append_lies _ rfl _ _ 27 rfl w.heap.size 3 i0 (.int .i64 0) 1 8 Tryz.underlying27 hi hz0 hz1 hz2 rfl (by decide) _ _ _ rfl (HPQ.out.alloc _) ⟨W1.heap.size, 0, none⟩ 1 1 [.int .i64 x] rfl rfl (cell_one_new _ _ _) (by simp [Value.oneCell']) (by decide) (by unfold maxLen; omega) (by omega) (by simp; omega) _ rfl ?_; intro g9 c9 w3 hown' hgrow hat hlt9; have HX3 := Lib.hid ((HXQ.out.alloc (.cells #[.int .i64 x] 3)).grown hgrow (fun e => own_blk_ne HPQ.out HXQ.out (by decide) e.symm)); have HO3 := Lib.hid ((HOQ.out.alloc (.cells #[.int .i64 x] 3)).kept hgrow (by cases hz : (Value.slice AU nu cU).ownBlock with | none => exact .inl rfl | some y => exact .inr (fun e => (HNQ.out y e.symm).2 hz))); have HR3 := Lib.hid (Blk.grown (Blk.alloc HRQ.out (.cells #[.int .i64 x] 3)) hgrow (fun e => (HNQ.out RM e.symm).1 rfl)); have HV3 := Lib.hid ((HVQ.out.alloc (.cells #[.int .i64 x] 3)).grown hgrow (fun e => own_blk_ne HPQ.out HVQ.out (by decide) e.symm)); have HG3 := Lib.hid ((HGQ.out.alloc (.cells #[.int .i64 x] 3)).grown hgrow (fun e => own_blk_ne HPQ.out HGQ.out (by decide) e.symm)); have HB3 := Lib.hid ((HBQ.out.trans (HAL.out.mono hBs)).grown hgrow (by simp; omega) (fun g e => (HPQ.out.lt g e).1)); clear q2 q2f ql q2a; have q3 := HX3.out.cell 2; have q3f := HX3.out.frozen 2; have q3l := HX3.out.lt; simp at q3)
          have HP3 := Lib.hid (show w3.ownsRow w.heap.size 3 1 (.slice (some ⟨g9, 0, none⟩) (k + 1) c9) (k + 1) (ints.intsV ((List.range (k + 1)).map (XC ts ax))) by rw [HS1.out, intsV_app]; exact hown')
          have HN3 := Lib.hid (show ∀ g, (Value.slice (some ⟨g9, 0, none⟩) (k + 1) c9).ownBlock = some g → g ≠ RM ∧ (Value.slice AU nu cU).ownBlock ≠ some g from fun g e => by
            have e1 : g9 = g := by simpa [Value.ownBlock] using e
            rcases hat with z | z
            · exact HNQ.out g (by rw [← e1]; exact z)
            · have z2 : g9 = W1.heap.size + 1 := by simpa using z
              have hr := HRQ.out.lt
              exact ⟨by omega, fun y => by have := (HOQ.out.lt g y).2; omega⟩)
          clear hown' hgrow hat HAL
          have HX4 := Lib.hid (HX3.out.set_ 2 (.slice (some ⟨g9, 0, none⟩) (k + 1) c9))
          have HO4 := Lib.hid (own_far' X HO3.out (own_blk_ne HO3.out HX3.out (by decide)) 2 (.slice (some ⟨g9, 0, none⟩) (k + 1) c9))
          have HP4 := Lib.hid (own_far' X HP3.out (own_blk_ne HP3.out HX3.out (by decide)) 2 (.slice (some ⟨g9, 0, none⟩) (k + 1) c9))
          have HR4 := Lib.hid (Blk.far HR3.out (p := ⟨X, 2, none⟩) (by show RM ≠ X; exact Blk.ne_ HR3.out HX3.out (by decide)) (.slice (some ⟨g9, 0, none⟩) (k + 1) c9))
          have HV4 := Lib.hid (HV3.out.far (p := ⟨X, 2, none⟩) (by show RV ≠ X; omega) (.slice (some ⟨g9, 0, none⟩) (k + 1) c9))
          have HG4 := Lib.hid (HG3.out.far (p := ⟨X, 2, none⟩) (by show G ≠ X; exact Blk.ne_ HG3.out HX3.out (by decide)) (.slice (some ⟨g9, 0, none⟩) (k + 1) c9))
          have HB4 := Lib.hid (HB3.out.setCell (p := ⟨X, 2, none⟩) (by show w.heap.size ≤ X; rw [HGE.out]; have := HRE.out; omega) (.slice (some ⟨g9, 0, none⟩) (k + 1) c9))
          clear HX3 HO3 HP3 HR3 HV3 HG3 HB3 HXQ HOQ HPQ HRQ HVQ HGQ HBQ HNQ
          go_wp2_with fail
          go_roundw
          case rel => exact ⟨k + 1, c9, some ⟨g9, 0, none⟩, by omega, by go_num, HX4.out, HO4.out, HP4.out, HR4.out, HV4.out, HG4.out, HN3.out, HB4.out⟩
          case measure => simp [intOf]; omega
        · rw [if_neg hp] at d1
          have hp0 : (7 - k) % 2 = 0 := by omega
          rw [hp0] at k2 k3
          clear hp hp0
          go_upto_region 11 with fail
          obtain ⟨W1, HW1⟩ : ∃ W, Hid (wr = W) := ⟨_, Lib.hid rfl⟩
          rw [HW1.out] at HXQ HOQ HPQ HRQ HVQ HGQ HBQ hBs d1 ⊢
          clear HW1 d1
          have q2 := HXQ.out.cell 2
          have q2f := HXQ.out.frozen 2
          have ql := HXQ.out.lt
          simp at q2
          have HAL := Lib.hid ((Below.refl W1.heap.size W1).alloc (Nat.le_refl _) (.cells #[.int .i64 x] 3))
          have q2a : (W1.alloc (.cells #[.int .i64 x] 3)).cell? ⟨X, 2, none⟩ = some (.slice Ax k cx) := (HXQ.out.alloc _).cell 2
          go_wp2_with (at_builtin; refine wpList_append_lies _ rfl _ _ 27 rfl w.heap.size 3 i0 (.int .i64 0) 1 8 Tryz.underlying27 hi hz0 hz1 hz2 rfl (by decide) _ _ _ rfl (HPQ.out.alloc _) ⟨W1.heap.size, 0, none⟩ 1 1 [.int .i64 x] rfl rfl (cell_one_new _ _ _) (by simp [Value.oneCell']) (by decide) (by unfold maxLen; omega) (by omega) (by simp; omega) _ rfl ?_; intro g9 c9 w3 hown' hgrow hat hlt9; have HX3 := Lib.hid ((HXQ.out.alloc (.cells #[.int .i64 x] 3)).grown hgrow (fun e => own_blk_ne HPQ.out HXQ.out (by decide) e.symm)); have HO3 := Lib.hid ((HOQ.out.alloc (.cells #[.int .i64 x] 3)).kept hgrow (by cases hz : (Value.slice AU nu cU).ownBlock with | none => exact .inl rfl | some y => exact .inr (fun e => (HNQ.out y e.symm).2 hz))); have HR3 := Lib.hid (Blk.grown (Blk.alloc HRQ.out (.cells #[.int .i64 x] 3)) hgrow (fun e => (HNQ.out RM e.symm).1 rfl)); have HV3 := Lib.hid ((HVQ.out.alloc (.cells #[.int .i64 x] 3)).grown hgrow (fun e => own_blk_ne HPQ.out HVQ.out (by decide) e.symm)); have HG3 := Lib.hid ((HGQ.out.alloc (.cells #[.int .i64 x] 3)).grown hgrow (fun e => own_blk_ne HPQ.out HGQ.out (by decide) e.symm)); have HB3 := Lib.hid ((HBQ.out.trans (HAL.out.mono hBs)).grown hgrow (by simp; omega) (fun g e => (HPQ.out.lt g e).1)); clear q2 q2f ql q2a; have q3 := HX3.out.cell 2; have q3f := HX3.out.frozen 2; have q3l := HX3.out.lt; simp at q3)
          have HP3 := Lib.hid (show w3.ownsRow w.heap.size 3 1 (.slice (some ⟨g9, 0, none⟩) (k + 1) c9) (k + 1) (ints.intsV ((List.range (k + 1)).map (XC ts ax))) by rw [HS1.out, intsV_app]; exact hown')
          have HN3 := Lib.hid (show ∀ g, (Value.slice (some ⟨g9, 0, none⟩) (k + 1) c9).ownBlock = some g → g ≠ RM ∧ (Value.slice AU nu cU).ownBlock ≠ some g from fun g e => by
            have e1 : g9 = g := by simpa [Value.ownBlock] using e
            rcases hat with z | z
            · exact HNQ.out g (by rw [← e1]; exact z)
            · have z2 : g9 = W1.heap.size + 1 := by simpa using z
              have hr := HRQ.out.lt
              exact ⟨by omega, fun y => by have := (HOQ.out.lt g y).2; omega⟩)
          clear hown' hgrow hat HAL
          have HX4 := Lib.hid (HX3.out.set_ 2 (.slice (some ⟨g9, 0, none⟩) (k + 1) c9))
          have HO4 := Lib.hid (own_far' X HO3.out (own_blk_ne HO3.out HX3.out (by decide)) 2 (.slice (some ⟨g9, 0, none⟩) (k + 1) c9))
          have HP4 := Lib.hid (own_far' X HP3.out (own_blk_ne HP3.out HX3.out (by decide)) 2 (.slice (some ⟨g9, 0, none⟩) (k + 1) c9))
          have HR4 := Lib.hid (Blk.far HR3.out (p := ⟨X, 2, none⟩) (by show RM ≠ X; exact Blk.ne_ HR3.out HX3.out (by decide)) (.slice (some ⟨g9, 0, none⟩) (k + 1) c9))
          have HV4 := Lib.hid (HV3.out.far (p := ⟨X, 2, none⟩) (by show RV ≠ X; omega) (.slice (some ⟨g9, 0, none⟩) (k + 1) c9))
          have HG4 := Lib.hid (HG3.out.far (p := ⟨X, 2, none⟩) (by show G ≠ X; exact Blk.ne_ HG3.out HX3.out (by decide)) (.slice (some ⟨g9, 0, none⟩) (k + 1) c9))
          have HB4 := Lib.hid (HB3.out.setCell (p := ⟨X, 2, none⟩) (by show w.heap.size ≤ X; rw [HGE.out]; have := HRE.out; omega) (.slice (some ⟨g9, 0, none⟩) (k + 1) c9))
          clear HX3 HO3 HP3 HR3 HV3 HG3 HB3 HXQ HOQ HPQ HRQ HVQ HGQ HBQ HNQ
          go_wp2_with fail
          go_roundw
          case rel => exact ⟨k + 1, c9, some ⟨g9, 0, none⟩, by omega, by go_num, HX4.out, HO4.out, HP4.out, HR4.out, HV4.out, HG4.out, HN3.out, HB4.out⟩
          case measure => simp [intOf]; omega
      · have hkd : ¬ (k : Int) < 8 := by omega
        obtain rfl : k = 8 := by omega
        have HPX := Lib.hid (show wr.ownsRow w.heap.size 3 1 (.slice Ax 8 cx) 8 (ints.intsV (xcN ts ax)) from HPQ.out)
        have q0 := HXQ.out.cell 0
        have q1 := HXQ.out.cell 1
        have q2 := HXQ.out.cell 2
        have q3 := HXQ.out.cell 3
        have qf := HXQ.out.frozen 3
        have ql := HXQ.out.lt
        simp at q0 q1 q2 q3
        clear hlt HPQ hkd
        go_upto_region 13 with fail
        refine wp_region_list ?_
        refine step_move _ rfl _ rfl _ rfl ?_
        simp only [Act.put, List.getElem_toArray, List.getElem_cons_succ, List.getElem_cons_zero, List.setIfInBounds_toArray, List.set_cons_zero, List.set_cons_succ]
        refine step_load _ rfl _ rfl G _ rfl HGQ.out hcz ?_
        simp only [Act.put, List.getElem_toArray, List.getElem_cons_succ, List.getElem_cons_zero, List.setIfInBounds_toArray, List.set_cons_zero, List.set_cons_succ]
        have btr : -1000000 ≤ tr ∧ tr ≤ 1000000 := by have h1 := TC_le hg.out; have h2 := TC_pos hg.out; rw [HTR.out] at h1 h2; omega
        go_wp2_with fail
        refine (residuals_any A n cap ts cl C ax tr Ax cx (xcN ts ax) wr h0 h2 btr (Lib.hid (xcN_bd hg.out ax)) (Lib.hid (IO.of_own HPX.out)) hC hcl hg (Lib.hid (hts.out.step HBQ.out)) (Lib.hid (hT.out.below HBQ.out))).mono ?_
        rintro e w5 ⟨vR, rfl, hOR, b5⟩
        have hrl : (rsL ts ax (xcN ts ax) tr).length = n := by rw [rsL_len, HL.out]
        rw [hrl] at hOR
        obtain ⟨Ar, cr, rfl⟩ := row_slice hOR
        have HX5 := Lib.hid (HXQ.out.below b5 HXQ.out.lt)
        have HV5 := Lib.hid (HVQ.out.below b5 HVQ.out.lt)
        have HO5 := Lib.hid (row_below HOQ.out b5)
        have HP5 := Lib.hid (row_below HPX.out b5)
        have HR5 := Lib.hid (own_mono hOR hBs)
        have HB5 := Lib.hid (HBQ.out.trans (b5.mono hBs))
        clear b5 hOR HXQ HVQ HOQ HPX HRQ HGQ HBQ HNQ q0 q1 q2 q3 qf ql
        have q0 := HX5.out.cell 0
        have q1 := HX5.out.cell 1
        have q2 := HX5.out.cell 2
        have q3 := HX5.out.cell 3
        have qf := HX5.out.frozen 3
        have ql := HX5.out.lt
        simp at q0 q1 q2 q3
        go_upto_region 14 with fail
        have HV6 := Lib.hid (HV5.out.far (p := ⟨X, 3, none⟩) (by show RV ≠ X; omega) (.slice Ar n cr))
        have HX6 := Lib.hid (HX5.out.set_ 3 (.slice Ar n cr))
        have HO6 := Lib.hid (own_far' X HO5.out (own_blk_ne HO5.out HX5.out (by decide)) 3 (.slice Ar n cr))
        have HP6 := Lib.hid (own_far' X HP5.out (own_blk_ne HP5.out HX5.out (by decide)) 3 (.slice Ar n cr))
        have HR6 := Lib.hid (own_far' X HR5.out (own_blk_ne HR5.out HX5.out (by decide)) 3 (.slice Ar n cr))
        have HB6 := Lib.hid (HB5.out.setCell (p := ⟨X, 3, none⟩) (by show w.heap.size ≤ X; rw [HGE.out]; have := HRE.out; omega) (.slice Ar n cr))
        obtain ⟨W6, HW6⟩ : ∃ W, Hid (w5.setCell ⟨X, 3, none⟩ (.slice Ar n cr) = W) := ⟨_, Lib.hid rfl⟩
        rw [HW6.out] at HV6 HX6 HO6 HP6 HR6 HB6 ⊢
        clear HW6 HX5 HV5 HO5 HP5 HR5 HB5 q0 q1 q2 q3 qf ql
        have q0 := HX6.out.cell 0
        have q1 := HX6.out.cell 1
        have q2 := HX6.out.cell 2
        have q3 := HX6.out.cell 3
        have z0 := HV6.out.cell 0
        have z1 := HV6.out.cell 1
        have z2 := HV6.out.cell 2
        have z3 := HV6.out.cell 3
        have f0 := HV6.out.frozen 0
        have f1 := HV6.out.frozen 1
        have f2 := HV6.out.frozen 2
        have f3 := HV6.out.frozen 3
        have zl := HV6.out.lt
        simp at q0 q1 q2 q3 z0 z1 z2 z3
        have HGG := Lib.hid (grown_set (grown_set (grown_set (grown_set (g := RV) (show W6.grownBy W6 (some RV) from ⟨rfl, rfl, rfl, Nat.le_refl _, fun _ _ _ => rfl⟩) 0 (.slice AU nu cU)) 1 (.int .i64 tr)) 2 (.slice Ax 8 cx)) 3 (.slice Ar n cr))
        have HO7 := Lib.hid (HO6.out.kept HGG.out (.inr (own_blk_ne HO6.out HV6.out (by decide))))
        have HP7 := Lib.hid (HP6.out.kept HGG.out (.inr (own_blk_ne HP6.out HV6.out (by decide))))
        have HR7 := Lib.hid (HR6.out.kept HGG.out (.inr (own_blk_ne HR6.out HV6.out (by decide))))
        have HB7 := Lib.hid (HB6.out.grown HGG.out HB6.out.size (fun q e => by injection e with e; rw [HGE.out]; have := HRE.out; omega))
        clear HO6 HP6 HR6 HB6 HX6 HGG
        go_wp2_with fail
        refine bodyPost_ret (v := .agg #[.slice AU nu cU, .int .i64 tr, .slice Ax 8 cx, .slice Ar n cr]) (by simp [results, Tryz.results92, go_sem, *]) rfl ⟨AU, cU, Ax, cx, Ar, cr, ?_, ?_, HP7.out, ?_, HB7.out⟩
        · rw [HU.out, HNU.out, HTR.out, HL.out]
        · rw [HU.out, HNU.out]; exact HO7.out
        · rw [HTR.out, HL.out]; exact HR7.out
end Go.Proofs.YtnpghhpcloljeabGreatDoor.pg

namespace Go.Proofs.YtnpghhpcloljeabGreatDoor.pg
open Go.RowKit
open reads base ty lg lgi win hs nt nq rowi sn mt ml dt
set_option linter.unusedVariables false
set_option linter.unusedSimpArgs false

def NPo0 (w : World) (e : Ending) (w' : World) : Prop := e = .returned (.tuple #[.agg #[.slice none 0 0, .int .i64 0, .slice none 0 0, .slice none 0 0], .bool false]) ∧ Below w.heap.size w w'
def YPo (ts : List Lg) (ax : Int) (w : World) (e : Ending) (w' : World) : Prop :=
  ∃ (AU : Option Addr) (cU : Nat) (Ax : Option Addr) (cx : Nat) (Ar : Option Addr) (cr : Nat), e = .returned (.tuple #[.agg #[.slice AU (plIds ts).length cU, .int .i64 (TC ts), .slice Ax 8 cx, .slice Ar ts.length cr], .bool true]) ∧
    w'.ownsRow w.heap.size 3 1 (.slice AU (plIds ts).length cU) (plIds ts).length (ints.intsV (plIds ts)) ∧
    w'.ownsRow w.heap.size 3 1 (.slice Ax 8 cx) 8 (ints.intsV (xcN ts ax)) ∧
    w'.ownsRow w.heap.size 3 1 (.slice Ar ts.length cr) ts.length (ints.intsV (rsL ts ax (xcN ts ax) (TC ts))) ∧ Below w.heap.size w w'
set_option maxHeartbeats 8000000 in
set_option maxRecDepth 100000 in
theorem adjOf_no (A : Option Addr) (n cap : Nat) (ts : List Lg) (ax : Int) (w : World) (hn : n ≤ 2000000) (hts : Hid (LgAt w w.heap.size A n ts)) (hT : Hid (Tab w)) (ho : Hid (axOk ts ax = false)) :
    Calls Tryz.prog 65 #[.slice A n cap, .int .i64 ax] w (NPo0 w) := by
  obtain ⟨C, HC⟩ : ∃ C, Hid (nv (netS ts) (clS ts) = C) := ⟨_, Lib.hid rfl⟩
  obtain ⟨g, HG⟩ : ∃ g, Hid (goodLg ts = g) := ⟨_, Lib.hid rfl⟩
  obtain ⟨t, HAX⟩ : ∃ t, Hid (btw 0 ax 2 = t) := ⟨_, Lib.hid rfl⟩
  have HGT := Lib.hid (show (g && t) = false by rw [← HG.out, ← HAX.out]; exact ho.out)
  have hcz : C.size = 56 := by rw [← HC.out]; exact nv_size (nok_S ts)
  have HC1 := Lib.hid (show C.all (·.oneCell') = true by rw [← HC.out]; exact nv_one)
  have HA0 := Lib.hid (hts.out.alloc (.cells #[.slice none 0 0, .int .i64 0, .slice none 0 0, .slice none 0 0] 64))
  have HT0 := Lib.hid (hT.out.alloc (.cells #[.slice none 0 0, .int .i64 0, .slice none 0 0, .slice none 0 0] 64))
  have HB0 := Lib.hid ((Below.refl w.heap.size w).alloc (Nat.le_refl _) (.cells #[.slice none 0 0, .int .i64 0, .slice none 0 0, .slice none 0 0] 64))
  have HV0 := Lib.hid (Blk.new w 64 #[.slice none 0 0, .int .i64 0, .slice none 0 0, .slice none 0 0])
  go_enter Tryz.func65, Tryz.ntmps65
  go_wp2_with fail
  refine (net_any A n cap ts C g HC HG _ hn HA0 HT0).mono ?_
  rintro e w1 ⟨rfl, b1⟩
  have HB1 := Lib.hid (HB0.out.trans (b1.mono HB0.out.size))
  have HV1 := Lib.hid (HV0.out.below b1 HV0.out.lt)
  clear b1 HA0 HT0 HB0 HV0
  have hst := lay_net hcz HC1.out w1
  have HB2 := Lib.hid (HB1.out.alloc HB1.out.size (.cells C 76))
  have HV2 := Lib.hid (HV1.out.alloc (.cells C 76))
  go_upto_region 2 with fail
  clear hst
  obtain ⟨W, HW⟩ : ∃ W, Hid (w1.alloc (.cells C 76) = W) := ⟨_, Lib.hid rfl⟩
  obtain ⟨RV, HRV⟩ : ∃ q, Hid (w.heap.size = q) := ⟨_, Lib.hid rfl⟩
  rw [HW.out] at HB2 HV2 ⊢
  rw [HRV.out] at HV2
  try simp only [HRV.out]
  clear HW HB1 HV1
  cases g
  · have z0 := HV2.out.cell 0
    have z1 := HV2.out.cell 1
    have z2 := HV2.out.cell 2
    have z3 := HV2.out.cell 3
    have f0 := HV2.out.frozen 0
    have f1 := HV2.out.frozen 1
    have f2 := HV2.out.frozen 2
    have f3 := HV2.out.frozen 3
    have zl := HV2.out.lt
    simp at z0 z1 z2 z3
    go_wp2_with fail
    refine bodyPost_ret (v := .tuple #[.agg #[.slice none 0 0, .int .i64 0, .slice none 0 0, .slice none 0 0], .bool false]) (by simp [results, Tryz.results65, go_sem, *]) rfl ⟨rfl, ?_⟩
    exact (((HB2.out.setCell (p := ⟨RV, 0, none⟩) (by show w.heap.size ≤ RV; rw [HRV.out]; exact Nat.le_refl _) _).setCell (p := ⟨RV, 1, none⟩) (by show w.heap.size ≤ RV; rw [HRV.out]; exact Nat.le_refl _) _).setCell (p := ⟨RV, 2, none⟩) (by show w.heap.size ≤ RV; rw [HRV.out]; exact Nat.le_refl _) _).setCell (p := ⟨RV, 3, none⟩) (by show w.heap.size ≤ RV; rw [HRV.out]; exact Nat.le_refl _) _
  · obtain rfl : t = false := by simpa using HGT.out
    go_wp2_with fail
    refine (isAxis_any ax false _ HAX).mono ?_
    rintro e w5 ⟨rfl, b5⟩
    have HB5 := Lib.hid (HB2.out.trans (b5.mono HB2.out.size))
    have HV5 := Lib.hid (HV2.out.below b5 HV2.out.lt)
    clear b5 HB2 HV2
    have z0 := HV5.out.cell 0
    have z1 := HV5.out.cell 1
    have z2 := HV5.out.cell 2
    have z3 := HV5.out.cell 3
    have f0 := HV5.out.frozen 0
    have f1 := HV5.out.frozen 1
    have f2 := HV5.out.frozen 2
    have f3 := HV5.out.frozen 3
    have zl := HV5.out.lt
    simp at z0 z1 z2 z3
    go_wp2_with fail
    refine bodyPost_ret (v := .tuple #[.agg #[.slice none 0 0, .int .i64 0, .slice none 0 0, .slice none 0 0], .bool false]) (by simp [results, Tryz.results65, go_sem, *]) rfl ⟨rfl, ?_⟩
    exact (((HB5.out.setCell (p := ⟨RV, 0, none⟩) (by show w.heap.size ≤ RV; rw [HRV.out]; exact Nat.le_refl _) _).setCell (p := ⟨RV, 1, none⟩) (by show w.heap.size ≤ RV; rw [HRV.out]; exact Nat.le_refl _) _).setCell (p := ⟨RV, 2, none⟩) (by show w.heap.size ≤ RV; rw [HRV.out]; exact Nat.le_refl _) _).setCell (p := ⟨RV, 3, none⟩) (by show w.heap.size ≤ RV; rw [HRV.out]; exact Nat.le_refl _) _
set_option maxHeartbeats 8000000 in
set_option maxRecDepth 100000 in
theorem adjOf_yes (A : Option Addr) (n cap : Nat) (ts : List Lg) (ax : Int) (w : World) (hn : n ≤ 2000000) (hts : Hid (LgAt w w.heap.size A n ts)) (hT : Hid (Tab w)) (ho : Hid (axOk ts ax = true)) :
    Calls Tryz.prog 65 #[.slice A n cap, .int .i64 ax] w (YPo ts ax w) := by
  obtain ⟨C, HC⟩ : ∃ C, Hid (nv (netS ts) (clS ts) = C) := ⟨_, Lib.hid rfl⟩
  have HGA := Lib.hid (show goodLg ts = true ∧ btw 0 ax 2 = true by have := ho.out; unfold axOk at this; rwa [Bool.and_eq_true] at this)
  have HG := Lib.hid HGA.out.1
  have HAX := Lib.hid HGA.out.2
  have hax := btw_yes HAX.out
  have hcz : C.size = 56 := by rw [← HC.out]; exact nv_size (nok_S ts)
  have HC1 := Lib.hid (show C.all (·.oneCell') = true by rw [← HC.out]; exact nv_one)
  have HCN := Lib.hid (show nv (net ts) (clS ts) = C by rw [← HC.out]; unfold netS; rw [HG.out]; rfl)
  have hcl12 : (clS ts).length = 12 := (nok_S ts).2
  have HL := Lib.hid hts.out.1
  have HA0 := Lib.hid (hts.out.alloc (.cells #[.slice none 0 0, .int .i64 0, .slice none 0 0, .slice none 0 0] 64))
  have HT0 := Lib.hid (hT.out.alloc (.cells #[.slice none 0 0, .int .i64 0, .slice none 0 0, .slice none 0 0] 64))
  have HB0 := Lib.hid ((Below.refl w.heap.size w).alloc (Nat.le_refl _) (.cells #[.slice none 0 0, .int .i64 0, .slice none 0 0, .slice none 0 0] 64))
  have HV0 := Lib.hid (Blk.new w 64 #[.slice none 0 0, .int .i64 0, .slice none 0 0, .slice none 0 0])
  go_enter Tryz.func65, Tryz.ntmps65
  go_wp2_with fail
  refine (net_any A n cap ts C true HC HG _ hn HA0 HT0).mono ?_
  rintro e w1 ⟨rfl, b1⟩
  have HB1 := Lib.hid (HB0.out.trans (b1.mono HB0.out.size))
  have HV1 := Lib.hid (HV0.out.below b1 HV0.out.lt)
  clear b1 HA0 HT0 HB0 HV0
  have hst := lay_net hcz HC1.out w1
  have HB2 := Lib.hid (HB1.out.alloc HB1.out.size (.cells C 76))
  have HV2 := Lib.hid (HV1.out.alloc (.cells C 76))
  have HG2 := Lib.hid (Blk.new w1 76 C)
  go_upto_region 2 with fail
  clear hst
  obtain ⟨W, HW⟩ : ∃ W, Hid (w1.alloc (.cells C 76) = W) := ⟨_, Lib.hid rfl⟩
  obtain ⟨RV, HRV⟩ : ∃ q, Hid (w.heap.size = q) := ⟨_, Lib.hid rfl⟩
  obtain ⟨G, HGG⟩ : ∃ q, Hid (w1.heap.size = q) := ⟨_, Lib.hid rfl⟩
  rw [HGG.out] at HG2
  rw [HW.out] at HB2 HV2 HG2 ⊢
  rw [HRV.out] at HV2
  try simp only [HRV.out, HGG.out]
  clear HW HB1 HV1 HGG
  go_wp2_with fail
  refine (isAxis_any ax true _ HAX).mono ?_
  rintro e w5 ⟨rfl, b5⟩
  have HB5 := Lib.hid (HB2.out.trans (b5.mono HB2.out.size))
  have HV5 := Lib.hid (HV2.out.below b5 HV2.out.lt)
  have HG5 := Lib.hid (HG2.out.below b5 HG2.out.lt)
  clear b5 HB2 HV2 HG2
  go_upto_region 4 with fail
  refine wp_region_list ?_
  refine step_move _ rfl _ rfl _ rfl ?_
  simp only [Act.put, List.getElem_toArray, List.getElem_cons_succ, List.getElem_cons_zero, List.setIfInBounds_toArray, List.set_cons_zero, List.set_cons_succ]
  refine step_load _ rfl _ rfl G _ rfl HG5.out hcz ?_
  simp only [Act.put, List.getElem_toArray, List.getElem_cons_succ, List.getElem_cons_zero, List.setIfInBounds_toArray, List.set_cons_zero, List.set_cons_succ]
  go_wp2_with fail
  refine (adjOn_any A n cap ts (clS ts) C ax w5 hax.1 hax.2 HCN hcl12 HG (Lib.hid (hts.out.step HB5.out)) (Lib.hid (hT.out.below HB5.out))).mono ?_
  rintro e w6 ⟨AU, cU, Ax, cx, Ar, cr, rfl, hOU, hOX, hOR, b6⟩
  have HV6 := Lib.hid (HV5.out.below b6 HV5.out.lt)
  have HB6 := Lib.hid (HB5.out.trans (b6.mono HB5.out.size))
  have HOU := Lib.hid (own_mono hOU HB5.out.size)
  have HOX := Lib.hid (own_mono hOX HB5.out.size)
  have HOR := Lib.hid (own_mono hOR HB5.out.size)
  clear hOU hOX hOR b6 HV5 HB5 HG5
  obtain ⟨tr, HTR⟩ : ∃ q, Hid (TC ts = q) := ⟨_, Lib.hid rfl⟩
  obtain ⟨nu, HNU⟩ : ∃ q, Hid ((plIds ts).length = q) := ⟨_, Lib.hid rfl⟩
  obtain ⟨n9, HN9⟩ : ∃ q, Hid (ts.length = q) := ⟨_, Lib.hid rfl⟩
  rw [HNU.out] at HOU
  rw [HN9.out] at HOR
  rw [HTR.out, HNU.out, HN9.out]
  have z0 := HV6.out.cell 0
  have z1 := HV6.out.cell 1
  have z2 := HV6.out.cell 2
  have z3 := HV6.out.cell 3
  have f0 := HV6.out.frozen 0
  have f1 := HV6.out.frozen 1
  have f2 := HV6.out.frozen 2
  have f3 := HV6.out.frozen 3
  have zl := HV6.out.lt
  simp at z0 z1 z2 z3
  have HGG := Lib.hid (grown_set (grown_set (grown_set (grown_set (g := RV) (show w6.grownBy w6 (some RV) from ⟨rfl, rfl, rfl, Nat.le_refl _, fun _ _ _ => rfl⟩) 0 (.slice AU nu cU)) 1 (.int .i64 tr)) 2 (.slice Ax 8 cx)) 3 (.slice Ar n9 cr))
  have HO7 := Lib.hid (HOU.out.kept HGG.out (.inr (own_blk_ne HOU.out HV6.out (by decide))))
  have HP7 := Lib.hid (HOX.out.kept HGG.out (.inr (own_blk_ne HOX.out HV6.out (by decide))))
  have HR7 := Lib.hid (HOR.out.kept HGG.out (.inr (own_blk_ne HOR.out HV6.out (by decide))))
  have HB7 := Lib.hid (HB6.out.grown HGG.out HB6.out.size (fun q e => by injection e with e; rw [HRV.out, e]; exact Nat.le_refl _))
  clear HOU HOX HOR HB6 HGG
  go_wp2_with fail
  refine bodyPost_ret (v := .tuple #[.agg #[.slice AU nu cU, .int .i64 tr, .slice Ax 8 cx, .slice Ar n9 cr], .bool true]) (by simp [results, Tryz.results65, go_sem, *]) rfl ⟨AU, cU, Ax, cx, Ar, cr, ?_, ?_, HP7.out, ?_, HB7.out⟩
  · rw [HNU.out, HTR.out, HN9.out]
  · rw [HNU.out]; exact HO7.out
  · rw [HTR.out, HN9.out] at *; exact HR7.out
end Go.Proofs.YtnpghhpcloljeabGreatDoor.pg

namespace Go.Proofs.YtnpghhpcloljeabGreatDoor.pg
open Go.RowKit
open reads base ty lg lgi win hs nt nq rowi sn mt ml dt
set_option linter.unusedVariables false
set_option linter.unusedSimpArgs false

set_option maxHeartbeats 8000000 in
set_option maxRecDepth 100000 in
theorem treeCount_impl (A : Option Addr) (n cap : Nat) (ts : List Lg) (w : World) (hn : n ≤ 2000000) (hts : Hid (LgAt w w.heap.size A n ts)) (hT : Hid (Tab w)) :
    Calls Tryz.prog 12 #[.slice A n cap] w (APost (ansTc ts) w) := by
  obtain ⟨t, HTT⟩ : ∃ t, Hid (goodLg ts = t) := ⟨_, Lib.hid rfl⟩
  cases t
  · have HF := Lib.hid (show ansTc ts = .tuple #[.int .i64 0, .bool false] by unfold ansTc; rw [HTT.out]; rfl)
    have HO := Lib.hid (show axOk ts 0 = false by unfold axOk; rw [HTT.out]; rfl)
    go_enter Tryz.func12, Tryz.ntmps12
    go_wp2_with fail
    refine (adjOf_no A n cap ts 0 _ hn hts hT HO).mono ?_
    rintro e w1 ⟨rfl, b1⟩
    have HB := Lib.hid b1
    clear b1
    go_wp2_with fail
    go_ret2
    exact ⟨by rw [HF.out]; rfl, HB.out.alloc HB.out.size _⟩
  · obtain ⟨d, HD⟩ : ∃ d, Hid (TC ts = d) := ⟨_, Lib.hid rfl⟩
    have HF := Lib.hid (show ansTc ts = .tuple #[.int .i64 d, .bool true] by unfold ansTc; rw [HTT.out, if_pos rfl, HD.out])
    have HO := Lib.hid (show axOk ts 0 = true by unfold axOk; rw [HTT.out]; rfl)
    go_enter Tryz.func12, Tryz.ntmps12
    go_wp2_with fail
    refine (adjOf_yes A n cap ts 0 _ hn hts hT HO).mono ?_
    rintro e w1 ⟨AU, cU, Ax, cx, Ar, cr, rfl, -, -, -, b1⟩
    rw [HD.out]
    have HB := Lib.hid b1
    clear b1
    go_wp2_with fail
    go_ret2
    exact ⟨by rw [HF.out]; rfl, HB.out.alloc HB.out.size _⟩
set_option maxHeartbeats 8000000 in
set_option maxRecDepth 100000 in
theorem adjustAxis_impl (A : Option Addr) (n cap : Nat) (ts : List Lg) (ax : Int) (w : World) (hn : n ≤ 2000000) (hts : Hid (LgAt w w.heap.size A n ts)) (hT : Hid (Tab w)) :
    Calls Tryz.prog 9 #[.slice A n cap, .int .i64 ax] w (A3Post (axL ts ax) (axD ts ax) (axOk ts ax) w) := by
  obtain ⟨t, HTT⟩ : ∃ t, Hid (axOk ts ax = t) := ⟨_, Lib.hid rfl⟩
  cases t
  · have HF := Lib.hid (show axL ts ax = [] ∧ axD ts ax = 0 by unfold axL axD; rw [HTT.out]; exact ⟨rfl, rfl⟩)
    rw [HF.out.1, HF.out.2, HTT.out]
    go_enter Tryz.func9, Tryz.ntmps9
    go_wp2_with fail
    refine (adjOf_no A n cap ts ax _ hn hts hT HTT).mono ?_
    rintro e w1 ⟨rfl, b1⟩
    have HB := Lib.hid b1
    clear b1
    go_upto_region 2 with fail
    go_region
    go_wp2_with fail
    go_ret3
    exact ⟨_, rfl, World.ownsRow_nil _ _ _ _, (HB.out.alloc HB.out.size _).drew⟩
  · obtain ⟨d, HD⟩ : ∃ d, Hid (TC ts = d) := ⟨_, Lib.hid rfl⟩
    have HF := Lib.hid (show axL ts ax = xcN ts ax ∧ axD ts ax = d by unfold axL axD; rw [HTT.out]; exact ⟨rfl, HD.out⟩)
    rw [HF.out.1, HF.out.2, HTT.out]
    go_enter Tryz.func9, Tryz.ntmps9
    go_wp2_with fail
    refine (adjOf_yes A n cap ts ax _ hn hts hT HTT).mono ?_
    rintro e w1 ⟨AU, cU, Ax, cx, Ar, cr, rfl, -, hO, -, b1⟩
    rw [HD.out]
    have HB := Lib.hid b1
    have HO := Lib.hid hO
    clear b1 hO
    go_upto_region 2 with fail
    go_region
    go_wp2_with fail
    go_ret3
    exact ⟨_, rfl, by rw [xcN_len]; exact (HO.out.alloc _).drew, (HB.out.alloc HB.out.size _).drew⟩
end Go.Proofs.YtnpghhpcloljeabGreatDoor.pg
