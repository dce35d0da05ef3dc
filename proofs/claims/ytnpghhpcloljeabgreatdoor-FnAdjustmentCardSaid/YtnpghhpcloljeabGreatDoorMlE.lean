/-
  The matrix of a network, by the model, without an axis.
  Conditions: those that each theorem names.
-/
import Derived.Test.YtnpghhpcloljeabGreatDoorMlAq
import Derived.StillTailTactics
import Derived.Deep.DeepCutAuto
import Derived.OwnWalk
namespace Go.Proofs.YtnpghhpcloljeabGreatDoor.ml
open Go.RowKit
open reads base ty lg rowi hs nt mt dt
set_option linter.unusedVariables false
set_option linter.unusedSimpArgs false

set_option maxHeartbeats 16000000 in
set_option maxRecDepth 100000 in
theorem matrix_neg (A : Option Addr) (n cap : Nat) (ts : List Lg) (As : Option Addr) (m cst : Nat) (st : List Int) (U : List Int) (w : World) (hg : Hid (goodLg ts = true)) (hts : Hid (LgAt w w.heap.size A n ts)) (hm8 : m ≤ 8) (hst : Hid (IO w w.heap.size As m st)) (hso : Hid (StOk st)) (hU : Hid (plIds ts = U)) (hin : Hid (∀ i ∈ U, ((lgAt ts i).frm ∈ st ∨ (lgAt ts i).frm = 0) ∧ ((lgAt ts i).to_ ∈ st ∨ (lgAt ts i).to_ = 0))) :
    Calls Tryz.prog 124 #[.slice A n cap, .slice As m cst, .int .i64 (-1), .int .i64 0] w (MPo m (fun i j => AA (eds ts 0 U) (sAt st i) (sAt st j)) w) := by
  obtain ⟨i0, hi, hz0, hz1, hz2⟩ := info_parts infoI
  obtain ⟨i1, ji, jz0, jz1, jz2⟩ := info_parts infoR
  have HL := Lib.hid hts.out.1
  have hn12 := len12 HL.out hg.out
  have hmk : ∀ W : World, (Instr.makeSlice 27 (.int .i64 (m : Int)) (.int .i64 (m : Int))).run Tryz.prog W = .ok (.slice (some ⟨W.heap.size, 0, none⟩) m m) (W.alloc (.cells (cs1 m (fun _ => 0)) 3)) := fun W => by
    have h := run_make_rowN (P := Tryz.prog) 27 3 i0 _ Tryz.underlying27 hi hz0 .i64 .i64 m m (Nat.le_refl _) (by rw [hz2]; omega) (by omega) W
    rw [hz1] at h
    rw [← cs1_zero]
    exact h
  have HE0 := Lib.hid (MxB.none_ (b := w.heap.size) (m := m) (World.ownsRow_made (e := 27) (size := 1) w #[] 0 (Nat.le_refl _) (by decide) (by simp)))
  have HB0 := Lib.hid ((Below.refl w.heap.size w).alloc (Nat.le_refl _) (.cells #[] 27))
  go_enter Tryz.func124, Tryz.ntmps124
  go_wp2_with fail
  go_loopw [9, 10] (fun v i wr => ∃ (k c : Nat) (A1 : Option Addr) (P : Nat → Nat), k ≤ m ∧ i = .int .i64 (k : Nat) ∧ v = .slice A1 k c ∧ MxB wr w.heap.size A1 k c m P (fun _ _ => 0) ∧ Below w.heap.size w wr) (fun _ i _ => m - (intOf i).toNat)
  case atStart => exact ⟨0, 0, _, _, Nat.zero_le _, rfl, rfl, HE0.out, HB0.out⟩
  case round =>
    obtain ⟨k, c, A1, P, hk, rfl, rfl, hM, hB⟩ := hrel
    have HM := Lib.hid hM
    have HB := Lib.hid hB
    have hBs := hB.size
    clear hM hB HE0 HB0
    have hk0 : (0 : Int) ≤ (k : Int) := by omega
    by_cases hlt : k < m
    · have hki : (k : Int) < (m : Int) := by omega
      have hkd : decide (k < m) = true := by simpa using hlt
      have HX := Lib.hid (Blk.new wr 3 (cs1 m (fun _ => 0)))
      have HMA := Lib.hid (HM.out.step ((Below.refl _ _).alloc (Nat.le_refl _) (.cells (cs1 m (fun _ => 0)) 3)))
      have HBA := Lib.hid (HB.out.alloc hBs (.cells (cs1 m (fun _ => 0)) 3))
      have HXL := Lib.hid (show ∀ i, i < k → P i < wr.heap.size from fun i hi9 => (HM.out.row hi9).2.2.2)
      go_wp2_with (at_builtin; refine wpList_append_lies _ rfl _ _ 130 rfl w.heap.size 27 i1 (.slice none 0 0) 1 24 Tryz.underlying130 ji jz0 jz1 jz2 rfl (by decide) _ _ _ rfl (HMA.out.1.alloc _) ⟨wr.heap.size + 1, 0, none⟩ 1 1 [.slice (some ⟨wr.heap.size, 0, none⟩) m m] rfl rfl (fun j u hu => by have h9 := cell_one_new (wr.alloc (.cells (cs1 m (fun _ => 0)) 3)) (Value.slice (some ⟨wr.heap.size, 0, none⟩) m m) 27 j u hu; simpa using h9) (by simp [Value.oneCell']) (by decide) (by unfold maxLen; omega) (by omega) (by simp; omega) _ rfl ?_; intro g9 c9 w3 hown' hgrow hat hlt9)
      have HALB := Lib.hid (((Below.refl (wr.alloc (.cells (cs1 m (fun _ => 0)) 3)).heap.size (wr.alloc (.cells (cs1 m (fun _ => 0)) 3))).alloc (Nat.le_refl _) (.cells #[.slice (some ⟨wr.heap.size, 0, none⟩) m m] 27)))
      have HM2 := Lib.hid (HMA.out.step HALB.out)
      have HX2 := Lib.hid (HX.out.below HALB.out (by simp))
      have HB9 := Lib.hid ((HBA.out.trans (HALB.out.mono (by simp; omega))).grown hgrow (by simp; omega) (fun g e => (HM.out.1.lt g e).1))
      have HM9 := Lib.hid (show MxB w3 w.heap.size (some ⟨g9, 0, none⟩) (k + 1) c9 m (fun i => if i = k then wr.heap.size else P i) (fun _ _ => 0) from by
        refine ⟨by rw [← rp_snoc]; exact hown', fun i hi9 => ?_, fun i j hi9 hj9 e => ?_⟩
        · show RwB w3 (if i = k then wr.heap.size else P i) m (fun _ => 0) ∧ w.heap.size ≤ (if i = k then wr.heap.size else P i)
          by_cases q : i = k
          · subst q
            rw [if_pos rfl]
            exact ⟨HX2.out.grown hgrow (fun e => own_blk_ne HM2.out.1 HX2.out (by decide) e.symm), hBs⟩
          · have hik : i < k := by omega
            rw [if_neg q]
            have q2 := HM2.out.2.1 i hik
            exact ⟨Blk.grown q2.1 hgrow (fun e => own_blk_ne HM2.out.1 q2.1 (by decide) e.symm), q2.2⟩
        · have e : (if i = k then wr.heap.size else P i) = (if j = k then wr.heap.size else P j) := e
          by_cases q : i = k <;> by_cases q2 : j = k
          · omega
          · rw [if_pos q, if_neg q2] at e
            have := HXL.out j (by omega); omega
          · rw [if_neg q, if_pos q2] at e
            have := HXL.out i (by omega); omega
          · rw [if_neg q, if_neg q2] at e
            exact HM.out.2.2 i j (by omega) (by omega) e)
      clear hown' hgrow hat HX HMA HBA HXL HALB HM2 HX2 HM HB
      go_wp2_with fail
      go_roundw
      case rel => exact ⟨k + 1, c9, some ⟨g9, 0, none⟩, _, by omega, by go_num, rfl, HM9.out, HB9.out⟩
      case measure => simp [intOf]; omega
    · have hkd : decide (k < m) = false := by simpa using hlt
      have hkm : m = k := by omega
      subst hkm
      clear hlt
      go_wp2_with fail
      refine (legs9_any A n cap ts wr hg (Lib.hid (hts.out.step HB.out))).mono ?_
      rintro e w2 ⟨vU, rfl, hOU, b2⟩
      rw [hU.out] at hOU
      obtain ⟨nu, HNU⟩ : ∃ q, Hid (U.length = q) := ⟨_, Lib.hid rfl⟩
      rw [HNU.out] at hOU
      obtain ⟨AU, cU, rfl⟩ := row_slice hOU
      have hnu : nu ≤ 12 := by rw [← HNU.out, ← hU.out]; have := plIds_len' ts; rw [HL.out] at this; omega
      have HMS0 := Lib.hid (show MS w A1 m c P w2.heap.size U AU nu wr.heap.size (fun _ _ => 0) (fun _ => 0) (w2.alloc (.cells (cs1 m (fun _ => 0)) 3)) from by
        have hs := b2.size
        refine ⟨(HM.out.step b2).step ((Below.refl _ _).alloc (Nat.le_refl _) _), Blk.new _ _ _, ⟨(ints.IL.of_own (hOU.alloc _)), fun g e => ?_⟩, (HB.out.trans (b2.mono hBs)).alloc (by omega) _, fun i hi9 => (HM.out.row hi9).2.2.2, hs, hBs⟩
        have := hOU.lt g (by rw [e]; rfl)
        omega)
      clear hOU b2 HM HB hBs
      obtain ⟨h1, HH1⟩ : ∃ q, Hid (wr.heap.size = q) := ⟨_, Lib.hid rfl⟩
      obtain ⟨R, HR2⟩ : ∃ q, Hid (w2.heap.size = q) := ⟨_, Lib.hid rfl⟩
      obtain ⟨V, HV⟩ : ∃ q, Hid (w2.alloc (.cells (cs1 m (fun _ => 0)) 3) = q) := ⟨_, Lib.hid rfl⟩
      rw [HH1.out, HR2.out, HV.out] at HMS0
      go_upto_region 8 with fail
      rw [HV.out]
      try simp only [HR2.out]
      clear HH1 HR2 HV
      go_wp2_with fail
      go_loopw [13] (fun i wr => ∃ k : Nat, k ≤ nu ∧ i = .int .i64 (k : Nat) ∧ MS w A1 m c P R U AU nu h1 (fun i j => AA (eds ts 0 (U.take k)) (sAt st i) (sAt st j)) (fun _ => 0) wr) (fun i _ => nu - (intOf i).toNat)
      case atStart => exact ⟨0, Nat.zero_le _, rfl, HMS0.out.congr (fun _ _ _ _ => rfl) (fun _ _ => rfl)⟩
      case round =>
        obtain ⟨k, hk, rfl, hMS⟩ := hrel
        have HMSQ := Lib.hid hMS
        clear hMS HMS0
        have hk0 : (0 : Int) ≤ (k : Int) := by omega
        by_cases hlt : k < nu
        · have hki : (k : Int) < (nu : Int) := by omega
          have hkd : decide (k < nu) = true := by simpa using hlt
          obtain ⟨q, hq⟩ := at_lt HNU.out hlt
          have hqm := List.mem_of_getElem? hq
          obtain ⟨jq, rfl, x, hx, -⟩ := plIds_at (by rw [hU.out]; exact hqm)
          have hjn : jq < n := by have := lt_at hx; rw [HL.out] at this; exact this
          have hji : (jq : Int) < (n : Int) := by omega
          have hj0 : (0 : Int) ≤ (jq : Int) := by omega
          have HOX := Lib.hid (goodLg_at hg.out hx)
          have HED := Lib.hid (edOf_ok HOX.out 0)
          have hinx := hin.out _ hqm
          rw [lgAt_is hx] at hinx
          have HST := Lib.hid (show eds ts 0 (U.take (k + 1)) = eds ts 0 (U.take k) ++ [edOf 0 x] by rw [eds_take hq, lgAt_is hx])
          obtain ⟨us, HUS⟩ : ∃ us, Hid (eds ts 0 (U.take k) = us) := ⟨_, Lib.hid rfl⟩
          have HUL := Lib.hid (show ∀ s c9, -6000 ≤ AA us s c9 ∧ AA us s c9 ≤ 6000 from fun s c9 => by
            have h9 := AA_le (us := us) (by rw [← HUS.out]; exact eds_ok hg.out 0 (fun i hi9 => by rw [hU.out]; exact List.mem_of_mem_take hi9)) s c9
            have h8 : us.length ≤ 12 := by rw [← HUS.out]; unfold eds; rw [List.length_map, List.length_take]; omega
            omega)
          rw [HUS.out] at HST HMSQ
          obtain ⟨M, HMM⟩ : ∃ M : Nat → Nat → Int, Hid ((fun i j => AA us (sAt st i) (sAt st j)) = M) := ⟨_, Lib.hid rfl⟩
          have HMB := Lib.hid (show ∀ i j, -6000 ≤ M i j ∧ M i j ≤ 6000 from fun i j => by rw [← HMM.out]; exact HUL.out _ _)
          obtain ⟨r, HRR⟩ : ∃ r : Nat → Int, Hid ((fun _ => 0) = r) := ⟨_, Lib.hid rfl⟩
          have HRB := Lib.hid (show ∀ i, -6000 ≤ r i ∧ r i ≤ 6000 from fun i => by rw [← HRR.out]; simp)
          rw [HMM.out, HRR.out] at HMSQ
          have HNX := Lib.hid (show ∀ i j, AA (eds ts 0 (U.take (k + 1))) (sAt st i) (sAt st j) = M i j + ent (edOf 0 x) (sAt st i) (sAt st j) from fun i j => by rw [HST.out, AA_snoc, ← HMM.out])
          have HNR := Lib.hid (show ∀ i, (0 : Int) = r i from fun i => by rw [← HRR.out])
          clear HST HUS HUL HMM HRR
          obtain ⟨gU, rfl, eU⟩ := HMSQ.out.2.2.1.1.2 k _ hq
          obtain ⟨gL, rfl, hgL, e0, e1, e2, e3, e4⟩ := (hts.out.below HMSQ.out.2.2.2.1).2 jq x hx
          clear hq hqm hx
          obtain ⟨W0, HW0⟩ : ∃ W, Hid (wr.alloc (.cells #[.int .i64 x.frm, .int .i64 x.to_, .int .i64 x.tape, .int .i64 x.comp, .int .i64 x.slope] 87) = W) := ⟨_, Lib.hid rfl⟩
          have HMS1 := Lib.hid (HMSQ.out.step ((Below.refl _ _).alloc (Nat.le_refl _) (.cells #[.int .i64 x.frm, .int .i64 x.to_, .int .i64 x.tape, .int .i64 x.comp, .int .i64 x.slope] 87)))
          have HK1 := Lib.hid (Blk.new wr 87 #[.int .i64 x.frm, .int .i64 x.to_, .int .i64 x.tape, .int .i64 x.comp, .int .i64 x.slope])
          go_upto_region 12 with fail
          rw [HW0.out] at HMS1 HK1 ⊢
          obtain ⟨X, HXX⟩ : ∃ X, Hid (wr.heap.size = X) := ⟨_, Lib.hid rfl⟩
          rw [HXX.out] at HK1
          try simp only [HXX.out]
          have HS1 := Lib.hid ((hst.out.below HMS1.out.2.2.2.1).more HMS1.out.2.2.2.1.size)
          obtain ⟨B, HBB⟩ : ∃ B, Hid (W0.heap.size = B) := ⟨_, Lib.hid rfl⟩
          have hXB : X < B := by rw [← HBB.out]; exact HK1.out.lt
          rw [HBB.out] at HS1
          have HWB := Lib.hid (show B ≤ W0.heap.size by rw [HBB.out]; exact Nat.le_refl _)
          have y0 := HK1.out.cell 0
          have y1 := HK1.out.cell 1
          simp at y0 y1
          clear HMSQ HW0 HXX e0 e1 e2 e3 e4 eU hgL
          have hne := (okLg_lim HOX.out).2.2.1
          have hfr := (okLg_lim HOX.out).1
          have hto := (okLg_lim HOX.out).2.1
          by_cases hfa : x.frm ∈ st
          · by_cases hfb : x.to_ ∈ st
            · obtain ⟨a, ha0⟩ := List.getElem?_of_mem hfa
              have ha : a < m := by have := lt_at ha0; rw [hst.out.1] at this; exact this
              have HEA := Lib.hid (show sAt st a = (edOf 0 x).f from sAt_is ha0)
              have HFA := Lib.hid (show Fnd st x.frm (a : Int) from .inr ⟨a, rfl, ha0⟩)
              have hai : (a : Int) < (m : Int) := by omega
              have hap : (0 : Int) ≤ (a : Int) := by omega
              clear ha0
              obtain ⟨b, hb0⟩ := List.getElem?_of_mem hfb
              have hb : b < m := by have := lt_at hb0; rw [hst.out.1] at this; exact this
              have HEB := Lib.hid (show sAt st b = (edOf 0 x).t from sAt_is hb0)
              have HFB := Lib.hid (show Fnd st x.to_ (b : Int) from .inr ⟨b, rfl, hb0⟩)
              have hbi : (b : Int) < (m : Int) := by omega
              have hbp : (0 : Int) ≤ (b : Int) := by omega
              clear hb0
              have hab : a ≠ b := fun e => by
                have h1 := HEA.out
                have h2 := HEB.out
                rw [e, h2] at h1
                exact HED.out.2.2.1 h1.symm
              have hba : b ≠ a := fun e => hab e.symm
              clear hfa hfb hne hfr hto hinx
              refine wp_region_held_drew (S := (fun v => (∀ b o, b < B → v.cell? ⟨b, o, none⟩ = W0.cell? ⟨b, o, none⟩) ∧ Below B W0 v)) (by kernel_rfl) ?_ (fun hHeld => ?_)
              · exact sb_start (Below.refl _ _)
              refine' wpAnyH_take (i := 0) (v := ?vr1_0) rfl (by kernel_rfl) (by kernel_rfl) (by kernel_rfl) (fun _ _ _ h => h) (Or.inl ⟨by rfl, ?hyr1_0⟩) (by assumption) ?restr1_0
              case hyr1_0 => (intro w hSw; (try dsimp only at hSw); go_simp; try (with_reducible rfl))
              simp only [Act.put, List.getElem_toArray, List.getElem_cons_succ, List.getElem_cons_zero, List.setIfInBounds_toArray, List.set_cons_zero, List.set_cons_succ]
              refine' wpAnyH_take (i := 1) (v := ?vr1_1) rfl (by kernel_rfl) (by kernel_rfl) (by kernel_rfl) (fun _ _ _ h => h) (Or.inl ⟨by rfl, ?hyr1_1⟩) (by assumption) ?restr1_1
              case hyr1_1 => (intro w hSw; (try dsimp only at hSw); go_simp; try (with_reducible rfl))
              simp only [Act.put, List.getElem_toArray, List.getElem_cons_succ, List.getElem_cons_zero, List.setIfInBounds_toArray, List.set_cons_zero, List.set_cons_succ]
              refine' wpAnyH_take (i := 2) (v := ?vr1_2) rfl (by kernel_rfl) (by kernel_rfl) (by kernel_rfl) (fun _ _ _ h => h) (Or.inl ⟨by rfl, ?hyr1_2⟩) (by assumption) ?restr1_2
              case hyr1_2 => (intro w hSw; (try dsimp only at hSw); go_simp; try (with_reducible rfl))
              simp only [Act.put, List.getElem_toArray, List.getElem_cons_succ, List.getElem_cons_zero, List.setIfInBounds_toArray, List.set_cons_zero, List.set_cons_succ]
              refine' wpAnyH_take (i := 4) (v := ?vr1_4) rfl (by kernel_rfl) (by kernel_rfl) (by kernel_rfl) (fun _ _ _ h => h) (Or.inl ⟨by rfl, ?hyr1_4⟩) (by assumption) ?restr1_4
              case hyr1_4 => (intro w hSw; (try dsimp only at hSw); go_simp; try (with_reducible rfl))
              simp only [Act.put, List.getElem_toArray, List.getElem_cons_succ, List.getElem_cons_zero, List.setIfInBounds_toArray, List.set_cons_zero, List.set_cons_succ]
              refine' wpAnyH_take (i := 5) (v := ?vr1_5) rfl (by kernel_rfl) (by kernel_rfl) (by kernel_rfl) (fun _ _ _ h => h) (Or.inl ⟨by rfl, ?hyr1_5⟩) (by assumption) ?restr1_5
              case hyr1_5 => (intro w hSw; (try dsimp only at hSw); go_simp; try (with_reducible rfl))
              simp only [Act.put, List.getElem_toArray, List.getElem_cons_succ, List.getElem_cons_zero, List.setIfInBounds_toArray, List.set_cons_zero, List.set_cons_succ]
              refine' wpAnyH_take (i := 6) (v := ?vr1_6) rfl (by kernel_rfl) (by kernel_rfl) (by kernel_rfl) (fun _ _ _ h => h) (Or.inl ⟨by rfl, ?hyr1_6⟩) (by assumption) ?restr1_6
              case hyr1_6 => (intro w hSw; (try dsimp only at hSw); go_simp; try (with_reducible rfl))
              simp only [Act.put, List.getElem_toArray, List.getElem_cons_succ, List.getElem_cons_zero, List.setIfInBounds_toArray, List.set_cons_zero, List.set_cons_succ]
              refine wpAnyH_ready (rs := [3]) (by kernel_rfl) (by simp) ?_
              refine AllReadyH.cons rfl (fun K hK => ?_) AllReadyH.nil
              go_simp
              refine (find_any As m cst st x.frm (a : Int) _ (by omega) B (Lib.hid (HS1.out.below hHeld.2)) HFA (Lib.hid hso.out.1)).mono ?_
              rintro e w1 ⟨rfl, rfl⟩
              refine hK.out _ _ (hHeld) (fun hHeld1 => ?_)
              clear hK K hHeld
              have hHeld := hHeld1
              clear hHeld1
              try simp only [Act.put, List.getElem_toArray, List.getElem_cons_succ, List.getElem_cons_zero, List.setIfInBounds_toArray, List.set_cons_zero, List.set_cons_succ]
              refine wpAnyH_ready (rs := [7]) (by kernel_rfl) (by simp) ?_
              refine AllReadyH.cons rfl (fun K hK => ?_) AllReadyH.nil
              go_simp
              refine (find_any As m cst st x.to_ (b : Int) _ (by omega) B (Lib.hid (HS1.out.below hHeld.2)) HFB (Lib.hid hso.out.1)).mono ?_
              rintro e w1 ⟨rfl, rfl⟩
              refine hK.out _ _ (hHeld) (fun hHeld1 => ?_)
              clear hK K hHeld
              have hHeld := hHeld1
              clear hHeld1
              try simp only [Act.put, List.getElem_toArray, List.getElem_cons_succ, List.getElem_cons_zero, List.setIfInBounds_toArray, List.set_cons_zero, List.set_cons_succ]
              refine' wpAnyH_take (i := 8) (v := ?vr1_8) rfl (by kernel_rfl) (by kernel_rfl) (by kernel_rfl) (fun _ _ _ h => h) (Or.inl ⟨by rfl, ?hyr1_8⟩) (by assumption) ?restr1_8
              case hyr1_8 => (intro w hSw; (try dsimp only at hSw); go_simp; try (with_reducible rfl))
              simp only [Act.put, List.getElem_toArray, List.getElem_cons_succ, List.getElem_cons_zero, List.setIfInBounds_toArray, List.set_cons_zero, List.set_cons_succ]
              refine' wpAnyH_take (i := 9) (v := ?vr1_9) rfl (by kernel_rfl) (by kernel_rfl) (by kernel_rfl) (fun _ _ _ h => h) (Or.inl ⟨by rfl, ?hyr1_9⟩) (by assumption) ?restr1_9
              case hyr1_9 => (intro w hSw; (try dsimp only at hSw); go_simp; try (with_reducible rfl))
              simp only [Act.put, List.getElem_toArray, List.getElem_cons_succ, List.getElem_cons_zero, List.setIfInBounds_toArray, List.set_cons_zero, List.set_cons_succ]
              refine wpAnyH_done (by kernel_rfl) ?_ _
              obtain ⟨WA, HWA⟩ : ∃ W, Hid (W0.drew = W) := ⟨_, Lib.hid rfl⟩
              have HMA := Lib.hid (HMS1.out.step (Below.refl _ _).drew)
              have HKA := Lib.hid (HK1.out.drew)
              rw [HWA.out] at HMA HKA ⊢
              clear hHeld HMS1 HK1 y0 y1 HWA
              go_upto_region 14 with fail
              obtain ⟨ra, fa, la⟩ := HMA.out.row ha
              obtain ⟨g1, rfl, -, lg1, tops, -⟩ := HMA.out.1.top ha

              have ta := tops a ha
              have d1 := ra a ha
              have z1 : (M) a a = M a a := by rfl
              try rw [z1] at d1
              have f1 := fa a
              have mb := HMB.out a a
              have x1 : IntKind.i64.wrap (M a a + 1) = M a a + 1 := IntWalk.i64_in _ (by omega)
              have HM1 := Lib.hid ((HMA.out.setM ha ha (M a a + 1)).step (Below.refl _ _).drew)
              have HK1 := Lib.hid (Blk.drew (HKA.out.far (p := ⟨P a, a, none⟩) (Blk.ne_ HKA.out (HMA.out.1.2.1 a ha).1 (by decide)) (.int .i64 (M a a + 1))))
              obtain ⟨W1, HW1⟩ : ∃ W, Hid ((WA.setCell ⟨P a, a, none⟩ (.int .i64 (M a a + 1))).drew = W) := ⟨_, Lib.hid rfl⟩
              clear ra fa tops z1 mb
              refine wp_region_still_tail 14 (by kernel_rfl) (by kernel_rfl) ?_
              simp only [List.take_succ_cons, List.take_zero, List.drop_succ_cons, List.drop_zero]
              repeat still_step
              refine wpStill_nil ?_
              change wpList _ _ _ _ _ WA.drew
              clear HMA HKA
              go_upto_region 16 with fail
              rw [HW1.out] at HM1 HK1 ⊢
              clear HW1
              obtain ⟨ra, fa, la⟩ := HM1.out.row hb
              obtain ⟨g9, eg, -, lg9, tops, -⟩ := HM1.out.1.top hb
              obtain rfl : g1 = g9 := by injection eg with eg; injection eg
              clear eg

              have ta := tops b hb
              have d1 := ra b hb
              have z1 : (upd2 M a a (M a a + 1)) b b = M b b := by (simp only [upd2_at]; simp [hab, hba])
              try rw [z1] at d1
              have f1 := fa b
              have mb := HMB.out b b
              have x1 : IntKind.i64.wrap (M b b + 1) = M b b + 1 := IntWalk.i64_in _ (by omega)
              have HM2 := Lib.hid ((HM1.out.setM hb hb (M b b + 1)).step (Below.refl _ _).drew)
              have HK2 := Lib.hid (Blk.drew (HK1.out.far (p := ⟨P b, b, none⟩) (Blk.ne_ HK1.out (HM1.out.1.2.1 b hb).1 (by decide)) (.int .i64 (M b b + 1))))
              obtain ⟨W2, HW2⟩ : ∃ W, Hid ((W1.setCell ⟨P b, b, none⟩ (.int .i64 (M b b + 1))).drew = W) := ⟨_, Lib.hid rfl⟩
              clear ra fa tops z1 mb
              refine wp_region_still_tail 14 (by kernel_rfl) (by kernel_rfl) ?_
              simp only [List.take_succ_cons, List.take_zero, List.drop_succ_cons, List.drop_zero]
              repeat still_step
              refine wpStill_nil ?_
              change wpList _ _ _ _ _ W1.drew
              clear HM1 HK1
              go_upto_region 18 with fail
              rw [HW2.out] at HM2 HK2 ⊢
              clear HW2
              obtain ⟨ra, fa, la⟩ := HM2.out.row ha
              obtain ⟨g9, eg, -, lg9, tops, -⟩ := HM2.out.1.top ha
              obtain rfl : g1 = g9 := by injection eg with eg; injection eg
              clear eg

              have ta := tops a ha
              have d1 := ra b hb
              have z1 : (upd2 (upd2 M a a (M a a + 1)) b b (M b b + 1)) a b = M a b := by (simp only [upd2_at]; simp [hab, hba])
              try rw [z1] at d1
              have f1 := fa b
              have mb := HMB.out a b
              have x1 : IntKind.i64.wrap (M a b - 1) = M a b - 1 := IntWalk.i64_in _ (by omega)
              have HM3 := Lib.hid ((HM2.out.setM ha hb (M a b - 1)).step (Below.refl _ _).drew)
              have HK3 := Lib.hid (Blk.drew (HK2.out.far (p := ⟨P a, b, none⟩) (Blk.ne_ HK2.out (HM2.out.1.2.1 a ha).1 (by decide)) (.int .i64 (M a b - 1))))
              obtain ⟨W3, HW3⟩ : ∃ W, Hid ((W2.setCell ⟨P a, b, none⟩ (.int .i64 (M a b - 1))).drew = W) := ⟨_, Lib.hid rfl⟩
              clear ra fa tops z1 mb
              refine wp_region_still_tail 14 (by kernel_rfl) (by kernel_rfl) ?_
              simp only [List.take_succ_cons, List.take_zero, List.drop_succ_cons, List.drop_zero]
              repeat still_step
              refine wpStill_nil ?_
              change wpList _ _ _ _ _ W2.drew
              clear HM2 HK2
              go_upto_region 19 with fail
              rw [HW3.out] at HM3 HK3 ⊢
              clear HW3
              obtain ⟨ra, fa, la⟩ := HM3.out.row hb
              obtain ⟨g9, eg, -, lg9, tops, -⟩ := HM3.out.1.top hb
              obtain rfl : g1 = g9 := by injection eg with eg; injection eg
              clear eg

              have ta := tops b hb
              have d1 := ra a ha
              have z1 : (upd2 (upd2 (upd2 M a a (M a a + 1)) b b (M b b + 1)) a b (M a b - 1)) b a = M b a := by (simp only [upd2_at]; simp [hab, hba])
              try rw [z1] at d1
              have f1 := fa a
              have mb := HMB.out b a
              have x1 : IntKind.i64.wrap (M b a - 1) = M b a - 1 := IntWalk.i64_in _ (by omega)
              have HM4 := Lib.hid ((HM3.out.setM hb ha (M b a - 1)).step (Below.refl _ _).drew)
              have HK4 := Lib.hid (Blk.drew (HK3.out.far (p := ⟨P b, a, none⟩) (Blk.ne_ HK3.out (HM3.out.1.2.1 b hb).1 (by decide)) (.int .i64 (M b a - 1))))
              obtain ⟨W4, HW4⟩ : ∃ W, Hid ((W3.setCell ⟨P b, a, none⟩ (.int .i64 (M b a - 1))).drew = W) := ⟨_, Lib.hid rfl⟩
              clear ra fa tops z1 mb
              refine wp_region_still_tail 14 (by kernel_rfl) (by kernel_rfl) ?_
              simp only [List.take_succ_cons, List.take_zero, List.drop_succ_cons, List.drop_zero]
              repeat still_step
              refine wpStill_nil ?_
              change wpList _ _ _ _ _ W3.drew
              clear HM3 HK3
              have HFN := Lib.hid (HM4.out.congr (N := fun i j => AA (eds ts 0 (U.take (k + 1))) (sAt st i) (sAt st j)) (s := fun _ => 0) (fun i hi9 j hj9 => by
                show _ = AA (eds ts 0 (U.take (k + 1))) (sAt st i) (sAt st j)
                rw [HNX.out i j]
                exact add_both hso.out HED.out.2.2.1 (by rw [hst.out.1]; exact ha) (by rw [hst.out.1]; exact hb) HEA.out HEB.out (M := M) (by rw [hst.out.1]; exact hi9) (by rw [hst.out.1]; exact hj9)) (fun i _ => (HNR.out i).symm))
              clear HK4
              go_wp2_with fail
              go_roundw
              case rel => exact ⟨k + 1, by omega, by go_num, by exact HFN.out⟩
              case measure => simp [intOf]; omega
            · obtain ⟨a, ha0⟩ := List.getElem?_of_mem hfa
              have ha : a < m := by have := lt_at ha0; rw [hst.out.1] at this; exact this
              have HEA := Lib.hid (show sAt st a = (edOf 0 x).f from sAt_is ha0)
              have HFA := Lib.hid (show Fnd st x.frm (a : Int) from .inr ⟨a, rfl, ha0⟩)
              have hai : (a : Int) < (m : Int) := by omega
              have hap : (0 : Int) ≤ (a : Int) := by omega
              clear ha0
              have HEB := Lib.hid (show ∀ i, i < st.length → sAt st i ≠ (edOf 0 x).t from fun i hi9 => sAt_ne hso.out hfb hto.1 hi9)
              have HFB := Lib.hid (show Fnd st x.to_ (-1) from .inl ⟨rfl, hfb⟩)
              clear hfa hfb hne hfr hto hinx
              refine wp_region_held_drew (S := (fun v => (∀ b o, b < B → v.cell? ⟨b, o, none⟩ = W0.cell? ⟨b, o, none⟩) ∧ Below B W0 v)) (by kernel_rfl) ?_ (fun hHeld => ?_)
              · exact sb_start (Below.refl _ _)
              refine' wpAnyH_take (i := 0) (v := ?vr2_0) rfl (by kernel_rfl) (by kernel_rfl) (by kernel_rfl) (fun _ _ _ h => h) (Or.inl ⟨by rfl, ?hyr2_0⟩) (by assumption) ?restr2_0
              case hyr2_0 => (intro w hSw; (try dsimp only at hSw); go_simp; try (with_reducible rfl))
              simp only [Act.put, List.getElem_toArray, List.getElem_cons_succ, List.getElem_cons_zero, List.setIfInBounds_toArray, List.set_cons_zero, List.set_cons_succ]
              refine' wpAnyH_take (i := 1) (v := ?vr2_1) rfl (by kernel_rfl) (by kernel_rfl) (by kernel_rfl) (fun _ _ _ h => h) (Or.inl ⟨by rfl, ?hyr2_1⟩) (by assumption) ?restr2_1
              case hyr2_1 => (intro w hSw; (try dsimp only at hSw); go_simp; try (with_reducible rfl))
              simp only [Act.put, List.getElem_toArray, List.getElem_cons_succ, List.getElem_cons_zero, List.setIfInBounds_toArray, List.set_cons_zero, List.set_cons_succ]
              refine' wpAnyH_take (i := 2) (v := ?vr2_2) rfl (by kernel_rfl) (by kernel_rfl) (by kernel_rfl) (fun _ _ _ h => h) (Or.inl ⟨by rfl, ?hyr2_2⟩) (by assumption) ?restr2_2
              case hyr2_2 => (intro w hSw; (try dsimp only at hSw); go_simp; try (with_reducible rfl))
              simp only [Act.put, List.getElem_toArray, List.getElem_cons_succ, List.getElem_cons_zero, List.setIfInBounds_toArray, List.set_cons_zero, List.set_cons_succ]
              refine' wpAnyH_take (i := 4) (v := ?vr2_4) rfl (by kernel_rfl) (by kernel_rfl) (by kernel_rfl) (fun _ _ _ h => h) (Or.inl ⟨by rfl, ?hyr2_4⟩) (by assumption) ?restr2_4
              case hyr2_4 => (intro w hSw; (try dsimp only at hSw); go_simp; try (with_reducible rfl))
              simp only [Act.put, List.getElem_toArray, List.getElem_cons_succ, List.getElem_cons_zero, List.setIfInBounds_toArray, List.set_cons_zero, List.set_cons_succ]
              refine' wpAnyH_take (i := 5) (v := ?vr2_5) rfl (by kernel_rfl) (by kernel_rfl) (by kernel_rfl) (fun _ _ _ h => h) (Or.inl ⟨by rfl, ?hyr2_5⟩) (by assumption) ?restr2_5
              case hyr2_5 => (intro w hSw; (try dsimp only at hSw); go_simp; try (with_reducible rfl))
              simp only [Act.put, List.getElem_toArray, List.getElem_cons_succ, List.getElem_cons_zero, List.setIfInBounds_toArray, List.set_cons_zero, List.set_cons_succ]
              refine' wpAnyH_take (i := 6) (v := ?vr2_6) rfl (by kernel_rfl) (by kernel_rfl) (by kernel_rfl) (fun _ _ _ h => h) (Or.inl ⟨by rfl, ?hyr2_6⟩) (by assumption) ?restr2_6
              case hyr2_6 => (intro w hSw; (try dsimp only at hSw); go_simp; try (with_reducible rfl))
              simp only [Act.put, List.getElem_toArray, List.getElem_cons_succ, List.getElem_cons_zero, List.setIfInBounds_toArray, List.set_cons_zero, List.set_cons_succ]
              refine wpAnyH_ready (rs := [3]) (by kernel_rfl) (by simp) ?_
              refine AllReadyH.cons rfl (fun K hK => ?_) AllReadyH.nil
              go_simp
              refine (find_any As m cst st x.frm (a : Int) _ (by omega) B (Lib.hid (HS1.out.below hHeld.2)) HFA (Lib.hid hso.out.1)).mono ?_
              rintro e w1 ⟨rfl, rfl⟩
              refine hK.out _ _ (hHeld) (fun hHeld1 => ?_)
              clear hK K hHeld
              have hHeld := hHeld1
              clear hHeld1
              try simp only [Act.put, List.getElem_toArray, List.getElem_cons_succ, List.getElem_cons_zero, List.setIfInBounds_toArray, List.set_cons_zero, List.set_cons_succ]
              refine wpAnyH_ready (rs := [7]) (by kernel_rfl) (by simp) ?_
              refine AllReadyH.cons rfl (fun K hK => ?_) AllReadyH.nil
              go_simp
              refine (find_any As m cst st x.to_ (-1) _ (by omega) B (Lib.hid (HS1.out.below hHeld.2)) HFB (Lib.hid hso.out.1)).mono ?_
              rintro e w1 ⟨rfl, rfl⟩
              refine hK.out _ _ (hHeld) (fun hHeld1 => ?_)
              clear hK K hHeld
              have hHeld := hHeld1
              clear hHeld1
              try simp only [Act.put, List.getElem_toArray, List.getElem_cons_succ, List.getElem_cons_zero, List.setIfInBounds_toArray, List.set_cons_zero, List.set_cons_succ]
              refine' wpAnyH_take (i := 8) (v := ?vr2_8) rfl (by kernel_rfl) (by kernel_rfl) (by kernel_rfl) (fun _ _ _ h => h) (Or.inl ⟨by rfl, ?hyr2_8⟩) (by assumption) ?restr2_8
              case hyr2_8 => (intro w hSw; (try dsimp only at hSw); go_simp; try (with_reducible rfl))
              simp only [Act.put, List.getElem_toArray, List.getElem_cons_succ, List.getElem_cons_zero, List.setIfInBounds_toArray, List.set_cons_zero, List.set_cons_succ]
              refine' wpAnyH_take (i := 9) (v := ?vr2_9) rfl (by kernel_rfl) (by kernel_rfl) (by kernel_rfl) (fun _ _ _ h => h) (Or.inl ⟨by rfl, ?hyr2_9⟩) (by assumption) ?restr2_9
              case hyr2_9 => (intro w hSw; (try dsimp only at hSw); go_simp; try (with_reducible rfl))
              simp only [Act.put, List.getElem_toArray, List.getElem_cons_succ, List.getElem_cons_zero, List.setIfInBounds_toArray, List.set_cons_zero, List.set_cons_succ]
              refine wpAnyH_done (by kernel_rfl) ?_ _
              obtain ⟨WA, HWA⟩ : ∃ W, Hid (W0.drew = W) := ⟨_, Lib.hid rfl⟩
              have HMA := Lib.hid (HMS1.out.step (Below.refl _ _).drew)
              have HKA := Lib.hid (HK1.out.drew)
              rw [HWA.out] at HMA HKA ⊢
              clear hHeld HMS1 HK1 y0 y1 HWA
              go_upto_region 14 with fail
              obtain ⟨ra, fa, la⟩ := HMA.out.row ha
              obtain ⟨g1, rfl, -, lg1, tops, -⟩ := HMA.out.1.top ha

              have ta := tops a ha
              have d1 := ra a ha
              have z1 : (M) a a = M a a := by rfl
              try rw [z1] at d1
              have f1 := fa a
              have mb := HMB.out a a
              have x1 : IntKind.i64.wrap (M a a + 1) = M a a + 1 := IntWalk.i64_in _ (by omega)
              have HM1 := Lib.hid ((HMA.out.setM ha ha (M a a + 1)).step (Below.refl _ _).drew)
              have HK1 := Lib.hid (Blk.drew (HKA.out.far (p := ⟨P a, a, none⟩) (Blk.ne_ HKA.out (HMA.out.1.2.1 a ha).1 (by decide)) (.int .i64 (M a a + 1))))
              obtain ⟨W1, HW1⟩ : ∃ W, Hid ((WA.setCell ⟨P a, a, none⟩ (.int .i64 (M a a + 1))).drew = W) := ⟨_, Lib.hid rfl⟩
              clear ra fa tops z1 mb
              refine wp_region_still_tail 14 (by kernel_rfl) (by kernel_rfl) ?_
              simp only [List.take_succ_cons, List.take_zero, List.drop_succ_cons, List.drop_zero]
              repeat still_step
              refine wpStill_nil ?_
              change wpList _ _ _ _ _ WA.drew
              clear HMA HKA
              have HFN := Lib.hid (HM1.out.congr (N := fun i j => AA (eds ts 0 (U.take (k + 1))) (sAt st i) (sAt st j)) (s := fun _ => 0) (fun i hi9 j hj9 => by
                show _ = AA (eds ts 0 (U.take (k + 1))) (sAt st i) (sAt st j)
                rw [HNX.out i j]
                exact add_from hso.out (by rw [hst.out.1]; exact ha) HEA.out HEB.out (M := M) (by rw [hst.out.1]; exact hi9) (by rw [hst.out.1]; exact hj9)) (fun i _ => (HNR.out i).symm))
              clear HK1
              go_wp2_with fail
              go_roundw
              case rel => exact ⟨k + 1, by omega, by go_num, by exact HFN.out⟩
              case measure => simp [intOf]; omega
          · by_cases hfb : x.to_ ∈ st
            · have HEA := Lib.hid (show ∀ i, i < st.length → sAt st i ≠ (edOf 0 x).f from fun i hi9 => sAt_ne hso.out hfa hfr.1 hi9)
              have HFA := Lib.hid (show Fnd st x.frm (-1) from .inl ⟨rfl, hfa⟩)
              obtain ⟨b, hb0⟩ := List.getElem?_of_mem hfb
              have hb : b < m := by have := lt_at hb0; rw [hst.out.1] at this; exact this
              have HEB := Lib.hid (show sAt st b = (edOf 0 x).t from sAt_is hb0)
              have HFB := Lib.hid (show Fnd st x.to_ (b : Int) from .inr ⟨b, rfl, hb0⟩)
              have hbi : (b : Int) < (m : Int) := by omega
              have hbp : (0 : Int) ≤ (b : Int) := by omega
              clear hb0
              clear hfa hfb hne hfr hto hinx
              refine wp_region_held_drew (S := (fun v => (∀ b o, b < B → v.cell? ⟨b, o, none⟩ = W0.cell? ⟨b, o, none⟩) ∧ Below B W0 v)) (by kernel_rfl) ?_ (fun hHeld => ?_)
              · exact sb_start (Below.refl _ _)
              refine' wpAnyH_take (i := 0) (v := ?vr3_0) rfl (by kernel_rfl) (by kernel_rfl) (by kernel_rfl) (fun _ _ _ h => h) (Or.inl ⟨by rfl, ?hyr3_0⟩) (by assumption) ?restr3_0
              case hyr3_0 => (intro w hSw; (try dsimp only at hSw); go_simp; try (with_reducible rfl))
              simp only [Act.put, List.getElem_toArray, List.getElem_cons_succ, List.getElem_cons_zero, List.setIfInBounds_toArray, List.set_cons_zero, List.set_cons_succ]
              refine' wpAnyH_take (i := 1) (v := ?vr3_1) rfl (by kernel_rfl) (by kernel_rfl) (by kernel_rfl) (fun _ _ _ h => h) (Or.inl ⟨by rfl, ?hyr3_1⟩) (by assumption) ?restr3_1
              case hyr3_1 => (intro w hSw; (try dsimp only at hSw); go_simp; try (with_reducible rfl))
              simp only [Act.put, List.getElem_toArray, List.getElem_cons_succ, List.getElem_cons_zero, List.setIfInBounds_toArray, List.set_cons_zero, List.set_cons_succ]
              refine' wpAnyH_take (i := 2) (v := ?vr3_2) rfl (by kernel_rfl) (by kernel_rfl) (by kernel_rfl) (fun _ _ _ h => h) (Or.inl ⟨by rfl, ?hyr3_2⟩) (by assumption) ?restr3_2
              case hyr3_2 => (intro w hSw; (try dsimp only at hSw); go_simp; try (with_reducible rfl))
              simp only [Act.put, List.getElem_toArray, List.getElem_cons_succ, List.getElem_cons_zero, List.setIfInBounds_toArray, List.set_cons_zero, List.set_cons_succ]
              refine' wpAnyH_take (i := 4) (v := ?vr3_4) rfl (by kernel_rfl) (by kernel_rfl) (by kernel_rfl) (fun _ _ _ h => h) (Or.inl ⟨by rfl, ?hyr3_4⟩) (by assumption) ?restr3_4
              case hyr3_4 => (intro w hSw; (try dsimp only at hSw); go_simp; try (with_reducible rfl))
              simp only [Act.put, List.getElem_toArray, List.getElem_cons_succ, List.getElem_cons_zero, List.setIfInBounds_toArray, List.set_cons_zero, List.set_cons_succ]
              refine' wpAnyH_take (i := 5) (v := ?vr3_5) rfl (by kernel_rfl) (by kernel_rfl) (by kernel_rfl) (fun _ _ _ h => h) (Or.inl ⟨by rfl, ?hyr3_5⟩) (by assumption) ?restr3_5
              case hyr3_5 => (intro w hSw; (try dsimp only at hSw); go_simp; try (with_reducible rfl))
              simp only [Act.put, List.getElem_toArray, List.getElem_cons_succ, List.getElem_cons_zero, List.setIfInBounds_toArray, List.set_cons_zero, List.set_cons_succ]
              refine' wpAnyH_take (i := 6) (v := ?vr3_6) rfl (by kernel_rfl) (by kernel_rfl) (by kernel_rfl) (fun _ _ _ h => h) (Or.inl ⟨by rfl, ?hyr3_6⟩) (by assumption) ?restr3_6
              case hyr3_6 => (intro w hSw; (try dsimp only at hSw); go_simp; try (with_reducible rfl))
              simp only [Act.put, List.getElem_toArray, List.getElem_cons_succ, List.getElem_cons_zero, List.setIfInBounds_toArray, List.set_cons_zero, List.set_cons_succ]
              refine wpAnyH_ready (rs := [3]) (by kernel_rfl) (by simp) ?_
              refine AllReadyH.cons rfl (fun K hK => ?_) AllReadyH.nil
              go_simp
              refine (find_any As m cst st x.frm (-1) _ (by omega) B (Lib.hid (HS1.out.below hHeld.2)) HFA (Lib.hid hso.out.1)).mono ?_
              rintro e w1 ⟨rfl, rfl⟩
              refine hK.out _ _ (hHeld) (fun hHeld1 => ?_)
              clear hK K hHeld
              have hHeld := hHeld1
              clear hHeld1
              try simp only [Act.put, List.getElem_toArray, List.getElem_cons_succ, List.getElem_cons_zero, List.setIfInBounds_toArray, List.set_cons_zero, List.set_cons_succ]
              refine wpAnyH_ready (rs := [7]) (by kernel_rfl) (by simp) ?_
              refine AllReadyH.cons rfl (fun K hK => ?_) AllReadyH.nil
              go_simp
              refine (find_any As m cst st x.to_ (b : Int) _ (by omega) B (Lib.hid (HS1.out.below hHeld.2)) HFB (Lib.hid hso.out.1)).mono ?_
              rintro e w1 ⟨rfl, rfl⟩
              refine hK.out _ _ (hHeld) (fun hHeld1 => ?_)
              clear hK K hHeld
              have hHeld := hHeld1
              clear hHeld1
              try simp only [Act.put, List.getElem_toArray, List.getElem_cons_succ, List.getElem_cons_zero, List.setIfInBounds_toArray, List.set_cons_zero, List.set_cons_succ]
              refine' wpAnyH_take (i := 8) (v := ?vr3_8) rfl (by kernel_rfl) (by kernel_rfl) (by kernel_rfl) (fun _ _ _ h => h) (Or.inl ⟨by rfl, ?hyr3_8⟩) (by assumption) ?restr3_8
              case hyr3_8 => (intro w hSw; (try dsimp only at hSw); go_simp; try (with_reducible rfl))
              simp only [Act.put, List.getElem_toArray, List.getElem_cons_succ, List.getElem_cons_zero, List.setIfInBounds_toArray, List.set_cons_zero, List.set_cons_succ]
              refine' wpAnyH_take (i := 9) (v := ?vr3_9) rfl (by kernel_rfl) (by kernel_rfl) (by kernel_rfl) (fun _ _ _ h => h) (Or.inl ⟨by rfl, ?hyr3_9⟩) (by assumption) ?restr3_9
              case hyr3_9 => (intro w hSw; (try dsimp only at hSw); go_simp; try (with_reducible rfl))
              simp only [Act.put, List.getElem_toArray, List.getElem_cons_succ, List.getElem_cons_zero, List.setIfInBounds_toArray, List.set_cons_zero, List.set_cons_succ]
              refine wpAnyH_done (by kernel_rfl) ?_ _
              obtain ⟨WA, HWA⟩ : ∃ W, Hid (W0.drew = W) := ⟨_, Lib.hid rfl⟩
              have HMA := Lib.hid (HMS1.out.step (Below.refl _ _).drew)
              have HKA := Lib.hid (HK1.out.drew)
              rw [HWA.out] at HMA HKA ⊢
              clear hHeld HMS1 HK1 y0 y1 HWA
              go_upto_region 16 with fail
              obtain ⟨ra, fa, la⟩ := HMA.out.row hb
              obtain ⟨g1, rfl, -, lg1, tops, -⟩ := HMA.out.1.top hb

              have ta := tops b hb
              have d1 := ra b hb
              have z1 : (M) b b = M b b := by rfl
              try rw [z1] at d1
              have f1 := fa b
              have mb := HMB.out b b
              have x1 : IntKind.i64.wrap (M b b + 1) = M b b + 1 := IntWalk.i64_in _ (by omega)
              have HM1 := Lib.hid ((HMA.out.setM hb hb (M b b + 1)).step (Below.refl _ _).drew)
              have HK1 := Lib.hid (Blk.drew (HKA.out.far (p := ⟨P b, b, none⟩) (Blk.ne_ HKA.out (HMA.out.1.2.1 b hb).1 (by decide)) (.int .i64 (M b b + 1))))
              obtain ⟨W1, HW1⟩ : ∃ W, Hid ((WA.setCell ⟨P b, b, none⟩ (.int .i64 (M b b + 1))).drew = W) := ⟨_, Lib.hid rfl⟩
              clear ra fa tops z1 mb
              refine wp_region_still_tail 14 (by kernel_rfl) (by kernel_rfl) ?_
              simp only [List.take_succ_cons, List.take_zero, List.drop_succ_cons, List.drop_zero]
              repeat still_step
              refine wpStill_nil ?_
              change wpList _ _ _ _ _ WA.drew
              clear HMA HKA
              have HFN := Lib.hid (HM1.out.congr (N := fun i j => AA (eds ts 0 (U.take (k + 1))) (sAt st i) (sAt st j)) (s := fun _ => 0) (fun i hi9 j hj9 => by
                show _ = AA (eds ts 0 (U.take (k + 1))) (sAt st i) (sAt st j)
                rw [HNX.out i j]
                exact add_to hso.out (by rw [hst.out.1]; exact hb) HEB.out HEA.out (M := M) (by rw [hst.out.1]; exact hi9) (by rw [hst.out.1]; exact hj9)) (fun i _ => (HNR.out i).symm))
              clear HK1
              go_wp2_with fail
              go_roundw
              case rel => exact ⟨k + 1, by omega, by go_num, by exact HFN.out⟩
              case measure => simp [intOf]; omega
            · exact absurd ((hinx.1.resolve_left hfa).trans (hinx.2.resolve_left hfb).symm) hne
        · have hkd : decide (k < nu) = false := by simpa using hlt
          obtain rfl : k = nu := by omega
          have HTK := Lib.hid (show U.take k = U by rw [← HNU.out, List.take_length])
          rw [HTK.out] at HMSQ
          clear hlt
          go_wp2_with fail
          go_loop [17] (fun i => i = .int .i64 0) (fun _ => 0)
          case atStart => rfl
          case round =>
            obtain rfl := hrel
            by_cases hm0 : 0 < m
            · have hmd : decide (0 < m) = true := by simpa using hm0
              go_wp2_with fail
              go_ret
              exact ⟨A1, c, P, rfl, HMSQ.out.1, HMSQ.out.2.2.2.1⟩
            · have hmd : decide (0 < m) = false := by simpa using hm0
              go_wp2_with fail
              go_ret
              exact ⟨A1, c, P, rfl, HMSQ.out.1, HMSQ.out.2.2.2.1⟩

end Go.Proofs.YtnpghhpcloljeabGreatDoor.ml
