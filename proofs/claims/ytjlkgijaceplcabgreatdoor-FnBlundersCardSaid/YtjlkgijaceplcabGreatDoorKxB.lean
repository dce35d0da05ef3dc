/-
  FnBlunders: the law's walk.
  Conditions: the code has at most 65536 bytes; the variable holds the table of the sines.
-/
import Derived.Test.YtjlkgijaceplcabGreatDoorKzA
import Derived.Test.YtjlkgijaceplcabGreatDoorDzN
import Derived.Deep.RegionHeld3
import Derived.OwnWalk
namespace Go.Proofs.YtjlkgijaceplcabGreatDoor.kxb
open Go.RowKit
open reads base ty win lg rowi hs nt nq ml lp bl nw
set_option linter.unusedVariables false
set_option linter.unusedSimpArgs false

set_option maxHeartbeats 16000000 in
set_option maxRecDepth 100000 in
theorem walk (A : Option Addr) (n cap : Nat) (zs : List UInt8) (w : World) (hn : n ≤ 65536) (hS : Hid (St w A n zs w)) :
    Calls Tryz.prog 5 #[.slice A n cap] w (LawPost w) := by
  have HB := Lib.hid (vs.big_no A n cap w hn)
  clear hn
  go_enter Tryz.func5, Tryz.ntmps5
  go_wp2_with fail
  refine HB.out.mono ?_
  rintro e w' ⟨rfl, rfl⟩
  clear HB
  go_wp2_with fail
  refine (dcv.without_draw A n cap zs _ (Lib.hid hS.out.2.1)).mono ?_
  rintro e W1 ⟨v1, t1, q1, rfl, ho, hl1, ⟨q1a, q1b⟩, b⟩
  obtain ⟨L1, HL1⟩ : ∃ L, Hid (t1.length = L) := ⟨_, Lib.hid rfl⟩
  rw [HL1.out] at ho hl1
  obtain ⟨A1, c1, rfl⟩ := base.row_slice ho
  have HR1 := Lib.hid ho
  clear ho
  have H1 := Lib.hid (show St w A n zs W1 from hS.out.step b)
  clear b hS
  obtain ⟨sa, sd, ok1, hX, hO⟩ := sw_form t1 q1
  have HX := Lib.hid hX
  have HO := Lib.hid hO
  clear hX hO
  go_wp2_with fail
  refine (sw_i HX (by omega) (nw.own_cap HR1.out) (Lib.hid (own_Lg HL1.out HR1.out)) (Lib.hid H1.out.2.2)).mono ?_
  rintro e W2 ⟨rfl, b⟩
  have H2 := Lib.hid (show St w A n zs W2 from H1.out.step b)
  have H3 := Lib.hid (show W2.ownsRow (w.heap.size) 87 5 (.slice A1 L1 c1) L1 (flatLg t1) from row_below HR1.out b)
  clear b H1 HR1
  go_wp2_with fail
  refine (sw_m HX (by omega) (nw.own_cap H3.out) (Lib.hid (own_Lg HL1.out H3.out))).mono ?_
  rintro e W3 ⟨rfl, b⟩
  have H4 := Lib.hid (show St w A n zs W3 from H2.out.step b)
  have H5 := Lib.hid (show W3.ownsRow (w.heap.size) 87 5 (.slice A1 L1 c1) L1 (flatLg t1) from row_below H3.out b)
  clear b H2 H3
  go_upto_if 78 with fail
  go_cut [11] (fun _ wx => St w A n zs wx)
  case first => as_aux_lemma =>
    cases ok1
    · go_wp2_with fail
      go_meet
      case rel => exact H4.out
    · obtain ⟨j, x, jb, y, s1, s2, ej, hx, hg, hy, h1, h2, h3, h4, h5, h6⟩ := sw_all HX.out HO.out
      subst ej
      have HXJ := Lib.hid hx
      have HYJ := Lib.hid hy
      have HG1 := Lib.hid hg
      have HC1 := Lib.hid h1
      have HS1 := Lib.hid h3
      have HU1 := Lib.hid h4
      have HC2 := Lib.hid h5
      clear hx hy hg h1 h3 h4 h5 HX HO
      obtain ⟨us, HUSus⟩ : ∃ q, Hid (less t1 j = q) := ⟨_, Lib.hid rfl⟩
      obtain ⟨m1, HMus⟩ : ∃ q, Hid (us.length = q) := ⟨_, Lib.hid rfl⟩
      have hjnus : j < L1 := by have := lt_at HXJ.out; rw [HL1.out] at this; exact this
      have HMMus := Lib.hid (show m1 = L1 - 1 by rw [← HMus.out, ← HUSus.out]; exact less_len HL1.out hjnus)
      have hmlus : m1 ≤ 2000000 := by have := HMMus.out; omega
      have hcapus : L1 ≤ c1 := (nw.own_cap H5.out)
      obtain ⟨gLus, rfl⟩ := lg_addr (own_Lg HL1.out H5.out) HXJ.out
      have HTS := Lib.hid (own_Lg HL1.out H5.out)
      have HBWus : w.heap.size ≤ W3.heap.size := H4.out.1.size
      go_upto_region 9 with fail
      go_cut [11] (fun v wx => ∃ (A3 : Option Addr) (c3 : Nat), v = .slice A3 m1 c3 ∧ St w A n zs wx ∧ wx.ownsRow (w.heap.size) 87 5 (.slice (some ⟨gLus, 0, none⟩) L1 c1) L1 (flatLg t1) ∧ wx.ownsRow w.heap.size 87 5 (.slice A3 m1 c3) m1 (flatLg us) ∧ Below W3.heap.size W3 wx)
      case first => as_aux_lemma =>
        rename_i J0 K0 hJ0 hK0
        have HTK := Lib.hid (fun (v : World) (hv : Below W3.heap.size W3 v) => flat_take (HTS.out.below hv) j)
        obtain ⟨AD, HAD⟩ : ∃ q : Addr, Hid (q = if (c1 : Int) = (j : Int) + 1 then ⟨gLus, 0, none⟩ else ⟨gLus, (j + 1) * 5, none⟩) := ⟨_, Lib.hid rfl⟩
        have HDK := Lib.hid (fun (v : World) (hv : Below W3.heap.size W3 v) => show ∀ (q : Nat) u, (flatLg (t1.drop (j + 1)))[q]? = some u → v.cell? (AD.add q) = some u from fun q u hu => by
          rw [HAD.out]
          by_cases hcj : (c1 : Int) = (j : Int) + 1
          · rw [List.drop_of_length_le (by rw [HL1.out]; omega)] at hu; simp [flatLg] at hu
          · rw [if_neg hcj]; exact flat_drop (HTS.out.below hv) (j + 1) (by omega) q u hu)
        have hji : (j : Int) < (L1 : Int) := by omega
        have hj0 : (0 : Int) ≤ (j : Int) := by omega
        have hjc : (j : Int) ≤ (c1 : Int) := by omega
        have hjc2 : j ≤ c1 := by omega
        have hj1n : (j : Int) + 1 ≤ (L1 : Int) := by omega
        have hj1 : (0 : Int) ≤ (j : Int) + 1 := by omega
        have hjt : ((j : Int) + 1).toNat = j + 1 := by omega
        have hncap : (L1 : Int) ≤ (c1 : Int) := by omega
        have hj1w : IntKind.i64.wrap ((j : Int) + 1) = (j : Int) + 1 := IntWalk.i64_in _ (by omega)
        refine wp_region_held_drew (S := (fun _ => True)) (by kernel_rfl) trivial (fun hHeld => ?_)
        obtain ⟨V0, HV0⟩ : ∃ V, Hid (W3.drew = V) := ⟨_, Lib.hid rfl⟩
        have HB0 := Lib.hid (show Below W3.heap.size W3 V0 by rw [← HV0.out]; exact (Below.refl _ _).drew)
        rw [HV0.out]
        clear HV0
        refine' wpAnyH_take (i := 1) (v := ?vb1_1) rfl (by kernel_rfl) (by kernel_rfl) (by kernel_rfl) (fun _ _ _ h => h) (Or.inl ⟨by rfl, ?hyb1_1⟩) (by assumption) ?restb1_1
        case hyb1_1 => (intro w hSw; (try dsimp only at hSw); go_simp; try (with_reducible rfl))
        simp only [Act.put, List.getElem_toArray, List.getElem_cons_succ, List.getElem_cons_zero, List.setIfInBounds_toArray, List.set_cons_zero, List.set_cons_succ]
        refine' wpAnyH_take (i := 2) (v := ?vb2_2) rfl (by kernel_rfl) (by kernel_rfl) (by kernel_rfl) (fun _ _ _ h => h) (Or.inl ⟨by rfl, ?hyb2_2⟩) (by assumption) ?restb2_2
        case hyb2_2 => (intro w hSw; (try dsimp only at hSw); go_simp; try (with_reducible rfl))
        simp only [Act.put, List.getElem_toArray, List.getElem_cons_succ, List.getElem_cons_zero, List.setIfInBounds_toArray, List.set_cons_zero, List.set_cons_succ]
        refine' wpAnyH_take (i := 3) (v := ?vb3_3) rfl (by kernel_rfl) (by kernel_rfl) (by kernel_rfl) (fun _ _ _ h => h) (Or.inl ⟨by rfl, ?hyb3_3⟩) (by assumption) ?restb3_3
        case hyb3_3 => (intro w hSw; (try dsimp only at hSw); go_simp; try (with_reducible rfl))
        simp only [Act.put, List.getElem_toArray, List.getElem_cons_succ, List.getElem_cons_zero, List.setIfInBounds_toArray, List.set_cons_zero, List.set_cons_succ]
        refine' wpAnyH_take (i := 5) (v := ?vb4_5) rfl (by kernel_rfl) (by kernel_rfl) (by kernel_rfl) (fun _ _ _ h => h) (Or.inl ⟨by rfl, ?hyb4_5⟩) (by assumption) ?restb4_5
        case hyb4_5 => (intro w hSw; (try dsimp only at hSw); go_simp; try (with_reducible rfl))
        simp only [Act.put, List.getElem_toArray, List.getElem_cons_succ, List.getElem_cons_zero, List.setIfInBounds_toArray, List.set_cons_zero, List.set_cons_succ]
        refine' wpAnyH_take (i := 6) (v := ?vb5_6) rfl (by kernel_rfl) (by kernel_rfl) (by kernel_rfl) (fun _ _ _ h => h) (Or.inl ⟨by rfl, ?hyb5_6⟩) (by assumption) ?restb5_6
        case hyb5_6 => (intro w hSw; (try dsimp only at hSw); go_simp; try (with_reducible rfl))
        simp only [Act.put, List.getElem_toArray, List.getElem_cons_succ, List.getElem_cons_zero, List.setIfInBounds_toArray, List.set_cons_zero, List.set_cons_succ]
        refine' wpAnyH_take (i := 7) (v := ?vb6_7) rfl (by kernel_rfl) (by kernel_rfl) (by kernel_rfl) (fun _ _ _ h => h) (Or.inl ⟨by rfl, ?hyb6_7⟩) (by assumption) ?restb6_7
        case hyb6_7 => (intro w hSw; (try dsimp only at hSw); go_simp; try (with_reducible rfl))
        simp only [Act.put, List.getElem_toArray, List.getElem_cons_succ, List.getElem_cons_zero, List.setIfInBounds_toArray, List.set_cons_zero, List.set_cons_succ]
        refine' wpAnyH_take (i := 8) (v := .slice (some AD) (L1 - (j + 1)) (c1 - (j + 1))) rfl (by kernel_rfl) (by kernel_rfl) (by kernel_rfl) (fun _ _ _ h => h) (Or.inl ⟨by rfl, ?hyADus⟩) (by assumption) ?restADus
        case hyADus =>
          intro w hSw
          rw [HAD.out]
          by_cases hcj : (c1 : Int) = (j : Int) + 1
          · have hcj3 : c1 = j + 1 := by omega
            rw [if_pos hcj]
            subst hcj3
            go_simp
            try (with_reducible rfl)
          · have hcj4 : ¬ c1 = j + 1 := by omega
            rw [if_neg hcj]
            go_simp
            try (with_reducible rfl)
        simp only [Act.put, List.getElem_toArray, List.getElem_cons_succ, List.getElem_cons_zero, List.setIfInBounds_toArray, List.set_cons_zero, List.set_cons_succ]
        refine wpAnyH_ready (rs := [0]) (by kernel_rfl) (by simp) ?_
        refine AllReadyH.cons rfl (fun K hK => ?_) AllReadyH.nil
        go_simp
        refine hK.out _ _ trivial (fun hHeld1 => ?_)
        clear hK K hHeld
        have hHeld := hHeld1
        clear hHeld1
        try simp only [Act.put, List.getElem_toArray, List.getElem_cons_succ, List.getElem_cons_zero, List.setIfInBounds_toArray, List.set_cons_zero, List.set_cons_succ]
        obtain ⟨G0, HG0⟩ : ∃ G, Hid (V0.heap.size = G) := ⟨_, Lib.hid rfl⟩
        obtain ⟨V1, HW⟩ : ∃ Wx, Hid (V0.alloc (.cells #[] 87) = Wx) := ⟨_, Lib.hid rfl⟩
        have HB1 := Lib.hid (show Below W3.heap.size W3 V1 by rw [← HW.out]; exact HB0.out.alloc HB0.out.size _)
        have HO1 := Lib.hid (show V1.ownsRow W3.heap.size 87 5 (.slice (some ⟨G0, 0, none⟩) 0 0) 0 (flatLg []) by rw [← HW.out, ← HG0.out]; exact World.ownsRow_made V0 #[] 0 HB0.out.size (by decide) (by simp))
        rw [HW.out]
        try rw [HG0.out]
        clear HW
        refine wpAnyH_ready (rs := [4]) (by kernel_rfl) (by simp) ?_
        refine AllReadyH.cons rfl (fun K hK => ?_) AllReadyH.nil
        refine step_legs (news := flatLg (t1.take j)) (m := j) rfl _ _ rfl rfl HO1.out rfl (by rw [flatLg_len, List.length_take, HL1.out]; omega) (HTK.out V1 HB1.out) (flat_one _) (by omega) HB1.out.size ?_
        intro v2 V2 ho hg
        have HB2 := Lib.hid (HB1.out.grown hg HB1.out.size (fun g e => (HO1.out.lt g e).1))
        have HO2 := Lib.hid (show V2.ownsRow W3.heap.size 87 5 v2 (0 + j) (flatLg [] ++ flatLg (t1.take j)) from ho)
        refine hK.out _ _ trivial (fun hHeld1 => ?_)
        clear ho hg
        clear hK K hHeld
        have hHeld := hHeld1
        clear hHeld1
        try simp only [Act.put, List.getElem_toArray, List.getElem_cons_succ, List.getElem_cons_zero, List.setIfInBounds_toArray, List.set_cons_zero, List.set_cons_succ]
        refine wpAnyH_ready (rs := [9]) (by kernel_rfl) (by simp) ?_
        refine AllReadyH.cons rfl (fun K hK => ?_) AllReadyH.nil
        refine step_legs (news := flatLg (t1.drop (j + 1))) (m := (L1 - (j + 1))) rfl _ _ rfl rfl HO2.out rfl (by rw [flatLg_len, List.length_drop, HL1.out]) (HDK.out V2 HB2.out) (flat_one _) (by omega) HB2.out.size ?_
        intro v3 V3 ho hg
        have HB3 := Lib.hid (HB2.out.grown hg HB2.out.size (fun g e => (HO2.out.lt g e).1))
        have HO3 := Lib.hid (show V3.ownsRow W3.heap.size 87 5 v3 m1 (flatLg us) by
          have h : V3.ownsRow W3.heap.size 87 5 v3 (0 + j + (L1 - (j + 1))) (flatLg [] ++ flatLg (t1.take j) ++ flatLg (t1.drop (j + 1))) := ho
          rw [show 0 + j + (L1 - (j + 1)) = m1 by have := HMMus.out; omega] at h
          have e : flatLg us = flatLg [] ++ flatLg (t1.take j) ++ flatLg (t1.drop (j + 1)) := by rw [← HUSus.out]; unfold less; rw [flatLg_append]; rfl
          rw [e]; exact h)
        obtain ⟨A3, c3, rfl⟩ := row_slice HO3.out
        refine hK.out _ _ trivial (fun hHeld1 => ?_)
        clear ho hg
        clear hK K hHeld
        have hHeld := hHeld1
        clear hHeld1
        try simp only [Act.put, List.getElem_toArray, List.getElem_cons_succ, List.getElem_cons_zero, List.setIfInBounds_toArray, List.set_cons_zero, List.set_cons_succ]
        refine' wpAnyH_take (i := 10) (v := ?vb7_10) rfl (by kernel_rfl) (by kernel_rfl) (by kernel_rfl) (fun _ _ _ h => h) (Or.inl ⟨by rfl, ?hyb7_10⟩) (by assumption) ?restb7_10
        case hyb7_10 => (intro w hSw; (try dsimp only at hSw); go_simp; try (with_reducible rfl))
        simp only [Act.put, List.getElem_toArray, List.getElem_cons_succ, List.getElem_cons_zero, List.setIfInBounds_toArray, List.set_cons_zero, List.set_cons_succ]
        refine wpAnyH_done (by kernel_rfl) ?_ _
        clear hHeld HB1 HB2 HO1 HO2 HB0
        show K0 _ _
        refine hK0 _ _ (Met.intro ?_)
        refine hJ0 _ _ ?_
        (repeat apply Exists.intro)
        exact ⟨⟨_, _, rfl, H4.out.step HB3.out, row_below H5.out HB3.out, own_low HBWus HO3.out, HB3.out⟩, rfl⟩
      case rest => as_aux_lemma =>
        obtain ⟨Aus, cus, rfl, hc_S, hc_l1, hrowus, hbwus⟩ := hcut
        have H6 := Lib.hid hc_S
        have H7 := Lib.hid hc_l1
        have HRus := Lib.hid hrowus
        clear hc_S hc_l1 hrowus hbwus HTS H4 H5
        rw [HUSus.out] at HC1 HS1 HC2
        go_wp2_with fail
        refine (cs_i HC1 (by omega) (by omega) (Lib.hid (own_Lg HMus.out HRus.out)) (Lib.hid (own_Lg HL1.out H7.out)) (Lib.hid H6.out.2.2)).mono ?_
        rintro e W4 ⟨rfl, b⟩
        have H8 := Lib.hid (show St w A n zs W4 from H6.out.step b)
        have H9 := Lib.hid (show W4.ownsRow (w.heap.size) 87 5 (.slice (some ⟨gLus, 0, none⟩) L1 c1) L1 (flatLg t1) from row_below H7.out b)
        have H10 := Lib.hid (show W4.ownsRow (w.heap.size) 87 5 (.slice Aus m1 cus) m1 (flatLg us) from row_below HRus.out b)
        clear b H6 H7 HRus
        go_wp2_with fail
        refine (st_i HS1 (by omega) (Lib.hid (own_Lg HMus.out H10.out)) (Lib.hid H8.out.2.2)).mono ?_
        rintro e W5 ⟨rfl, b⟩
        have H11 := Lib.hid (show St w A n zs W5 from H8.out.step b)
        have H12 := Lib.hid (show W5.ownsRow (w.heap.size) 87 5 (.slice (some ⟨gLus, 0, none⟩) L1 c1) L1 (flatLg t1) from row_below H9.out b)
        have H13 := Lib.hid (show W5.ownsRow (w.heap.size) 87 5 (.slice Aus m1 cus) m1 (flatLg us) from row_below H10.out b)
        clear b H8 H9 H10
        go_wp2_with fail
        refine (su_m HU1 (by omega) (nw.own_cap H12.out) (Lib.hid (own_Lg HL1.out H12.out))).mono ?_
        rintro e W6 ⟨rfl, b⟩
        have H14 := Lib.hid (show St w A n zs W6 from H11.out.step b)
        have H15 := Lib.hid (show W6.ownsRow (w.heap.size) 87 5 (.slice (some ⟨gLus, 0, none⟩) L1 c1) L1 (flatLg t1) from row_below H12.out b)
        have H16 := Lib.hid (show W6.ownsRow (w.heap.size) 87 5 (.slice Aus m1 cus) m1 (flatLg us) from row_below H13.out b)
        clear b H11 H12 H13
        have d1 : ¬ (0 < s1) := by omega
        have d2 : ¬ (0 < s2) := by omega
        obtain ⟨vs, HUSvs⟩ : ∃ q, Hid (less t1 jb = q) := ⟨_, Lib.hid rfl⟩
        obtain ⟨m2, HMvs⟩ : ∃ q, Hid (vs.length = q) := ⟨_, Lib.hid rfl⟩
        have hjnvs : jb < L1 := by have := lt_at HYJ.out; rw [HL1.out] at this; exact this
        have HMMvs := Lib.hid (show m2 = L1 - 1 by rw [← HMvs.out, ← HUSvs.out]; exact less_len HL1.out hjnvs)
        have hmlvs : m2 ≤ 2000000 := by have := HMMvs.out; omega
        have hcapvs : L1 ≤ c1 := (nw.own_cap H15.out)
        skip
        have HTS := Lib.hid (own_Lg HL1.out H15.out)
        have HBWvs : w.heap.size ≤ W6.heap.size := H14.out.1.size
        go_upto_region 15 with fail
        go_cut [19] (fun v wx => ∃ (A3 : Option Addr) (c3 : Nat), v = .slice A3 m2 c3 ∧ St w A n zs wx ∧ wx.ownsRow (w.heap.size) 87 5 (.slice (some ⟨gLus, 0, none⟩) L1 c1) L1 (flatLg t1) ∧ wx.ownsRow (w.heap.size) 87 5 (.slice Aus m1 cus) m1 (flatLg us) ∧ wx.ownsRow w.heap.size 87 5 (.slice A3 m2 c3) m2 (flatLg vs) ∧ Below W6.heap.size W6 wx)
        case first => as_aux_lemma =>
          rename_i J0 K0 hJ0 hK0
          have HTK := Lib.hid (fun (v : World) (hv : Below W6.heap.size W6 v) => flat_take (HTS.out.below hv) jb)
          obtain ⟨AD, HAD⟩ : ∃ q : Addr, Hid (q = if (c1 : Int) = (jb : Int) + 1 then ⟨gLus, 0, none⟩ else ⟨gLus, (jb + 1) * 5, none⟩) := ⟨_, Lib.hid rfl⟩
          have HDK := Lib.hid (fun (v : World) (hv : Below W6.heap.size W6 v) => show ∀ (q : Nat) u, (flatLg (t1.drop (jb + 1)))[q]? = some u → v.cell? (AD.add q) = some u from fun q u hu => by
            rw [HAD.out]
            by_cases hcj : (c1 : Int) = (jb : Int) + 1
            · rw [List.drop_of_length_le (by rw [HL1.out]; omega)] at hu; simp [flatLg] at hu
            · rw [if_neg hcj]; exact flat_drop (HTS.out.below hv) (jb + 1) (by omega) q u hu)
          have hji : (jb : Int) < (L1 : Int) := by omega
          have hj0 : (0 : Int) ≤ (jb : Int) := by omega
          have hjc : (jb : Int) ≤ (c1 : Int) := by omega
          have hjc2 : jb ≤ c1 := by omega
          have hj1n : (jb : Int) + 1 ≤ (L1 : Int) := by omega
          have hj1 : (0 : Int) ≤ (jb : Int) + 1 := by omega
          have hjt : ((jb : Int) + 1).toNat = jb + 1 := by omega
          have hncap : (L1 : Int) ≤ (c1 : Int) := by omega
          have hj1w : IntKind.i64.wrap ((jb : Int) + 1) = (jb : Int) + 1 := IntWalk.i64_in _ (by omega)
          refine wp_region_held_drew (S := (fun _ => True)) (by kernel_rfl) trivial (fun hHeld => ?_)
          obtain ⟨V0, HV0⟩ : ∃ V, Hid (W6.drew = V) := ⟨_, Lib.hid rfl⟩
          have HB0 := Lib.hid (show Below W6.heap.size W6 V0 by rw [← HV0.out]; exact (Below.refl _ _).drew)
          rw [HV0.out]
          clear HV0
          refine' wpAnyH_take (i := 1) (v := ?vb8_1) rfl (by kernel_rfl) (by kernel_rfl) (by kernel_rfl) (fun _ _ _ h => h) (Or.inl ⟨by rfl, ?hyb8_1⟩) (by assumption) ?restb8_1
          case hyb8_1 => (intro w hSw; (try dsimp only at hSw); go_simp; try (with_reducible rfl))
          simp only [Act.put, List.getElem_toArray, List.getElem_cons_succ, List.getElem_cons_zero, List.setIfInBounds_toArray, List.set_cons_zero, List.set_cons_succ]
          refine' wpAnyH_take (i := 2) (v := ?vb9_2) rfl (by kernel_rfl) (by kernel_rfl) (by kernel_rfl) (fun _ _ _ h => h) (Or.inl ⟨by rfl, ?hyb9_2⟩) (by assumption) ?restb9_2
          case hyb9_2 => (intro w hSw; (try dsimp only at hSw); go_simp; try (with_reducible rfl))
          simp only [Act.put, List.getElem_toArray, List.getElem_cons_succ, List.getElem_cons_zero, List.setIfInBounds_toArray, List.set_cons_zero, List.set_cons_succ]
          refine' wpAnyH_take (i := 3) (v := ?vb10_3) rfl (by kernel_rfl) (by kernel_rfl) (by kernel_rfl) (fun _ _ _ h => h) (Or.inl ⟨by rfl, ?hyb10_3⟩) (by assumption) ?restb10_3
          case hyb10_3 => (intro w hSw; (try dsimp only at hSw); go_simp; try (with_reducible rfl))
          simp only [Act.put, List.getElem_toArray, List.getElem_cons_succ, List.getElem_cons_zero, List.setIfInBounds_toArray, List.set_cons_zero, List.set_cons_succ]
          refine' wpAnyH_take (i := 5) (v := ?vb11_5) rfl (by kernel_rfl) (by kernel_rfl) (by kernel_rfl) (fun _ _ _ h => h) (Or.inl ⟨by rfl, ?hyb11_5⟩) (by assumption) ?restb11_5
          case hyb11_5 => (intro w hSw; (try dsimp only at hSw); go_simp; try (with_reducible rfl))
          simp only [Act.put, List.getElem_toArray, List.getElem_cons_succ, List.getElem_cons_zero, List.setIfInBounds_toArray, List.set_cons_zero, List.set_cons_succ]
          refine' wpAnyH_take (i := 6) (v := ?vb12_6) rfl (by kernel_rfl) (by kernel_rfl) (by kernel_rfl) (fun _ _ _ h => h) (Or.inl ⟨by rfl, ?hyb12_6⟩) (by assumption) ?restb12_6
          case hyb12_6 => (intro w hSw; (try dsimp only at hSw); go_simp; try (with_reducible rfl))
          simp only [Act.put, List.getElem_toArray, List.getElem_cons_succ, List.getElem_cons_zero, List.setIfInBounds_toArray, List.set_cons_zero, List.set_cons_succ]
          refine' wpAnyH_take (i := 7) (v := ?vb13_7) rfl (by kernel_rfl) (by kernel_rfl) (by kernel_rfl) (fun _ _ _ h => h) (Or.inl ⟨by rfl, ?hyb13_7⟩) (by assumption) ?restb13_7
          case hyb13_7 => (intro w hSw; (try dsimp only at hSw); go_simp; try (with_reducible rfl))
          simp only [Act.put, List.getElem_toArray, List.getElem_cons_succ, List.getElem_cons_zero, List.setIfInBounds_toArray, List.set_cons_zero, List.set_cons_succ]
          refine' wpAnyH_take (i := 8) (v := .slice (some AD) (L1 - (jb + 1)) (c1 - (jb + 1))) rfl (by kernel_rfl) (by kernel_rfl) (by kernel_rfl) (fun _ _ _ h => h) (Or.inl ⟨by rfl, ?hyADvs⟩) (by assumption) ?restADvs
          case hyADvs =>
            intro w hSw
            rw [HAD.out]
            by_cases hcj : (c1 : Int) = (jb : Int) + 1
            · have hcj3 : c1 = jb + 1 := by omega
              rw [if_pos hcj]
              subst hcj3
              go_simp
              try (with_reducible rfl)
            · have hcj4 : ¬ c1 = jb + 1 := by omega
              rw [if_neg hcj]
              go_simp
              try (with_reducible rfl)
          simp only [Act.put, List.getElem_toArray, List.getElem_cons_succ, List.getElem_cons_zero, List.setIfInBounds_toArray, List.set_cons_zero, List.set_cons_succ]
          refine wpAnyH_ready (rs := [0]) (by kernel_rfl) (by simp) ?_
          refine AllReadyH.cons rfl (fun K hK => ?_) AllReadyH.nil
          go_simp
          refine hK.out _ _ trivial (fun hHeld1 => ?_)
          clear hK K hHeld
          have hHeld := hHeld1
          clear hHeld1
          try simp only [Act.put, List.getElem_toArray, List.getElem_cons_succ, List.getElem_cons_zero, List.setIfInBounds_toArray, List.set_cons_zero, List.set_cons_succ]
          obtain ⟨G0, HG0⟩ : ∃ G, Hid (V0.heap.size = G) := ⟨_, Lib.hid rfl⟩
          obtain ⟨V1, HW⟩ : ∃ Wx, Hid (V0.alloc (.cells #[] 87) = Wx) := ⟨_, Lib.hid rfl⟩
          have HB1 := Lib.hid (show Below W6.heap.size W6 V1 by rw [← HW.out]; exact HB0.out.alloc HB0.out.size _)
          have HO1 := Lib.hid (show V1.ownsRow W6.heap.size 87 5 (.slice (some ⟨G0, 0, none⟩) 0 0) 0 (flatLg []) by rw [← HW.out, ← HG0.out]; exact World.ownsRow_made V0 #[] 0 HB0.out.size (by decide) (by simp))
          rw [HW.out]
          try rw [HG0.out]
          clear HW
          refine wpAnyH_ready (rs := [4]) (by kernel_rfl) (by simp) ?_
          refine AllReadyH.cons rfl (fun K hK => ?_) AllReadyH.nil
          refine step_legs (news := flatLg (t1.take jb)) (m := jb) rfl _ _ rfl rfl HO1.out rfl (by rw [flatLg_len, List.length_take, HL1.out]; omega) (HTK.out V1 HB1.out) (flat_one _) (by omega) HB1.out.size ?_
          intro v2 V2 ho hg
          have HB2 := Lib.hid (HB1.out.grown hg HB1.out.size (fun g e => (HO1.out.lt g e).1))
          have HO2 := Lib.hid (show V2.ownsRow W6.heap.size 87 5 v2 (0 + jb) (flatLg [] ++ flatLg (t1.take jb)) from ho)
          refine hK.out _ _ trivial (fun hHeld1 => ?_)
          clear ho hg
          clear hK K hHeld
          have hHeld := hHeld1
          clear hHeld1
          try simp only [Act.put, List.getElem_toArray, List.getElem_cons_succ, List.getElem_cons_zero, List.setIfInBounds_toArray, List.set_cons_zero, List.set_cons_succ]
          refine wpAnyH_ready (rs := [9]) (by kernel_rfl) (by simp) ?_
          refine AllReadyH.cons rfl (fun K hK => ?_) AllReadyH.nil
          refine step_legs (news := flatLg (t1.drop (jb + 1))) (m := (L1 - (jb + 1))) rfl _ _ rfl rfl HO2.out rfl (by rw [flatLg_len, List.length_drop, HL1.out]) (HDK.out V2 HB2.out) (flat_one _) (by omega) HB2.out.size ?_
          intro v3 V3 ho hg
          have HB3 := Lib.hid (HB2.out.grown hg HB2.out.size (fun g e => (HO2.out.lt g e).1))
          have HO3 := Lib.hid (show V3.ownsRow W6.heap.size 87 5 v3 m2 (flatLg vs) by
            have h : V3.ownsRow W6.heap.size 87 5 v3 (0 + jb + (L1 - (jb + 1))) (flatLg [] ++ flatLg (t1.take jb) ++ flatLg (t1.drop (jb + 1))) := ho
            rw [show 0 + jb + (L1 - (jb + 1)) = m2 by have := HMMvs.out; omega] at h
            have e : flatLg vs = flatLg [] ++ flatLg (t1.take jb) ++ flatLg (t1.drop (jb + 1)) := by rw [← HUSvs.out]; unfold less; rw [flatLg_append]; rfl
            rw [e]; exact h)
          obtain ⟨A3, c3, rfl⟩ := row_slice HO3.out
          refine hK.out _ _ trivial (fun hHeld1 => ?_)
          clear ho hg
          clear hK K hHeld
          have hHeld := hHeld1
          clear hHeld1
          try simp only [Act.put, List.getElem_toArray, List.getElem_cons_succ, List.getElem_cons_zero, List.setIfInBounds_toArray, List.set_cons_zero, List.set_cons_succ]
          refine' wpAnyH_take (i := 10) (v := ?vb14_10) rfl (by kernel_rfl) (by kernel_rfl) (by kernel_rfl) (fun _ _ _ h => h) (Or.inl ⟨by rfl, ?hyb14_10⟩) (by assumption) ?restb14_10
          case hyb14_10 => (intro w hSw; (try dsimp only at hSw); go_simp; try (with_reducible rfl))
          simp only [Act.put, List.getElem_toArray, List.getElem_cons_succ, List.getElem_cons_zero, List.setIfInBounds_toArray, List.set_cons_zero, List.set_cons_succ]
          refine wpAnyH_done (by kernel_rfl) ?_ _
          clear hHeld HB1 HB2 HO1 HO2 HB0
          show K0 _ _
          refine hK0 _ _ (Met.intro ?_)
          refine hJ0 _ _ ?_
          (repeat apply Exists.intro)
          exact ⟨⟨_, _, rfl, H14.out.step HB3.out, row_below H15.out HB3.out, row_below H16.out HB3.out, own_low HBWvs HO3.out, HB3.out⟩, rfl⟩
        case rest => as_aux_lemma =>
          obtain ⟨Avs, cvs, rfl, hc_S, hc_l1, hc_less, hrowvs, hbwvs⟩ := hcut
          have H17 := Lib.hid hc_S
          have H18 := Lib.hid hc_l1
          have H19 := Lib.hid hc_less
          have HRvs := Lib.hid hrowvs
          clear hc_S hc_l1 hc_less hrowvs hbwvs HTS H14 H15 H16
          rw [HUSvs.out] at HC2
          go_wp2_with fail
          refine (cs_i HC2 (by omega) (by omega) (Lib.hid (own_Lg HMvs.out HRvs.out)) (Lib.hid (own_Lg HMus.out H19.out)) (Lib.hid H17.out.2.2)).mono ?_
          rintro e W7 ⟨rfl, b⟩
          have H20 := Lib.hid (show St w A n zs W7 from H17.out.step b)
          have H21 := Lib.hid (show W7.ownsRow (w.heap.size) 87 5 (.slice (some ⟨gLus, 0, none⟩) L1 c1) L1 (flatLg t1) from row_below H18.out b)
          have H22 := Lib.hid (show W7.ownsRow (w.heap.size) 87 5 (.slice Aus m1 cus) m1 (flatLg us) from row_below H19.out b)
          have H23 := Lib.hid (show W7.ownsRow (w.heap.size) 87 5 (.slice Avs m2 cvs) m2 (flatLg vs) from row_below HRvs.out b)
          clear b H17 H18 H19 HRvs
          go_wp2_with fail
          go_meet
          case rel => exact H20.out
  case rest => as_aux_lemma =>
    have SA := Lib.hid hcut
    clear hcut HX HO H4 H5
    go_wp2_with fail
    refine (dcv.suspect_draw A n cap zs _ (Lib.hid SA.out.2.1)).mono ?_
    rintro e W8 ⟨v2, t2, rfl, ho, hl2, b⟩
    obtain ⟨L2, HL2⟩ : ∃ L, Hid (t2.length = L) := ⟨_, Lib.hid rfl⟩
    rw [HL2.out] at ho hl2
    obtain ⟨A2, c2, rfl⟩ := base.row_slice ho
    have HR2 := Lib.hid ho
    clear ho
    have H24 := Lib.hid (show St w A n zs W8 from SA.out.step b)
    clear b SA
    obtain ⟨b2, ok2, hX⟩ := su_form t2
    have HX := Lib.hid hX
    clear hX
    go_wp2_with fail
    refine (su_i HX (by omega) (nw.own_cap HR2.out) (Lib.hid (own_Lg HL2.out HR2.out)) (Lib.hid H24.out.2.2)).mono ?_
    rintro e W9 ⟨rfl, b⟩
    have H25 := Lib.hid (show St w A n zs W9 from H24.out.step b)
    have H26 := Lib.hid (show W9.ownsRow (wc.heap.size) 87 5 (.slice A2 L2 c2) L2 (flatLg t2) from row_below HR2.out b)
    clear b H24 HR2
    go_wp2_with fail
    refine (su_m HX (by omega) (nw.own_cap H26.out) (Lib.hid (own_Lg HL2.out H26.out))).mono ?_
    rintro e W10 ⟨rfl, b⟩
    have H27 := Lib.hid (show St w A n zs W10 from H25.out.step b)
    have H28 := Lib.hid (show W10.ownsRow (wc.heap.size) 87 5 (.slice A2 L2 c2) L2 (flatLg t2) from row_below H26.out b)
    clear b H25 H26
    clear H28
    clear HX
    go_wp2_with fail
    refine (dcv.strainOf_draw A n cap zs _ (Lib.hid H27.out.2.1)).mono ?_
    rintro e W11 ⟨v3, t3, rfl, ho, hl3, b⟩
    obtain ⟨L3, HL3⟩ : ∃ L, Hid (t3.length = L) := ⟨_, Lib.hid rfl⟩
    rw [HL3.out] at ho hl3
    obtain ⟨A3, c3, rfl⟩ := base.row_slice ho
    have HR3 := Lib.hid ho
    clear ho
    have H29 := Lib.hid (show St w A n zs W11 from H27.out.step b)
    clear b H27
    obtain ⟨a3, d3, hX, hC⟩ := st_form t3
    have HX := Lib.hid hX
    have HCL := Lib.hid hC
    clear hX hC
    obtain ⟨g3, HG3⟩ : ∃ g, Hid (goodLg t3 = g) := ⟨_, Lib.hid rfl⟩
    obtain ⟨k3, HK3⟩ : ∃ g, Hid ((clIds t3).length = g) := ⟨_, Lib.hid rfl⟩
    rw [HG3.out] at HX HCL
    rw [HK3.out] at HCL
    have hk3 : k3 ≤ 12 := by rw [← HK3.out]; exact clIds_len _
    have HCO := Lib.hid (show ansCo t3 = .tuple #[.int .i64 (k3 : Nat), .bool g3] by unfold ansCo; rw [HK3.out, HG3.out])
    go_wp2_with fail
    refine (st_i HX (by omega) (Lib.hid (own_Lg HL3.out HR3.out)) (Lib.hid H29.out.2.2)).mono ?_
    rintro e W12 ⟨rfl, b⟩
    have H30 := Lib.hid (show St w A n zs W12 from H29.out.step b)
    have H31 := Lib.hid (show W12.ownsRow (W10.heap.size) 87 5 (.slice A3 L3 c3) L3 (flatLg t3) from row_below HR3.out b)
    clear b H29 HR3
    go_wp2_with fail
    refine (st_m HX (by omega) (Lib.hid (own_Lg HL3.out H31.out))).mono ?_
    rintro e W13 ⟨rfl, b⟩
    have H32 := Lib.hid (show St w A n zs W13 from H30.out.step b)
    have H33 := Lib.hid (show W13.ownsRow (W10.heap.size) 87 5 (.slice A3 L3 c3) L3 (flatLg t3) from row_below H31.out b)
    clear b H30 H31
    go_upto_if 199 with fail
    go_cut [34] (fun _ wx => St w A n zs wx)
    case first => as_aux_lemma =>
      cases g3
      · go_wp2_with fail
        go_meet
        case rel => exact H32.out
      · skip
        go_wp2_with fail
        refine (co_i HCO (by omega) (Lib.hid (own_Lg HL3.out H33.out)) (Lib.hid H32.out.2.2)).mono ?_
        rintro e W14 ⟨rfl, b⟩
        have H34 := Lib.hid (show St w A n zs W14 from H32.out.step b)
        have H35 := Lib.hid (show W14.ownsRow (W10.heap.size) 87 5 (.slice A3 L3 c3) L3 (flatLg t3) from row_below H33.out b)
        clear b H32 H33
        by_cases h0 : k3 = 0
        · obtain rfl : a3 = 0 := HCL.out (by first | trivial | rfl) h0
          subst h0
          go_wp2_with fail
          go_meet
          case rel => exact H34.out
        · have z1 : ((k3 : Int) == 0) = false := by simp; omega
          have z2 : ¬ (k3 : Int) = 0 := by omega
          go_wp2_with fail
          go_meet
          case rel => exact H34.out
    case rest => as_aux_lemma =>
      have SB := Lib.hid hcut
      clear hcut HX HCL HCO HG3 HK3 H32 H33
      go_wp2_with fail
      refine (dcv.compare_draw A n cap zs _ (Lib.hid SB.out.2.1)).mono ?_
      rintro e W15 ⟨v4, t4, v5, t5, rfl, ho, hl4, ho5, hl5, b⟩
      obtain ⟨L4, HL4⟩ : ∃ L, Hid (t4.length = L) := ⟨_, Lib.hid rfl⟩
      rw [HL4.out] at ho hl4
      obtain ⟨A4, c4, rfl⟩ := base.row_slice ho
      have HR4 := Lib.hid ho
      obtain ⟨L5, HL5⟩ : ∃ L, Hid (t5.length = L) := ⟨_, Lib.hid rfl⟩
      rw [HL5.out] at ho5 hl5
      obtain ⟨A5, c5, rfl⟩ := base.row_slice ho5
      have HR5 := Lib.hid ho5
      clear ho ho5
      have H36 := Lib.hid (show St w A n zs W15 from SB.out.step b)
      clear b SB
      obtain ⟨s4, ok4, hX, hY, hb1, hb2⟩ := cs_form t4 t5
      have HX := Lib.hid hX
      have HY := Lib.hid hY
      clear hX hY
      have xs : IntKind.i64.wrap (-s4) = -s4 := IntWalk.i64_in _ (by omega)
      go_wp2_with fail
      refine (cs_i HX (by omega) (by omega) (Lib.hid (own_Lg HL4.out HR4.out)) (Lib.hid (own_Lg HL5.out HR5.out)) (Lib.hid H36.out.2.2)).mono ?_
      rintro e W16 ⟨rfl, b⟩
      have H37 := Lib.hid (show St w A n zs W16 from H36.out.step b)
      have H38 := Lib.hid (show W16.ownsRow (wc.heap.size) 87 5 (.slice A4 L4 c4) L4 (flatLg t4) from row_below HR4.out b)
      have H39 := Lib.hid (show W16.ownsRow (wc.heap.size) 87 5 (.slice A5 L5 c5) L5 (flatLg t5) from row_below HR5.out b)
      clear b H36 HR4 HR5
      go_wp2_with fail
      refine (cs_i HY (by omega) (by omega) (Lib.hid (own_Lg HL5.out H39.out)) (Lib.hid (own_Lg HL4.out H38.out)) (Lib.hid H37.out.2.2)).mono ?_
      rintro e W17 ⟨rfl, b⟩
      have H40 := Lib.hid (show St w A n zs W17 from H37.out.step b)
      have H41 := Lib.hid (show W17.ownsRow (wc.heap.size) 87 5 (.slice A4 L4 c4) L4 (flatLg t4) from row_below H38.out b)
      have H42 := Lib.hid (show W17.ownsRow (wc.heap.size) 87 5 (.slice A5 L5 c5) L5 (flatLg t5) from row_below H39.out b)
      clear b H37 H38 H39
      go_wp2_with fail
      refine (cs_m HX (by omega) (by omega) (Lib.hid (own_Lg HL4.out H41.out)) (Lib.hid (own_Lg HL5.out H42.out))).mono ?_
      rintro e W18 ⟨rfl, b⟩
      have H43 := Lib.hid (show St w A n zs W18 from H40.out.step b)
      have H44 := Lib.hid (show W18.ownsRow (wc.heap.size) 87 5 (.slice A4 L4 c4) L4 (flatLg t4) from row_below H41.out b)
      have H45 := Lib.hid (show W18.ownsRow (wc.heap.size) 87 5 (.slice A5 L5 c5) L5 (flatLg t5) from row_below H42.out b)
      clear b H40 H41 H42
      cases ok4
      · skip
        go_wp2_with fail
        go_ret
        exact ⟨rfl, H43.out.1⟩
      · skip
        go_wp2_with fail
        go_ret
        exact ⟨rfl, H43.out.1⟩
#print axioms walk
end Go.Proofs.YtjlkgijaceplcabGreatDoor.kxb
