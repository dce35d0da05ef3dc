/-
  The program of a point added.
  Conditions: the points lie in one block, at most 2000000 of them.
-/
import Derived.Test.YtiimegmaokfpgaaVaM
import Derived.Test.YtiimegmaokfpgaaVaH
import Derived.Test.YtiimegmaokfpgaaVaJ
import Derived.BigQuiet
import Derived.Deep.QuietTactic
import Derived.Deep.Cut
import Derived.Deep.DeepCutAuto
import Derived.RegionTactic
import Derived.Deep.RegionWith
import Derived.OwnWalk
import Derived.Deep.RegionHeld3
namespace Go.Proofs.Ytiimegmaokfpgaa.va
open Go.RowKit
open reads base ty rowi inn win
set_option linter.unusedVariables false
set_option linter.unusedSimpArgs false

theorem prt_src {w : World} {B B' : Nat} {A : Option Addr} {n c : Nat} {ts : List Dp} (h8 : n ≤ 8) (hB : B ≤ B') (h : SrcDp w B A n c ts) : PrtOk w B' ⟨A, n, c, ts⟩ :=
  ⟨h.1, h8, by
    rcases h.2 with ⟨ad, e, hb, hc⟩ | h
    · exact .inl ⟨ad, e, fun z => Nat.lt_of_lt_of_le (hb z) hB, hc⟩
    · exact .inr h⟩
theorem on_yes {ts : List Dp} {x : Dp} {k : Nat} (hk : pos ts x.day = k) (h : onDay ts x.day = true) : ∃ q, ts[k]? = some q ∧ q.day = x.day := by
  unfold onDay at h
  rw [hk] at h
  cases e : ts[k]? with
  | none => rw [e] at h; cases h
  | some q => rw [e] at h; exact ⟨q, rfl, by simpa using h⟩
theorem on_no {ts : List Dp} {x : Dp} {k : Nat} (hk : pos ts x.day = k) (h : onDay ts x.day = false) : behind ts x = k := by
  unfold onDay at h
  rw [hk] at h
  unfold behind
  rw [hk]
  cases e : ts[k]? with
  | none => rfl
  | some q => rw [e] at h; exact if_neg (by simpa using h)
set_option maxHeartbeats 16000000 in
set_option maxRecDepth 100000 in
theorem addPoint_impl (A : Option Addr) (n cap : Nat) (ts : List Dp) (x : Dp) (w : World) (hcap : CapOk A n cap) (hn : n ≤ 2000000) (hts : Hid (DpAt w w.heap.size A n ts)) :
    Calls Try.prog 33 #[.slice A n cap, .agg #[.int .i64 x.day, .int .i64 x.tn]] w (DPost (apV ts x) (apOk ts x) w) := by
  have HL := Lib.hid hts.out.1
  have HCP := Lib.hid hcap
  clear hcap
  obtain ⟨G, HG⟩ : ∃ G, Hid (goodDp ts = G) := ⟨_, Lib.hid rfl⟩
  obtain ⟨R, HRR⟩ : ∃ R, Hid (addDp ts x = R) := ⟨_, Lib.hid rfl⟩
  obtain ⟨NR, HNR⟩ : ∃ N, Hid (R.length = N) := ⟨_, Lib.hid rfl⟩
  obtain ⟨G2, HG2⟩ : ∃ G, Hid (goodDp R = G) := ⟨_, Lib.hid rfl⟩
  obtain ⟨X, HX⟩ : ∃ X, Hid (w.heap.size = X) := ⟨_, Lib.hid rfl⟩
  obtain ⟨V, HV⟩ : ∃ V, Hid (w.alloc (.cells #[.int .i64 x.day, .int .i64 x.tn] 42) = V) := ⟨_, Lib.hid rfl⟩
  have HB0 := Lib.hid (show BX w X x V by rw [← HV.out, ← HX.out]; exact BX.start w x)
  have HFO := Lib.hid (show G2 = false → apOk ts x = false from fun e => by unfold apOk; rw [HRR.out, HG2.out, e, Bool.and_false])
  by_cases hbad : G = false ∧ 0 < n
  · have HNO := Lib.hid (show apOk ts x = false by unfold apOk; rw [HG.out, hbad.1, decide_eq_false (by rw [HL.out]; omega)]; rfl)
    have hgt : decide (0 < n) = true := by simpa using hbad.2
    have hgt2 : decide ((0 : Int) < (n : Int)) = true := by simp; omega
    obtain rfl := hbad.1
    go_enter Try.func33, Try.ntmps33
    go_upto_region 1 with fail
    rw [HV.out]
    try rw [HX.out]
    go_wp2_with fail
    refine (arePoints_is A n cap ts _ HG _ hn (Lib.hid (hts.out.step HB0.out.1))).mono ?_
    rintro e w1 ⟨rfl, b1⟩
    have HB1 := Lib.hid (HB0.out.step b1)
    clear b1 HB0
    go_wp2_with fail
    go_ret2
    exact ⟨_, by rw [HNO.out]; rfl, by rw [apV_no HNO.out]; exact made1 w w1 HB1.out.1.size 42 2, HB1.out.1.alloc HB1.out.1.size _⟩
  have HFT := Lib.hid (show G2 = true → apOk ts x = true from fun e => by
    unfold apOk
    rw [HRR.out, HG2.out, e, Bool.and_true, HG.out]
    cases hq : G
    · rw [decide_eq_true (by rw [HL.out]; have : ¬ 0 < n := fun q => hbad ⟨hq, q⟩; omega)]; rfl
    · simp)
  have hn8 : n ≤ 8 := by
    cases hq : G
    · have : ¬ 0 < n := fun q => hbad ⟨hq, q⟩; omega
    · have := (good_lim (HG.out.trans hq)).2.1; rw [HL.out] at this; exact this
  have HN0 := Lib.hid (show G = false → n = 0 from fun q => by have : ¬ 0 < n := fun z => hbad ⟨q, z⟩; omega)
  have HUP := Lib.hid (show Up ts by
    cases hq : G
    · rw [show ts = [] from List.length_eq_zero_iff.1 (by rw [HL.out]; exact HN0.out hq)]; exact up_nil
    · exact (good_lim (HG.out.trans hq)).2.2)
  obtain ⟨k, HPK⟩ : ∃ k, Hid (pos ts x.day = k) := ⟨_, Lib.hid rfl⟩
  obtain ⟨bb, HON⟩ : ∃ b, Hid (onDay ts x.day = b) := ⟨_, Lib.hid rfl⟩
  have hkn0 : k ≤ n := by rw [← HPK.out, ← HL.out]; exact (pos_lim ts x.day).1
  have hk0 : (0 : Int) ≤ (k : Int) := by omega
  have hkni : (k : Int) ≤ (n : Int) := by omega
  have hnr : NR ≤ 17 := by
    have hb9 : (ts.drop (behind ts x)).length ≤ 8 := by rw [List.length_drop, HL.out]; omega
    rw [← HNR.out, ← HRR.out, addDp_is HPK.out rfl, List.length_append, List.length_cons, List.length_take]; omega
  clear hbad
  go_enter Try.func33, Try.ntmps33
  go_upto_region 1 with fail
  rw [HV.out]
  try rw [HX.out]
  clear HV
  go_cut [17] (fun v wx => v = .bool false ∧ BX w X x wx)
  case first =>
    by_cases hz : n = 0
    · subst hz
      go_wp2_with fail
      go_meet
      case rel => exact ⟨by first | rfl | trivial, HB0.out⟩
    · have hgt : decide (0 < n) = true := by simp; omega
      have hgt2 : decide ((0 : Int) < (n : Int)) = true := by simp; omega
      obtain rfl : G = true := by cases hq : G; exact absurd (HN0.out hq) hz; rfl
      go_wp2_with fail
      refine (arePoints_is A n cap ts _ HG _ hn (Lib.hid (hts.out.step HB0.out.1))).mono ?_
      rintro e w1 ⟨rfl, b1⟩
      have HB1 := Lib.hid (HB0.out.step b1)
      clear b1
      go_wp2_with fail
      go_meet
      case rel => exact ⟨by first | rfl | trivial, HB1.out⟩
  case rest =>
    obtain ⟨rfl, hB1⟩ := hcut
    have HB1 := Lib.hid hB1
    clear hB1 HB0
    obtain ⟨x0, x1, xl⟩ := HB1.out.cs
    go_wp2_with fail
    refine (place_any A n cap ts x.day k bb _ hn8 (Lib.hid (hts.out.step HB1.out.1)) HUP HPK HON).mono ?_
    rintro e w3 ⟨rfl, b3⟩
    have HB3 := Lib.hid (HB1.out.step b3)
    clear b3 x0 x1 xl HB1
    cases bb
    · have HBH := Lib.hid (on_no HPK.out HON.out)
      have HBN := Lib.hid (show k ≤ n by omega)
      have hbn : k ≤ n := HBN.out
      have hb0 : (0 : Int) ≤ (k : Int) := by omega
      have hbni : (k : Int) ≤ (n : Int) := by omega
      rcases HCP.out with ⟨g, rfl, hnc⟩ | ⟨rfl, rfl, rfl⟩
      · have hkc : k ≤ cap := by omega
        have hkci : (k : Int) ≤ (cap : Int) := by omega
        have hnci : (n : Int) ≤ (cap : Int) := by omega
        have hbci : (k : Int) ≤ (cap : Int) := by omega
        by_cases hce : cap = k
        · have hci : (cap : Int) = (k : Int) := by omega
          have hnb : n = k := by omega
          go_upto_region 7 with fail
          refine wp_region_held_drew (S := (fun v => v.cell? ⟨X, 0, none⟩ = some (.int .i64 x.day) ∧ v.cell? ⟨X, 1, none⟩ = some (.int .i64 x.tn) ∧ BX w X x v)) (by kernel_rfl) ?_ (fun hHeld => ?_)
          · exact s_mk (HB3.out.drewN 1)
          obtain ⟨V0, HV0⟩ : ∃ V, Hid (w3.drew = V) := ⟨_, Lib.hid rfl⟩
          have HX0 := Lib.hid (show BX w X x V0 by rw [← HV0.out]; exact HB3.out.drewN 1)
          rw [HV0.out] at hHeld ⊢
          clear HV0
          refine' wpAnyH_take (i := 0) (v := ?vr1_0) rfl (by kernel_rfl) (by kernel_rfl) (by kernel_rfl) (fun _ _ _ h => h) (Or.inl ⟨by rfl, ?hyr1_0⟩) (by assumption) ?restr1_0
          case hyr1_0 => (intro w hSw; (try dsimp only at hSw); go_simp; try (with_reducible rfl))
          simp only [Act.put, List.getElem_toArray, List.getElem_cons_succ, List.getElem_cons_zero, List.setIfInBounds_toArray, List.set_cons_zero, List.set_cons_succ]
          refine' wpAnyH_take (i := 1) (v := ?vr1_1) rfl (by kernel_rfl) (by kernel_rfl) (by kernel_rfl) (fun _ _ _ h => h) (Or.inl ⟨by rfl, ?hyr1_1⟩) (by assumption) ?restr1_1
          case hyr1_1 => (intro w hSw; (try dsimp only at hSw); go_simp; try (with_reducible rfl))
          simp only [Act.put, List.getElem_toArray, List.getElem_cons_succ, List.getElem_cons_zero, List.setIfInBounds_toArray, List.set_cons_zero, List.set_cons_succ]
          refine' wpAnyH_take (i := 2) (v := ?vr1_2) rfl (by kernel_rfl) (by kernel_rfl) (by kernel_rfl) (fun _ _ _ h => h) (Or.inl ⟨by rfl, ?hyr1_2⟩) (by assumption) ?restr1_2
          case hyr1_2 => (intro w hSw; (try dsimp only at hSw); go_simp; try (with_reducible rfl))
          simp only [Act.put, List.getElem_toArray, List.getElem_cons_succ, List.getElem_cons_zero, List.setIfInBounds_toArray, List.set_cons_zero, List.set_cons_succ]
          refine' wpAnyH_take (i := 3) (v := ?vr1_3) rfl (by kernel_rfl) (by kernel_rfl) (by kernel_rfl) (fun _ _ _ h => h) (Or.inl ⟨by rfl, ?hyr1_3⟩) (by assumption) ?restr1_3
          case hyr1_3 => (intro w hSw; (try dsimp only at hSw); go_simp; try (with_reducible rfl))
          simp only [Act.put, List.getElem_toArray, List.getElem_cons_succ, List.getElem_cons_zero, List.setIfInBounds_toArray, List.set_cons_zero, List.set_cons_succ]
          refine' wpAnyH_take (i := 5) (v := ?vr1_5) rfl (by kernel_rfl) (by kernel_rfl) (by kernel_rfl) (fun _ _ _ h => h) (Or.inl ⟨by rfl, ?hyr1_5⟩) (by assumption) ?restr1_5
          case hyr1_5 => (intro w hSw; (try dsimp only at hSw); go_simp; try (with_reducible rfl))
          simp only [Act.put, List.getElem_toArray, List.getElem_cons_succ, List.getElem_cons_zero, List.setIfInBounds_toArray, List.set_cons_zero, List.set_cons_succ]
          refine' wpAnyH_take (i := 6) (v := ?vr1_6) rfl (by kernel_rfl) (by kernel_rfl) (by kernel_rfl) (fun _ _ _ h => h) (Or.inl ⟨by rfl, ?hyr1_6⟩) (by assumption) ?restr1_6
          case hyr1_6 => (intro w hSw; (try dsimp only at hSw); go_simp; try (with_reducible rfl))
          simp only [Act.put, List.getElem_toArray, List.getElem_cons_succ, List.getElem_cons_zero, List.setIfInBounds_toArray, List.set_cons_zero, List.set_cons_succ]
          refine' wpAnyH_take (i := 7) (v := ?vr1_7) rfl (by kernel_rfl) (by kernel_rfl) (by kernel_rfl) (fun _ _ _ h => h) (Or.inl ⟨by rfl, ?hyr1_7⟩) (by assumption) ?restr1_7
          case hyr1_7 => (intro w hSw; (try dsimp only at hSw); go_simp; try (with_reducible rfl))
          simp only [Act.put, List.getElem_toArray, List.getElem_cons_succ, List.getElem_cons_zero, List.setIfInBounds_toArray, List.set_cons_zero, List.set_cons_succ]
          refine wpAnyH_ready (rs := [4]) (by kernel_rfl) (by simp) ?_
          refine AllReadyH.cons rfl (fun K hK => ?_) AllReadyH.nil
          go_simp
          refine hK.out _ _ (s_mk (HX0.out.alloc _)) (fun hHeld1 => ?_)
          clear hK K hHeld
          have hHeld := hHeld1
          clear hHeld1
          try simp only [Act.put, List.getElem_toArray, List.getElem_cons_succ, List.getElem_cons_zero, List.setIfInBounds_toArray, List.set_cons_zero, List.set_cons_succ]
          obtain ⟨Y, HY⟩ : ∃ G, Hid (V0.heap.size = G) := ⟨_, Lib.hid rfl⟩
          obtain ⟨V1, HW1⟩ : ∃ W, Hid (V0.alloc (.cells #[.int .i64 x.day, .int .i64 x.tn] 42) = W) := ⟨_, Lib.hid rfl⟩
          have HX1 := Lib.hid (show BX w X x V1 by rw [← HW1.out]; exact HX0.out.alloc _)
          have HYB := Lib.hid (show Blk V1 Y 42 #[.int .i64 x.day, .int .i64 x.tn] by rw [← HW1.out, ← HY.out]; exact Blk.new _ _ _)
          rw [HW1.out] at hHeld ⊢
          try rw [HY.out]
          clear HW1 HY
          refine wpAnyH_ready (rs := [8]) (by kernel_rfl) (by simp) ?_
          refine AllReadyH.cons rfl (fun K hK => ?_) AllReadyH.nil
          go_simp
          refine hK.out _ _ (s_mk (HX1.out.alloc _)) (fun hHeld1 => ?_)
          clear hK K hHeld
          have hHeld := hHeld1
          clear hHeld1
          try simp only [Act.put, List.getElem_toArray, List.getElem_cons_succ, List.getElem_cons_zero, List.setIfInBounds_toArray, List.set_cons_zero, List.set_cons_succ]
          obtain ⟨Q, HQQ⟩ : ∃ G, Hid (V1.heap.size = G) := ⟨_, Lib.hid rfl⟩
          obtain ⟨V2, HW2⟩ : ∃ W, Hid (V1.alloc (.cells #[.slice (some ⟨g, 0, none⟩) k k, .slice (some ⟨Y, 0, none⟩) 1 1, .slice (some ⟨g, 0, none⟩) 0 0] 24) = W) := ⟨_, Lib.hid rfl⟩
          have HX2 := Lib.hid (show BX w X x V2 by rw [← HW2.out]; exact HX1.out.alloc _)
          have HYB2 := Lib.hid (show Blk V2 Y 42 #[.int .i64 x.day, .int .i64 x.tn] by rw [← HW2.out]; exact HYB.out.alloc _)
          have HQB := Lib.hid (show Blk V2 Q 24 #[.slice (some ⟨g, 0, none⟩) k k, .slice (some ⟨Y, 0, none⟩) 1 1, .slice (some ⟨g, 0, none⟩) 0 0] by rw [← HW2.out, ← HQQ.out]; exact Blk.new _ _ _)
          rw [HW2.out] at hHeld ⊢
          try rw [HQQ.out]
          clear HW2 HQQ HYB
          have HPS := Lib.hid (show PrtsAt V2 V2.heap.size Q [⟨(some ⟨g, 0, none⟩), k, k, ts.take k⟩, ⟨some ⟨Y, 0, none⟩, 1, 1, [x]⟩, ⟨(some ⟨g, 0, none⟩), 0, 0, ts.drop k⟩] from ⟨HQB.out.lt, fun i p hp => by
            have hv := HX2.out.1
            have hsz := hv.size
            match i, hp with
            | 0, hp => obtain rfl := Option.some.inj hp; exact ⟨HQB.out.cell 0, prt_src (by omega) hsz (src_take (hts.out.below hv) (by omega) _)⟩
            | 1, hp => obtain rfl := Option.some.inj hp; exact ⟨HQB.out.cell 1, prt_src (by omega) (Nat.le_refl _) (src_one (B := V2.heap.size) HYB2.out rfl HYB2.out.lt 1)⟩
            | 2, hp => obtain rfl := Option.some.inj hp; exact ⟨HQB.out.cell 2, prt_src (by omega) hsz (by rw [List.drop_of_length_le (by rw [HL.out]; omega)]; exact src_end _ _ _ _)⟩
            | i + 3, hp => simp at hp⟩)
          have HJ := Lib.hid (show joinP [⟨(some ⟨g, 0, none⟩), k, k, ts.take k⟩, ⟨some ⟨Y, 0, none⟩, 1, 1, [x]⟩, ⟨(some ⟨g, 0, none⟩), 0, 0, ts.drop k⟩] = R by rw [← HRR.out, addDp_is HPK.out HBH.out]; simp [joinP])
          refine wpAnyH_ready (rs := [9]) (by kernel_rfl) (by simp) ?_
          refine AllReadyH.cons rfl (fun K hK => ?_) AllReadyH.nil
          go_simp
          refine (concat_any Q 3 _ _ _ (Nat.le_refl _) rfl HPS).mono ?_
          rintro e w4 ⟨A4, c4, rfl, ho, b4⟩
          rw [HJ.out, HNR.out] at ho
          try rw [HJ.out, HNR.out]
          have HX4 := Lib.hid (HX2.out.step b4)
          have HO4 := Lib.hid (own_low (base' := w.heap.size) (by have := HX2.out.1.size; omega) ho)
          refine hK.out _ _ (s_mk HX4.out) (fun hHeld1 => ?_)
          clear ho b4
          clear hK K hHeld
          have hHeld := hHeld1
          clear hHeld1
          try simp only [Act.put, List.getElem_toArray, List.getElem_cons_succ, List.getElem_cons_zero, List.setIfInBounds_toArray, List.set_cons_zero, List.set_cons_succ]
          refine' wpAnyH_take (i := 10) (v := ?vr2_10) rfl (by kernel_rfl) (by kernel_rfl) (by kernel_rfl) (fun _ _ _ h => h) (Or.inl ⟨by rfl, ?hyr2_10⟩) (by assumption) ?restr2_10
          case hyr2_10 => (intro w hSw; (try dsimp only at hSw); go_simp; try (with_reducible rfl))
          simp only [Act.put, List.getElem_toArray, List.getElem_cons_succ, List.getElem_cons_zero, List.setIfInBounds_toArray, List.set_cons_zero, List.set_cons_succ]
          refine wpAnyH_done (by kernel_rfl) ?_ _
          clear hHeld HPS HJ HQB HYB2 HX2 HX1 HX0
          go_wp2_with fail
          refine (arePoints_is A4 NR c4 R G2 HG2 _ (by omega) (Lib.hid (own_Dp HNR.out HO4.out))).mono ?_
          rintro e w8 ⟨rfl, b8⟩
          have HX8 := Lib.hid (HX4.out.step b8)
          have HO8 := Lib.hid (row_below HO4.out b8)
          clear b8 HX4 HO4
          cases G2
          · have HNO := Lib.hid (HFO.out rfl)
            go_wp2_with fail
            go_ret2
            exact ⟨_, by rw [HNO.out]; rfl, by rw [apV_no HNO.out]; exact made1 w w8 HX8.out.1.size 42 2, HX8.out.1.alloc HX8.out.1.size _⟩
          · have HYE := Lib.hid (HFT.out rfl)
            go_wp2_with fail
            go_ret2
            exact ⟨_, by rw [HYE.out]; rfl, by rw [apV_yes HYE.out, HRR.out, HNR.out]; exact HO8.out, HX8.out.1⟩
        · have hci : ¬ (cap : Int) = (k : Int) := by omega
          go_upto_region 7 with fail
          refine wp_region_held_drew (S := (fun v => v.cell? ⟨X, 0, none⟩ = some (.int .i64 x.day) ∧ v.cell? ⟨X, 1, none⟩ = some (.int .i64 x.tn) ∧ BX w X x v)) (by kernel_rfl) ?_ (fun hHeld => ?_)
          · exact s_mk (HB3.out.drewN 1)
          obtain ⟨V0, HV0⟩ : ∃ V, Hid (w3.drew = V) := ⟨_, Lib.hid rfl⟩
          have HX0 := Lib.hid (show BX w X x V0 by rw [← HV0.out]; exact HB3.out.drewN 1)
          rw [HV0.out] at hHeld ⊢
          clear HV0
          refine' wpAnyH_take (i := 0) (v := ?vr3_0) rfl (by kernel_rfl) (by kernel_rfl) (by kernel_rfl) (fun _ _ _ h => h) (Or.inl ⟨by rfl, ?hyr3_0⟩) (by assumption) ?restr3_0
          case hyr3_0 => (intro w hSw; (try dsimp only at hSw); go_simp; try (with_reducible rfl))
          simp only [Act.put, List.getElem_toArray, List.getElem_cons_succ, List.getElem_cons_zero, List.setIfInBounds_toArray, List.set_cons_zero, List.set_cons_succ]
          refine' wpAnyH_take (i := 1) (v := ?vr3_1) rfl (by kernel_rfl) (by kernel_rfl) (by kernel_rfl) (fun _ _ _ h => h) (Or.inl ⟨by rfl, ?hyr3_1⟩) (by assumption) ?restr3_1
          case hyr3_1 => (intro w hSw; (try dsimp only at hSw); go_simp; try (with_reducible rfl))
          simp only [Act.put, List.getElem_toArray, List.getElem_cons_succ, List.getElem_cons_zero, List.setIfInBounds_toArray, List.set_cons_zero, List.set_cons_succ]
          refine' wpAnyH_take (i := 2) (v := ?vr3_2) rfl (by kernel_rfl) (by kernel_rfl) (by kernel_rfl) (fun _ _ _ h => h) (Or.inl ⟨by rfl, ?hyr3_2⟩) (by assumption) ?restr3_2
          case hyr3_2 => (intro w hSw; (try dsimp only at hSw); go_simp; try (with_reducible rfl))
          simp only [Act.put, List.getElem_toArray, List.getElem_cons_succ, List.getElem_cons_zero, List.setIfInBounds_toArray, List.set_cons_zero, List.set_cons_succ]
          refine' wpAnyH_take (i := 3) (v := ?vr3_3) rfl (by kernel_rfl) (by kernel_rfl) (by kernel_rfl) (fun _ _ _ h => h) (Or.inl ⟨by rfl, ?hyr3_3⟩) (by assumption) ?restr3_3
          case hyr3_3 => (intro w hSw; (try dsimp only at hSw); go_simp; try (with_reducible rfl))
          simp only [Act.put, List.getElem_toArray, List.getElem_cons_succ, List.getElem_cons_zero, List.setIfInBounds_toArray, List.set_cons_zero, List.set_cons_succ]
          refine' wpAnyH_take (i := 5) (v := ?vr3_5) rfl (by kernel_rfl) (by kernel_rfl) (by kernel_rfl) (fun _ _ _ h => h) (Or.inl ⟨by rfl, ?hyr3_5⟩) (by assumption) ?restr3_5
          case hyr3_5 => (intro w hSw; (try dsimp only at hSw); go_simp; try (with_reducible rfl))
          simp only [Act.put, List.getElem_toArray, List.getElem_cons_succ, List.getElem_cons_zero, List.setIfInBounds_toArray, List.set_cons_zero, List.set_cons_succ]
          refine' wpAnyH_take (i := 6) (v := ?vr3_6) rfl (by kernel_rfl) (by kernel_rfl) (by kernel_rfl) (fun _ _ _ h => h) (Or.inl ⟨by rfl, ?hyr3_6⟩) (by assumption) ?restr3_6
          case hyr3_6 => (intro w hSw; (try dsimp only at hSw); go_simp; try (with_reducible rfl))
          simp only [Act.put, List.getElem_toArray, List.getElem_cons_succ, List.getElem_cons_zero, List.setIfInBounds_toArray, List.set_cons_zero, List.set_cons_succ]
          refine' wpAnyH_take (i := 7) (v := ?vr3_7) rfl (by kernel_rfl) (by kernel_rfl) (by kernel_rfl) (fun _ _ _ h => h) (Or.inl ⟨by rfl, ?hyr3_7⟩) (by assumption) ?restr3_7
          case hyr3_7 => (intro w hSw; (try dsimp only at hSw); go_simp; try (with_reducible rfl))
          simp only [Act.put, List.getElem_toArray, List.getElem_cons_succ, List.getElem_cons_zero, List.setIfInBounds_toArray, List.set_cons_zero, List.set_cons_succ]
          refine wpAnyH_ready (rs := [4]) (by kernel_rfl) (by simp) ?_
          refine AllReadyH.cons rfl (fun K hK => ?_) AllReadyH.nil
          go_simp
          refine hK.out _ _ (s_mk (HX0.out.alloc _)) (fun hHeld1 => ?_)
          clear hK K hHeld
          have hHeld := hHeld1
          clear hHeld1
          try simp only [Act.put, List.getElem_toArray, List.getElem_cons_succ, List.getElem_cons_zero, List.setIfInBounds_toArray, List.set_cons_zero, List.set_cons_succ]
          obtain ⟨Y, HY⟩ : ∃ G, Hid (V0.heap.size = G) := ⟨_, Lib.hid rfl⟩
          obtain ⟨V1, HW1⟩ : ∃ W, Hid (V0.alloc (.cells #[.int .i64 x.day, .int .i64 x.tn] 42) = W) := ⟨_, Lib.hid rfl⟩
          have HX1 := Lib.hid (show BX w X x V1 by rw [← HW1.out]; exact HX0.out.alloc _)
          have HYB := Lib.hid (show Blk V1 Y 42 #[.int .i64 x.day, .int .i64 x.tn] by rw [← HW1.out, ← HY.out]; exact Blk.new _ _ _)
          rw [HW1.out] at hHeld ⊢
          try rw [HY.out]
          clear HW1 HY
          refine wpAnyH_ready (rs := [8]) (by kernel_rfl) (by simp) ?_
          refine AllReadyH.cons rfl (fun K hK => ?_) AllReadyH.nil
          go_simp
          refine hK.out _ _ (s_mk (HX1.out.alloc _)) (fun hHeld1 => ?_)
          clear hK K hHeld
          have hHeld := hHeld1
          clear hHeld1
          try simp only [Act.put, List.getElem_toArray, List.getElem_cons_succ, List.getElem_cons_zero, List.setIfInBounds_toArray, List.set_cons_zero, List.set_cons_succ]
          obtain ⟨Q, HQQ⟩ : ∃ G, Hid (V1.heap.size = G) := ⟨_, Lib.hid rfl⟩
          obtain ⟨V2, HW2⟩ : ∃ W, Hid (V1.alloc (.cells #[.slice (some ⟨g, 0, none⟩) k cap, .slice (some ⟨Y, 0, none⟩) 1 1, .slice (some ⟨g, k * 2, none⟩) (n - k) (cap - k)] 24) = W) := ⟨_, Lib.hid rfl⟩
          have HX2 := Lib.hid (show BX w X x V2 by rw [← HW2.out]; exact HX1.out.alloc _)
          have HYB2 := Lib.hid (show Blk V2 Y 42 #[.int .i64 x.day, .int .i64 x.tn] by rw [← HW2.out]; exact HYB.out.alloc _)
          have HQB := Lib.hid (show Blk V2 Q 24 #[.slice (some ⟨g, 0, none⟩) k cap, .slice (some ⟨Y, 0, none⟩) 1 1, .slice (some ⟨g, k * 2, none⟩) (n - k) (cap - k)] by rw [← HW2.out, ← HQQ.out]; exact Blk.new _ _ _)
          rw [HW2.out] at hHeld ⊢
          try rw [HQQ.out]
          clear HW2 HQQ HYB
          have HPS := Lib.hid (show PrtsAt V2 V2.heap.size Q [⟨(some ⟨g, 0, none⟩), k, cap, ts.take k⟩, ⟨some ⟨Y, 0, none⟩, 1, 1, [x]⟩, ⟨(some ⟨g, k * 2, none⟩), (n - k), (cap - k), ts.drop k⟩] from ⟨HQB.out.lt, fun i p hp => by
            have hv := HX2.out.1
            have hsz := hv.size
            match i, hp with
            | 0, hp => obtain rfl := Option.some.inj hp; exact ⟨HQB.out.cell 0, prt_src (by omega) hsz (src_take (hts.out.below hv) (by omega) _)⟩
            | 1, hp => obtain rfl := Option.some.inj hp; exact ⟨HQB.out.cell 1, prt_src (by omega) (Nat.le_refl _) (src_one (B := V2.heap.size) HYB2.out rfl HYB2.out.lt 1)⟩
            | 2, hp => obtain rfl := Option.some.inj hp; exact ⟨HQB.out.cell 2, prt_src (by omega) hsz (src_drop (hts.out.below hv) (by omega) _)⟩
            | i + 3, hp => simp at hp⟩)
          have HJ := Lib.hid (show joinP [⟨(some ⟨g, 0, none⟩), k, cap, ts.take k⟩, ⟨some ⟨Y, 0, none⟩, 1, 1, [x]⟩, ⟨(some ⟨g, k * 2, none⟩), (n - k), (cap - k), ts.drop k⟩] = R by rw [← HRR.out, addDp_is HPK.out HBH.out]; simp [joinP])
          refine wpAnyH_ready (rs := [9]) (by kernel_rfl) (by simp) ?_
          refine AllReadyH.cons rfl (fun K hK => ?_) AllReadyH.nil
          go_simp
          refine (concat_any Q 3 _ _ _ (Nat.le_refl _) rfl HPS).mono ?_
          rintro e w4 ⟨A4, c4, rfl, ho, b4⟩
          rw [HJ.out, HNR.out] at ho
          try rw [HJ.out, HNR.out]
          have HX4 := Lib.hid (HX2.out.step b4)
          have HO4 := Lib.hid (own_low (base' := w.heap.size) (by have := HX2.out.1.size; omega) ho)
          refine hK.out _ _ (s_mk HX4.out) (fun hHeld1 => ?_)
          clear ho b4
          clear hK K hHeld
          have hHeld := hHeld1
          clear hHeld1
          try simp only [Act.put, List.getElem_toArray, List.getElem_cons_succ, List.getElem_cons_zero, List.setIfInBounds_toArray, List.set_cons_zero, List.set_cons_succ]
          refine' wpAnyH_take (i := 10) (v := ?vr4_10) rfl (by kernel_rfl) (by kernel_rfl) (by kernel_rfl) (fun _ _ _ h => h) (Or.inl ⟨by rfl, ?hyr4_10⟩) (by assumption) ?restr4_10
          case hyr4_10 => (intro w hSw; (try dsimp only at hSw); go_simp; try (with_reducible rfl))
          simp only [Act.put, List.getElem_toArray, List.getElem_cons_succ, List.getElem_cons_zero, List.setIfInBounds_toArray, List.set_cons_zero, List.set_cons_succ]
          refine wpAnyH_done (by kernel_rfl) ?_ _
          clear hHeld HPS HJ HQB HYB2 HX2 HX1 HX0
          go_wp2_with fail
          refine (arePoints_is A4 NR c4 R G2 HG2 _ (by omega) (Lib.hid (own_Dp HNR.out HO4.out))).mono ?_
          rintro e w8 ⟨rfl, b8⟩
          have HX8 := Lib.hid (HX4.out.step b8)
          have HO8 := Lib.hid (row_below HO4.out b8)
          clear b8 HX4 HO4
          cases G2
          · have HNO := Lib.hid (HFO.out rfl)
            go_wp2_with fail
            go_ret2
            exact ⟨_, by rw [HNO.out]; rfl, by rw [apV_no HNO.out]; exact made1 w w8 HX8.out.1.size 42 2, HX8.out.1.alloc HX8.out.1.size _⟩
          · have HYE := Lib.hid (HFT.out rfl)
            go_wp2_with fail
            go_ret2
            exact ⟨_, by rw [HYE.out]; rfl, by rw [apV_yes HYE.out, HRR.out, HNR.out]; exact HO8.out, HX8.out.1⟩
      · obtain rfl : k = 0 := by omega
        go_upto_region 7 with fail
        refine wp_region_held_drew (S := (fun v => v.cell? ⟨X, 0, none⟩ = some (.int .i64 x.day) ∧ v.cell? ⟨X, 1, none⟩ = some (.int .i64 x.tn) ∧ BX w X x v)) (by kernel_rfl) ?_ (fun hHeld => ?_)
        · exact s_mk (HB3.out.drewN 1)
        obtain ⟨V0, HV0⟩ : ∃ V, Hid (w3.drew = V) := ⟨_, Lib.hid rfl⟩
        have HX0 := Lib.hid (show BX w X x V0 by rw [← HV0.out]; exact HB3.out.drewN 1)
        rw [HV0.out] at hHeld ⊢
        clear HV0
        refine' wpAnyH_take (i := 0) (v := ?vr5_0) rfl (by kernel_rfl) (by kernel_rfl) (by kernel_rfl) (fun _ _ _ h => h) (Or.inl ⟨by rfl, ?hyr5_0⟩) (by assumption) ?restr5_0
        case hyr5_0 => (intro w hSw; (try dsimp only at hSw); go_simp; try (with_reducible rfl))
        simp only [Act.put, List.getElem_toArray, List.getElem_cons_succ, List.getElem_cons_zero, List.setIfInBounds_toArray, List.set_cons_zero, List.set_cons_succ]
        refine' wpAnyH_take (i := 1) (v := ?vr5_1) rfl (by kernel_rfl) (by kernel_rfl) (by kernel_rfl) (fun _ _ _ h => h) (Or.inl ⟨by rfl, ?hyr5_1⟩) (by assumption) ?restr5_1
        case hyr5_1 => (intro w hSw; (try dsimp only at hSw); go_simp; try (with_reducible rfl))
        simp only [Act.put, List.getElem_toArray, List.getElem_cons_succ, List.getElem_cons_zero, List.setIfInBounds_toArray, List.set_cons_zero, List.set_cons_succ]
        refine' wpAnyH_take (i := 2) (v := ?vr5_2) rfl (by kernel_rfl) (by kernel_rfl) (by kernel_rfl) (fun _ _ _ h => h) (Or.inl ⟨by rfl, ?hyr5_2⟩) (by assumption) ?restr5_2
        case hyr5_2 => (intro w hSw; (try dsimp only at hSw); go_simp; try (with_reducible rfl))
        simp only [Act.put, List.getElem_toArray, List.getElem_cons_succ, List.getElem_cons_zero, List.setIfInBounds_toArray, List.set_cons_zero, List.set_cons_succ]
        refine' wpAnyH_take (i := 3) (v := ?vr5_3) rfl (by kernel_rfl) (by kernel_rfl) (by kernel_rfl) (fun _ _ _ h => h) (Or.inl ⟨by rfl, ?hyr5_3⟩) (by assumption) ?restr5_3
        case hyr5_3 => (intro w hSw; (try dsimp only at hSw); go_simp; try (with_reducible rfl))
        simp only [Act.put, List.getElem_toArray, List.getElem_cons_succ, List.getElem_cons_zero, List.setIfInBounds_toArray, List.set_cons_zero, List.set_cons_succ]
        refine' wpAnyH_take (i := 5) (v := ?vr5_5) rfl (by kernel_rfl) (by kernel_rfl) (by kernel_rfl) (fun _ _ _ h => h) (Or.inl ⟨by rfl, ?hyr5_5⟩) (by assumption) ?restr5_5
        case hyr5_5 => (intro w hSw; (try dsimp only at hSw); go_simp; try (with_reducible rfl))
        simp only [Act.put, List.getElem_toArray, List.getElem_cons_succ, List.getElem_cons_zero, List.setIfInBounds_toArray, List.set_cons_zero, List.set_cons_succ]
        refine' wpAnyH_take (i := 6) (v := ?vr5_6) rfl (by kernel_rfl) (by kernel_rfl) (by kernel_rfl) (fun _ _ _ h => h) (Or.inl ⟨by rfl, ?hyr5_6⟩) (by assumption) ?restr5_6
        case hyr5_6 => (intro w hSw; (try dsimp only at hSw); go_simp; try (with_reducible rfl))
        simp only [Act.put, List.getElem_toArray, List.getElem_cons_succ, List.getElem_cons_zero, List.setIfInBounds_toArray, List.set_cons_zero, List.set_cons_succ]
        refine' wpAnyH_take (i := 7) (v := ?vr5_7) rfl (by kernel_rfl) (by kernel_rfl) (by kernel_rfl) (fun _ _ _ h => h) (Or.inl ⟨by rfl, ?hyr5_7⟩) (by assumption) ?restr5_7
        case hyr5_7 => (intro w hSw; (try dsimp only at hSw); go_simp; try (with_reducible rfl))
        simp only [Act.put, List.getElem_toArray, List.getElem_cons_succ, List.getElem_cons_zero, List.setIfInBounds_toArray, List.set_cons_zero, List.set_cons_succ]
        refine wpAnyH_ready (rs := [4]) (by kernel_rfl) (by simp) ?_
        refine AllReadyH.cons rfl (fun K hK => ?_) AllReadyH.nil
        go_simp
        refine hK.out _ _ (s_mk (HX0.out.alloc _)) (fun hHeld1 => ?_)
        clear hK K hHeld
        have hHeld := hHeld1
        clear hHeld1
        try simp only [Act.put, List.getElem_toArray, List.getElem_cons_succ, List.getElem_cons_zero, List.setIfInBounds_toArray, List.set_cons_zero, List.set_cons_succ]
        obtain ⟨Y, HY⟩ : ∃ G, Hid (V0.heap.size = G) := ⟨_, Lib.hid rfl⟩
        obtain ⟨V1, HW1⟩ : ∃ W, Hid (V0.alloc (.cells #[.int .i64 x.day, .int .i64 x.tn] 42) = W) := ⟨_, Lib.hid rfl⟩
        have HX1 := Lib.hid (show BX w X x V1 by rw [← HW1.out]; exact HX0.out.alloc _)
        have HYB := Lib.hid (show Blk V1 Y 42 #[.int .i64 x.day, .int .i64 x.tn] by rw [← HW1.out, ← HY.out]; exact Blk.new _ _ _)
        rw [HW1.out] at hHeld ⊢
        try rw [HY.out]
        clear HW1 HY
        refine wpAnyH_ready (rs := [8]) (by kernel_rfl) (by simp) ?_
        refine AllReadyH.cons rfl (fun K hK => ?_) AllReadyH.nil
        go_simp
        refine hK.out _ _ (s_mk (HX1.out.alloc _)) (fun hHeld1 => ?_)
        clear hK K hHeld
        have hHeld := hHeld1
        clear hHeld1
        try simp only [Act.put, List.getElem_toArray, List.getElem_cons_succ, List.getElem_cons_zero, List.setIfInBounds_toArray, List.set_cons_zero, List.set_cons_succ]
        obtain ⟨Q, HQQ⟩ : ∃ G, Hid (V1.heap.size = G) := ⟨_, Lib.hid rfl⟩
        obtain ⟨V2, HW2⟩ : ∃ W, Hid (V1.alloc (.cells #[.slice none 0 0, .slice (some ⟨Y, 0, none⟩) 1 1, .slice none 0 0] 24) = W) := ⟨_, Lib.hid rfl⟩
        have HX2 := Lib.hid (show BX w X x V2 by rw [← HW2.out]; exact HX1.out.alloc _)
        have HYB2 := Lib.hid (show Blk V2 Y 42 #[.int .i64 x.day, .int .i64 x.tn] by rw [← HW2.out]; exact HYB.out.alloc _)
        have HQB := Lib.hid (show Blk V2 Q 24 #[.slice none 0 0, .slice (some ⟨Y, 0, none⟩) 1 1, .slice none 0 0] by rw [← HW2.out, ← HQQ.out]; exact Blk.new _ _ _)
        rw [HW2.out] at hHeld ⊢
        try rw [HQQ.out]
        clear HW2 HQQ HYB
        have HPS := Lib.hid (show PrtsAt V2 V2.heap.size Q [⟨none, 0, 0, ts.take 0⟩, ⟨some ⟨Y, 0, none⟩, 1, 1, [x]⟩, ⟨none, 0, 0, ts.drop 0⟩] from ⟨HQB.out.lt, fun i p hp => by
          have hv := HX2.out.1
          have hsz := hv.size
          match i, hp with
          | 0, hp => obtain rfl := Option.some.inj hp; exact ⟨HQB.out.cell 0, prt_src (by omega) hsz (by rw [List.take_zero]; exact src_nil _ _)⟩
          | 1, hp => obtain rfl := Option.some.inj hp; exact ⟨HQB.out.cell 1, prt_src (by omega) (Nat.le_refl _) (src_one (B := V2.heap.size) HYB2.out rfl HYB2.out.lt 1)⟩
          | 2, hp => obtain rfl := Option.some.inj hp; exact ⟨HQB.out.cell 2, prt_src (by omega) hsz (by rw [show ts = [] from List.length_eq_zero_iff.1 HL.out]; exact src_nil _ _)⟩
          | i + 3, hp => simp at hp⟩)
        have HJ := Lib.hid (show joinP [⟨none, 0, 0, ts.take 0⟩, ⟨some ⟨Y, 0, none⟩, 1, 1, [x]⟩, ⟨none, 0, 0, ts.drop 0⟩] = R by rw [← HRR.out, addDp_is HPK.out HBH.out]; simp [joinP])
        refine wpAnyH_ready (rs := [9]) (by kernel_rfl) (by simp) ?_
        refine AllReadyH.cons rfl (fun K hK => ?_) AllReadyH.nil
        go_simp
        refine (concat_any Q 3 _ _ _ (Nat.le_refl _) rfl HPS).mono ?_
        rintro e w4 ⟨A4, c4, rfl, ho, b4⟩
        rw [HJ.out, HNR.out] at ho
        try rw [HJ.out, HNR.out]
        have HX4 := Lib.hid (HX2.out.step b4)
        have HO4 := Lib.hid (own_low (base' := w.heap.size) (by have := HX2.out.1.size; omega) ho)
        refine hK.out _ _ (s_mk HX4.out) (fun hHeld1 => ?_)
        clear ho b4
        clear hK K hHeld
        have hHeld := hHeld1
        clear hHeld1
        try simp only [Act.put, List.getElem_toArray, List.getElem_cons_succ, List.getElem_cons_zero, List.setIfInBounds_toArray, List.set_cons_zero, List.set_cons_succ]
        refine' wpAnyH_take (i := 10) (v := ?vr6_10) rfl (by kernel_rfl) (by kernel_rfl) (by kernel_rfl) (fun _ _ _ h => h) (Or.inl ⟨by rfl, ?hyr6_10⟩) (by assumption) ?restr6_10
        case hyr6_10 => (intro w hSw; (try dsimp only at hSw); go_simp; try (with_reducible rfl))
        simp only [Act.put, List.getElem_toArray, List.getElem_cons_succ, List.getElem_cons_zero, List.setIfInBounds_toArray, List.set_cons_zero, List.set_cons_succ]
        refine wpAnyH_done (by kernel_rfl) ?_ _
        clear hHeld HPS HJ HQB HYB2 HX2 HX1 HX0
        go_wp2_with fail
        refine (arePoints_is A4 NR c4 R G2 HG2 _ (by omega) (Lib.hid (own_Dp HNR.out HO4.out))).mono ?_
        rintro e w8 ⟨rfl, b8⟩
        have HX8 := Lib.hid (HX4.out.step b8)
        have HO8 := Lib.hid (row_below HO4.out b8)
        clear b8 HX4 HO4
        cases G2
        · have HNO := Lib.hid (HFO.out rfl)
          go_wp2_with fail
          go_ret2
          exact ⟨_, by rw [HNO.out]; rfl, by rw [apV_no HNO.out]; exact made1 w w8 HX8.out.1.size 42 2, HX8.out.1.alloc HX8.out.1.size _⟩
        · have HYE := Lib.hid (HFT.out rfl)
          go_wp2_with fail
          go_ret2
          exact ⟨_, by rw [HYE.out]; rfl, by rw [apV_yes HYE.out, HRR.out, HNR.out]; exact HO8.out, HX8.out.1⟩
    · obtain ⟨q, hq, hqd⟩ := on_yes HPK.out HON.out
      have hkn : k < n := by have := lt_at hq; rw [HL.out] at this; exact this
      have HBH := Lib.hid (behind_yes HPK.out hq hqd)
      clear hq hqd
      obtain ⟨b, hb⟩ : ∃ b, k + 1 = b := ⟨_, rfl⟩
      have hbi : (k : Int) + 1 = (b : Int) := by omega
      have hkb : k ≤ b := by omega
      have hkbi : (k : Int) ≤ (b : Int) := by omega
      rw [hb] at HBH
      have HBN := Lib.hid (show b ≤ n by omega)
      have hbn : b ≤ n := HBN.out
      have hb0 : (0 : Int) ≤ (b : Int) := by omega
      have hbni : (b : Int) ≤ (n : Int) := by omega
      rcases HCP.out with ⟨g, rfl, hnc⟩ | ⟨rfl, rfl, rfl⟩
      · have hkc : k ≤ cap := by omega
        have hkci : (k : Int) ≤ (cap : Int) := by omega
        have hnci : (n : Int) ≤ (cap : Int) := by omega
        have hbci : (b : Int) ≤ (cap : Int) := by omega
        by_cases hce : cap = b
        · have hci : (cap : Int) = (b : Int) := by omega
          have hnb : n = b := by omega
          go_upto_region 7 with fail
          refine wp_region_held_drew (S := (fun v => v.cell? ⟨X, 0, none⟩ = some (.int .i64 x.day) ∧ v.cell? ⟨X, 1, none⟩ = some (.int .i64 x.tn) ∧ BX w X x v)) (by kernel_rfl) ?_ (fun hHeld => ?_)
          · exact s_mk (HB3.out.drewN 1)
          obtain ⟨V0, HV0⟩ : ∃ V, Hid (w3.drew = V) := ⟨_, Lib.hid rfl⟩
          have HX0 := Lib.hid (show BX w X x V0 by rw [← HV0.out]; exact HB3.out.drewN 1)
          rw [HV0.out] at hHeld ⊢
          clear HV0
          refine' wpAnyH_take (i := 0) (v := ?vr7_0) rfl (by kernel_rfl) (by kernel_rfl) (by kernel_rfl) (fun _ _ _ h => h) (Or.inl ⟨by rfl, ?hyr7_0⟩) (by assumption) ?restr7_0
          case hyr7_0 => (intro w hSw; (try dsimp only at hSw); go_simp; try (with_reducible rfl))
          simp only [Act.put, List.getElem_toArray, List.getElem_cons_succ, List.getElem_cons_zero, List.setIfInBounds_toArray, List.set_cons_zero, List.set_cons_succ]
          refine' wpAnyH_take (i := 1) (v := ?vr7_1) rfl (by kernel_rfl) (by kernel_rfl) (by kernel_rfl) (fun _ _ _ h => h) (Or.inl ⟨by rfl, ?hyr7_1⟩) (by assumption) ?restr7_1
          case hyr7_1 => (intro w hSw; (try dsimp only at hSw); go_simp; try (with_reducible rfl))
          simp only [Act.put, List.getElem_toArray, List.getElem_cons_succ, List.getElem_cons_zero, List.setIfInBounds_toArray, List.set_cons_zero, List.set_cons_succ]
          refine' wpAnyH_take (i := 2) (v := ?vr7_2) rfl (by kernel_rfl) (by kernel_rfl) (by kernel_rfl) (fun _ _ _ h => h) (Or.inl ⟨by rfl, ?hyr7_2⟩) (by assumption) ?restr7_2
          case hyr7_2 => (intro w hSw; (try dsimp only at hSw); go_simp; try (with_reducible rfl))
          simp only [Act.put, List.getElem_toArray, List.getElem_cons_succ, List.getElem_cons_zero, List.setIfInBounds_toArray, List.set_cons_zero, List.set_cons_succ]
          refine' wpAnyH_take (i := 3) (v := ?vr7_3) rfl (by kernel_rfl) (by kernel_rfl) (by kernel_rfl) (fun _ _ _ h => h) (Or.inl ⟨by rfl, ?hyr7_3⟩) (by assumption) ?restr7_3
          case hyr7_3 => (intro w hSw; (try dsimp only at hSw); go_simp; try (with_reducible rfl))
          simp only [Act.put, List.getElem_toArray, List.getElem_cons_succ, List.getElem_cons_zero, List.setIfInBounds_toArray, List.set_cons_zero, List.set_cons_succ]
          refine' wpAnyH_take (i := 5) (v := ?vr7_5) rfl (by kernel_rfl) (by kernel_rfl) (by kernel_rfl) (fun _ _ _ h => h) (Or.inl ⟨by rfl, ?hyr7_5⟩) (by assumption) ?restr7_5
          case hyr7_5 => (intro w hSw; (try dsimp only at hSw); go_simp; try (with_reducible rfl))
          simp only [Act.put, List.getElem_toArray, List.getElem_cons_succ, List.getElem_cons_zero, List.setIfInBounds_toArray, List.set_cons_zero, List.set_cons_succ]
          refine' wpAnyH_take (i := 6) (v := ?vr7_6) rfl (by kernel_rfl) (by kernel_rfl) (by kernel_rfl) (fun _ _ _ h => h) (Or.inl ⟨by rfl, ?hyr7_6⟩) (by assumption) ?restr7_6
          case hyr7_6 => (intro w hSw; (try dsimp only at hSw); go_simp; try (with_reducible rfl))
          simp only [Act.put, List.getElem_toArray, List.getElem_cons_succ, List.getElem_cons_zero, List.setIfInBounds_toArray, List.set_cons_zero, List.set_cons_succ]
          refine' wpAnyH_take (i := 7) (v := ?vr7_7) rfl (by kernel_rfl) (by kernel_rfl) (by kernel_rfl) (fun _ _ _ h => h) (Or.inl ⟨by rfl, ?hyr7_7⟩) (by assumption) ?restr7_7
          case hyr7_7 => (intro w hSw; (try dsimp only at hSw); go_simp; try (with_reducible rfl))
          simp only [Act.put, List.getElem_toArray, List.getElem_cons_succ, List.getElem_cons_zero, List.setIfInBounds_toArray, List.set_cons_zero, List.set_cons_succ]
          refine wpAnyH_ready (rs := [4]) (by kernel_rfl) (by simp) ?_
          refine AllReadyH.cons rfl (fun K hK => ?_) AllReadyH.nil
          go_simp
          refine hK.out _ _ (s_mk (HX0.out.alloc _)) (fun hHeld1 => ?_)
          clear hK K hHeld
          have hHeld := hHeld1
          clear hHeld1
          try simp only [Act.put, List.getElem_toArray, List.getElem_cons_succ, List.getElem_cons_zero, List.setIfInBounds_toArray, List.set_cons_zero, List.set_cons_succ]
          obtain ⟨Y, HY⟩ : ∃ G, Hid (V0.heap.size = G) := ⟨_, Lib.hid rfl⟩
          obtain ⟨V1, HW1⟩ : ∃ W, Hid (V0.alloc (.cells #[.int .i64 x.day, .int .i64 x.tn] 42) = W) := ⟨_, Lib.hid rfl⟩
          have HX1 := Lib.hid (show BX w X x V1 by rw [← HW1.out]; exact HX0.out.alloc _)
          have HYB := Lib.hid (show Blk V1 Y 42 #[.int .i64 x.day, .int .i64 x.tn] by rw [← HW1.out, ← HY.out]; exact Blk.new _ _ _)
          rw [HW1.out] at hHeld ⊢
          try rw [HY.out]
          clear HW1 HY
          refine wpAnyH_ready (rs := [8]) (by kernel_rfl) (by simp) ?_
          refine AllReadyH.cons rfl (fun K hK => ?_) AllReadyH.nil
          go_simp
          refine hK.out _ _ (s_mk (HX1.out.alloc _)) (fun hHeld1 => ?_)
          clear hK K hHeld
          have hHeld := hHeld1
          clear hHeld1
          try simp only [Act.put, List.getElem_toArray, List.getElem_cons_succ, List.getElem_cons_zero, List.setIfInBounds_toArray, List.set_cons_zero, List.set_cons_succ]
          obtain ⟨Q, HQQ⟩ : ∃ G, Hid (V1.heap.size = G) := ⟨_, Lib.hid rfl⟩
          obtain ⟨V2, HW2⟩ : ∃ W, Hid (V1.alloc (.cells #[.slice (some ⟨g, 0, none⟩) k b, .slice (some ⟨Y, 0, none⟩) 1 1, .slice (some ⟨g, 0, none⟩) 0 0] 24) = W) := ⟨_, Lib.hid rfl⟩
          have HX2 := Lib.hid (show BX w X x V2 by rw [← HW2.out]; exact HX1.out.alloc _)
          have HYB2 := Lib.hid (show Blk V2 Y 42 #[.int .i64 x.day, .int .i64 x.tn] by rw [← HW2.out]; exact HYB.out.alloc _)
          have HQB := Lib.hid (show Blk V2 Q 24 #[.slice (some ⟨g, 0, none⟩) k b, .slice (some ⟨Y, 0, none⟩) 1 1, .slice (some ⟨g, 0, none⟩) 0 0] by rw [← HW2.out, ← HQQ.out]; exact Blk.new _ _ _)
          rw [HW2.out] at hHeld ⊢
          try rw [HQQ.out]
          clear HW2 HQQ HYB
          have HPS := Lib.hid (show PrtsAt V2 V2.heap.size Q [⟨(some ⟨g, 0, none⟩), k, b, ts.take k⟩, ⟨some ⟨Y, 0, none⟩, 1, 1, [x]⟩, ⟨(some ⟨g, 0, none⟩), 0, 0, ts.drop b⟩] from ⟨HQB.out.lt, fun i p hp => by
            have hv := HX2.out.1
            have hsz := hv.size
            match i, hp with
            | 0, hp => obtain rfl := Option.some.inj hp; exact ⟨HQB.out.cell 0, prt_src (by omega) hsz (src_take (hts.out.below hv) (by omega) _)⟩
            | 1, hp => obtain rfl := Option.some.inj hp; exact ⟨HQB.out.cell 1, prt_src (by omega) (Nat.le_refl _) (src_one (B := V2.heap.size) HYB2.out rfl HYB2.out.lt 1)⟩
            | 2, hp => obtain rfl := Option.some.inj hp; exact ⟨HQB.out.cell 2, prt_src (by omega) hsz (by rw [List.drop_of_length_le (by rw [HL.out]; omega)]; exact src_end _ _ _ _)⟩
            | i + 3, hp => simp at hp⟩)
          have HJ := Lib.hid (show joinP [⟨(some ⟨g, 0, none⟩), k, b, ts.take k⟩, ⟨some ⟨Y, 0, none⟩, 1, 1, [x]⟩, ⟨(some ⟨g, 0, none⟩), 0, 0, ts.drop b⟩] = R by rw [← HRR.out, addDp_is HPK.out HBH.out]; simp [joinP])
          refine wpAnyH_ready (rs := [9]) (by kernel_rfl) (by simp) ?_
          refine AllReadyH.cons rfl (fun K hK => ?_) AllReadyH.nil
          go_simp
          refine (concat_any Q 3 _ _ _ (Nat.le_refl _) rfl HPS).mono ?_
          rintro e w4 ⟨A4, c4, rfl, ho, b4⟩
          rw [HJ.out, HNR.out] at ho
          try rw [HJ.out, HNR.out]
          have HX4 := Lib.hid (HX2.out.step b4)
          have HO4 := Lib.hid (own_low (base' := w.heap.size) (by have := HX2.out.1.size; omega) ho)
          refine hK.out _ _ (s_mk HX4.out) (fun hHeld1 => ?_)
          clear ho b4
          clear hK K hHeld
          have hHeld := hHeld1
          clear hHeld1
          try simp only [Act.put, List.getElem_toArray, List.getElem_cons_succ, List.getElem_cons_zero, List.setIfInBounds_toArray, List.set_cons_zero, List.set_cons_succ]
          refine' wpAnyH_take (i := 10) (v := ?vr8_10) rfl (by kernel_rfl) (by kernel_rfl) (by kernel_rfl) (fun _ _ _ h => h) (Or.inl ⟨by rfl, ?hyr8_10⟩) (by assumption) ?restr8_10
          case hyr8_10 => (intro w hSw; (try dsimp only at hSw); go_simp; try (with_reducible rfl))
          simp only [Act.put, List.getElem_toArray, List.getElem_cons_succ, List.getElem_cons_zero, List.setIfInBounds_toArray, List.set_cons_zero, List.set_cons_succ]
          refine wpAnyH_done (by kernel_rfl) ?_ _
          clear hHeld HPS HJ HQB HYB2 HX2 HX1 HX0
          go_wp2_with fail
          refine (arePoints_is A4 NR c4 R G2 HG2 _ (by omega) (Lib.hid (own_Dp HNR.out HO4.out))).mono ?_
          rintro e w8 ⟨rfl, b8⟩
          have HX8 := Lib.hid (HX4.out.step b8)
          have HO8 := Lib.hid (row_below HO4.out b8)
          clear b8 HX4 HO4
          cases G2
          · have HNO := Lib.hid (HFO.out rfl)
            go_wp2_with fail
            go_ret2
            exact ⟨_, by rw [HNO.out]; rfl, by rw [apV_no HNO.out]; exact made1 w w8 HX8.out.1.size 42 2, HX8.out.1.alloc HX8.out.1.size _⟩
          · have HYE := Lib.hid (HFT.out rfl)
            go_wp2_with fail
            go_ret2
            exact ⟨_, by rw [HYE.out]; rfl, by rw [apV_yes HYE.out, HRR.out, HNR.out]; exact HO8.out, HX8.out.1⟩
        · have hci : ¬ (cap : Int) = (b : Int) := by omega
          go_upto_region 7 with fail
          refine wp_region_held_drew (S := (fun v => v.cell? ⟨X, 0, none⟩ = some (.int .i64 x.day) ∧ v.cell? ⟨X, 1, none⟩ = some (.int .i64 x.tn) ∧ BX w X x v)) (by kernel_rfl) ?_ (fun hHeld => ?_)
          · exact s_mk (HB3.out.drewN 1)
          obtain ⟨V0, HV0⟩ : ∃ V, Hid (w3.drew = V) := ⟨_, Lib.hid rfl⟩
          have HX0 := Lib.hid (show BX w X x V0 by rw [← HV0.out]; exact HB3.out.drewN 1)
          rw [HV0.out] at hHeld ⊢
          clear HV0
          refine' wpAnyH_take (i := 0) (v := ?vr9_0) rfl (by kernel_rfl) (by kernel_rfl) (by kernel_rfl) (fun _ _ _ h => h) (Or.inl ⟨by rfl, ?hyr9_0⟩) (by assumption) ?restr9_0
          case hyr9_0 => (intro w hSw; (try dsimp only at hSw); go_simp; try (with_reducible rfl))
          simp only [Act.put, List.getElem_toArray, List.getElem_cons_succ, List.getElem_cons_zero, List.setIfInBounds_toArray, List.set_cons_zero, List.set_cons_succ]
          refine' wpAnyH_take (i := 1) (v := ?vr9_1) rfl (by kernel_rfl) (by kernel_rfl) (by kernel_rfl) (fun _ _ _ h => h) (Or.inl ⟨by rfl, ?hyr9_1⟩) (by assumption) ?restr9_1
          case hyr9_1 => (intro w hSw; (try dsimp only at hSw); go_simp; try (with_reducible rfl))
          simp only [Act.put, List.getElem_toArray, List.getElem_cons_succ, List.getElem_cons_zero, List.setIfInBounds_toArray, List.set_cons_zero, List.set_cons_succ]
          refine' wpAnyH_take (i := 2) (v := ?vr9_2) rfl (by kernel_rfl) (by kernel_rfl) (by kernel_rfl) (fun _ _ _ h => h) (Or.inl ⟨by rfl, ?hyr9_2⟩) (by assumption) ?restr9_2
          case hyr9_2 => (intro w hSw; (try dsimp only at hSw); go_simp; try (with_reducible rfl))
          simp only [Act.put, List.getElem_toArray, List.getElem_cons_succ, List.getElem_cons_zero, List.setIfInBounds_toArray, List.set_cons_zero, List.set_cons_succ]
          refine' wpAnyH_take (i := 3) (v := ?vr9_3) rfl (by kernel_rfl) (by kernel_rfl) (by kernel_rfl) (fun _ _ _ h => h) (Or.inl ⟨by rfl, ?hyr9_3⟩) (by assumption) ?restr9_3
          case hyr9_3 => (intro w hSw; (try dsimp only at hSw); go_simp; try (with_reducible rfl))
          simp only [Act.put, List.getElem_toArray, List.getElem_cons_succ, List.getElem_cons_zero, List.setIfInBounds_toArray, List.set_cons_zero, List.set_cons_succ]
          refine' wpAnyH_take (i := 5) (v := ?vr9_5) rfl (by kernel_rfl) (by kernel_rfl) (by kernel_rfl) (fun _ _ _ h => h) (Or.inl ⟨by rfl, ?hyr9_5⟩) (by assumption) ?restr9_5
          case hyr9_5 => (intro w hSw; (try dsimp only at hSw); go_simp; try (with_reducible rfl))
          simp only [Act.put, List.getElem_toArray, List.getElem_cons_succ, List.getElem_cons_zero, List.setIfInBounds_toArray, List.set_cons_zero, List.set_cons_succ]
          refine' wpAnyH_take (i := 6) (v := ?vr9_6) rfl (by kernel_rfl) (by kernel_rfl) (by kernel_rfl) (fun _ _ _ h => h) (Or.inl ⟨by rfl, ?hyr9_6⟩) (by assumption) ?restr9_6
          case hyr9_6 => (intro w hSw; (try dsimp only at hSw); go_simp; try (with_reducible rfl))
          simp only [Act.put, List.getElem_toArray, List.getElem_cons_succ, List.getElem_cons_zero, List.setIfInBounds_toArray, List.set_cons_zero, List.set_cons_succ]
          refine' wpAnyH_take (i := 7) (v := ?vr9_7) rfl (by kernel_rfl) (by kernel_rfl) (by kernel_rfl) (fun _ _ _ h => h) (Or.inl ⟨by rfl, ?hyr9_7⟩) (by assumption) ?restr9_7
          case hyr9_7 => (intro w hSw; (try dsimp only at hSw); go_simp; try (with_reducible rfl))
          simp only [Act.put, List.getElem_toArray, List.getElem_cons_succ, List.getElem_cons_zero, List.setIfInBounds_toArray, List.set_cons_zero, List.set_cons_succ]
          refine wpAnyH_ready (rs := [4]) (by kernel_rfl) (by simp) ?_
          refine AllReadyH.cons rfl (fun K hK => ?_) AllReadyH.nil
          go_simp
          refine hK.out _ _ (s_mk (HX0.out.alloc _)) (fun hHeld1 => ?_)
          clear hK K hHeld
          have hHeld := hHeld1
          clear hHeld1
          try simp only [Act.put, List.getElem_toArray, List.getElem_cons_succ, List.getElem_cons_zero, List.setIfInBounds_toArray, List.set_cons_zero, List.set_cons_succ]
          obtain ⟨Y, HY⟩ : ∃ G, Hid (V0.heap.size = G) := ⟨_, Lib.hid rfl⟩
          obtain ⟨V1, HW1⟩ : ∃ W, Hid (V0.alloc (.cells #[.int .i64 x.day, .int .i64 x.tn] 42) = W) := ⟨_, Lib.hid rfl⟩
          have HX1 := Lib.hid (show BX w X x V1 by rw [← HW1.out]; exact HX0.out.alloc _)
          have HYB := Lib.hid (show Blk V1 Y 42 #[.int .i64 x.day, .int .i64 x.tn] by rw [← HW1.out, ← HY.out]; exact Blk.new _ _ _)
          rw [HW1.out] at hHeld ⊢
          try rw [HY.out]
          clear HW1 HY
          refine wpAnyH_ready (rs := [8]) (by kernel_rfl) (by simp) ?_
          refine AllReadyH.cons rfl (fun K hK => ?_) AllReadyH.nil
          go_simp
          refine hK.out _ _ (s_mk (HX1.out.alloc _)) (fun hHeld1 => ?_)
          clear hK K hHeld
          have hHeld := hHeld1
          clear hHeld1
          try simp only [Act.put, List.getElem_toArray, List.getElem_cons_succ, List.getElem_cons_zero, List.setIfInBounds_toArray, List.set_cons_zero, List.set_cons_succ]
          obtain ⟨Q, HQQ⟩ : ∃ G, Hid (V1.heap.size = G) := ⟨_, Lib.hid rfl⟩
          obtain ⟨V2, HW2⟩ : ∃ W, Hid (V1.alloc (.cells #[.slice (some ⟨g, 0, none⟩) k cap, .slice (some ⟨Y, 0, none⟩) 1 1, .slice (some ⟨g, b * 2, none⟩) (n - b) (cap - b)] 24) = W) := ⟨_, Lib.hid rfl⟩
          have HX2 := Lib.hid (show BX w X x V2 by rw [← HW2.out]; exact HX1.out.alloc _)
          have HYB2 := Lib.hid (show Blk V2 Y 42 #[.int .i64 x.day, .int .i64 x.tn] by rw [← HW2.out]; exact HYB.out.alloc _)
          have HQB := Lib.hid (show Blk V2 Q 24 #[.slice (some ⟨g, 0, none⟩) k cap, .slice (some ⟨Y, 0, none⟩) 1 1, .slice (some ⟨g, b * 2, none⟩) (n - b) (cap - b)] by rw [← HW2.out, ← HQQ.out]; exact Blk.new _ _ _)
          rw [HW2.out] at hHeld ⊢
          try rw [HQQ.out]
          clear HW2 HQQ HYB
          have HPS := Lib.hid (show PrtsAt V2 V2.heap.size Q [⟨(some ⟨g, 0, none⟩), k, cap, ts.take k⟩, ⟨some ⟨Y, 0, none⟩, 1, 1, [x]⟩, ⟨(some ⟨g, b * 2, none⟩), (n - b), (cap - b), ts.drop b⟩] from ⟨HQB.out.lt, fun i p hp => by
            have hv := HX2.out.1
            have hsz := hv.size
            match i, hp with
            | 0, hp => obtain rfl := Option.some.inj hp; exact ⟨HQB.out.cell 0, prt_src (by omega) hsz (src_take (hts.out.below hv) (by omega) _)⟩
            | 1, hp => obtain rfl := Option.some.inj hp; exact ⟨HQB.out.cell 1, prt_src (by omega) (Nat.le_refl _) (src_one (B := V2.heap.size) HYB2.out rfl HYB2.out.lt 1)⟩
            | 2, hp => obtain rfl := Option.some.inj hp; exact ⟨HQB.out.cell 2, prt_src (by omega) hsz (src_drop (hts.out.below hv) (by omega) _)⟩
            | i + 3, hp => simp at hp⟩)
          have HJ := Lib.hid (show joinP [⟨(some ⟨g, 0, none⟩), k, cap, ts.take k⟩, ⟨some ⟨Y, 0, none⟩, 1, 1, [x]⟩, ⟨(some ⟨g, b * 2, none⟩), (n - b), (cap - b), ts.drop b⟩] = R by rw [← HRR.out, addDp_is HPK.out HBH.out]; simp [joinP])
          refine wpAnyH_ready (rs := [9]) (by kernel_rfl) (by simp) ?_
          refine AllReadyH.cons rfl (fun K hK => ?_) AllReadyH.nil
          go_simp
          refine (concat_any Q 3 _ _ _ (Nat.le_refl _) rfl HPS).mono ?_
          rintro e w4 ⟨A4, c4, rfl, ho, b4⟩
          rw [HJ.out, HNR.out] at ho
          try rw [HJ.out, HNR.out]
          have HX4 := Lib.hid (HX2.out.step b4)
          have HO4 := Lib.hid (own_low (base' := w.heap.size) (by have := HX2.out.1.size; omega) ho)
          refine hK.out _ _ (s_mk HX4.out) (fun hHeld1 => ?_)
          clear ho b4
          clear hK K hHeld
          have hHeld := hHeld1
          clear hHeld1
          try simp only [Act.put, List.getElem_toArray, List.getElem_cons_succ, List.getElem_cons_zero, List.setIfInBounds_toArray, List.set_cons_zero, List.set_cons_succ]
          refine' wpAnyH_take (i := 10) (v := ?vr10_10) rfl (by kernel_rfl) (by kernel_rfl) (by kernel_rfl) (fun _ _ _ h => h) (Or.inl ⟨by rfl, ?hyr10_10⟩) (by assumption) ?restr10_10
          case hyr10_10 => (intro w hSw; (try dsimp only at hSw); go_simp; try (with_reducible rfl))
          simp only [Act.put, List.getElem_toArray, List.getElem_cons_succ, List.getElem_cons_zero, List.setIfInBounds_toArray, List.set_cons_zero, List.set_cons_succ]
          refine wpAnyH_done (by kernel_rfl) ?_ _
          clear hHeld HPS HJ HQB HYB2 HX2 HX1 HX0
          go_wp2_with fail
          refine (arePoints_is A4 NR c4 R G2 HG2 _ (by omega) (Lib.hid (own_Dp HNR.out HO4.out))).mono ?_
          rintro e w8 ⟨rfl, b8⟩
          have HX8 := Lib.hid (HX4.out.step b8)
          have HO8 := Lib.hid (row_below HO4.out b8)
          clear b8 HX4 HO4
          cases G2
          · have HNO := Lib.hid (HFO.out rfl)
            go_wp2_with fail
            go_ret2
            exact ⟨_, by rw [HNO.out]; rfl, by rw [apV_no HNO.out]; exact made1 w w8 HX8.out.1.size 42 2, HX8.out.1.alloc HX8.out.1.size _⟩
          · have HYE := Lib.hid (HFT.out rfl)
            go_wp2_with fail
            go_ret2
            exact ⟨_, by rw [HYE.out]; rfl, by rw [apV_yes HYE.out, HRR.out, HNR.out]; exact HO8.out, HX8.out.1⟩
      · omega
end Go.Proofs.Ytiimegmaokfpgaa.va
