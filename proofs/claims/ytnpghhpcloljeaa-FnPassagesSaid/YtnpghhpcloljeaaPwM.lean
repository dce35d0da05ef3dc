/-
  The model of merged passages.
  Conditions: the passages lie in one block, at most 2000000 of them.
-/
import Derived.Test.YtnpghhpcloljeaaPwG
import Derived.Test.YtnpghhpcloljeaaPwW
import Derived.Test.YtnpghhpcloljeaaLeast
import Derived.BigQuiet
import Derived.Deep.QuietTactic
import Derived.Deep.Cut
import Derived.Deep.DeepCutAuto
import Derived.RegionTactic
import Derived.Deep.RegionWith
import Derived.OwnWalk
import Derived.Deep.RegionHeld3
namespace Go.Proofs.Ytnpghhpcloljeaa.pw
open Go.RowKit
open reads base ty rowi win inn lg
set_option linter.unusedVariables false
set_option linter.unusedSimpArgs false

set_option maxHeartbeats 16000000 in
set_option maxRecDepth 100000 in
theorem merge_model (A1 : Option Addr) (n1 cap1 : Nat) (as1 : List Pg) (A : Option Addr) (n cap : Nat) (bs : List Pg) (w : World) (hn1 : n1 ≤ 2000000) (h1 : Hid (PgAt w w.heap.size A1 n1 as1)) (hn : n ≤ 2000000) (h2 : Hid (PgAt w w.heap.size A n bs)) :
    Calls Try.prog 32 #[.slice A1 n1 cap1, .slice A n cap] w (GPost (mgV as1 bs) (mgOk as1 bs) w) := by
  obtain ⟨i0, hi, hz0, hz1, hz2⟩ := info_parts infoPg
  have HL1 := Lib.hid h1.out.1
  have HL2 := Lib.hid h2.out.1
  obtain ⟨G1, HG1⟩ : ∃ G, Hid (goodPg as1 = G) := ⟨_, Lib.hid rfl⟩
  obtain ⟨G2, HG2⟩ : ∃ G, Hid (goodPg bs = G) := ⟨_, Lib.hid rfl⟩
  have HA := Lib.hid (show mgOk as1 bs = (G1 && G2) by unfold mgOk; rw [HG1.out, HG2.out])
  have HP0 := Lib.hid (PR.mk0 (Below.refl w.heap.size w))
  go_enter Try.func32, Try.ntmps32
  go_wp2_with fail
  refine (good_is A1 n1 cap1 as1 G1 HG1 _ hn1 (Lib.hid (h1.out.step HP0.out.1))).mono ?_
  rintro e w1 ⟨rfl, b1⟩
  have HP1 := Lib.hid (HP0.out.step b1)
  clear b1 HP0
  cases G1
  · have HX := Lib.hid (show mgV as1 bs = [] by unfold mgV; rw [HA.out]; rfl)
    go_wp2_with fail
    go_ret2
    exact ⟨_, by rw [HA.out]; rfl, by rw [HX.out]; exact HP1.out.2.1, HP1.out.1⟩
  go_wp2_with fail
  refine (good_is A n cap bs G2 HG2 _ hn (Lib.hid (h2.out.step HP1.out.1))).mono ?_
  rintro e w2 ⟨rfl, b2⟩
  have HP2 := Lib.hid (HP1.out.step b2)
  clear b2 HP1
  cases G2
  · have HX := Lib.hid (show mgV as1 bs = [] by unfold mgV; rw [HA.out]; rfl)
    go_wp2_with fail
    go_ret2
    exact ⟨_, by rw [HA.out]; rfl, by rw [HX.out]; exact HP2.out.2.1, HP2.out.1⟩
  have HX := Lib.hid (show mgV as1 bs = mgK as1 bs 8 by unfold mgV; rw [HA.out]; rfl)
  go_wp2_with fail
  go_loopw [6, 7] (fun v i wr => ∃ (s m c2 : Nat) (A2 : Option Addr) (us : List Pg), s ≤ 8 ∧ i = .int .i64 (s : Nat) ∧ v = .slice A2 m c2 ∧ m ≤ s ∧ Hid (mgK as1 bs s = us) ∧ PR w A2 m c2 us wr) (fun _ i _ => 8 - (intOf i).toNat)
  case atStart => exact ⟨0, 0, 0, _, [], Nat.zero_le _, rfl, rfl, Nat.le_refl _, Lib.hid rfl, HP2.out⟩
  case round =>
    clear HP2
    obtain ⟨s, m, c2, A2, us, hs, rfl, rfl, hms, HUS, hP⟩ := hrel
    have HP := Lib.hid hP
    have hsz := hP.1.size
    clear hP
    have hs0 : (0 : Int) ≤ (s : Int) := by omega
    by_cases hlt : s < 8
    · have hsi : (s : Int) < 8 := by omega
      have hsd : decide (s < 8) = true := by simpa using hlt
      have hsd2 : decide ((s : Int) < 8) = true := by simpa using hsi
      obtain ⟨k1, HK1⟩ : ∃ k, Hid (fdN as1 (s : Int) = k) := ⟨_, Lib.hid rfl⟩
      obtain ⟨k2, HK2⟩ : ∃ k, Hid (fdN bs (s : Int) = k) := ⟨_, Lib.hid rfl⟩
      obtain ⟨r1, HR1⟩ : ∃ r, Hid (fdI as1 (s : Int) = r) := ⟨_, Lib.hid rfl⟩
      obtain ⟨r2, HR2⟩ : ∃ r, Hid (fdI bs (s : Int) = r) := ⟨_, Lib.hid rfl⟩
      go_wp2_with fail
      refine (find_any A1 n1 cap1 as1 (s : Int) r1 _ hn1 w.heap.size (Lib.hid (h1.out.below HP.out.1)) HR1).mono ?_
      rintro e w3 ⟨rfl, rfl⟩
      go_wp2_with fail
      refine (find_any A n cap bs (s : Int) r2 _ hn w.heap.size (Lib.hid (h2.out.below HP.out.1)) HR2).mono ?_
      rintro e w4 ⟨rfl, rfl⟩
      by_cases c1 : k1 < n1
      · obtain ⟨x, hx⟩ := at_lt HL1.out c1
        have HX1 := Lib.hid (show pgAt as1 (s : Int) = some x by unfold pgAt; rw [HK1.out]; exact hx)
        obtain rfl : r1 = (k1 : Int) := by rw [← HR1.out]; exact fdI_some HK1.out (by rw [HL1.out]; exact c1)
        obtain ⟨g1, rfl, hg1, x0, x1, x2, x3, x4⟩ := (h1.out.below HP.out.1).2 k1 x hx
        have hgl1 : g1 < wr.heap.size := by omega
        have hgl1b : g1 < wr.heap.size + 1 := by omega
        have hk1 : (k1 : Int) < (n1 : Int) := by omega
        have hk10 : (0 : Int) ≤ (k1 : Int) := by omega
        have hk1d : decide ((0 : Int) ≤ (k1 : Int)) = true := by simp
        clear hx
        by_cases c2b : k2 < n
        · obtain ⟨y, hy⟩ := at_lt HL2.out c2b
          have HX2 := Lib.hid (show pgAt bs (s : Int) = some y by unfold pgAt; rw [HK2.out]; exact hy)
          obtain rfl : r2 = (k2 : Int) := by rw [← HR2.out]; exact fdI_some HK2.out (by rw [HL2.out]; exact c2b)
          obtain ⟨g2, rfl, hg2, y0, y1, y2, y3, y4⟩ := (h2.out.below HP.out.1).2 k2 y hy
          have hgl2 : g2 < wr.heap.size := by omega
          have hgl2b : g2 < wr.heap.size + 1 := by omega
          have hk2 : (k2 : Int) < (n : Int) := by omega
          have hk20 : (0 : Int) ≤ (k2 : Int) := by omega
          have hk2d : decide ((0 : Int) ≤ (k2 : Int)) = true := by simp
          have HE := Lib.hid (mgK_some (az := as1) (bs := bs) (s := s) (x := both x y) (by rw [HX1.out, HX2.out]; rfl))
          have hxs : x.st = (s : Int) := pgAt_st HX1.out
          have HXS := Lib.hid hxs
          clear hy hxs
          go_upto_region 9 with fail
          go_cut [10, 11] (fun p q wx => ∃ X Y : Nat, p = .pointer (some ⟨X, 0, none⟩) ∧ q = .pointer (some ⟨Y, 0, none⟩) ∧ MB w A2 m c2 us X x Y y wx)
          case first =>
            rename_i J0 K0 hJ0 hK0
            go_region
            · first | refine hJ0 _ _ ?_ | refine hK0 _ _ (Met.intro (hJ0 _ _ ?_)) | refine Met.intro (hK0 _ _ (Met.intro (hJ0 _ _ ?_)))
              (repeat apply Exists.intro)
              exact ⟨⟨_, _, rfl, rfl, mb_new x y HP.out⟩, rfl⟩
            · first | refine hJ0 _ _ ?_ | refine hK0 _ _ (Met.intro (hJ0 _ _ ?_)) | refine Met.intro (hK0 _ _ (Met.intro (hJ0 _ _ ?_)))
              (repeat apply Exists.intro)
              exact ⟨⟨_, _, rfl, rfl, mb_swap (mb_new y x HP.out)⟩, rfl⟩
          case rest =>
            obtain ⟨X, Y, rfl, rfl, hM⟩ := hcut
            have HM := Lib.hid hM
            clear hM HP
            go_upto_region 10 with fail
            refine wp_region_held_drew (S := (fun v : World => v.cell? ⟨X, 0, none⟩ = some (.int .i64 x.st) ∧ v.cell? ⟨X, 1, none⟩ = some (.int .i64 x.lf) ∧ v.cell? ⟨X, 2, none⟩ = some (.int .i64 x.rt) ∧ v.cell? ⟨X, 3, none⟩ = some (.int .i64 x.ab) ∧ v.cell? ⟨X, 4, none⟩ = some (.int .i64 x.be) ∧ v.cell? ⟨Y, 0, none⟩ = some (.int .i64 y.st) ∧ v.cell? ⟨Y, 1, none⟩ = some (.int .i64 y.lf) ∧ v.cell? ⟨Y, 2, none⟩ = some (.int .i64 y.rt) ∧ v.cell? ⟨Y, 3, none⟩ = some (.int .i64 y.ab) ∧ v.cell? ⟨Y, 4, none⟩ = some (.int .i64 y.be) ∧ X < v.heap.size ∧ Y < v.heap.size ∧ NB X x Y y v)) (by kernel_rfl) ?_ (fun hHeld => ?_)
            · exact nb_mk (HM.out.2.1.step (drewN_below _ 1))
            obtain ⟨V0, HV0⟩ : ∃ V, Hid (wc.drew = V) := ⟨_, Lib.hid rfl⟩
            have HM0 := Lib.hid (show MB w A2 m c2 us X x Y y V0 by rw [← HV0.out]; exact HM.out.step (drewN_below _ 1))
            rw [HV0.out] at hHeld ⊢
            clear HV0 HM
            refine' wpAnyH_take (i := 0) (v := ?vr1_0) rfl (by kernel_rfl) (by kernel_rfl) (by kernel_rfl) (fun _ _ _ h => h) (Or.inl ⟨by rfl, ?hyr1_0⟩) (by assumption) ?restr1_0
            case hyr1_0 => (intro w hSw; (try dsimp only at hSw); go_simp; try (with_reducible rfl))
            simp only [Act.put, List.getElem_toArray, List.getElem_cons_succ, List.getElem_cons_zero, List.setIfInBounds_toArray, List.set_cons_zero, List.set_cons_succ]
            refine' wpAnyH_take (i := 1) (v := ?vr1_1) rfl (by kernel_rfl) (by kernel_rfl) (by kernel_rfl) (fun _ _ _ h => h) (Or.inl ⟨by rfl, ?hyr1_1⟩) (by assumption) ?restr1_1
            case hyr1_1 => (intro w hSw; (try dsimp only at hSw); go_simp; try (with_reducible rfl))
            simp only [Act.put, List.getElem_toArray, List.getElem_cons_succ, List.getElem_cons_zero, List.setIfInBounds_toArray, List.set_cons_zero, List.set_cons_succ]
            refine' wpAnyH_take (i := 2) (v := ?vr1_2) rfl (by kernel_rfl) (by kernel_rfl) (by kernel_rfl) (fun _ _ _ h => h) (Or.inl ⟨by rfl, ?hyr1_2⟩) (by assumption) ?restr1_2
            case hyr1_2 => (intro w hSw; (try dsimp only at hSw); go_simp; try (with_reducible rfl))
            simp only [Act.put, List.getElem_toArray, List.getElem_cons_succ, List.getElem_cons_zero, List.setIfInBounds_toArray, List.set_cons_zero, List.set_cons_succ]
            refine' wpAnyH_take (i := 3) (v := ?vr1_3) rfl (by kernel_rfl) (by kernel_rfl) (by kernel_rfl) (fun _ _ _ h => h) (Or.inl ⟨by rfl, ?hyr1_3⟩) (by assumption) ?restr1_3
            case hyr1_3 => (intro w hSw; (try dsimp only at hSw); go_simp; try (with_reducible rfl))
            simp only [Act.put, List.getElem_toArray, List.getElem_cons_succ, List.getElem_cons_zero, List.setIfInBounds_toArray, List.set_cons_zero, List.set_cons_succ]
            refine' wpAnyH_take (i := 4) (v := ?vr1_4) rfl (by kernel_rfl) (by kernel_rfl) (by kernel_rfl) (fun _ _ _ h => h) (Or.inl ⟨by rfl, ?hyr1_4⟩) (by assumption) ?restr1_4
            case hyr1_4 => (intro w hSw; (try dsimp only at hSw); go_simp; try (with_reducible rfl))
            simp only [Act.put, List.getElem_toArray, List.getElem_cons_succ, List.getElem_cons_zero, List.setIfInBounds_toArray, List.set_cons_zero, List.set_cons_succ]
            refine' wpAnyH_take (i := 5) (v := ?vr1_5) rfl (by kernel_rfl) (by kernel_rfl) (by kernel_rfl) (fun _ _ _ h => h) (Or.inl ⟨by rfl, ?hyr1_5⟩) (by assumption) ?restr1_5
            case hyr1_5 => (intro w hSw; (try dsimp only at hSw); go_simp; try (with_reducible rfl))
            simp only [Act.put, List.getElem_toArray, List.getElem_cons_succ, List.getElem_cons_zero, List.setIfInBounds_toArray, List.set_cons_zero, List.set_cons_succ]
            refine' wpAnyH_take (i := 7) (v := ?vr1_7) rfl (by kernel_rfl) (by kernel_rfl) (by kernel_rfl) (fun _ _ _ h => h) (Or.inl ⟨by rfl, ?hyr1_7⟩) (by assumption) ?restr1_7
            case hyr1_7 => (intro w hSw; (try dsimp only at hSw); go_simp; try (with_reducible rfl))
            simp only [Act.put, List.getElem_toArray, List.getElem_cons_succ, List.getElem_cons_zero, List.setIfInBounds_toArray, List.set_cons_zero, List.set_cons_succ]
            refine' wpAnyH_take (i := 8) (v := ?vr1_8) rfl (by kernel_rfl) (by kernel_rfl) (by kernel_rfl) (fun _ _ _ h => h) (Or.inl ⟨by rfl, ?hyr1_8⟩) (by assumption) ?restr1_8
            case hyr1_8 => (intro w hSw; (try dsimp only at hSw); go_simp; try (with_reducible rfl))
            simp only [Act.put, List.getElem_toArray, List.getElem_cons_succ, List.getElem_cons_zero, List.setIfInBounds_toArray, List.set_cons_zero, List.set_cons_succ]
            refine' wpAnyH_take (i := 9) (v := ?vr1_9) rfl (by kernel_rfl) (by kernel_rfl) (by kernel_rfl) (fun _ _ _ h => h) (Or.inl ⟨by rfl, ?hyr1_9⟩) (by assumption) ?restr1_9
            case hyr1_9 => (intro w hSw; (try dsimp only at hSw); go_simp; try (with_reducible rfl))
            simp only [Act.put, List.getElem_toArray, List.getElem_cons_succ, List.getElem_cons_zero, List.setIfInBounds_toArray, List.set_cons_zero, List.set_cons_succ]
            refine' wpAnyH_take (i := 10) (v := ?vr1_10) rfl (by kernel_rfl) (by kernel_rfl) (by kernel_rfl) (fun _ _ _ h => h) (Or.inl ⟨by rfl, ?hyr1_10⟩) (by assumption) ?restr1_10
            case hyr1_10 => (intro w hSw; (try dsimp only at hSw); go_simp; try (with_reducible rfl))
            simp only [Act.put, List.getElem_toArray, List.getElem_cons_succ, List.getElem_cons_zero, List.setIfInBounds_toArray, List.set_cons_zero, List.set_cons_succ]
            refine' wpAnyH_take (i := 12) (v := ?vr1_12) rfl (by kernel_rfl) (by kernel_rfl) (by kernel_rfl) (fun _ _ _ h => h) (Or.inl ⟨by rfl, ?hyr1_12⟩) (by assumption) ?restr1_12
            case hyr1_12 => (intro w hSw; (try dsimp only at hSw); go_simp; try (with_reducible rfl))
            simp only [Act.put, List.getElem_toArray, List.getElem_cons_succ, List.getElem_cons_zero, List.setIfInBounds_toArray, List.set_cons_zero, List.set_cons_succ]
            refine' wpAnyH_take (i := 13) (v := ?vr1_13) rfl (by kernel_rfl) (by kernel_rfl) (by kernel_rfl) (fun _ _ _ h => h) (Or.inl ⟨by rfl, ?hyr1_13⟩) (by assumption) ?restr1_13
            case hyr1_13 => (intro w hSw; (try dsimp only at hSw); go_simp; try (with_reducible rfl))
            simp only [Act.put, List.getElem_toArray, List.getElem_cons_succ, List.getElem_cons_zero, List.setIfInBounds_toArray, List.set_cons_zero, List.set_cons_succ]
            refine' wpAnyH_take (i := 14) (v := ?vr1_14) rfl (by kernel_rfl) (by kernel_rfl) (by kernel_rfl) (fun _ _ _ h => h) (Or.inl ⟨by rfl, ?hyr1_14⟩) (by assumption) ?restr1_14
            case hyr1_14 => (intro w hSw; (try dsimp only at hSw); go_simp; try (with_reducible rfl))
            simp only [Act.put, List.getElem_toArray, List.getElem_cons_succ, List.getElem_cons_zero, List.setIfInBounds_toArray, List.set_cons_zero, List.set_cons_succ]
            refine' wpAnyH_take (i := 15) (v := ?vr1_15) rfl (by kernel_rfl) (by kernel_rfl) (by kernel_rfl) (fun _ _ _ h => h) (Or.inl ⟨by rfl, ?hyr1_15⟩) (by assumption) ?restr1_15
            case hyr1_15 => (intro w hSw; (try dsimp only at hSw); go_simp; try (with_reducible rfl))
            simp only [Act.put, List.getElem_toArray, List.getElem_cons_succ, List.getElem_cons_zero, List.setIfInBounds_toArray, List.set_cons_zero, List.set_cons_succ]
            refine' wpAnyH_take (i := 17) (v := ?vr1_17) rfl (by kernel_rfl) (by kernel_rfl) (by kernel_rfl) (fun _ _ _ h => h) (Or.inl ⟨by rfl, ?hyr1_17⟩) (by assumption) ?restr1_17
            case hyr1_17 => (intro w hSw; (try dsimp only at hSw); go_simp; try (with_reducible rfl))
            simp only [Act.put, List.getElem_toArray, List.getElem_cons_succ, List.getElem_cons_zero, List.setIfInBounds_toArray, List.set_cons_zero, List.set_cons_succ]
            refine' wpAnyH_take (i := 18) (v := ?vr1_18) rfl (by kernel_rfl) (by kernel_rfl) (by kernel_rfl) (fun _ _ _ h => h) (Or.inl ⟨by rfl, ?hyr1_18⟩) (by assumption) ?restr1_18
            case hyr1_18 => (intro w hSw; (try dsimp only at hSw); go_simp; try (with_reducible rfl))
            simp only [Act.put, List.getElem_toArray, List.getElem_cons_succ, List.getElem_cons_zero, List.setIfInBounds_toArray, List.set_cons_zero, List.set_cons_succ]
            refine' wpAnyH_take (i := 19) (v := ?vr1_19) rfl (by kernel_rfl) (by kernel_rfl) (by kernel_rfl) (fun _ _ _ h => h) (Or.inl ⟨by rfl, ?hyr1_19⟩) (by assumption) ?restr1_19
            case hyr1_19 => (intro w hSw; (try dsimp only at hSw); go_simp; try (with_reducible rfl))
            simp only [Act.put, List.getElem_toArray, List.getElem_cons_succ, List.getElem_cons_zero, List.setIfInBounds_toArray, List.set_cons_zero, List.set_cons_succ]
            refine' wpAnyH_take (i := 20) (v := ?vr1_20) rfl (by kernel_rfl) (by kernel_rfl) (by kernel_rfl) (fun _ _ _ h => h) (Or.inl ⟨by rfl, ?hyr1_20⟩) (by assumption) ?restr1_20
            case hyr1_20 => (intro w hSw; (try dsimp only at hSw); go_simp; try (with_reducible rfl))
            simp only [Act.put, List.getElem_toArray, List.getElem_cons_succ, List.getElem_cons_zero, List.setIfInBounds_toArray, List.set_cons_zero, List.set_cons_succ]
            refine wpAnyH_ready (rs := [6]) (by kernel_rfl) (by simp) ?_
            refine AllReadyH.cons rfl (fun K hK => ?_) AllReadyH.nil
            go_simp
            refine (lst.least_is x.lf y.lf (lo2 x.lf y.lf) (Lib.hid rfl) _).mono ?_
            rintro e w9 ⟨rfl, rfl⟩
            refine hK.out _ _ (hHeld) (fun hHeld1 => ?_)
            clear hK K hHeld
            have hHeld := hHeld1
            clear hHeld1
            try simp only [Act.put, List.getElem_toArray, List.getElem_cons_succ, List.getElem_cons_zero, List.setIfInBounds_toArray, List.set_cons_zero, List.set_cons_succ]
            refine wpAnyH_ready (rs := [11]) (by kernel_rfl) (by simp) ?_
            refine AllReadyH.cons rfl (fun K hK => ?_) AllReadyH.nil
            go_simp
            refine (lst.least_is x.rt y.rt (lo2 x.rt y.rt) (Lib.hid rfl) _).mono ?_
            rintro e w9 ⟨rfl, rfl⟩
            refine hK.out _ _ (hHeld) (fun hHeld1 => ?_)
            clear hK K hHeld
            have hHeld := hHeld1
            clear hHeld1
            try simp only [Act.put, List.getElem_toArray, List.getElem_cons_succ, List.getElem_cons_zero, List.setIfInBounds_toArray, List.set_cons_zero, List.set_cons_succ]
            refine wpAnyH_ready (rs := [16]) (by kernel_rfl) (by simp) ?_
            refine AllReadyH.cons rfl (fun K hK => ?_) AllReadyH.nil
            go_simp
            refine (lst.least_is x.ab y.ab (lo2 x.ab y.ab) (Lib.hid rfl) _).mono ?_
            rintro e w9 ⟨rfl, rfl⟩
            refine hK.out _ _ (hHeld) (fun hHeld1 => ?_)
            clear hK K hHeld
            have hHeld := hHeld1
            clear hHeld1
            try simp only [Act.put, List.getElem_toArray, List.getElem_cons_succ, List.getElem_cons_zero, List.setIfInBounds_toArray, List.set_cons_zero, List.set_cons_succ]
            refine wpAnyH_ready (rs := [21]) (by kernel_rfl) (by simp) ?_
            refine AllReadyH.cons rfl (fun K hK => ?_) AllReadyH.nil
            go_simp
            refine (lst.least_is x.be y.be (lo2 x.be y.be) (Lib.hid rfl) _).mono ?_
            rintro e w9 ⟨rfl, rfl⟩
            refine hK.out _ _ (hHeld) (fun hHeld1 => ?_)
            clear hK K hHeld
            have hHeld := hHeld1
            clear hHeld1
            try simp only [Act.put, List.getElem_toArray, List.getElem_cons_succ, List.getElem_cons_zero, List.setIfInBounds_toArray, List.set_cons_zero, List.set_cons_succ]
            refine' wpAnyH_take (i := 22) (v := ?vr1_22) rfl (by kernel_rfl) (by kernel_rfl) (by kernel_rfl) (fun _ _ _ h => h) (Or.inl ⟨by rfl, ?hyr1_22⟩) (by assumption) ?restr1_22
            case hyr1_22 => (intro w hSw; (try dsimp only at hSw); go_simp; try (with_reducible rfl))
            simp only [Act.put, List.getElem_toArray, List.getElem_cons_succ, List.getElem_cons_zero, List.setIfInBounds_toArray, List.set_cons_zero, List.set_cons_succ]
            refine wpAnyH_ready (rs := [23]) (by kernel_rfl) (by simp) ?_
            refine AllReadyH.cons rfl (fun K hK => ?_) AllReadyH.nil
            go_simp
            refine hK.out _ _ (nb_mk (hHeld.2.2.2.2.2.2.2.2.2.2.2.2.step ((Below.refl _ _).alloc (Nat.le_refl _) _))) (fun hHeld1 => ?_)
            clear hK K hHeld
            have hHeld := hHeld1
            clear hHeld1
            try simp only [Act.put, List.getElem_toArray, List.getElem_cons_succ, List.getElem_cons_zero, List.setIfInBounds_toArray, List.set_cons_zero, List.set_cons_succ]
            obtain ⟨Q, HQ⟩ : ∃ Q, Hid (V0.heap.size = Q) := ⟨_, Lib.hid rfl⟩
            obtain ⟨V1, HW1⟩ : ∃ W, Hid (V0.alloc (.cells #[.int .i64 (s : Int), .int .i64 (lo2 x.lf y.lf), .int .i64 (lo2 x.rt y.rt), .int .i64 (lo2 x.ab y.ab), .int .i64 (lo2 x.be y.be)] 53) = W) := ⟨_, Lib.hid rfl⟩
            have HM1 := Lib.hid (show MB w A2 m c2 us X x Y y V1 by rw [← HW1.out]; exact HM0.out.step ((Below.refl _ _).alloc (Nat.le_refl _) _))
            have HQB := Lib.hid (show Blk V1 Q 53 (flatPg [both x y]).toArray by rw [← HW1.out, ← HQ.out, both_vals, HXS.out]; exact Blk.new _ _ _)
            rw [HW1.out] at hHeld ⊢
            try rw [HQ.out]
            clear HW1 HQ HM0
            refine wpAnyH_ready (rs := [24]) (by kernel_rfl) (by simp) ?_
            refine AllReadyH.cons rfl (fun K hK => ?_) AllReadyH.nil
            refine step_pgs rfl _ _ rfl rfl HM1.out.1.2.1 rfl (by rw [flatPg_len]; rfl) (World.news_of_block HQB.out) (flatPg_one [both x y]) (by omega) HM1.out.1.1.size ?_
            intro v' w' ho hg
            obtain ⟨A9, c9, rfl⟩ := row_slice ho
            have HP9 := Lib.hid (PR.app HM1.out.1 (both x y) ho hg)
            have HN9 := Lib.hid (HM1.out.2.1.grown hg HM1.out.2.2)
            refine hK.out _ _ (nb_mk HN9.out) (fun hHeld1 => ?_)
            clear ho hg
            clear hK K hHeld
            have hHeld := hHeld1
            clear hHeld1
            try simp only [Act.put, List.getElem_toArray, List.getElem_cons_succ, List.getElem_cons_zero, List.setIfInBounds_toArray, List.set_cons_zero, List.set_cons_succ]
            refine' wpAnyH_take (i := 25) (v := ?vr1_25) rfl (by kernel_rfl) (by kernel_rfl) (by kernel_rfl) (fun _ _ _ h => h) (Or.inl ⟨by rfl, ?hyr1_25⟩) (by assumption) ?restr1_25
            case hyr1_25 => (intro w hSw; (try dsimp only at hSw); go_simp; try (with_reducible rfl))
            simp only [Act.put, List.getElem_toArray, List.getElem_cons_succ, List.getElem_cons_zero, List.setIfInBounds_toArray, List.set_cons_zero, List.set_cons_succ]
            refine wpAnyH_done (by kernel_rfl) ?_ _
            go_wp2_with fail
            go_roundw
            case rel => exact ⟨s + 1, m + 1, c9, A9, us ++ [both x y], by omega, by go_num, rfl, by omega, Lib.hid (by rw [HE.out, HUS.out]), HP9.out⟩
            case measure => simp [intOf]; omega
        · have HX2 := Lib.hid (show pgAt bs (s : Int) = none by refine pgAt_none ?_; have := (fdN_lim bs (s : Int)).1; rw [HL2.out, HK2.out] at *; omega)
          obtain rfl : r2 = -1 := by rw [← HR2.out]; refine fdI_none ?_; have := (fdN_lim bs (s : Int)).1; rw [HL2.out, HK2.out] at *; omega
          have HE := Lib.hid (mgK_some (az := as1) (bs := bs) (s := s) (x := x) (by rw [HX1.out, HX2.out]; rfl))
          go_wp2_with (at_builtin; refine wpList_append_own _ rfl _ _ 25 rfl w.heap.size 53 i0 (.agg #[.int .i64 0, .int .i64 0, .int .i64 0, .int .i64 0, .int .i64 0]) 5 40 Try.underlying25 hi hz0 hz1 hz2 rfl (by decide) _ _ _ rfl (HP.out.2.1.alloc _) ⟨_, 0, none⟩ 1 1 (flatPg [x]) rfl rfl (World.news_of_block (alloc_at rfl)) (flatPg_one [x]) (by unfold maxLen; omega) (by omega) (by simp; omega) ?_; intro v' w9 hown' hgrow _; obtain ⟨A9, c9, rfl⟩ := row_slice hown')
          go_roundw
          case rel => exact ⟨s + 1, m + 1, c9, A9, us ++ [x], by omega, by go_num, rfl, by omega, Lib.hid (by rw [HE.out, HUS.out]), PR.app (HP.out.alloc _) x hown' hgrow⟩
          case measure => simp [intOf]; omega
      · have HX1 := Lib.hid (show pgAt as1 (s : Int) = none by refine pgAt_none ?_; have := (fdN_lim as1 (s : Int)).1; rw [HL1.out, HK1.out] at *; omega)
        obtain rfl : r1 = -1 := by rw [← HR1.out]; refine fdI_none ?_; have := (fdN_lim as1 (s : Int)).1; rw [HL1.out, HK1.out] at *; omega
        by_cases c2b : k2 < n
        · obtain ⟨y, hy⟩ := at_lt HL2.out c2b
          have HX2 := Lib.hid (show pgAt bs (s : Int) = some y by unfold pgAt; rw [HK2.out]; exact hy)
          obtain rfl : r2 = (k2 : Int) := by rw [← HR2.out]; exact fdI_some HK2.out (by rw [HL2.out]; exact c2b)
          obtain ⟨g2, rfl, hg2, y0, y1, y2, y3, y4⟩ := (h2.out.below HP.out.1).2 k2 y hy
          have hgl2 : g2 < wr.heap.size := by omega
          have hgl2b : g2 < wr.heap.size + 1 := by omega
          have hk2 : (k2 : Int) < (n : Int) := by omega
          have hk20 : (0 : Int) ≤ (k2 : Int) := by omega
          have hk2d : decide ((0 : Int) ≤ (k2 : Int)) = true := by simp
          have HE := Lib.hid (mgK_some (az := as1) (bs := bs) (s := s) (x := y) (by rw [HX1.out, HX2.out]; rfl))
          clear hy
          go_wp2_with (at_builtin; refine wpList_append_own _ rfl _ _ 25 rfl w.heap.size 53 i0 (.agg #[.int .i64 0, .int .i64 0, .int .i64 0, .int .i64 0, .int .i64 0]) 5 40 Try.underlying25 hi hz0 hz1 hz2 rfl (by decide) _ _ _ rfl (HP.out.2.1.alloc _) ⟨_, 0, none⟩ 1 1 (flatPg [y]) rfl rfl (World.news_of_block (alloc_at rfl)) (flatPg_one [y]) (by unfold maxLen; omega) (by omega) (by simp; omega) ?_; intro v' w9 hown' hgrow _; obtain ⟨A9, c9, rfl⟩ := row_slice hown')
          go_roundw
          case rel => exact ⟨s + 1, m + 1, c9, A9, us ++ [y], by omega, by go_num, rfl, by omega, Lib.hid (by rw [HE.out, HUS.out]), PR.app (HP.out.alloc _) y hown' hgrow⟩
          case measure => simp [intOf]; omega
        · have HX2 := Lib.hid (show pgAt bs (s : Int) = none by refine pgAt_none ?_; have := (fdN_lim bs (s : Int)).1; rw [HL2.out, HK2.out] at *; omega)
          obtain rfl : r2 = -1 := by rw [← HR2.out]; refine fdI_none ?_; have := (fdN_lim bs (s : Int)).1; rw [HL2.out, HK2.out] at *; omega
          have HE := Lib.hid (mgK_none (az := as1) (bs := bs) (s := s) (by rw [HX1.out, HX2.out]; rfl))
          go_wp2_with fail
          go_roundw
          case rel => exact ⟨s + 1, m, c2, A2, us, by omega, by go_num, rfl, by omega, Lib.hid (by rw [HE.out, HUS.out]), HP.out⟩
          case measure => simp [intOf]; omega
    · obtain rfl : s = 8 := by omega
      have hsd : decide (((8 : Nat) : Int) < 8) = false := by decide
      have HE := Lib.hid (show mgV as1 bs = us by rw [HX.out, HUS.out])
      go_wp2_with fail
      go_ret2
      exact ⟨_, by rw [HA.out]; rfl, by rw [HE.out, HP.out.2.2]; exact HP.out.2.1, HP.out.1⟩
end Go.Proofs.Ytnpghhpcloljeaa.pw
