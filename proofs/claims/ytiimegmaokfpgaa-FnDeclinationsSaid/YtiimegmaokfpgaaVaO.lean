/-
  The model of the needless points.
  Conditions: the points lie in one block, at most 2000000 of them.
-/
import Derived.Test.YtiimegmaokfpgaaVaD
import Derived.Test.YtiimegmaokfpgaaVaQ
import Derived.BigQuiet
import Derived.Deep.QuietTactic
import Derived.Deep.Cut
import Derived.Deep.DeepCutAuto
import Derived.RegionTactic
import Derived.Deep.RegionWith
import Derived.OwnWalk
import Derived.Deep.RegionHeld3
namespace Go.Proofs.Ytiimegmaokfpgaa.va
open Go.RowKit
open reads base ty rowi inn
set_option linter.unusedVariables false
set_option linter.unusedSimpArgs false

theorem ndK_yes {ts : List Dp} {k : Nat} (h : needless ts k = true) : ndK ts (k + 1) = ndK ts k ++ [(k : Int)] := by
  show (if needless ts k = true then _ else _) = _
  rw [if_pos h]
theorem ndK_no {ts : List Dp} {k : Nat} (h : needless ts k = false) : ndK ts (k + 1) = ndK ts k := by
  show (if needless ts k = true then _ else _) = _
  rw [if_neg (by rw [h]; simp)]
theorem ndK_one {ts : List Dp} (h : ts.length = 1) : ∀ k, ndK ts k = []
  | 0 => rfl
  | k + 1 => by rw [ndK_no (by unfold needless; rw [h]; rfl), ndK_one h k]
theorem ndIds_len (ts : List Dp) : (ndIds ts).length ≤ 8 := by
  unfold ndIds
  split
  · rename_i h; have := ndK_len ts ts.length; have := (good_lim h).2.1; omega
  · simp
/-- indices of one's own under way -/
def NR_ (w : World) (A : Option Addr) (m c : Nat) (xs : List Int) (v : World) : Prop := Below w.heap.size w v ∧ v.ownsRow w.heap.size 3 1 (.slice A m c) m (ints.intsV xs) ∧ xs.length = m
theorem NR_.step {w v v' : World} {A : Option Addr} {m c : Nat} {xs : List Int} (h : NR_ w A m c xs v) (hb : Below v.heap.size v v') : NR_ w A m c xs v' := ⟨h.1.trans (hb.mono h.1.size), row_below h.2.1 hb, h.2.2⟩
theorem NR_.mk0 {w v : World} (h : Below w.heap.size w v) : NR_ w (some ⟨v.heap.size, 0, none⟩) 0 0 [] (v.alloc (.cells #[] 3)) := ⟨h.alloc h.size _, made1 w v h.size 3 1, rfl⟩
/-- points of one's own under way -/
def MX (w : World) (v : Value) (n : Nat) (us : List Dp) (u : World) : Prop := Below w.heap.size w u ∧ u.ownsRow w.heap.size 42 2 v n (flatDp us)
theorem MX.app {w u u' : World} {v v' : Value} {n m : Nat} {us vs : List Dp} (h : MX w v n us u) (ho : u'.ownsRow w.heap.size 42 2 v' (n + m) (flatDp us ++ flatDp vs)) (hg : u.grownBy u' v.ownBlock) : MX w v' (n + m) (us ++ vs) u' :=
  ⟨h.1.grown hg h.1.size (fun g e => (h.2.lt g e).1), by rw [flatDp_append]; exact ho⟩
set_option maxHeartbeats 16000000 in
set_option maxRecDepth 100000 in
theorem needless_model (A : Option Addr) (n cap : Nat) (ts : List Dp) (w : World) (hcap : CapOk A n cap) (hn : n ≤ 2000000) (hts : Hid (DpAt w w.heap.size A n ts)) :
    Calls Try.prog 38 #[.slice A n cap] w (LPost (ndIds ts) (goodDp ts) w) := by
  have HL := Lib.hid hts.out.1
  have HCP := Lib.hid hcap
  clear hcap
  obtain ⟨i0, hi, hz0, hz1, hz2⟩ := info_parts infoI
  have HB0 := Lib.hid (Below.refl w.heap.size w)
  have HN0 := Lib.hid (NR_.mk0 HB0.out)
  obtain ⟨G, HG⟩ : ∃ G, Hid (goodDp ts = G) := ⟨_, Lib.hid rfl⟩
  cases G
  · have HX := Lib.hid (show ndIds ts = [] by unfold ndIds; rw [if_neg (by rw [HG.out]; simp)])
    go_enter Try.func38, Try.ntmps38
    go_wp2_with fail
    refine (good_is A n cap ts _ HG _ hn (Lib.hid (hts.out.step HN0.out.1))).mono ?_
    rintro e w1 ⟨rfl, b1⟩
    have HN1 := Lib.hid (HN0.out.step b1)
    clear b1 HN0
    go_wp2_with fail
    go_ret2
    exact ⟨_, by rw [HG.out]; rfl, by rw [HX.out]; exact HN1.out.2.1, HN1.out.1⟩
  obtain ⟨l1, l8, hu⟩ := good_lim HG.out
  rw [HL.out] at l1 l8
  obtain ⟨g, rfl, hnc⟩ : ∃ g, A = some ⟨g, 0, none⟩ ∧ n ≤ cap := by
    rcases HCP.out with h | h
    · exact h
    · omega
  have HX := Lib.hid (show ndIds ts = ndK ts n by unfold ndIds; rw [if_pos HG.out, HL.out])
  go_enter Try.func38, Try.ntmps38
  go_wp2_with fail
  refine (good_is (some ⟨g, 0, none⟩) n cap ts _ HG _ hn (Lib.hid (hts.out.step HN0.out.1))).mono ?_
  rintro e w1 ⟨rfl, b1⟩
  have HN1 := Lib.hid (HN0.out.step b1)
  clear b1 HN0
  go_wp2_with fail
  go_loopw [4, 5] (fun v i wr => ∃ (k m c2 : Nat) (A2 : Option Addr) (xs : List Int), k ≤ n ∧ i = .int .i64 (k : Nat) ∧ v = .slice A2 m c2 ∧ m ≤ k ∧ Hid (ndK ts k = xs) ∧ NR_ w A2 m c2 xs wr) (fun _ i _ => n - (intOf i).toNat)
  case atStart => exact ⟨0, 0, 0, _, [], Nat.zero_le _, rfl, rfl, Nat.le_refl _, Lib.hid rfl, HN1.out⟩
  case round =>
    clear HN1
    obtain ⟨k, m, c2, A2, xs, hk, rfl, rfl, hmk, HXS, hN⟩ := hrel
    have HN := Lib.hid hN
    clear hN
    have hk0 : (0 : Int) ≤ (k : Int) := by omega
    by_cases hlt : k < n
    · have hki : (k : Int) < (n : Int) := by omega
      have hkd : decide (k < n) = true := by simpa using hlt
      by_cases hone : n = 1
      · have h1d : decide ((1 : Int) < (n : Int)) = false := by simp; omega
        have h1e : decide (1 < n) = false := by simp; omega
        have HLX := Lib.hid (show ndIds ts = xs by rw [HX.out, ndK_one (by rw [HL.out]; exact hone) n, ← HXS.out, ndK_one (by rw [HL.out]; exact hone) k])
        go_wp2_with fail
        go_ret2
        exact ⟨_, by rw [HG.out]; rfl, by rw [HLX.out, HN.out.2.2]; exact HN.out.2.1, HN.out.1⟩
      · have h1d : decide ((1 : Int) < (n : Int)) = true := by simp; omega
        have h1e : decide (1 < n) = true := by simp; omega
        have HTW := Lib.hid (fun (v : World) (hv : Below wr.heap.size wr v) => show DpAt v wr.heap.size (some ⟨g, 0, none⟩) n ts from ((hts.out.step HN.out.1).below hv))
        obtain ⟨N1, HN1⟩ : ∃ N, Hid (n = N + 1) := ⟨n - 1, Lib.hid (by omega)⟩
        have HLE := Lib.hid (show (lessDp ts k).length = N1 by rw [lessDp_len (by rw [HL.out]; exact hlt), HL.out]; have := HN1.out; omega)
        have HGL := Lib.hid (lessDp_good HG.out (k := k) (by rw [HL.out]; exact hlt) (by rw [HL.out]; omega))
        obtain ⟨b, HSM⟩ : ∃ b, Hid (sameN ts (lessDp ts k) 1000 = b) := ⟨_, Lib.hid rfl⟩
        have HNB := Lib.hid (show b = needless ts k by unfold needless; rw [HSM.out, decide_eq_true (by rw [HL.out]; omega)]; rfl)
        have hkc : k ≤ cap := by omega
        have hkci : (k : Int) ≤ (cap : Int) := by omega
        have hk1n : (k : Int) + 1 ≤ (n : Int) := by omega
        have hk10 : (0 : Int) ≤ (k : Int) + 1 := by omega
        have hk1t : ((k : Int) + 1).toNat = k + 1 := by omega
        have hnci : (n : Int) ≤ (cap : Int) := by omega
        have hk1w : IntKind.i64.wrap ((k : Int) + 1) = (k : Int) + 1 := IntWalk.i64_in _ (by omega)
        by_cases hce : cap = k + 1
        · subst hce
          obtain rfl : n = k + 1 := by omega
          have hkk : (k : Int) ≤ (k : Int) + 1 := by omega
          go_upto_region 7 with fail
          refine wp_region_held_drew (S := fun _ => True) (by kernel_rfl) trivial (fun hHeld => ?_)
          obtain ⟨V0, HV0⟩ : ∃ V, Hid (wr.drew = V) := ⟨_, Lib.hid rfl⟩
          have HB0 := Lib.hid (show Below wr.heap.size wr V0 by rw [← HV0.out]; exact drewN_below _ 1)
          rw [HV0.out]
          clear HV0
          refine' wpAnyH_take (i := 1) (v := ?vr3_1) rfl (by kernel_rfl) (by kernel_rfl) (by kernel_rfl) (fun _ _ _ h => h) (Or.inl ⟨by rfl, ?hyr3_1⟩) (by assumption) ?restr3_1
          case hyr3_1 => (intro w hSw; (try dsimp only at hSw); go_simp; try (with_reducible rfl))
          simp only [Act.put, List.getElem_toArray, List.getElem_cons_succ, List.getElem_cons_zero, List.setIfInBounds_toArray, List.set_cons_zero, List.set_cons_succ]
          refine' wpAnyH_take (i := 2) (v := ?vr3_2) rfl (by kernel_rfl) (by kernel_rfl) (by kernel_rfl) (fun _ _ _ h => h) (Or.inl ⟨by rfl, ?hyr3_2⟩) (by assumption) ?restr3_2
          case hyr3_2 => (intro w hSw; (try dsimp only at hSw); go_simp; try (with_reducible rfl))
          simp only [Act.put, List.getElem_toArray, List.getElem_cons_succ, List.getElem_cons_zero, List.setIfInBounds_toArray, List.set_cons_zero, List.set_cons_succ]
          refine' wpAnyH_take (i := 3) (v := ?vr3_3) rfl (by kernel_rfl) (by kernel_rfl) (by kernel_rfl) (fun _ _ _ h => h) (Or.inl ⟨by rfl, ?hyr3_3⟩) (by assumption) ?restr3_3
          case hyr3_3 => (intro w hSw; (try dsimp only at hSw); go_simp; try (with_reducible rfl))
          simp only [Act.put, List.getElem_toArray, List.getElem_cons_succ, List.getElem_cons_zero, List.setIfInBounds_toArray, List.set_cons_zero, List.set_cons_succ]
          refine' wpAnyH_take (i := 5) (v := ?vr3_5) rfl (by kernel_rfl) (by kernel_rfl) (by kernel_rfl) (fun _ _ _ h => h) (Or.inl ⟨by rfl, ?hyr3_5⟩) (by assumption) ?restr3_5
          case hyr3_5 => (intro w hSw; (try dsimp only at hSw); go_simp; try (with_reducible rfl))
          simp only [Act.put, List.getElem_toArray, List.getElem_cons_succ, List.getElem_cons_zero, List.setIfInBounds_toArray, List.set_cons_zero, List.set_cons_succ]
          refine' wpAnyH_take (i := 6) (v := ?vr3_6) rfl (by kernel_rfl) (by kernel_rfl) (by kernel_rfl) (fun _ _ _ h => h) (Or.inl ⟨by rfl, ?hyr3_6⟩) (by assumption) ?restr3_6
          case hyr3_6 => (intro w hSw; (try dsimp only at hSw); go_simp; try (with_reducible rfl))
          simp only [Act.put, List.getElem_toArray, List.getElem_cons_succ, List.getElem_cons_zero, List.setIfInBounds_toArray, List.set_cons_zero, List.set_cons_succ]
          refine' wpAnyH_take (i := 7) (v := ?vr3_7) rfl (by kernel_rfl) (by kernel_rfl) (by kernel_rfl) (fun _ _ _ h => h) (Or.inl ⟨by rfl, ?hyr3_7⟩) (by assumption) ?restr3_7
          case hyr3_7 => (intro w hSw; (try dsimp only at hSw); go_simp; try (with_reducible rfl))
          simp only [Act.put, List.getElem_toArray, List.getElem_cons_succ, List.getElem_cons_zero, List.setIfInBounds_toArray, List.set_cons_zero, List.set_cons_succ]
          refine' wpAnyH_take (i := 8) (v := ?vr3_8) rfl (by kernel_rfl) (by kernel_rfl) (by kernel_rfl) (fun _ _ _ h => h) (Or.inl ⟨by rfl, ?hyr3_8⟩) (by assumption) ?restr3_8
          case hyr3_8 => (intro w hSw; (try dsimp only at hSw); go_simp; try (with_reducible rfl))
          simp only [Act.put, List.getElem_toArray, List.getElem_cons_succ, List.getElem_cons_zero, List.setIfInBounds_toArray, List.set_cons_zero, List.set_cons_succ]
          refine wpAnyH_ready (rs := [0]) (by kernel_rfl) (by simp) ?_
          refine AllReadyH.cons rfl (fun K hK => ?_) AllReadyH.nil
          go_simp
          refine hK.out _ _ trivial (fun hHeld1 => ?_)
          clear hK K hHeld
          have hHeld := hHeld1
          clear hHeld1
          try simp only [Act.put, List.getElem_toArray, List.getElem_cons_succ, List.getElem_cons_zero, List.setIfInBounds_toArray, List.set_cons_zero, List.set_cons_succ]
          obtain ⟨g0, HG0⟩ : ∃ G, Hid (V0.heap.size = G) := ⟨_, Lib.hid rfl⟩
          obtain ⟨V1, HW1⟩ : ∃ W, Hid (V0.alloc (.cells #[] 42) = W) := ⟨_, Lib.hid rfl⟩
          have HM1 := Lib.hid (show MX wr (.slice (some ⟨g0, 0, none⟩) 0 0) 0 [] V1 by rw [← HW1.out, ← HG0.out]; exact ⟨HB0.out.alloc HB0.out.size _, made1 wr V0 HB0.out.size 42 2⟩)
          rw [HW1.out]
          try rw [HG0.out]
          clear HW1 HG0
          refine wpAnyH_ready (rs := [4]) (by kernel_rfl) (by simp) ?_
          refine AllReadyH.cons rfl (fun K hK => ?_) AllReadyH.nil
          refine step_src rfl _ _ rfl rfl HM1.out.2 rfl (src_take (HTW.out V1 HM1.out.1) (by omega) _) (by omega) HM1.out.1.size ?_
          intro v2 V2 ho hg
          have HM2 := Lib.hid (show MX wr v2 (0 + k) ([] ++ (ts.take k)) V2 from HM1.out.app (vs := (ts.take k)) ho hg)
          refine hK.out _ _ trivial (fun hHeld1 => ?_)
          clear ho hg
          clear hK K hHeld
          have hHeld := hHeld1
          clear hHeld1
          try simp only [Act.put, List.getElem_toArray, List.getElem_cons_succ, List.getElem_cons_zero, List.setIfInBounds_toArray, List.set_cons_zero, List.set_cons_succ]
          refine wpAnyH_ready (rs := [9]) (by kernel_rfl) (by simp) ?_
          refine AllReadyH.cons rfl (fun K hK => ?_) AllReadyH.nil
          refine step_src rfl _ _ rfl rfl HM2.out.2 rfl (show SrcDp V2 wr.heap.size _ _ _ (ts.drop (k + 1)) by rw [List.drop_of_length_le (by rw [HL.out]; omega)]; exact src_end _ _ _ _) (by omega) HM2.out.1.size ?_
          intro v3 V3 ho hg
          have HM3 := Lib.hid (show MX wr v3 ((0 + k) + 0) (([] ++ ts.take k) ++ (ts.drop (k + 1))) V3 from HM2.out.app (vs := (ts.drop (k + 1))) ho hg)
          refine hK.out _ _ trivial (fun hHeld1 => ?_)
          clear ho hg
          clear hK K hHeld
          have hHeld := hHeld1
          clear hHeld1
          try simp only [Act.put, List.getElem_toArray, List.getElem_cons_succ, List.getElem_cons_zero, List.setIfInBounds_toArray, List.set_cons_zero, List.set_cons_succ]
          refine' wpAnyH_take (i := 10) (v := ?vr4_10) rfl (by kernel_rfl) (by kernel_rfl) (by kernel_rfl) (fun _ _ _ h => h) (Or.inl ⟨by rfl, ?hyr4_10⟩) (by assumption) ?restr4_10
          case hyr4_10 => (intro w hSw; (try dsimp only at hSw); go_simp; try (with_reducible rfl))
          simp only [Act.put, List.getElem_toArray, List.getElem_cons_succ, List.getElem_cons_zero, List.setIfInBounds_toArray, List.set_cons_zero, List.set_cons_succ]
          refine wpAnyH_done (by kernel_rfl) ?_ _
          have HF := Lib.hid (show MX wr v3 N1 (lessDp ts k) V3 by have h := HM3.out; rw [show ([] ++ ts.take k) ++ ts.drop (k + 1) = lessDp ts k from rfl, show 0 + k + 0 = N1 by have := HN1.out; omega] at h; exact h)
          clear hHeld HM1 HM2 HM3 HB0
          obtain ⟨A3, c3, rfl⟩ := row_slice HF.out.2
          have HN5 := Lib.hid (HN.out.step HF.out.1)
          have HR5 := Lib.hid HF.out.2
          clear HF HN
          go_wp2_with fail
          refine (same_any (some ⟨g, 0, none⟩) (k + 1) (k + 1) ts A3 N1 c3 (lessDp ts k) b _ hn (by have := HN1.out; omega) (Lib.hid (hts.out.step HN5.out.1)) (Lib.hid (own_Dp HLE.out HR5.out)) HG HGL HSM).mono ?_
          rintro e w8 ⟨rfl, b8⟩
          have HN8 := Lib.hid (HN5.out.step b8)
          clear b8 HN5 HR5
          cases b
          · have HX := Lib.hid (ndK_no (ts := ts) (k := k) (by rw [← HNB.out]))
            go_wp2_with fail
            go_roundw
            case rel => exact ⟨k + 1, m, c2, A2, xs, by omega, by go_num, rfl, by omega, Lib.hid (by rw [HX.out]; exact HXS.out), HN8.out⟩
            case measure => first | (simp [intOf]; omega) | (simp [intOf])
          · have HX := Lib.hid (ndK_yes (ts := ts) (k := k) (by rw [← HNB.out]))
            have hsz := HN8.out.1.size
            go_wp2_with (at_builtin; refine wpList_append_own _ rfl _ _ 32 rfl w.heap.size 3 i0 (.int .i64 0) 1 8 Try.underlying32 hi hz0 hz1 hz2 rfl (by decide) _ _ _ rfl (HN8.out.2.1.alloc _) ⟨_, 0, none⟩ 1 1 [.int .i64 (k : Nat)] rfl rfl (World.news_of_block (alloc_at rfl)) (by simp [Value.oneCell']) (by unfold maxLen; omega) (by omega) (by simp; omega) ?_; intro v' w9 hown' hgrow _; obtain ⟨A9, c9, rfl⟩ := row_slice hown')
            go_roundw
            case rel => exact ⟨k + 1, m + 1, c9, A9, xs ++ [(k : Int)], by omega, by go_num, rfl, by omega, Lib.hid (by rw [HX.out, HXS.out]), (HN8.out.1.alloc hsz _).grown hgrow (by simp; omega) (fun q eq => (HN8.out.2.1.lt q eq).1), by rw [intsV_app]; exact hown', by rw [List.length_append, HN8.out.2.2]; rfl⟩
            case measure => first | (simp [intOf]; omega) | (simp [intOf])
        · have hci : ¬ (cap : Int) = (k : Int) + 1 := by omega
          go_upto_region 7 with fail
          refine wp_region_held_drew (S := fun _ => True) (by kernel_rfl) trivial (fun hHeld => ?_)
          obtain ⟨V0, HV0⟩ : ∃ V, Hid (wr.drew = V) := ⟨_, Lib.hid rfl⟩
          have HB0 := Lib.hid (show Below wr.heap.size wr V0 by rw [← HV0.out]; exact drewN_below _ 1)
          rw [HV0.out]
          clear HV0
          refine' wpAnyH_take (i := 1) (v := ?vr1_1) rfl (by kernel_rfl) (by kernel_rfl) (by kernel_rfl) (fun _ _ _ h => h) (Or.inl ⟨by rfl, ?hyr1_1⟩) (by assumption) ?restr1_1
          case hyr1_1 => (intro w hSw; (try dsimp only at hSw); go_simp; try (with_reducible rfl))
          simp only [Act.put, List.getElem_toArray, List.getElem_cons_succ, List.getElem_cons_zero, List.setIfInBounds_toArray, List.set_cons_zero, List.set_cons_succ]
          refine' wpAnyH_take (i := 2) (v := ?vr1_2) rfl (by kernel_rfl) (by kernel_rfl) (by kernel_rfl) (fun _ _ _ h => h) (Or.inl ⟨by rfl, ?hyr1_2⟩) (by assumption) ?restr1_2
          case hyr1_2 => (intro w hSw; (try dsimp only at hSw); go_simp; try (with_reducible rfl))
          simp only [Act.put, List.getElem_toArray, List.getElem_cons_succ, List.getElem_cons_zero, List.setIfInBounds_toArray, List.set_cons_zero, List.set_cons_succ]
          refine' wpAnyH_take (i := 3) (v := ?vr1_3) rfl (by kernel_rfl) (by kernel_rfl) (by kernel_rfl) (fun _ _ _ h => h) (Or.inl ⟨by rfl, ?hyr1_3⟩) (by assumption) ?restr1_3
          case hyr1_3 => (intro w hSw; (try dsimp only at hSw); go_simp; try (with_reducible rfl))
          simp only [Act.put, List.getElem_toArray, List.getElem_cons_succ, List.getElem_cons_zero, List.setIfInBounds_toArray, List.set_cons_zero, List.set_cons_succ]
          refine' wpAnyH_take (i := 5) (v := ?vr1_5) rfl (by kernel_rfl) (by kernel_rfl) (by kernel_rfl) (fun _ _ _ h => h) (Or.inl ⟨by rfl, ?hyr1_5⟩) (by assumption) ?restr1_5
          case hyr1_5 => (intro w hSw; (try dsimp only at hSw); go_simp; try (with_reducible rfl))
          simp only [Act.put, List.getElem_toArray, List.getElem_cons_succ, List.getElem_cons_zero, List.setIfInBounds_toArray, List.set_cons_zero, List.set_cons_succ]
          refine' wpAnyH_take (i := 6) (v := ?vr1_6) rfl (by kernel_rfl) (by kernel_rfl) (by kernel_rfl) (fun _ _ _ h => h) (Or.inl ⟨by rfl, ?hyr1_6⟩) (by assumption) ?restr1_6
          case hyr1_6 => (intro w hSw; (try dsimp only at hSw); go_simp; try (with_reducible rfl))
          simp only [Act.put, List.getElem_toArray, List.getElem_cons_succ, List.getElem_cons_zero, List.setIfInBounds_toArray, List.set_cons_zero, List.set_cons_succ]
          refine' wpAnyH_take (i := 7) (v := ?vr1_7) rfl (by kernel_rfl) (by kernel_rfl) (by kernel_rfl) (fun _ _ _ h => h) (Or.inl ⟨by rfl, ?hyr1_7⟩) (by assumption) ?restr1_7
          case hyr1_7 => (intro w hSw; (try dsimp only at hSw); go_simp; try (with_reducible rfl))
          simp only [Act.put, List.getElem_toArray, List.getElem_cons_succ, List.getElem_cons_zero, List.setIfInBounds_toArray, List.set_cons_zero, List.set_cons_succ]
          refine' wpAnyH_take (i := 8) (v := ?vr1_8) rfl (by kernel_rfl) (by kernel_rfl) (by kernel_rfl) (fun _ _ _ h => h) (Or.inl ⟨by rfl, ?hyr1_8⟩) (by assumption) ?restr1_8
          case hyr1_8 => (intro w hSw; (try dsimp only at hSw); go_simp; try (with_reducible rfl))
          simp only [Act.put, List.getElem_toArray, List.getElem_cons_succ, List.getElem_cons_zero, List.setIfInBounds_toArray, List.set_cons_zero, List.set_cons_succ]
          refine wpAnyH_ready (rs := [0]) (by kernel_rfl) (by simp) ?_
          refine AllReadyH.cons rfl (fun K hK => ?_) AllReadyH.nil
          go_simp
          refine hK.out _ _ trivial (fun hHeld1 => ?_)
          clear hK K hHeld
          have hHeld := hHeld1
          clear hHeld1
          try simp only [Act.put, List.getElem_toArray, List.getElem_cons_succ, List.getElem_cons_zero, List.setIfInBounds_toArray, List.set_cons_zero, List.set_cons_succ]
          obtain ⟨g0, HG0⟩ : ∃ G, Hid (V0.heap.size = G) := ⟨_, Lib.hid rfl⟩
          obtain ⟨V1, HW1⟩ : ∃ W, Hid (V0.alloc (.cells #[] 42) = W) := ⟨_, Lib.hid rfl⟩
          have HM1 := Lib.hid (show MX wr (.slice (some ⟨g0, 0, none⟩) 0 0) 0 [] V1 by rw [← HW1.out, ← HG0.out]; exact ⟨HB0.out.alloc HB0.out.size _, made1 wr V0 HB0.out.size 42 2⟩)
          rw [HW1.out]
          try rw [HG0.out]
          clear HW1 HG0
          refine wpAnyH_ready (rs := [4]) (by kernel_rfl) (by simp) ?_
          refine AllReadyH.cons rfl (fun K hK => ?_) AllReadyH.nil
          refine step_src rfl _ _ rfl rfl HM1.out.2 rfl (src_take (HTW.out V1 HM1.out.1) (by omega) _) (by omega) HM1.out.1.size ?_
          intro v2 V2 ho hg
          have HM2 := Lib.hid (show MX wr v2 (0 + k) ([] ++ (ts.take k)) V2 from HM1.out.app (vs := (ts.take k)) ho hg)
          refine hK.out _ _ trivial (fun hHeld1 => ?_)
          clear ho hg
          clear hK K hHeld
          have hHeld := hHeld1
          clear hHeld1
          try simp only [Act.put, List.getElem_toArray, List.getElem_cons_succ, List.getElem_cons_zero, List.setIfInBounds_toArray, List.set_cons_zero, List.set_cons_succ]
          refine wpAnyH_ready (rs := [9]) (by kernel_rfl) (by simp) ?_
          refine AllReadyH.cons rfl (fun K hK => ?_) AllReadyH.nil
          refine step_src rfl _ _ rfl rfl HM2.out.2 rfl (src_drop (HTW.out V2 HM2.out.1) (by omega) _) (by omega) HM2.out.1.size ?_
          intro v3 V3 ho hg
          have HM3 := Lib.hid (show MX wr v3 ((0 + k) + (n - (k + 1))) (([] ++ ts.take k) ++ (ts.drop (k + 1))) V3 from HM2.out.app (vs := (ts.drop (k + 1))) ho hg)
          refine hK.out _ _ trivial (fun hHeld1 => ?_)
          clear ho hg
          clear hK K hHeld
          have hHeld := hHeld1
          clear hHeld1
          try simp only [Act.put, List.getElem_toArray, List.getElem_cons_succ, List.getElem_cons_zero, List.setIfInBounds_toArray, List.set_cons_zero, List.set_cons_succ]
          refine' wpAnyH_take (i := 10) (v := ?vr2_10) rfl (by kernel_rfl) (by kernel_rfl) (by kernel_rfl) (fun _ _ _ h => h) (Or.inl ⟨by rfl, ?hyr2_10⟩) (by assumption) ?restr2_10
          case hyr2_10 => (intro w hSw; (try dsimp only at hSw); go_simp; try (with_reducible rfl))
          simp only [Act.put, List.getElem_toArray, List.getElem_cons_succ, List.getElem_cons_zero, List.setIfInBounds_toArray, List.set_cons_zero, List.set_cons_succ]
          refine wpAnyH_done (by kernel_rfl) ?_ _
          have HF := Lib.hid (show MX wr v3 N1 (lessDp ts k) V3 by have h := HM3.out; rw [show ([] ++ ts.take k) ++ ts.drop (k + 1) = lessDp ts k from rfl, show 0 + k + (n - (k + 1)) = N1 by have := HN1.out; omega] at h; exact h)
          clear hHeld HM1 HM2 HM3 HB0
          obtain ⟨A3, c3, rfl⟩ := row_slice HF.out.2
          have HN5 := Lib.hid (HN.out.step HF.out.1)
          have HR5 := Lib.hid HF.out.2
          clear HF HN
          go_wp2_with fail
          refine (same_any (some ⟨g, 0, none⟩) n cap ts A3 N1 c3 (lessDp ts k) b _ hn (by have := HN1.out; omega) (Lib.hid (hts.out.step HN5.out.1)) (Lib.hid (own_Dp HLE.out HR5.out)) HG HGL HSM).mono ?_
          rintro e w8 ⟨rfl, b8⟩
          have HN8 := Lib.hid (HN5.out.step b8)
          clear b8 HN5 HR5
          cases b
          · have HX := Lib.hid (ndK_no (ts := ts) (k := k) (by rw [← HNB.out]))
            go_wp2_with fail
            go_roundw
            case rel => exact ⟨k + 1, m, c2, A2, xs, by omega, by go_num, rfl, by omega, Lib.hid (by rw [HX.out]; exact HXS.out), HN8.out⟩
            case measure => first | (simp [intOf]; omega) | (simp [intOf])
          · have HX := Lib.hid (ndK_yes (ts := ts) (k := k) (by rw [← HNB.out]))
            have hsz := HN8.out.1.size
            go_wp2_with (at_builtin; refine wpList_append_own _ rfl _ _ 32 rfl w.heap.size 3 i0 (.int .i64 0) 1 8 Try.underlying32 hi hz0 hz1 hz2 rfl (by decide) _ _ _ rfl (HN8.out.2.1.alloc _) ⟨_, 0, none⟩ 1 1 [.int .i64 (k : Nat)] rfl rfl (World.news_of_block (alloc_at rfl)) (by simp [Value.oneCell']) (by unfold maxLen; omega) (by omega) (by simp; omega) ?_; intro v' w9 hown' hgrow _; obtain ⟨A9, c9, rfl⟩ := row_slice hown')
            go_roundw
            case rel => exact ⟨k + 1, m + 1, c9, A9, xs ++ [(k : Int)], by omega, by go_num, rfl, by omega, Lib.hid (by rw [HX.out, HXS.out]), (HN8.out.1.alloc hsz _).grown hgrow (by simp; omega) (fun q eq => (HN8.out.2.1.lt q eq).1), by rw [intsV_app]; exact hown', by rw [List.length_append, HN8.out.2.2]; rfl⟩
            case measure => first | (simp [intOf]; omega) | (simp [intOf])
    · have hkd : decide (k < n) = false := by simpa using hlt
      obtain rfl : k = n := by omega
      have HLX := Lib.hid (show ndIds ts = xs by rw [HX.out, HXS.out])
      go_wp2_with fail
      go_ret2
      exact ⟨_, by rw [HG.out]; rfl, by rw [HLX.out, HN.out.2.2]; exact HN.out.2.1, HN.out.1⟩
end Go.Proofs.Ytiimegmaokfpgaa.va
