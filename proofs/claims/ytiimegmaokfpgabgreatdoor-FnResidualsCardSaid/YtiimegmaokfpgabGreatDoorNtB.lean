/-
  A number put into an ascending list, by the model.
  Conditions: the list has at most 1000 elements and is one that a call has made.
-/
import Derived.Test.YtiimegmaokfpgabGreatDoorNtA
import Derived.Test.YtiimegmaokfpgabGreatDoorHas
import Derived.Deep.RegionHeld3
import Derived.Deep.DeepCutAuto
namespace Go.Proofs.YtiimegmaokfpgabGreatDoor.nt
open Go.RowKit
open reads base ty lg rowi hs
set_option linter.unusedVariables false
set_option linter.unusedSimpArgs false

/-- a list of ints in some block, and a world that is no less -/
def PutPo (bs : Nat) (ys : List Int) (w : World) (e : Ending) (w' : World) : Prop :=
  ∃ (g c : Nat), e = .returned (.slice (some ⟨g, 0, none⟩) ys.length c) ∧ w'.ownsRow bs 3 1 (.slice (some ⟨g, 0, none⟩) ys.length c) ys.length (ints.intsV ys) ∧ Below w.heap.size w w'
theorem own_mono {w : World} {b b' size n : Nat} {e : TypeId} {v : Value} {xs : List Value} (h : w.ownsRow b e size v n xs) (hb : b' ≤ b) : w.ownsRow b' e size v n xs := by
  refine ⟨h.1, ?_⟩
  rcases h.2 with q | ⟨g, cap, cur, h1, h2, h3⟩
  · exact .inl q
  · exact .inr ⟨g, cap, cur, h1, Nat.le_trans hb h2, h3⟩
theorem one_cell {W : World} {G : Nat} {a : Int} (h : Blk W G 3 #[.int .i64 a]) : ∀ j y, [a][j]? = some y → W.cell? ((⟨G, 0, none⟩ : Addr).add j) = some (.int .i64 y) := by
  intro j y hj
  match j, hj with
  | 0, hj =>
    obtain rfl : a = y := by simpa using hj
    have := h.cell 0
    simpa [Addr.add] using this
  | j + 1, hj => simp at hj
theorem fin {w W : World} {bs n k : Nat} {xs : List Int} {a : Int} {v : Value} (hp : put xs a = xs.take k ++ a :: xs.drop k ∧ bs ≤ w.heap.size) (hl : xs.length = n) (hk : k ≤ n) (ho : W.ownsRow w.heap.size 3 1 v (0 + k + 1 + (n - k)) (ints.intsV ([] ++ xs.take k ++ [a] ++ xs.drop k))) (hb : Below w.heap.size w W) : PutPo bs (put xs a) w (.returned v) W := by
  have e1 : put xs a = [] ++ xs.take k ++ [a] ++ xs.drop k := by rw [hp.1]; simp
  have e2 : 0 + k + 1 + (n - k) = (put xs a).length := by rw [hp.1, List.length_append, List.length_cons, List.length_take, List.length_drop]; omega
  rw [← e1, e2] at ho
  have h0 : 0 < (put xs a).length := by omega
  obtain ⟨g, cap, rfl, -, -⟩ := ho.form h0
  exact ⟨g, cap, rfl, own_mono ho hp.2, hb⟩
set_option maxHeartbeats 8000000 in
set_option maxRecDepth 100000 in
theorem put_any (bs g n c : Nat) (xs : List Int) (a : Int) (w : World) (hn : n ≤ 1000) (hb : Hid (bs ≤ w.heap.size)) (hown : Hid (w.ownsRow bs 3 1 (.slice (some ⟨g, 0, none⟩) n c) n (ints.intsV xs))) :
    Calls Tryz.prog 158 #[.slice (some ⟨g, 0, none⟩) n c, .int .i64 a] w (PutPo bs (put xs a) w) := by
  have hl : xs.length = n := by have h := hown.out.1; rw [ints.intsV_len] at h; omega
  have HL := Lib.hid hl
  have HC := Lib.hid (show ∀ k x, xs[k]? = some x → w.cell? ⟨g, k, none⟩ = some (.int .i64 x) from fun k x hx => by
    have hk : k < n := by rw [← hl]; exact (List.getElem?_eq_some_iff.1 hx).1
    rw [hown.out.cellAt k (by omega)]
    simp [ints.intsV, hx])
  have HGL := Lib.hid (hown.out.lt g rfl).2
  have hcn : n ≤ c := by
    rcases hown.out.2 with ⟨e1, e2⟩ | ⟨g', cp, cur, e1, _, _, h2, _⟩
    · cases e1
    · injection e1 with _ e1 e3; subst e3; exact h2
  clear hl
  have hct := cutN_le a xs
  rw [HL.out] at hct
  obtain ⟨ct, HCT⟩ : ∃ ct, Hid (cutN a xs = ct) := ⟨_, Lib.hid rfl⟩
  rw [HCT.out] at hct
  go_enter Tryz.func158, Tryz.ntmps158
  go_wp2_with fail
  go_loop [5] (fun i => ∃ k : Nat, k ≤ ct ∧ i = .int .i64 (k : Nat)) (fun i => ct - (intOf i).toNat)
  case atStart => exact ⟨0, Nat.zero_le _, rfl⟩
  case round =>
    obtain ⟨k, hk, rfl⟩ := hrel
    have hk0 : (0 : Int) ≤ (k : Int) := by omega
    by_cases hlt : k < ct
    · have hkn : k < n := by omega
      obtain ⟨x, hx⟩ := at_lt HL.out hkn
      have hxa := (cutN_go (n := a) (by rw [HCT.out]; exact hk) hx).2 (by rw [HCT.out]; exact hlt)
      have h0 := HC.out k x hx
      have hki : (k : Int) < (n : Int) := by omega
      have hkd : decide (k < n) = true := by simpa using hkn
      have hxd : decide (x < a) = true := by simpa using hxa
      clear hx
      go_wp2_with fail
      go_round
      case rel => exact ⟨k + 1, by omega, by go_num⟩
      case measure => simp [intOf]; omega
    obtain rfl : k = ct := by omega
    by_cases hkn : k < n
    · obtain ⟨x, hx⟩ := at_lt HL.out hkn
      have hxa : ¬ x < a := fun q => by have := (cutN_go (n := a) (by rw [HCT.out]; exact hk) hx).1 q; rw [HCT.out] at this; omega
      have HX := Lib.hid hx
      have h0 := HC.out k x hx
      have hki : (k : Int) < (n : Int) := by omega
      have hkd : decide (k < n) = true := by simpa using hkn
      have hxd : decide (x < a) = false := by simpa using hxa
      clear hx
      by_cases hxe : x = a
      · have hxb : (x == a) = true := by simpa using hxe
        have HP := Lib.hid (show put xs a = xs from put_old (by rw [HCT.out, HX.out, hxe]))
        have HB0 := Lib.hid (Below.refl w.heap.size w)
        have HN2 := Lib.hid (show (put xs a).length = n by rw [HP.out, HL.out])
        clear hxe
        go_wp2_with fail
        go_ret
        exact ⟨g, c, by rw [HN2.out]; rfl, by rw [HN2.out, HP.out]; exact hown.out, HB0.out⟩
      · have hxb : (x == a) = false := by simpa using hxe
        have HP := Lib.hid (show put xs a = xs.take k ++ a :: xs.drop k ∧ bs ≤ w.heap.size from ⟨by rw [put_new (by rw [HCT.out, HX.out]; simpa using hxe), HCT.out], hb.out⟩)
        clear hxe
        have hkn2 : k ≤ n := by omega
        have HT := Lib.hid (show ∀ W, Below w.heap.size w W → ∀ j y, (xs.take k)[j]? = some y → W.cell? ((⟨g, 0, none⟩ : Addr).add j) = some (.int .i64 y) from fun W hW j y hj => by
          have hjk : j < k := by have := (List.getElem?_eq_some_iff.1 hj).1; rw [List.length_take] at this; omega
          rw [List.getElem?_take_of_lt hjk] at hj
          rw [show (⟨g, 0, none⟩ : Addr).add j = ⟨g, j, none⟩ by unfold Addr.add; split <;> simp_all]
          exact (hW.cell (p := ⟨g, j, none⟩) HGL.out).trans (HC.out _ _ hj))
        have HD := Lib.hid (show ∀ W, Below w.heap.size w W → ∀ j y, (xs.drop k)[j]? = some y → W.cell? ((⟨g, k, none⟩ : Addr).add j) = some (.int .i64 y) from fun W hW j y hj => by
          rw [List.getElem?_drop] at hj
          rw [show (⟨g, k, none⟩ : Addr).add j = ⟨g, k + j, none⟩ by unfold Addr.add; split <;> simp_all]; exact (hW.cell (p := ⟨g, k + j, none⟩) HGL.out).trans (HC.out _ _ hj))
        have hkc2 : k ≤ c := by omega
        have hck : ¬ c = k := by omega
        go_upto_region 6 with fail
        refine wp_region_held_drew (S := (fun _ => True)) (by kernel_rfl) trivial (fun hHeld => ?_)
        obtain ⟨V0, HV0⟩ : ∃ V, Hid (w.drew = V) := ⟨_, Lib.hid rfl⟩
        have HB0 := Lib.hid (show Below w.heap.size w V0 by rw [← HV0.out]; exact (Below.refl _ _).drew)
        rw [HV0.out]
        clear HV0
        refine' wpAnyH_take (i := 1) (v := ?vp1_1) rfl (by kernel_rfl) (by kernel_rfl) (by kernel_rfl) (fun _ _ _ h => h) (Or.inl ⟨by rfl, ?hyp1_1⟩) (by assumption) ?restp1_1
        case hyp1_1 => (intro w hSw; (try dsimp only at hSw); go_simp; try (with_reducible rfl))
        simp only [Act.put, List.getElem_toArray, List.getElem_cons_succ, List.getElem_cons_zero, List.setIfInBounds_toArray, List.set_cons_zero, List.set_cons_succ]
        refine' wpAnyH_take (i := 2) (v := ?vp2_2) rfl (by kernel_rfl) (by kernel_rfl) (by kernel_rfl) (fun _ _ _ h => h) (Or.inl ⟨by rfl, ?hyp2_2⟩) (by assumption) ?restp2_2
        case hyp2_2 => (intro w hSw; (try dsimp only at hSw); go_simp; try (with_reducible rfl))
        simp only [Act.put, List.getElem_toArray, List.getElem_cons_succ, List.getElem_cons_zero, List.setIfInBounds_toArray, List.set_cons_zero, List.set_cons_succ]
        refine' wpAnyH_take (i := 3) (v := ?vp3_3) rfl (by kernel_rfl) (by kernel_rfl) (by kernel_rfl) (fun _ _ _ h => h) (Or.inl ⟨by rfl, ?hyp3_3⟩) (by assumption) ?restp3_3
        case hyp3_3 => (intro w hSw; (try dsimp only at hSw); go_simp; try (with_reducible rfl))
        simp only [Act.put, List.getElem_toArray, List.getElem_cons_succ, List.getElem_cons_zero, List.setIfInBounds_toArray, List.set_cons_zero, List.set_cons_succ]
        refine' wpAnyH_take (i := 5) (v := ?vp4_5) rfl (by kernel_rfl) (by kernel_rfl) (by kernel_rfl) (fun _ _ _ h => h) (Or.inl ⟨by rfl, ?hyp4_5⟩) (by assumption) ?restp4_5
        case hyp4_5 => (intro w hSw; (try dsimp only at hSw); go_simp; try (with_reducible rfl))
        simp only [Act.put, List.getElem_toArray, List.getElem_cons_succ, List.getElem_cons_zero, List.setIfInBounds_toArray, List.set_cons_zero, List.set_cons_succ]
        refine' wpAnyH_take (i := 8) (v := ?vp5_8) rfl (by kernel_rfl) (by kernel_rfl) (by kernel_rfl) (fun _ _ _ h => h) (Or.inl ⟨by rfl, ?hyp5_8⟩) (by assumption) ?restp5_8
        case hyp5_8 => (intro w hSw; (try dsimp only at hSw); go_simp; try (with_reducible rfl))
        simp only [Act.put, List.getElem_toArray, List.getElem_cons_succ, List.getElem_cons_zero, List.setIfInBounds_toArray, List.set_cons_zero, List.set_cons_succ]
        refine' wpAnyH_take (i := 9) (v := ?vp6_9) rfl (by kernel_rfl) (by kernel_rfl) (by kernel_rfl) (fun _ _ _ h => h) (Or.inl ⟨by rfl, ?hyp6_9⟩) (by assumption) ?restp6_9
        case hyp6_9 => (intro w hSw; (try dsimp only at hSw); go_simp; try (with_reducible rfl))
        simp only [Act.put, List.getElem_toArray, List.getElem_cons_succ, List.getElem_cons_zero, List.setIfInBounds_toArray, List.set_cons_zero, List.set_cons_succ]
        refine' wpAnyH_take (i := 10) (v := ?vp7_10) rfl (by kernel_rfl) (by kernel_rfl) (by kernel_rfl) (fun _ _ _ h => h) (Or.inl ⟨by rfl, ?hyp7_10⟩) (by assumption) ?restp7_10
        case hyp7_10 => (intro w hSw; (try dsimp only at hSw); go_simp; try (with_reducible rfl))
        simp only [Act.put, List.getElem_toArray, List.getElem_cons_succ, List.getElem_cons_zero, List.setIfInBounds_toArray, List.set_cons_zero, List.set_cons_succ]
        refine wpAnyH_ready (rs := [0, 6]) (by kernel_rfl) (by simp) ?_
        refine AllReadyH.cons rfl (fun K hK => ?_) (AllReadyH.cons rfl (fun K hK => ?_) AllReadyH.nil)
        · go_simp
          refine hK.out _ _ trivial (fun hHeld1 => ?_)
          clear hK K hHeld
          have hHeld := hHeld1
          clear hHeld1
          try simp only [Act.put, List.getElem_toArray, List.getElem_cons_succ, List.getElem_cons_zero, List.setIfInBounds_toArray, List.set_cons_zero, List.set_cons_succ]
          obtain ⟨G0, HG0⟩ : ∃ G, Hid (V0.heap.size = G) := ⟨_, Lib.hid rfl⟩
          obtain ⟨V1, HW⟩ : ∃ Wx, Hid (V0.alloc (.cells #[] 3) = Wx) := ⟨_, Lib.hid rfl⟩
          have HB1 := Lib.hid (show Below w.heap.size w V1 by rw [← HW.out]; exact HB0.out.alloc HB0.out.size _)
          have HO1 := Lib.hid (show V1.ownsRow w.heap.size 3 1 (.slice (some ⟨G0, 0, none⟩) 0 0) 0 (ints.intsV []) by rw [← HW.out, ← HG0.out]; exact World.ownsRow_made V0 #[] 0 HB0.out.size (by decide) (by simp))
          rw [HW.out]
          try rw [HG0.out]
          clear HW
          refine wpAnyH_ready (rs := [4, 6]) (by kernel_rfl) (by simp) ?_
          refine AllReadyH.cons rfl (fun K hK => ?_) (AllReadyH.cons rfl (fun K hK => ?_) AllReadyH.nil)
          · refine step_ints (news := xs.take k) rfl _ _ rfl rfl HO1.out rfl (by rw [List.length_take, HL.out]; omega) (HT.out V1 HB1.out) (by omega) HB1.out.size ?_
            intro v2 V2 ho hg
            have HB2 := Lib.hid (HB1.out.grown hg HB1.out.size (fun g e => (HO1.out.lt g e).1))
            have HO2 := Lib.hid (show V2.ownsRow w.heap.size 3 1 v2 (0 + k) (ints.intsV ([] ++ xs.take k)) from ho)
            refine hK.out _ _ trivial (fun hHeld1 => ?_)
            clear ho hg
            clear hK K hHeld
            have hHeld := hHeld1
            clear hHeld1
            try simp only [Act.put, List.getElem_toArray, List.getElem_cons_succ, List.getElem_cons_zero, List.setIfInBounds_toArray, List.set_cons_zero, List.set_cons_succ]
            refine wpAnyH_ready (rs := [6]) (by kernel_rfl) (by simp) ?_
            refine AllReadyH.cons rfl (fun K hK => ?_) AllReadyH.nil
            go_simp
            refine hK.out _ _ trivial (fun hHeld1 => ?_)
            clear hK K hHeld
            have hHeld := hHeld1
            clear hHeld1
            try simp only [Act.put, List.getElem_toArray, List.getElem_cons_succ, List.getElem_cons_zero, List.setIfInBounds_toArray, List.set_cons_zero, List.set_cons_succ]
            obtain ⟨G6, HG6⟩ : ∃ G, Hid (V2.heap.size = G) := ⟨_, Lib.hid rfl⟩
            obtain ⟨V3, HW⟩ : ∃ Wx, Hid (V2.alloc (.cells #[.int .i64 a] 3) = Wx) := ⟨_, Lib.hid rfl⟩
            have HB3 := Lib.hid (show Below w.heap.size w V3 by rw [← HW.out]; exact HB2.out.alloc HB2.out.size _)
            have HO3 := Lib.hid (show V3.ownsRow w.heap.size 3 1 v2 (0 + k) (ints.intsV ([] ++ xs.take k)) by rw [← HW.out]; exact HO2.out.alloc _)
            have HK3 := Lib.hid (show Blk V3 G6 3 #[.int .i64 a] by rw [← HW.out, ← HG6.out]; exact Blk.new _ _ _)
            rw [HW.out]
            try rw [HG6.out]
            clear HW
            refine wpAnyH_ready (rs := [7]) (by kernel_rfl) (by simp) ?_
            refine AllReadyH.cons rfl (fun K hK => ?_) AllReadyH.nil
            refine step_ints (news := [a]) rfl _ _ rfl rfl HO3.out rfl rfl (one_cell HK3.out) (by omega) HB3.out.size ?_
            intro v4 V4 ho hg
            have HB4 := Lib.hid (HB3.out.grown hg HB3.out.size (fun g e => (HO3.out.lt g e).1))
            have HO4 := Lib.hid (show V4.ownsRow w.heap.size 3 1 v4 (0 + k + 1) (ints.intsV ([] ++ xs.take k ++ [a])) from ho)
            refine hK.out _ _ trivial (fun hHeld1 => ?_)
            clear ho hg
            clear hK K hHeld
            have hHeld := hHeld1
            clear hHeld1
            try simp only [Act.put, List.getElem_toArray, List.getElem_cons_succ, List.getElem_cons_zero, List.setIfInBounds_toArray, List.set_cons_zero, List.set_cons_succ]
            refine wpAnyH_ready (rs := [11]) (by kernel_rfl) (by simp) ?_
            refine AllReadyH.cons rfl (fun K hK => ?_) AllReadyH.nil
            refine step_ints (news := xs.drop k) rfl _ _ rfl rfl HO4.out rfl (by rw [List.length_drop, HL.out]) (HD.out V4 HB4.out) (by omega) HB4.out.size ?_
            intro v5 V5 ho hg
            have HB5 := Lib.hid (HB4.out.grown hg HB4.out.size (fun g e => (HO4.out.lt g e).1))
            have HO5 := Lib.hid (show V5.ownsRow w.heap.size 3 1 v5 (0 + k + 1 + (n - k)) (ints.intsV ([] ++ xs.take k ++ [a] ++ xs.drop k)) from ho)
            refine hK.out _ _ trivial (fun hHeld1 => ?_)
            clear ho hg
            clear hK K hHeld
            have hHeld := hHeld1
            clear hHeld1
            try simp only [Act.put, List.getElem_toArray, List.getElem_cons_succ, List.getElem_cons_zero, List.setIfInBounds_toArray, List.set_cons_zero, List.set_cons_succ]
            refine' wpAnyH_take (i := 12) (v := ?vp8_12) rfl (by kernel_rfl) (by kernel_rfl) (by kernel_rfl) (fun _ _ _ h => h) (Or.inl ⟨by rfl, ?hyp8_12⟩) (by assumption) ?restp8_12
            case hyp8_12 => (intro w hSw; (try dsimp only at hSw); go_simp; try (with_reducible rfl))
            simp only [Act.put, List.getElem_toArray, List.getElem_cons_succ, List.getElem_cons_zero, List.setIfInBounds_toArray, List.set_cons_zero, List.set_cons_succ]
            refine wpAnyH_done (by kernel_rfl) ?_ _
            clear hHeld
            go_wp2_with fail
            go_ret
            exact fin HP.out HL.out hkn2 HO5.out HB5.out
          · go_simp
            refine hK.out _ _ trivial (fun hHeld1 => ?_)
            clear hK K hHeld
            have hHeld := hHeld1
            clear hHeld1
            try simp only [Act.put, List.getElem_toArray, List.getElem_cons_succ, List.getElem_cons_zero, List.setIfInBounds_toArray, List.set_cons_zero, List.set_cons_succ]
            obtain ⟨G6, HG6⟩ : ∃ G, Hid (V1.heap.size = G) := ⟨_, Lib.hid rfl⟩
            obtain ⟨V2, HW⟩ : ∃ Wx, Hid (V1.alloc (.cells #[.int .i64 a] 3) = Wx) := ⟨_, Lib.hid rfl⟩
            have HB2 := Lib.hid (show Below w.heap.size w V2 by rw [← HW.out]; exact HB1.out.alloc HB1.out.size _)
            have hne06 : ¬ G6 = G0 := by rw [← HG6.out]; have := (HO1.out.lt G0 rfl).2; omega
            have HO2 := Lib.hid (show V2.ownsRow w.heap.size 3 1 (.slice (some ⟨G0, 0, none⟩) 0 0) 0 (ints.intsV []) by rw [← HW.out]; exact HO1.out.alloc _)
            have HK2 := Lib.hid (show Blk V2 G6 3 #[.int .i64 a] by rw [← HW.out, ← HG6.out]; exact Blk.new _ _ _)
            rw [HW.out]
            try rw [HG6.out]
            clear HW
            refine wpAnyH_ready (rs := [4]) (by kernel_rfl) (by simp) ?_
            refine AllReadyH.cons rfl (fun K hK => ?_) AllReadyH.nil
            refine step_ints (news := xs.take k) rfl _ _ rfl rfl HO2.out rfl (by rw [List.length_take, HL.out]; omega) (HT.out V2 HB2.out) (by omega) HB2.out.size ?_
            intro v3 V3 ho hg
            have HB3 := Lib.hid (HB2.out.grown hg HB2.out.size (fun g e => (HO2.out.lt g e).1))
            have HO3 := Lib.hid (show V3.ownsRow w.heap.size 3 1 v3 (0 + k) (ints.intsV ([] ++ xs.take k)) from ho)
            have HK3 := Lib.hid (HK2.out.grown hg (by intro e; injection e with e; exact hne06 e))
            refine hK.out _ _ trivial (fun hHeld1 => ?_)
            clear ho hg
            clear hK K hHeld
            have hHeld := hHeld1
            clear hHeld1
            try simp only [Act.put, List.getElem_toArray, List.getElem_cons_succ, List.getElem_cons_zero, List.setIfInBounds_toArray, List.set_cons_zero, List.set_cons_succ]
            refine wpAnyH_ready (rs := [7]) (by kernel_rfl) (by simp) ?_
            refine AllReadyH.cons rfl (fun K hK => ?_) AllReadyH.nil
            refine step_ints (news := [a]) rfl _ _ rfl rfl HO3.out rfl rfl (one_cell HK3.out) (by omega) HB3.out.size ?_
            intro v4 V4 ho hg
            have HB4 := Lib.hid (HB3.out.grown hg HB3.out.size (fun g e => (HO3.out.lt g e).1))
            have HO4 := Lib.hid (show V4.ownsRow w.heap.size 3 1 v4 (0 + k + 1) (ints.intsV ([] ++ xs.take k ++ [a])) from ho)
            refine hK.out _ _ trivial (fun hHeld1 => ?_)
            clear ho hg
            clear hK K hHeld
            have hHeld := hHeld1
            clear hHeld1
            try simp only [Act.put, List.getElem_toArray, List.getElem_cons_succ, List.getElem_cons_zero, List.setIfInBounds_toArray, List.set_cons_zero, List.set_cons_succ]
            refine wpAnyH_ready (rs := [11]) (by kernel_rfl) (by simp) ?_
            refine AllReadyH.cons rfl (fun K hK => ?_) AllReadyH.nil
            refine step_ints (news := xs.drop k) rfl _ _ rfl rfl HO4.out rfl (by rw [List.length_drop, HL.out]) (HD.out V4 HB4.out) (by omega) HB4.out.size ?_
            intro v5 V5 ho hg
            have HB5 := Lib.hid (HB4.out.grown hg HB4.out.size (fun g e => (HO4.out.lt g e).1))
            have HO5 := Lib.hid (show V5.ownsRow w.heap.size 3 1 v5 (0 + k + 1 + (n - k)) (ints.intsV ([] ++ xs.take k ++ [a] ++ xs.drop k)) from ho)
            refine hK.out _ _ trivial (fun hHeld1 => ?_)
            clear ho hg
            clear hK K hHeld
            have hHeld := hHeld1
            clear hHeld1
            try simp only [Act.put, List.getElem_toArray, List.getElem_cons_succ, List.getElem_cons_zero, List.setIfInBounds_toArray, List.set_cons_zero, List.set_cons_succ]
            refine' wpAnyH_take (i := 12) (v := ?vp9_12) rfl (by kernel_rfl) (by kernel_rfl) (by kernel_rfl) (fun _ _ _ h => h) (Or.inl ⟨by rfl, ?hyp9_12⟩) (by assumption) ?restp9_12
            case hyp9_12 => (intro w hSw; (try dsimp only at hSw); go_simp; try (with_reducible rfl))
            simp only [Act.put, List.getElem_toArray, List.getElem_cons_succ, List.getElem_cons_zero, List.setIfInBounds_toArray, List.set_cons_zero, List.set_cons_succ]
            refine wpAnyH_done (by kernel_rfl) ?_ _
            clear hHeld
            go_wp2_with fail
            go_ret
            exact fin HP.out HL.out hkn2 HO5.out HB5.out
        · go_simp
          refine hK.out _ _ trivial (fun hHeld1 => ?_)
          clear hK K hHeld
          have hHeld := hHeld1
          clear hHeld1
          try simp only [Act.put, List.getElem_toArray, List.getElem_cons_succ, List.getElem_cons_zero, List.setIfInBounds_toArray, List.set_cons_zero, List.set_cons_succ]
          obtain ⟨G6, HG6⟩ : ∃ G, Hid (V0.heap.size = G) := ⟨_, Lib.hid rfl⟩
          obtain ⟨V1, HW⟩ : ∃ Wx, Hid (V0.alloc (.cells #[.int .i64 a] 3) = Wx) := ⟨_, Lib.hid rfl⟩
          have HB1 := Lib.hid (show Below w.heap.size w V1 by rw [← HW.out]; exact HB0.out.alloc HB0.out.size _)
          have HK1 := Lib.hid (show Blk V1 G6 3 #[.int .i64 a] by rw [← HW.out, ← HG6.out]; exact Blk.new _ _ _)
          rw [HW.out]
          try rw [HG6.out]
          clear HW
          refine wpAnyH_ready (rs := [0]) (by kernel_rfl) (by simp) ?_
          refine AllReadyH.cons rfl (fun K hK => ?_) AllReadyH.nil
          go_simp
          refine hK.out _ _ trivial (fun hHeld1 => ?_)
          clear hK K hHeld
          have hHeld := hHeld1
          clear hHeld1
          try simp only [Act.put, List.getElem_toArray, List.getElem_cons_succ, List.getElem_cons_zero, List.setIfInBounds_toArray, List.set_cons_zero, List.set_cons_succ]
          obtain ⟨G0, HG0⟩ : ∃ G, Hid (V1.heap.size = G) := ⟨_, Lib.hid rfl⟩
          obtain ⟨V2, HW⟩ : ∃ Wx, Hid (V1.alloc (.cells #[] 3) = Wx) := ⟨_, Lib.hid rfl⟩
          have HB2 := Lib.hid (show Below w.heap.size w V2 by rw [← HW.out]; exact HB1.out.alloc HB1.out.size _)
          have hne06 : ¬ G6 = G0 := by rw [← HG0.out]; have := HK1.out.lt; omega
          have HO2 := Lib.hid (show V2.ownsRow w.heap.size 3 1 (.slice (some ⟨G0, 0, none⟩) 0 0) 0 (ints.intsV []) by rw [← HW.out, ← HG0.out]; exact World.ownsRow_made V1 #[] 0 HB1.out.size (by decide) (by simp))
          have HK2 := Lib.hid (show Blk V2 G6 3 #[.int .i64 a] by rw [← HW.out]; exact HK1.out.alloc _)
          rw [HW.out]
          try rw [HG0.out]
          clear HW
          refine wpAnyH_ready (rs := [4]) (by kernel_rfl) (by simp) ?_
          refine AllReadyH.cons rfl (fun K hK => ?_) AllReadyH.nil
          refine step_ints (news := xs.take k) rfl _ _ rfl rfl HO2.out rfl (by rw [List.length_take, HL.out]; omega) (HT.out V2 HB2.out) (by omega) HB2.out.size ?_
          intro v3 V3 ho hg
          have HB3 := Lib.hid (HB2.out.grown hg HB2.out.size (fun g e => (HO2.out.lt g e).1))
          have HO3 := Lib.hid (show V3.ownsRow w.heap.size 3 1 v3 (0 + k) (ints.intsV ([] ++ xs.take k)) from ho)
          have HK3 := Lib.hid (HK2.out.grown hg (by intro e; injection e with e; exact hne06 e))
          refine hK.out _ _ trivial (fun hHeld1 => ?_)
          clear ho hg
          clear hK K hHeld
          have hHeld := hHeld1
          clear hHeld1
          try simp only [Act.put, List.getElem_toArray, List.getElem_cons_succ, List.getElem_cons_zero, List.setIfInBounds_toArray, List.set_cons_zero, List.set_cons_succ]
          refine wpAnyH_ready (rs := [7]) (by kernel_rfl) (by simp) ?_
          refine AllReadyH.cons rfl (fun K hK => ?_) AllReadyH.nil
          refine step_ints (news := [a]) rfl _ _ rfl rfl HO3.out rfl rfl (one_cell HK3.out) (by omega) HB3.out.size ?_
          intro v4 V4 ho hg
          have HB4 := Lib.hid (HB3.out.grown hg HB3.out.size (fun g e => (HO3.out.lt g e).1))
          have HO4 := Lib.hid (show V4.ownsRow w.heap.size 3 1 v4 (0 + k + 1) (ints.intsV ([] ++ xs.take k ++ [a])) from ho)
          refine hK.out _ _ trivial (fun hHeld1 => ?_)
          clear ho hg
          clear hK K hHeld
          have hHeld := hHeld1
          clear hHeld1
          try simp only [Act.put, List.getElem_toArray, List.getElem_cons_succ, List.getElem_cons_zero, List.setIfInBounds_toArray, List.set_cons_zero, List.set_cons_succ]
          refine wpAnyH_ready (rs := [11]) (by kernel_rfl) (by simp) ?_
          refine AllReadyH.cons rfl (fun K hK => ?_) AllReadyH.nil
          refine step_ints (news := xs.drop k) rfl _ _ rfl rfl HO4.out rfl (by rw [List.length_drop, HL.out]) (HD.out V4 HB4.out) (by omega) HB4.out.size ?_
          intro v5 V5 ho hg
          have HB5 := Lib.hid (HB4.out.grown hg HB4.out.size (fun g e => (HO4.out.lt g e).1))
          have HO5 := Lib.hid (show V5.ownsRow w.heap.size 3 1 v5 (0 + k + 1 + (n - k)) (ints.intsV ([] ++ xs.take k ++ [a] ++ xs.drop k)) from ho)
          refine hK.out _ _ trivial (fun hHeld1 => ?_)
          clear ho hg
          clear hK K hHeld
          have hHeld := hHeld1
          clear hHeld1
          try simp only [Act.put, List.getElem_toArray, List.getElem_cons_succ, List.getElem_cons_zero, List.setIfInBounds_toArray, List.set_cons_zero, List.set_cons_succ]
          refine' wpAnyH_take (i := 12) (v := ?vp10_12) rfl (by kernel_rfl) (by kernel_rfl) (by kernel_rfl) (fun _ _ _ h => h) (Or.inl ⟨by rfl, ?hyp10_12⟩) (by assumption) ?restp10_12
          case hyp10_12 => (intro w hSw; (try dsimp only at hSw); go_simp; try (with_reducible rfl))
          simp only [Act.put, List.getElem_toArray, List.getElem_cons_succ, List.getElem_cons_zero, List.setIfInBounds_toArray, List.set_cons_zero, List.set_cons_succ]
          refine wpAnyH_done (by kernel_rfl) ?_ _
          clear hHeld
          go_wp2_with fail
          go_ret
          exact fin HP.out HL.out hkn2 HO5.out HB5.out
    · have hkd : decide (k < n) = false := by simpa using hkn
      have hki : ¬ (k : Int) < (n : Int) := by omega
      have HP := Lib.hid (show put xs a = xs.take k ++ a :: xs.drop k ∧ bs ≤ w.heap.size from ⟨by rw [put_new (by rw [HCT.out, List.getElem?_eq_none (by rw [HL.out]; omega)]; simp), HCT.out], hb.out⟩)
      have hkn2 : k ≤ n := by omega
      by_cases hck : c = k
      · have hck2 : k = c := hck.symm
        subst hck2
        have HT := Lib.hid (show ∀ W, Below w.heap.size w W → ∀ j y, (xs.take k)[j]? = some y → W.cell? ((⟨g, 0, none⟩ : Addr).add j) = some (.int .i64 y) from fun W hW j y hj => by
          have hjk : j < k := by have := (List.getElem?_eq_some_iff.1 hj).1; rw [List.length_take] at this; omega
          rw [List.getElem?_take_of_lt hjk] at hj
          rw [show (⟨g, 0, none⟩ : Addr).add j = ⟨g, j, none⟩ by unfold Addr.add; split <;> simp_all]
          exact (hW.cell (p := ⟨g, j, none⟩) HGL.out).trans (HC.out _ _ hj))
        have HD := Lib.hid (show ∀ W, Below w.heap.size w W → ∀ j y, (xs.drop k)[j]? = some y → W.cell? ((⟨g, 0, none⟩ : Addr).add j) = some (.int .i64 y) from fun W hW j y hj => by
          rw [List.getElem?_drop] at hj
          rw [List.getElem?_eq_none (by rw [HL.out]; omega)] at hj; cases hj)
        have hkc2 : k ≤ k := Nat.le_refl _
        go_upto_region 6 with fail
        refine wp_region_held_drew (S := (fun _ => True)) (by kernel_rfl) trivial (fun hHeld => ?_)
        obtain ⟨V0, HV0⟩ : ∃ V, Hid (w.drew = V) := ⟨_, Lib.hid rfl⟩
        have HB0 := Lib.hid (show Below w.heap.size w V0 by rw [← HV0.out]; exact (Below.refl _ _).drew)
        rw [HV0.out]
        clear HV0
        refine' wpAnyH_take (i := 1) (v := ?vp11_1) rfl (by kernel_rfl) (by kernel_rfl) (by kernel_rfl) (fun _ _ _ h => h) (Or.inl ⟨by rfl, ?hyp11_1⟩) (by assumption) ?restp11_1
        case hyp11_1 => (intro w hSw; (try dsimp only at hSw); go_simp; try (with_reducible rfl))
        simp only [Act.put, List.getElem_toArray, List.getElem_cons_succ, List.getElem_cons_zero, List.setIfInBounds_toArray, List.set_cons_zero, List.set_cons_succ]
        refine' wpAnyH_take (i := 2) (v := ?vp12_2) rfl (by kernel_rfl) (by kernel_rfl) (by kernel_rfl) (fun _ _ _ h => h) (Or.inl ⟨by rfl, ?hyp12_2⟩) (by assumption) ?restp12_2
        case hyp12_2 => (intro w hSw; (try dsimp only at hSw); go_simp; try (with_reducible rfl))
        simp only [Act.put, List.getElem_toArray, List.getElem_cons_succ, List.getElem_cons_zero, List.setIfInBounds_toArray, List.set_cons_zero, List.set_cons_succ]
        refine' wpAnyH_take (i := 3) (v := ?vp13_3) rfl (by kernel_rfl) (by kernel_rfl) (by kernel_rfl) (fun _ _ _ h => h) (Or.inl ⟨by rfl, ?hyp13_3⟩) (by assumption) ?restp13_3
        case hyp13_3 => (intro w hSw; (try dsimp only at hSw); go_simp; try (with_reducible rfl))
        simp only [Act.put, List.getElem_toArray, List.getElem_cons_succ, List.getElem_cons_zero, List.setIfInBounds_toArray, List.set_cons_zero, List.set_cons_succ]
        refine' wpAnyH_take (i := 5) (v := ?vp14_5) rfl (by kernel_rfl) (by kernel_rfl) (by kernel_rfl) (fun _ _ _ h => h) (Or.inl ⟨by rfl, ?hyp14_5⟩) (by assumption) ?restp14_5
        case hyp14_5 => (intro w hSw; (try dsimp only at hSw); go_simp; try (with_reducible rfl))
        simp only [Act.put, List.getElem_toArray, List.getElem_cons_succ, List.getElem_cons_zero, List.setIfInBounds_toArray, List.set_cons_zero, List.set_cons_succ]
        refine' wpAnyH_take (i := 8) (v := ?vp15_8) rfl (by kernel_rfl) (by kernel_rfl) (by kernel_rfl) (fun _ _ _ h => h) (Or.inl ⟨by rfl, ?hyp15_8⟩) (by assumption) ?restp15_8
        case hyp15_8 => (intro w hSw; (try dsimp only at hSw); go_simp; try (with_reducible rfl))
        simp only [Act.put, List.getElem_toArray, List.getElem_cons_succ, List.getElem_cons_zero, List.setIfInBounds_toArray, List.set_cons_zero, List.set_cons_succ]
        refine' wpAnyH_take (i := 9) (v := ?vp16_9) rfl (by kernel_rfl) (by kernel_rfl) (by kernel_rfl) (fun _ _ _ h => h) (Or.inl ⟨by rfl, ?hyp16_9⟩) (by assumption) ?restp16_9
        case hyp16_9 => (intro w hSw; (try dsimp only at hSw); go_simp; try (with_reducible rfl))
        simp only [Act.put, List.getElem_toArray, List.getElem_cons_succ, List.getElem_cons_zero, List.setIfInBounds_toArray, List.set_cons_zero, List.set_cons_succ]
        refine' wpAnyH_take (i := 10) (v := ?vp17_10) rfl (by kernel_rfl) (by kernel_rfl) (by kernel_rfl) (fun _ _ _ h => h) (Or.inl ⟨by rfl, ?hyp17_10⟩) (by assumption) ?restp17_10
        case hyp17_10 => (intro w hSw; (try dsimp only at hSw); go_simp; try (with_reducible rfl))
        simp only [Act.put, List.getElem_toArray, List.getElem_cons_succ, List.getElem_cons_zero, List.setIfInBounds_toArray, List.set_cons_zero, List.set_cons_succ]
        refine wpAnyH_ready (rs := [0, 6]) (by kernel_rfl) (by simp) ?_
        refine AllReadyH.cons rfl (fun K hK => ?_) (AllReadyH.cons rfl (fun K hK => ?_) AllReadyH.nil)
        · go_simp
          refine hK.out _ _ trivial (fun hHeld1 => ?_)
          clear hK K hHeld
          have hHeld := hHeld1
          clear hHeld1
          try simp only [Act.put, List.getElem_toArray, List.getElem_cons_succ, List.getElem_cons_zero, List.setIfInBounds_toArray, List.set_cons_zero, List.set_cons_succ]
          obtain ⟨G0, HG0⟩ : ∃ G, Hid (V0.heap.size = G) := ⟨_, Lib.hid rfl⟩
          obtain ⟨V1, HW⟩ : ∃ Wx, Hid (V0.alloc (.cells #[] 3) = Wx) := ⟨_, Lib.hid rfl⟩
          have HB1 := Lib.hid (show Below w.heap.size w V1 by rw [← HW.out]; exact HB0.out.alloc HB0.out.size _)
          have HO1 := Lib.hid (show V1.ownsRow w.heap.size 3 1 (.slice (some ⟨G0, 0, none⟩) 0 0) 0 (ints.intsV []) by rw [← HW.out, ← HG0.out]; exact World.ownsRow_made V0 #[] 0 HB0.out.size (by decide) (by simp))
          rw [HW.out]
          try rw [HG0.out]
          clear HW
          refine wpAnyH_ready (rs := [4, 6]) (by kernel_rfl) (by simp) ?_
          refine AllReadyH.cons rfl (fun K hK => ?_) (AllReadyH.cons rfl (fun K hK => ?_) AllReadyH.nil)
          · refine step_ints (news := xs.take k) rfl _ _ rfl rfl HO1.out rfl (by rw [List.length_take, HL.out]; omega) (HT.out V1 HB1.out) (by omega) HB1.out.size ?_
            intro v2 V2 ho hg
            have HB2 := Lib.hid (HB1.out.grown hg HB1.out.size (fun g e => (HO1.out.lt g e).1))
            have HO2 := Lib.hid (show V2.ownsRow w.heap.size 3 1 v2 (0 + k) (ints.intsV ([] ++ xs.take k)) from ho)
            refine hK.out _ _ trivial (fun hHeld1 => ?_)
            clear ho hg
            clear hK K hHeld
            have hHeld := hHeld1
            clear hHeld1
            try simp only [Act.put, List.getElem_toArray, List.getElem_cons_succ, List.getElem_cons_zero, List.setIfInBounds_toArray, List.set_cons_zero, List.set_cons_succ]
            refine wpAnyH_ready (rs := [6]) (by kernel_rfl) (by simp) ?_
            refine AllReadyH.cons rfl (fun K hK => ?_) AllReadyH.nil
            go_simp
            refine hK.out _ _ trivial (fun hHeld1 => ?_)
            clear hK K hHeld
            have hHeld := hHeld1
            clear hHeld1
            try simp only [Act.put, List.getElem_toArray, List.getElem_cons_succ, List.getElem_cons_zero, List.setIfInBounds_toArray, List.set_cons_zero, List.set_cons_succ]
            obtain ⟨G6, HG6⟩ : ∃ G, Hid (V2.heap.size = G) := ⟨_, Lib.hid rfl⟩
            obtain ⟨V3, HW⟩ : ∃ Wx, Hid (V2.alloc (.cells #[.int .i64 a] 3) = Wx) := ⟨_, Lib.hid rfl⟩
            have HB3 := Lib.hid (show Below w.heap.size w V3 by rw [← HW.out]; exact HB2.out.alloc HB2.out.size _)
            have HO3 := Lib.hid (show V3.ownsRow w.heap.size 3 1 v2 (0 + k) (ints.intsV ([] ++ xs.take k)) by rw [← HW.out]; exact HO2.out.alloc _)
            have HK3 := Lib.hid (show Blk V3 G6 3 #[.int .i64 a] by rw [← HW.out, ← HG6.out]; exact Blk.new _ _ _)
            rw [HW.out]
            try rw [HG6.out]
            clear HW
            refine wpAnyH_ready (rs := [7]) (by kernel_rfl) (by simp) ?_
            refine AllReadyH.cons rfl (fun K hK => ?_) AllReadyH.nil
            refine step_ints (news := [a]) rfl _ _ rfl rfl HO3.out rfl rfl (one_cell HK3.out) (by omega) HB3.out.size ?_
            intro v4 V4 ho hg
            have HB4 := Lib.hid (HB3.out.grown hg HB3.out.size (fun g e => (HO3.out.lt g e).1))
            have HO4 := Lib.hid (show V4.ownsRow w.heap.size 3 1 v4 (0 + k + 1) (ints.intsV ([] ++ xs.take k ++ [a])) from ho)
            refine hK.out _ _ trivial (fun hHeld1 => ?_)
            clear ho hg
            clear hK K hHeld
            have hHeld := hHeld1
            clear hHeld1
            try simp only [Act.put, List.getElem_toArray, List.getElem_cons_succ, List.getElem_cons_zero, List.setIfInBounds_toArray, List.set_cons_zero, List.set_cons_succ]
            refine wpAnyH_ready (rs := [11]) (by kernel_rfl) (by simp) ?_
            refine AllReadyH.cons rfl (fun K hK => ?_) AllReadyH.nil
            refine step_ints (news := xs.drop k) rfl _ _ rfl rfl HO4.out rfl (by rw [List.length_drop, HL.out]; omega) (HD.out V4 HB4.out) (by omega) HB4.out.size ?_
            intro v5 V5 ho hg
            have HB5 := Lib.hid (HB4.out.grown hg HB4.out.size (fun g e => (HO4.out.lt g e).1))
            have HO5 := Lib.hid (show V5.ownsRow w.heap.size 3 1 v5 (0 + k + 1 + 0) (ints.intsV ([] ++ xs.take k ++ [a] ++ xs.drop k)) from ho)
            refine hK.out _ _ trivial (fun hHeld1 => ?_)
            clear ho hg
            clear hK K hHeld
            have hHeld := hHeld1
            clear hHeld1
            try simp only [Act.put, List.getElem_toArray, List.getElem_cons_succ, List.getElem_cons_zero, List.setIfInBounds_toArray, List.set_cons_zero, List.set_cons_succ]
            refine' wpAnyH_take (i := 12) (v := ?vp18_12) rfl (by kernel_rfl) (by kernel_rfl) (by kernel_rfl) (fun _ _ _ h => h) (Or.inl ⟨by rfl, ?hyp18_12⟩) (by assumption) ?restp18_12
            case hyp18_12 => (intro w hSw; (try dsimp only at hSw); go_simp; try (with_reducible rfl))
            simp only [Act.put, List.getElem_toArray, List.getElem_cons_succ, List.getElem_cons_zero, List.setIfInBounds_toArray, List.set_cons_zero, List.set_cons_succ]
            refine wpAnyH_done (by kernel_rfl) ?_ _
            clear hHeld
            go_wp2_with fail
            go_ret
            exact fin HP.out HL.out hkn2 (by have h := HO5.out; rwa [show 0 + k + 1 + 0 = 0 + k + 1 + (n - k) by omega] at h) HB5.out
          · go_simp
            refine hK.out _ _ trivial (fun hHeld1 => ?_)
            clear hK K hHeld
            have hHeld := hHeld1
            clear hHeld1
            try simp only [Act.put, List.getElem_toArray, List.getElem_cons_succ, List.getElem_cons_zero, List.setIfInBounds_toArray, List.set_cons_zero, List.set_cons_succ]
            obtain ⟨G6, HG6⟩ : ∃ G, Hid (V1.heap.size = G) := ⟨_, Lib.hid rfl⟩
            obtain ⟨V2, HW⟩ : ∃ Wx, Hid (V1.alloc (.cells #[.int .i64 a] 3) = Wx) := ⟨_, Lib.hid rfl⟩
            have HB2 := Lib.hid (show Below w.heap.size w V2 by rw [← HW.out]; exact HB1.out.alloc HB1.out.size _)
            have hne06 : ¬ G6 = G0 := by rw [← HG6.out]; have := (HO1.out.lt G0 rfl).2; omega
            have HO2 := Lib.hid (show V2.ownsRow w.heap.size 3 1 (.slice (some ⟨G0, 0, none⟩) 0 0) 0 (ints.intsV []) by rw [← HW.out]; exact HO1.out.alloc _)
            have HK2 := Lib.hid (show Blk V2 G6 3 #[.int .i64 a] by rw [← HW.out, ← HG6.out]; exact Blk.new _ _ _)
            rw [HW.out]
            try rw [HG6.out]
            clear HW
            refine wpAnyH_ready (rs := [4]) (by kernel_rfl) (by simp) ?_
            refine AllReadyH.cons rfl (fun K hK => ?_) AllReadyH.nil
            refine step_ints (news := xs.take k) rfl _ _ rfl rfl HO2.out rfl (by rw [List.length_take, HL.out]; omega) (HT.out V2 HB2.out) (by omega) HB2.out.size ?_
            intro v3 V3 ho hg
            have HB3 := Lib.hid (HB2.out.grown hg HB2.out.size (fun g e => (HO2.out.lt g e).1))
            have HO3 := Lib.hid (show V3.ownsRow w.heap.size 3 1 v3 (0 + k) (ints.intsV ([] ++ xs.take k)) from ho)
            have HK3 := Lib.hid (HK2.out.grown hg (by intro e; injection e with e; exact hne06 e))
            refine hK.out _ _ trivial (fun hHeld1 => ?_)
            clear ho hg
            clear hK K hHeld
            have hHeld := hHeld1
            clear hHeld1
            try simp only [Act.put, List.getElem_toArray, List.getElem_cons_succ, List.getElem_cons_zero, List.setIfInBounds_toArray, List.set_cons_zero, List.set_cons_succ]
            refine wpAnyH_ready (rs := [7]) (by kernel_rfl) (by simp) ?_
            refine AllReadyH.cons rfl (fun K hK => ?_) AllReadyH.nil
            refine step_ints (news := [a]) rfl _ _ rfl rfl HO3.out rfl rfl (one_cell HK3.out) (by omega) HB3.out.size ?_
            intro v4 V4 ho hg
            have HB4 := Lib.hid (HB3.out.grown hg HB3.out.size (fun g e => (HO3.out.lt g e).1))
            have HO4 := Lib.hid (show V4.ownsRow w.heap.size 3 1 v4 (0 + k + 1) (ints.intsV ([] ++ xs.take k ++ [a])) from ho)
            refine hK.out _ _ trivial (fun hHeld1 => ?_)
            clear ho hg
            clear hK K hHeld
            have hHeld := hHeld1
            clear hHeld1
            try simp only [Act.put, List.getElem_toArray, List.getElem_cons_succ, List.getElem_cons_zero, List.setIfInBounds_toArray, List.set_cons_zero, List.set_cons_succ]
            refine wpAnyH_ready (rs := [11]) (by kernel_rfl) (by simp) ?_
            refine AllReadyH.cons rfl (fun K hK => ?_) AllReadyH.nil
            refine step_ints (news := xs.drop k) rfl _ _ rfl rfl HO4.out rfl (by rw [List.length_drop, HL.out]; omega) (HD.out V4 HB4.out) (by omega) HB4.out.size ?_
            intro v5 V5 ho hg
            have HB5 := Lib.hid (HB4.out.grown hg HB4.out.size (fun g e => (HO4.out.lt g e).1))
            have HO5 := Lib.hid (show V5.ownsRow w.heap.size 3 1 v5 (0 + k + 1 + 0) (ints.intsV ([] ++ xs.take k ++ [a] ++ xs.drop k)) from ho)
            refine hK.out _ _ trivial (fun hHeld1 => ?_)
            clear ho hg
            clear hK K hHeld
            have hHeld := hHeld1
            clear hHeld1
            try simp only [Act.put, List.getElem_toArray, List.getElem_cons_succ, List.getElem_cons_zero, List.setIfInBounds_toArray, List.set_cons_zero, List.set_cons_succ]
            refine' wpAnyH_take (i := 12) (v := ?vp19_12) rfl (by kernel_rfl) (by kernel_rfl) (by kernel_rfl) (fun _ _ _ h => h) (Or.inl ⟨by rfl, ?hyp19_12⟩) (by assumption) ?restp19_12
            case hyp19_12 => (intro w hSw; (try dsimp only at hSw); go_simp; try (with_reducible rfl))
            simp only [Act.put, List.getElem_toArray, List.getElem_cons_succ, List.getElem_cons_zero, List.setIfInBounds_toArray, List.set_cons_zero, List.set_cons_succ]
            refine wpAnyH_done (by kernel_rfl) ?_ _
            clear hHeld
            go_wp2_with fail
            go_ret
            exact fin HP.out HL.out hkn2 (by have h := HO5.out; rwa [show 0 + k + 1 + 0 = 0 + k + 1 + (n - k) by omega] at h) HB5.out
        · go_simp
          refine hK.out _ _ trivial (fun hHeld1 => ?_)
          clear hK K hHeld
          have hHeld := hHeld1
          clear hHeld1
          try simp only [Act.put, List.getElem_toArray, List.getElem_cons_succ, List.getElem_cons_zero, List.setIfInBounds_toArray, List.set_cons_zero, List.set_cons_succ]
          obtain ⟨G6, HG6⟩ : ∃ G, Hid (V0.heap.size = G) := ⟨_, Lib.hid rfl⟩
          obtain ⟨V1, HW⟩ : ∃ Wx, Hid (V0.alloc (.cells #[.int .i64 a] 3) = Wx) := ⟨_, Lib.hid rfl⟩
          have HB1 := Lib.hid (show Below w.heap.size w V1 by rw [← HW.out]; exact HB0.out.alloc HB0.out.size _)
          have HK1 := Lib.hid (show Blk V1 G6 3 #[.int .i64 a] by rw [← HW.out, ← HG6.out]; exact Blk.new _ _ _)
          rw [HW.out]
          try rw [HG6.out]
          clear HW
          refine wpAnyH_ready (rs := [0]) (by kernel_rfl) (by simp) ?_
          refine AllReadyH.cons rfl (fun K hK => ?_) AllReadyH.nil
          go_simp
          refine hK.out _ _ trivial (fun hHeld1 => ?_)
          clear hK K hHeld
          have hHeld := hHeld1
          clear hHeld1
          try simp only [Act.put, List.getElem_toArray, List.getElem_cons_succ, List.getElem_cons_zero, List.setIfInBounds_toArray, List.set_cons_zero, List.set_cons_succ]
          obtain ⟨G0, HG0⟩ : ∃ G, Hid (V1.heap.size = G) := ⟨_, Lib.hid rfl⟩
          obtain ⟨V2, HW⟩ : ∃ Wx, Hid (V1.alloc (.cells #[] 3) = Wx) := ⟨_, Lib.hid rfl⟩
          have HB2 := Lib.hid (show Below w.heap.size w V2 by rw [← HW.out]; exact HB1.out.alloc HB1.out.size _)
          have hne06 : ¬ G6 = G0 := by rw [← HG0.out]; have := HK1.out.lt; omega
          have HO2 := Lib.hid (show V2.ownsRow w.heap.size 3 1 (.slice (some ⟨G0, 0, none⟩) 0 0) 0 (ints.intsV []) by rw [← HW.out, ← HG0.out]; exact World.ownsRow_made V1 #[] 0 HB1.out.size (by decide) (by simp))
          have HK2 := Lib.hid (show Blk V2 G6 3 #[.int .i64 a] by rw [← HW.out]; exact HK1.out.alloc _)
          rw [HW.out]
          try rw [HG0.out]
          clear HW
          refine wpAnyH_ready (rs := [4]) (by kernel_rfl) (by simp) ?_
          refine AllReadyH.cons rfl (fun K hK => ?_) AllReadyH.nil
          refine step_ints (news := xs.take k) rfl _ _ rfl rfl HO2.out rfl (by rw [List.length_take, HL.out]; omega) (HT.out V2 HB2.out) (by omega) HB2.out.size ?_
          intro v3 V3 ho hg
          have HB3 := Lib.hid (HB2.out.grown hg HB2.out.size (fun g e => (HO2.out.lt g e).1))
          have HO3 := Lib.hid (show V3.ownsRow w.heap.size 3 1 v3 (0 + k) (ints.intsV ([] ++ xs.take k)) from ho)
          have HK3 := Lib.hid (HK2.out.grown hg (by intro e; injection e with e; exact hne06 e))
          refine hK.out _ _ trivial (fun hHeld1 => ?_)
          clear ho hg
          clear hK K hHeld
          have hHeld := hHeld1
          clear hHeld1
          try simp only [Act.put, List.getElem_toArray, List.getElem_cons_succ, List.getElem_cons_zero, List.setIfInBounds_toArray, List.set_cons_zero, List.set_cons_succ]
          refine wpAnyH_ready (rs := [7]) (by kernel_rfl) (by simp) ?_
          refine AllReadyH.cons rfl (fun K hK => ?_) AllReadyH.nil
          refine step_ints (news := [a]) rfl _ _ rfl rfl HO3.out rfl rfl (one_cell HK3.out) (by omega) HB3.out.size ?_
          intro v4 V4 ho hg
          have HB4 := Lib.hid (HB3.out.grown hg HB3.out.size (fun g e => (HO3.out.lt g e).1))
          have HO4 := Lib.hid (show V4.ownsRow w.heap.size 3 1 v4 (0 + k + 1) (ints.intsV ([] ++ xs.take k ++ [a])) from ho)
          refine hK.out _ _ trivial (fun hHeld1 => ?_)
          clear ho hg
          clear hK K hHeld
          have hHeld := hHeld1
          clear hHeld1
          try simp only [Act.put, List.getElem_toArray, List.getElem_cons_succ, List.getElem_cons_zero, List.setIfInBounds_toArray, List.set_cons_zero, List.set_cons_succ]
          refine wpAnyH_ready (rs := [11]) (by kernel_rfl) (by simp) ?_
          refine AllReadyH.cons rfl (fun K hK => ?_) AllReadyH.nil
          refine step_ints (news := xs.drop k) rfl _ _ rfl rfl HO4.out rfl (by rw [List.length_drop, HL.out]; omega) (HD.out V4 HB4.out) (by omega) HB4.out.size ?_
          intro v5 V5 ho hg
          have HB5 := Lib.hid (HB4.out.grown hg HB4.out.size (fun g e => (HO4.out.lt g e).1))
          have HO5 := Lib.hid (show V5.ownsRow w.heap.size 3 1 v5 (0 + k + 1 + 0) (ints.intsV ([] ++ xs.take k ++ [a] ++ xs.drop k)) from ho)
          refine hK.out _ _ trivial (fun hHeld1 => ?_)
          clear ho hg
          clear hK K hHeld
          have hHeld := hHeld1
          clear hHeld1
          try simp only [Act.put, List.getElem_toArray, List.getElem_cons_succ, List.getElem_cons_zero, List.setIfInBounds_toArray, List.set_cons_zero, List.set_cons_succ]
          refine' wpAnyH_take (i := 12) (v := ?vp20_12) rfl (by kernel_rfl) (by kernel_rfl) (by kernel_rfl) (fun _ _ _ h => h) (Or.inl ⟨by rfl, ?hyp20_12⟩) (by assumption) ?restp20_12
          case hyp20_12 => (intro w hSw; (try dsimp only at hSw); go_simp; try (with_reducible rfl))
          simp only [Act.put, List.getElem_toArray, List.getElem_cons_succ, List.getElem_cons_zero, List.setIfInBounds_toArray, List.set_cons_zero, List.set_cons_succ]
          refine wpAnyH_done (by kernel_rfl) ?_ _
          clear hHeld
          go_wp2_with fail
          go_ret
          exact fin HP.out HL.out hkn2 (by have h := HO5.out; rwa [show 0 + k + 1 + 0 = 0 + k + 1 + (n - k) by omega] at h) HB5.out
      · skip
        have HT := Lib.hid (show ∀ W, Below w.heap.size w W → ∀ j y, (xs.take k)[j]? = some y → W.cell? ((⟨g, 0, none⟩ : Addr).add j) = some (.int .i64 y) from fun W hW j y hj => by
          have hjk : j < k := by have := (List.getElem?_eq_some_iff.1 hj).1; rw [List.length_take] at this; omega
          rw [List.getElem?_take_of_lt hjk] at hj
          rw [show (⟨g, 0, none⟩ : Addr).add j = ⟨g, j, none⟩ by unfold Addr.add; split <;> simp_all]
          exact (hW.cell (p := ⟨g, j, none⟩) HGL.out).trans (HC.out _ _ hj))
        have HD := Lib.hid (show ∀ W, Below w.heap.size w W → ∀ j y, (xs.drop k)[j]? = some y → W.cell? ((⟨g, k, none⟩ : Addr).add j) = some (.int .i64 y) from fun W hW j y hj => by
          rw [List.getElem?_drop] at hj
          rw [show (⟨g, k, none⟩ : Addr).add j = ⟨g, k + j, none⟩ by unfold Addr.add; split <;> simp_all]; exact (hW.cell (p := ⟨g, k + j, none⟩) HGL.out).trans (HC.out _ _ hj))
        have hkc2 : k ≤ c := by omega
        go_upto_region 6 with fail
        refine wp_region_held_drew (S := (fun _ => True)) (by kernel_rfl) trivial (fun hHeld => ?_)
        obtain ⟨V0, HV0⟩ : ∃ V, Hid (w.drew = V) := ⟨_, Lib.hid rfl⟩
        have HB0 := Lib.hid (show Below w.heap.size w V0 by rw [← HV0.out]; exact (Below.refl _ _).drew)
        rw [HV0.out]
        clear HV0
        refine' wpAnyH_take (i := 1) (v := ?vp21_1) rfl (by kernel_rfl) (by kernel_rfl) (by kernel_rfl) (fun _ _ _ h => h) (Or.inl ⟨by rfl, ?hyp21_1⟩) (by assumption) ?restp21_1
        case hyp21_1 => (intro w hSw; (try dsimp only at hSw); go_simp; try (with_reducible rfl))
        simp only [Act.put, List.getElem_toArray, List.getElem_cons_succ, List.getElem_cons_zero, List.setIfInBounds_toArray, List.set_cons_zero, List.set_cons_succ]
        refine' wpAnyH_take (i := 2) (v := ?vp22_2) rfl (by kernel_rfl) (by kernel_rfl) (by kernel_rfl) (fun _ _ _ h => h) (Or.inl ⟨by rfl, ?hyp22_2⟩) (by assumption) ?restp22_2
        case hyp22_2 => (intro w hSw; (try dsimp only at hSw); go_simp; try (with_reducible rfl))
        simp only [Act.put, List.getElem_toArray, List.getElem_cons_succ, List.getElem_cons_zero, List.setIfInBounds_toArray, List.set_cons_zero, List.set_cons_succ]
        refine' wpAnyH_take (i := 3) (v := ?vp23_3) rfl (by kernel_rfl) (by kernel_rfl) (by kernel_rfl) (fun _ _ _ h => h) (Or.inl ⟨by rfl, ?hyp23_3⟩) (by assumption) ?restp23_3
        case hyp23_3 => (intro w hSw; (try dsimp only at hSw); go_simp; try (with_reducible rfl))
        simp only [Act.put, List.getElem_toArray, List.getElem_cons_succ, List.getElem_cons_zero, List.setIfInBounds_toArray, List.set_cons_zero, List.set_cons_succ]
        refine' wpAnyH_take (i := 5) (v := ?vp24_5) rfl (by kernel_rfl) (by kernel_rfl) (by kernel_rfl) (fun _ _ _ h => h) (Or.inl ⟨by rfl, ?hyp24_5⟩) (by assumption) ?restp24_5
        case hyp24_5 => (intro w hSw; (try dsimp only at hSw); go_simp; try (with_reducible rfl))
        simp only [Act.put, List.getElem_toArray, List.getElem_cons_succ, List.getElem_cons_zero, List.setIfInBounds_toArray, List.set_cons_zero, List.set_cons_succ]
        refine' wpAnyH_take (i := 8) (v := ?vp25_8) rfl (by kernel_rfl) (by kernel_rfl) (by kernel_rfl) (fun _ _ _ h => h) (Or.inl ⟨by rfl, ?hyp25_8⟩) (by assumption) ?restp25_8
        case hyp25_8 => (intro w hSw; (try dsimp only at hSw); go_simp; try (with_reducible rfl))
        simp only [Act.put, List.getElem_toArray, List.getElem_cons_succ, List.getElem_cons_zero, List.setIfInBounds_toArray, List.set_cons_zero, List.set_cons_succ]
        refine' wpAnyH_take (i := 9) (v := ?vp26_9) rfl (by kernel_rfl) (by kernel_rfl) (by kernel_rfl) (fun _ _ _ h => h) (Or.inl ⟨by rfl, ?hyp26_9⟩) (by assumption) ?restp26_9
        case hyp26_9 => (intro w hSw; (try dsimp only at hSw); go_simp; try (with_reducible rfl))
        simp only [Act.put, List.getElem_toArray, List.getElem_cons_succ, List.getElem_cons_zero, List.setIfInBounds_toArray, List.set_cons_zero, List.set_cons_succ]
        refine' wpAnyH_take (i := 10) (v := ?vp27_10) rfl (by kernel_rfl) (by kernel_rfl) (by kernel_rfl) (fun _ _ _ h => h) (Or.inl ⟨by rfl, ?hyp27_10⟩) (by assumption) ?restp27_10
        case hyp27_10 => (intro w hSw; (try dsimp only at hSw); go_simp; try (with_reducible rfl))
        simp only [Act.put, List.getElem_toArray, List.getElem_cons_succ, List.getElem_cons_zero, List.setIfInBounds_toArray, List.set_cons_zero, List.set_cons_succ]
        refine wpAnyH_ready (rs := [0, 6]) (by kernel_rfl) (by simp) ?_
        refine AllReadyH.cons rfl (fun K hK => ?_) (AllReadyH.cons rfl (fun K hK => ?_) AllReadyH.nil)
        · go_simp
          refine hK.out _ _ trivial (fun hHeld1 => ?_)
          clear hK K hHeld
          have hHeld := hHeld1
          clear hHeld1
          try simp only [Act.put, List.getElem_toArray, List.getElem_cons_succ, List.getElem_cons_zero, List.setIfInBounds_toArray, List.set_cons_zero, List.set_cons_succ]
          obtain ⟨G0, HG0⟩ : ∃ G, Hid (V0.heap.size = G) := ⟨_, Lib.hid rfl⟩
          obtain ⟨V1, HW⟩ : ∃ Wx, Hid (V0.alloc (.cells #[] 3) = Wx) := ⟨_, Lib.hid rfl⟩
          have HB1 := Lib.hid (show Below w.heap.size w V1 by rw [← HW.out]; exact HB0.out.alloc HB0.out.size _)
          have HO1 := Lib.hid (show V1.ownsRow w.heap.size 3 1 (.slice (some ⟨G0, 0, none⟩) 0 0) 0 (ints.intsV []) by rw [← HW.out, ← HG0.out]; exact World.ownsRow_made V0 #[] 0 HB0.out.size (by decide) (by simp))
          rw [HW.out]
          try rw [HG0.out]
          clear HW
          refine wpAnyH_ready (rs := [4, 6]) (by kernel_rfl) (by simp) ?_
          refine AllReadyH.cons rfl (fun K hK => ?_) (AllReadyH.cons rfl (fun K hK => ?_) AllReadyH.nil)
          · refine step_ints (news := xs.take k) rfl _ _ rfl rfl HO1.out rfl (by rw [List.length_take, HL.out]; omega) (HT.out V1 HB1.out) (by omega) HB1.out.size ?_
            intro v2 V2 ho hg
            have HB2 := Lib.hid (HB1.out.grown hg HB1.out.size (fun g e => (HO1.out.lt g e).1))
            have HO2 := Lib.hid (show V2.ownsRow w.heap.size 3 1 v2 (0 + k) (ints.intsV ([] ++ xs.take k)) from ho)
            refine hK.out _ _ trivial (fun hHeld1 => ?_)
            clear ho hg
            clear hK K hHeld
            have hHeld := hHeld1
            clear hHeld1
            try simp only [Act.put, List.getElem_toArray, List.getElem_cons_succ, List.getElem_cons_zero, List.setIfInBounds_toArray, List.set_cons_zero, List.set_cons_succ]
            refine wpAnyH_ready (rs := [6]) (by kernel_rfl) (by simp) ?_
            refine AllReadyH.cons rfl (fun K hK => ?_) AllReadyH.nil
            go_simp
            refine hK.out _ _ trivial (fun hHeld1 => ?_)
            clear hK K hHeld
            have hHeld := hHeld1
            clear hHeld1
            try simp only [Act.put, List.getElem_toArray, List.getElem_cons_succ, List.getElem_cons_zero, List.setIfInBounds_toArray, List.set_cons_zero, List.set_cons_succ]
            obtain ⟨G6, HG6⟩ : ∃ G, Hid (V2.heap.size = G) := ⟨_, Lib.hid rfl⟩
            obtain ⟨V3, HW⟩ : ∃ Wx, Hid (V2.alloc (.cells #[.int .i64 a] 3) = Wx) := ⟨_, Lib.hid rfl⟩
            have HB3 := Lib.hid (show Below w.heap.size w V3 by rw [← HW.out]; exact HB2.out.alloc HB2.out.size _)
            have HO3 := Lib.hid (show V3.ownsRow w.heap.size 3 1 v2 (0 + k) (ints.intsV ([] ++ xs.take k)) by rw [← HW.out]; exact HO2.out.alloc _)
            have HK3 := Lib.hid (show Blk V3 G6 3 #[.int .i64 a] by rw [← HW.out, ← HG6.out]; exact Blk.new _ _ _)
            rw [HW.out]
            try rw [HG6.out]
            clear HW
            refine wpAnyH_ready (rs := [7]) (by kernel_rfl) (by simp) ?_
            refine AllReadyH.cons rfl (fun K hK => ?_) AllReadyH.nil
            refine step_ints (news := [a]) rfl _ _ rfl rfl HO3.out rfl rfl (one_cell HK3.out) (by omega) HB3.out.size ?_
            intro v4 V4 ho hg
            have HB4 := Lib.hid (HB3.out.grown hg HB3.out.size (fun g e => (HO3.out.lt g e).1))
            have HO4 := Lib.hid (show V4.ownsRow w.heap.size 3 1 v4 (0 + k + 1) (ints.intsV ([] ++ xs.take k ++ [a])) from ho)
            refine hK.out _ _ trivial (fun hHeld1 => ?_)
            clear ho hg
            clear hK K hHeld
            have hHeld := hHeld1
            clear hHeld1
            try simp only [Act.put, List.getElem_toArray, List.getElem_cons_succ, List.getElem_cons_zero, List.setIfInBounds_toArray, List.set_cons_zero, List.set_cons_succ]
            refine wpAnyH_ready (rs := [11]) (by kernel_rfl) (by simp) ?_
            refine AllReadyH.cons rfl (fun K hK => ?_) AllReadyH.nil
            refine step_ints (news := xs.drop k) rfl _ _ rfl rfl HO4.out rfl (by rw [List.length_drop, HL.out]) (HD.out V4 HB4.out) (by omega) HB4.out.size ?_
            intro v5 V5 ho hg
            have HB5 := Lib.hid (HB4.out.grown hg HB4.out.size (fun g e => (HO4.out.lt g e).1))
            have HO5 := Lib.hid (show V5.ownsRow w.heap.size 3 1 v5 (0 + k + 1 + (n - k)) (ints.intsV ([] ++ xs.take k ++ [a] ++ xs.drop k)) from ho)
            refine hK.out _ _ trivial (fun hHeld1 => ?_)
            clear ho hg
            clear hK K hHeld
            have hHeld := hHeld1
            clear hHeld1
            try simp only [Act.put, List.getElem_toArray, List.getElem_cons_succ, List.getElem_cons_zero, List.setIfInBounds_toArray, List.set_cons_zero, List.set_cons_succ]
            refine' wpAnyH_take (i := 12) (v := ?vp28_12) rfl (by kernel_rfl) (by kernel_rfl) (by kernel_rfl) (fun _ _ _ h => h) (Or.inl ⟨by rfl, ?hyp28_12⟩) (by assumption) ?restp28_12
            case hyp28_12 => (intro w hSw; (try dsimp only at hSw); go_simp; try (with_reducible rfl))
            simp only [Act.put, List.getElem_toArray, List.getElem_cons_succ, List.getElem_cons_zero, List.setIfInBounds_toArray, List.set_cons_zero, List.set_cons_succ]
            refine wpAnyH_done (by kernel_rfl) ?_ _
            clear hHeld
            go_wp2_with fail
            go_ret
            exact fin HP.out HL.out hkn2 HO5.out HB5.out
          · go_simp
            refine hK.out _ _ trivial (fun hHeld1 => ?_)
            clear hK K hHeld
            have hHeld := hHeld1
            clear hHeld1
            try simp only [Act.put, List.getElem_toArray, List.getElem_cons_succ, List.getElem_cons_zero, List.setIfInBounds_toArray, List.set_cons_zero, List.set_cons_succ]
            obtain ⟨G6, HG6⟩ : ∃ G, Hid (V1.heap.size = G) := ⟨_, Lib.hid rfl⟩
            obtain ⟨V2, HW⟩ : ∃ Wx, Hid (V1.alloc (.cells #[.int .i64 a] 3) = Wx) := ⟨_, Lib.hid rfl⟩
            have HB2 := Lib.hid (show Below w.heap.size w V2 by rw [← HW.out]; exact HB1.out.alloc HB1.out.size _)
            have hne06 : ¬ G6 = G0 := by rw [← HG6.out]; have := (HO1.out.lt G0 rfl).2; omega
            have HO2 := Lib.hid (show V2.ownsRow w.heap.size 3 1 (.slice (some ⟨G0, 0, none⟩) 0 0) 0 (ints.intsV []) by rw [← HW.out]; exact HO1.out.alloc _)
            have HK2 := Lib.hid (show Blk V2 G6 3 #[.int .i64 a] by rw [← HW.out, ← HG6.out]; exact Blk.new _ _ _)
            rw [HW.out]
            try rw [HG6.out]
            clear HW
            refine wpAnyH_ready (rs := [4]) (by kernel_rfl) (by simp) ?_
            refine AllReadyH.cons rfl (fun K hK => ?_) AllReadyH.nil
            refine step_ints (news := xs.take k) rfl _ _ rfl rfl HO2.out rfl (by rw [List.length_take, HL.out]; omega) (HT.out V2 HB2.out) (by omega) HB2.out.size ?_
            intro v3 V3 ho hg
            have HB3 := Lib.hid (HB2.out.grown hg HB2.out.size (fun g e => (HO2.out.lt g e).1))
            have HO3 := Lib.hid (show V3.ownsRow w.heap.size 3 1 v3 (0 + k) (ints.intsV ([] ++ xs.take k)) from ho)
            have HK3 := Lib.hid (HK2.out.grown hg (by intro e; injection e with e; exact hne06 e))
            refine hK.out _ _ trivial (fun hHeld1 => ?_)
            clear ho hg
            clear hK K hHeld
            have hHeld := hHeld1
            clear hHeld1
            try simp only [Act.put, List.getElem_toArray, List.getElem_cons_succ, List.getElem_cons_zero, List.setIfInBounds_toArray, List.set_cons_zero, List.set_cons_succ]
            refine wpAnyH_ready (rs := [7]) (by kernel_rfl) (by simp) ?_
            refine AllReadyH.cons rfl (fun K hK => ?_) AllReadyH.nil
            refine step_ints (news := [a]) rfl _ _ rfl rfl HO3.out rfl rfl (one_cell HK3.out) (by omega) HB3.out.size ?_
            intro v4 V4 ho hg
            have HB4 := Lib.hid (HB3.out.grown hg HB3.out.size (fun g e => (HO3.out.lt g e).1))
            have HO4 := Lib.hid (show V4.ownsRow w.heap.size 3 1 v4 (0 + k + 1) (ints.intsV ([] ++ xs.take k ++ [a])) from ho)
            refine hK.out _ _ trivial (fun hHeld1 => ?_)
            clear ho hg
            clear hK K hHeld
            have hHeld := hHeld1
            clear hHeld1
            try simp only [Act.put, List.getElem_toArray, List.getElem_cons_succ, List.getElem_cons_zero, List.setIfInBounds_toArray, List.set_cons_zero, List.set_cons_succ]
            refine wpAnyH_ready (rs := [11]) (by kernel_rfl) (by simp) ?_
            refine AllReadyH.cons rfl (fun K hK => ?_) AllReadyH.nil
            refine step_ints (news := xs.drop k) rfl _ _ rfl rfl HO4.out rfl (by rw [List.length_drop, HL.out]) (HD.out V4 HB4.out) (by omega) HB4.out.size ?_
            intro v5 V5 ho hg
            have HB5 := Lib.hid (HB4.out.grown hg HB4.out.size (fun g e => (HO4.out.lt g e).1))
            have HO5 := Lib.hid (show V5.ownsRow w.heap.size 3 1 v5 (0 + k + 1 + (n - k)) (ints.intsV ([] ++ xs.take k ++ [a] ++ xs.drop k)) from ho)
            refine hK.out _ _ trivial (fun hHeld1 => ?_)
            clear ho hg
            clear hK K hHeld
            have hHeld := hHeld1
            clear hHeld1
            try simp only [Act.put, List.getElem_toArray, List.getElem_cons_succ, List.getElem_cons_zero, List.setIfInBounds_toArray, List.set_cons_zero, List.set_cons_succ]
            refine' wpAnyH_take (i := 12) (v := ?vp29_12) rfl (by kernel_rfl) (by kernel_rfl) (by kernel_rfl) (fun _ _ _ h => h) (Or.inl ⟨by rfl, ?hyp29_12⟩) (by assumption) ?restp29_12
            case hyp29_12 => (intro w hSw; (try dsimp only at hSw); go_simp; try (with_reducible rfl))
            simp only [Act.put, List.getElem_toArray, List.getElem_cons_succ, List.getElem_cons_zero, List.setIfInBounds_toArray, List.set_cons_zero, List.set_cons_succ]
            refine wpAnyH_done (by kernel_rfl) ?_ _
            clear hHeld
            go_wp2_with fail
            go_ret
            exact fin HP.out HL.out hkn2 HO5.out HB5.out
        · go_simp
          refine hK.out _ _ trivial (fun hHeld1 => ?_)
          clear hK K hHeld
          have hHeld := hHeld1
          clear hHeld1
          try simp only [Act.put, List.getElem_toArray, List.getElem_cons_succ, List.getElem_cons_zero, List.setIfInBounds_toArray, List.set_cons_zero, List.set_cons_succ]
          obtain ⟨G6, HG6⟩ : ∃ G, Hid (V0.heap.size = G) := ⟨_, Lib.hid rfl⟩
          obtain ⟨V1, HW⟩ : ∃ Wx, Hid (V0.alloc (.cells #[.int .i64 a] 3) = Wx) := ⟨_, Lib.hid rfl⟩
          have HB1 := Lib.hid (show Below w.heap.size w V1 by rw [← HW.out]; exact HB0.out.alloc HB0.out.size _)
          have HK1 := Lib.hid (show Blk V1 G6 3 #[.int .i64 a] by rw [← HW.out, ← HG6.out]; exact Blk.new _ _ _)
          rw [HW.out]
          try rw [HG6.out]
          clear HW
          refine wpAnyH_ready (rs := [0]) (by kernel_rfl) (by simp) ?_
          refine AllReadyH.cons rfl (fun K hK => ?_) AllReadyH.nil
          go_simp
          refine hK.out _ _ trivial (fun hHeld1 => ?_)
          clear hK K hHeld
          have hHeld := hHeld1
          clear hHeld1
          try simp only [Act.put, List.getElem_toArray, List.getElem_cons_succ, List.getElem_cons_zero, List.setIfInBounds_toArray, List.set_cons_zero, List.set_cons_succ]
          obtain ⟨G0, HG0⟩ : ∃ G, Hid (V1.heap.size = G) := ⟨_, Lib.hid rfl⟩
          obtain ⟨V2, HW⟩ : ∃ Wx, Hid (V1.alloc (.cells #[] 3) = Wx) := ⟨_, Lib.hid rfl⟩
          have HB2 := Lib.hid (show Below w.heap.size w V2 by rw [← HW.out]; exact HB1.out.alloc HB1.out.size _)
          have hne06 : ¬ G6 = G0 := by rw [← HG0.out]; have := HK1.out.lt; omega
          have HO2 := Lib.hid (show V2.ownsRow w.heap.size 3 1 (.slice (some ⟨G0, 0, none⟩) 0 0) 0 (ints.intsV []) by rw [← HW.out, ← HG0.out]; exact World.ownsRow_made V1 #[] 0 HB1.out.size (by decide) (by simp))
          have HK2 := Lib.hid (show Blk V2 G6 3 #[.int .i64 a] by rw [← HW.out]; exact HK1.out.alloc _)
          rw [HW.out]
          try rw [HG0.out]
          clear HW
          refine wpAnyH_ready (rs := [4]) (by kernel_rfl) (by simp) ?_
          refine AllReadyH.cons rfl (fun K hK => ?_) AllReadyH.nil
          refine step_ints (news := xs.take k) rfl _ _ rfl rfl HO2.out rfl (by rw [List.length_take, HL.out]; omega) (HT.out V2 HB2.out) (by omega) HB2.out.size ?_
          intro v3 V3 ho hg
          have HB3 := Lib.hid (HB2.out.grown hg HB2.out.size (fun g e => (HO2.out.lt g e).1))
          have HO3 := Lib.hid (show V3.ownsRow w.heap.size 3 1 v3 (0 + k) (ints.intsV ([] ++ xs.take k)) from ho)
          have HK3 := Lib.hid (HK2.out.grown hg (by intro e; injection e with e; exact hne06 e))
          refine hK.out _ _ trivial (fun hHeld1 => ?_)
          clear ho hg
          clear hK K hHeld
          have hHeld := hHeld1
          clear hHeld1
          try simp only [Act.put, List.getElem_toArray, List.getElem_cons_succ, List.getElem_cons_zero, List.setIfInBounds_toArray, List.set_cons_zero, List.set_cons_succ]
          refine wpAnyH_ready (rs := [7]) (by kernel_rfl) (by simp) ?_
          refine AllReadyH.cons rfl (fun K hK => ?_) AllReadyH.nil
          refine step_ints (news := [a]) rfl _ _ rfl rfl HO3.out rfl rfl (one_cell HK3.out) (by omega) HB3.out.size ?_
          intro v4 V4 ho hg
          have HB4 := Lib.hid (HB3.out.grown hg HB3.out.size (fun g e => (HO3.out.lt g e).1))
          have HO4 := Lib.hid (show V4.ownsRow w.heap.size 3 1 v4 (0 + k + 1) (ints.intsV ([] ++ xs.take k ++ [a])) from ho)
          refine hK.out _ _ trivial (fun hHeld1 => ?_)
          clear ho hg
          clear hK K hHeld
          have hHeld := hHeld1
          clear hHeld1
          try simp only [Act.put, List.getElem_toArray, List.getElem_cons_succ, List.getElem_cons_zero, List.setIfInBounds_toArray, List.set_cons_zero, List.set_cons_succ]
          refine wpAnyH_ready (rs := [11]) (by kernel_rfl) (by simp) ?_
          refine AllReadyH.cons rfl (fun K hK => ?_) AllReadyH.nil
          refine step_ints (news := xs.drop k) rfl _ _ rfl rfl HO4.out rfl (by rw [List.length_drop, HL.out]) (HD.out V4 HB4.out) (by omega) HB4.out.size ?_
          intro v5 V5 ho hg
          have HB5 := Lib.hid (HB4.out.grown hg HB4.out.size (fun g e => (HO4.out.lt g e).1))
          have HO5 := Lib.hid (show V5.ownsRow w.heap.size 3 1 v5 (0 + k + 1 + (n - k)) (ints.intsV ([] ++ xs.take k ++ [a] ++ xs.drop k)) from ho)
          refine hK.out _ _ trivial (fun hHeld1 => ?_)
          clear ho hg
          clear hK K hHeld
          have hHeld := hHeld1
          clear hHeld1
          try simp only [Act.put, List.getElem_toArray, List.getElem_cons_succ, List.getElem_cons_zero, List.setIfInBounds_toArray, List.set_cons_zero, List.set_cons_succ]
          refine' wpAnyH_take (i := 12) (v := ?vp30_12) rfl (by kernel_rfl) (by kernel_rfl) (by kernel_rfl) (fun _ _ _ h => h) (Or.inl ⟨by rfl, ?hyp30_12⟩) (by assumption) ?restp30_12
          case hyp30_12 => (intro w hSw; (try dsimp only at hSw); go_simp; try (with_reducible rfl))
          simp only [Act.put, List.getElem_toArray, List.getElem_cons_succ, List.getElem_cons_zero, List.setIfInBounds_toArray, List.set_cons_zero, List.set_cons_succ]
          refine wpAnyH_done (by kernel_rfl) ?_ _
          clear hHeld
          go_wp2_with fail
          go_ret
          exact fin HP.out HL.out hkn2 HO5.out HB5.out
#print axioms put_any
end Go.Proofs.YtiimegmaokfpgabGreatDoor.nt
