/-
  WorstLoop and LoopsThrough, by the program.
  Conditions: the legs lie in one block, at most 2000000 of them; the variable holds the table of the sines.
-/
import Derived.Test.YtkeepfkjhcmhlaaDoorKiH
namespace Go.Proofs.YtkeepfkjhcmhlaaDoor.lpi
open Go.RowKit
open reads base ty lg lgi win rowi hs nt nq sn lp
set_option linter.unusedVariables false
set_option linter.unusedSimpArgs false

theorem own_le {w : World} {base size n c : Nat} {e : TypeId} {A : Option Addr} {xs : List Value} (h : w.ownsRow base e size (.slice A n c) n xs) : n ≤ c := by
  rcases h.2 with ⟨q, -⟩ | ⟨g, cap, cur, q, -, -, h1, -⟩
  · injection q with _ a b; omega
  · injection q with _ _ b; omega
theorem thrIds_len (ts : List Lg) (i : Int) : (thrIds ts i).length ≤ 12 := by
  unfold thrIds
  split
  · exact Nat.le_trans (thrL_len ts i _) (clIds_len ts)
  · exact Nat.zero_le _
set_option maxHeartbeats 16000000 in
set_option maxRecDepth 100000 in
theorem worst_impl (A : Option Addr) (n cap : Nat) (ts : List Lg) (w : World) (hn : n ≤ 2000000) (hts : Hid (LgAt w w.heap.size A n ts)) (hT : Hid (Tab w)) :
    Calls Tryd.prog 31 #[.slice A n cap] w (APost (ansWo ts) w) := by
  obtain ⟨C, HC⟩ : ∃ C, Hid (nv (netS ts) (clS ts) = C) := ⟨_, Lib.hid rfl⟩
  have hcz : C.size = 56 := by rw [← HC.out]; exact nv_size (nok_S ts)
  have HC1 := Lib.hid (show C.all (·.oneCell') = true by rw [← HC.out]; exact nv_one)
  obtain ⟨CL, HCL⟩ : ∃ C, Hid (clIds ts = C) := ⟨_, Lib.hid rfl⟩
  have HF := Lib.hid (show tru (clS ts) 12 = CL by rw [cl_S]; exact HCL.out)
  obtain ⟨m, HM⟩ : ∃ m, Hid (CL.length = m) := ⟨_, Lib.hid rfl⟩
  have hm12 : m ≤ 12 := by rw [← HM.out, ← HCL.out]; exact clIds_len ts
  cases hg : goodLg ts
  · have HG := Lib.hid hg
    have HFN := Lib.hid (show ansWo ts = .tuple #[.int .i64 0, .bool false] by unfold ansWo wrOk; rw [hg]; rfl)
    clear hg
    go_enter Tryd.func31, Tryd.ntmps31
    go_wp2_with fail
    refine (net_any A n cap ts C false HC HG w hn hts hT).mono ?_
    rintro e w1 ⟨rfl, b1⟩
    have HB1 := Lib.hid b1
    clear b1
    have hst := lay_net hcz HC1.out w1
    have HB2 := Lib.hid (HB1.out.alloc HB1.out.size (.cells C 73))
    have HN2 := Lib.hid (show BsAt (w1.alloc (.cells C 73)) w1.heap.size 44 (clS ts) from bs_cl (nok_S ts) (by rw [HC.out]; exact Blk.new _ _ _))
    go_wp2_with fail
    clear hst
    refine (marked_any w1.heap.size 44 12 _ _ (Lib.hid ((nok_S ts).2)) (by decide) HN2).mono ?_
    rintro e w2 ⟨A2, c2, rfl, hO, b2⟩
    rw [HF.out, HM.out]
    have HB := Lib.hid (HB2.out.trans (b2.mono HB2.out.size))
    clear hO b2 HN2 HB2
    go_wp2_with fail
    go_ret2
    exact ⟨by rw [HFN.out]; rfl, HB.out⟩
  · have HG := Lib.hid hg
    have HOKS := Lib.hid (show ∀ c ∈ CL, lpOk ts c = true from fun c hc => by unfold lpOk; rw [hg, HCL.out, mem_iff.2 hc]; rfl)
    have HFT := Lib.hid (show 0 < m → ansWo ts = .tuple #[.int .i64 (wrK ts CL m), .bool true] from fun h => by unfold ansWo wrV wrOk; rw [hg, HCL.out, HM.out, decide_eq_true h]; rfl)
    have HFF := Lib.hid (show ¬ 0 < m → ansWo ts = .tuple #[.int .i64 0, .bool false] from fun h => by unfold ansWo wrOk; rw [hg, HCL.out, HM.out, decide_eq_false h]; rfl)
    clear hg
    go_enter Tryd.func31, Tryd.ntmps31
    go_wp2_with fail
    refine (net_any A n cap ts C true HC HG w hn hts hT).mono ?_
    rintro e w1 ⟨rfl, b1⟩
    have HB1 := Lib.hid b1
    clear b1
    have hst := lay_net hcz HC1.out w1
    have HB2 := Lib.hid (HB1.out.alloc HB1.out.size (.cells C 73))
    have HN2 := Lib.hid (show BsAt (w1.alloc (.cells C 73)) w1.heap.size 44 (clS ts) from bs_cl (nok_S ts) (by rw [HC.out]; exact Blk.new _ _ _))
    have HG2 := Lib.hid (Blk.new w1 73 C)
    go_wp2_with fail
    clear hst
    refine (marked_any w1.heap.size 44 12 _ _ (Lib.hid ((nok_S ts).2)) (by decide) HN2).mono ?_
    rintro e w3 ⟨A2, c2, rfl, hO, b2⟩
    rw [HF.out, HM.out] at hO
    rw [HF.out, HM.out]
    have hmc := own_le hO
    obtain ⟨G, HGG⟩ : ∃ G, Hid (w1.heap.size = G) := ⟨_, Lib.hid rfl⟩
    have HG3 := Lib.hid (show Blk w3 G 73 C by rw [← HGG.out]; exact HG2.out.below b2 HG2.out.lt)
    have HB3 := Lib.hid (HB2.out.trans (b2.mono HB2.out.size))
    try rw [HGG.out]
    try simp only [HGG.out]
    clear b2 HN2 HB2 HG2 HGG
    by_cases hm : 0 < m
    · have HFN := Lib.hid (HFT.out hm)
      obtain ⟨gC, c9, hA2⟩ := row_some hO hm
      have hA3 : A2 = some ⟨gC, 0, none⟩ := by injection hA2
      subst hA3
      have HA := Lib.hid (own_In HM.out hO)
      have hm0 : ((m : Int) == 0) = false := by simp; omega
      have hm0' : decide ((m : Int) = 0) = false := by simp; omega
      have hm1 : (0 : Int) < (m : Int) := by omega
      have hm1' : (1 : Int) ≤ (m : Int) := by omega
      have hm1n : 1 ≤ m := hm
      have hmci : (m : Int) ≤ (c2 : Int) := by omega
      obtain ⟨c0, hc0⟩ := at_lt HM.out hm
      obtain ⟨gC', eC, hgC, e0⟩ := HA.out.2 0 c0 hc0
      obtain rfl : gC = gC' := by injection eC with eC; injection eC
      have HW1 := Lib.hid (wrK_one (ts := ts) hc0)
      clear hO hA2 hc0 eC
      by_cases h1 : c2 = 1
      · obtain rfl : m = 1 := by omega
        subst h1
        go_wp2_with fail
        go_loopw [7, 31] (fun b i wr => b = .int .i64 c0 ∧ i = .int .i64 0 ∧ w3 = wr) (fun _ _ _ => 0)
        case atStart => exact ⟨rfl, rfl, rfl⟩
        case round =>
          obtain ⟨rfl, rfl, rfl⟩ := hrel
          go_wp2_with fail
          go_ret2
          exact ⟨by rw [HFN.out, HW1.out]; rfl, HB3.out⟩
      · have h1i : ¬ (c2 : Int) = 1 := by omega
        go_wp2_with fail
        clear e0
        go_loopw [7, 31] (fun b i wr => ∃ (k : Nat) (bb : Int), k + 1 ≤ m ∧ b = .int .i64 bb ∧ i = .int .i64 (k : Int) ∧ Hid (wrK ts CL (k + 1) = bb) ∧ Below w3.heap.size w3 wr) (fun _ i _ => m - (intOf i).toNat)
        case atStart => exact ⟨0, c0, hm1n, rfl, rfl, HW1, Below.refl _ _⟩
        case round =>
          obtain ⟨k, bb, hk, rfl, rfl, HWK, hB⟩ := hrel
          have HBk := Lib.hid hB
          have HBw := Lib.hid (HB3.out.trans (hB.mono HB3.out.size))
          have HGk := Lib.hid (HG3.out.below hB HG3.out.lt)
          clear hB
          have hk0 : (0 : Int) ≤ (k : Int) := by omega
          have HOKB := Lib.hid (show lpOk ts bb = true by rw [← HWK.out]; exact HOKS.out _ (wrK_mem k (by rw [HM.out]; omega)))
          by_cases hlt : k < m - 1
          · obtain ⟨cc, hcc⟩ := at_lt HM.out (show k + 1 < m by omega)
            obtain ⟨gC', eC, hgC', eK⟩ := (HA.out.below HBk.out).2 (k + 1) cc hcc
            obtain rfl : gC = gC' := by injection eC with eC; injection eC
            rw [Nat.add_comm k 1] at eK
            have HOKC := Lib.hid (HOKS.out cc (List.mem_of_getElem? hcc))
            obtain ⟨wo, HWO⟩ : ∃ b, Hid (worse ts cc bb = b) := ⟨_, Lib.hid rfl⟩
            have HNX := Lib.hid (show wrK ts CL (k + 2) = if wo = true then cc else bb by rw [wrK_succ hcc, HWK.out, HWO.out])
            have hki : (k : Int) < ((m - 1 : Nat) : Int) := by omega
            have hkd : decide (k < m - 1) = true := by simpa using hlt
            clear hcc eC
            go_upto_region 9 with fail
            refine wp_region_held_drew (S := fun v => Blk v G 73 C) (by kernel_rfl) ?_ (fun hHeld => ?_)
            · exact HGk.out.drew
            refine' wpAnyH_take (i := 0) (v := ?vr1_0) rfl (by kernel_rfl) (by kernel_rfl) (by kernel_rfl) (fun _ _ _ h => h) (Or.inl ⟨by rfl, ?hyr1_0⟩) (by assumption) ?restr1_0
            case hyr1_0 => (intro w hSw; (try dsimp only at hSw); go_simp; try (with_reducible rfl))
            simp only [Act.put, List.getElem_toArray, List.getElem_cons_succ, List.getElem_cons_zero, List.setIfInBounds_toArray, List.set_cons_zero, List.set_cons_succ]
            refine' wpAnyH_take (i := 1) (v := ?vr1_1) rfl (by kernel_rfl) (by kernel_rfl) (by kernel_rfl) (fun _ _ _ h => h) (Or.inl ⟨by rfl, ?hyr1_1⟩) (by assumption) ?restr1_1
            case hyr1_1 => (intro w hSw; (try dsimp only at hSw); go_simp; try (with_reducible rfl))
            simp only [Act.put, List.getElem_toArray, List.getElem_cons_succ, List.getElem_cons_zero, List.setIfInBounds_toArray, List.set_cons_zero, List.set_cons_succ]
            refine' wpAnyH_take (i := 2) (v := .agg C) rfl (by kernel_rfl) (by kernel_rfl) (by kernel_rfl) (fun _ _ _ h => h) (Or.inl ⟨by rfl, fun v hSv => exec_load rfl rfl hSv hcz⟩) (by assumption) ?_
            simp only [Act.put, List.getElem_toArray, List.getElem_cons_succ, List.getElem_cons_zero, List.setIfInBounds_toArray, List.set_cons_zero, List.set_cons_succ]
            refine' wpAnyH_take (i := 3) (v := ?vr1_3) rfl (by kernel_rfl) (by kernel_rfl) (by kernel_rfl) (fun _ _ _ h => h) (Or.inl ⟨by rfl, ?hyr1_3⟩) (by assumption) ?restr1_3
            case hyr1_3 => (intro w hSw; (try dsimp only at hSw); go_simp; try (with_reducible rfl))
            simp only [Act.put, List.getElem_toArray, List.getElem_cons_succ, List.getElem_cons_zero, List.setIfInBounds_toArray, List.set_cons_zero, List.set_cons_succ]
            refine' wpAnyH_take (i := 5) (v := ?vr1_5) rfl (by kernel_rfl) (by kernel_rfl) (by kernel_rfl) (fun _ _ _ h => h) (Or.inl ⟨by rfl, ?hyr1_5⟩) (by assumption) ?restr1_5
            case hyr1_5 => (intro w hSw; (try dsimp only at hSw); go_simp; try (with_reducible rfl))
            simp only [Act.put, List.getElem_toArray, List.getElem_cons_succ, List.getElem_cons_zero, List.setIfInBounds_toArray, List.set_cons_zero, List.set_cons_succ]
            refine' wpAnyH_take (i := 6) (v := .agg C) rfl (by kernel_rfl) (by kernel_rfl) (by kernel_rfl) (fun _ _ _ h => h) (Or.inl ⟨by rfl, fun v hSv => exec_load rfl rfl hSv hcz⟩) (by assumption) ?_
            simp only [Act.put, List.getElem_toArray, List.getElem_cons_succ, List.getElem_cons_zero, List.setIfInBounds_toArray, List.set_cons_zero, List.set_cons_succ]
            refine' wpAnyH_take (i := 7) (v := ?vr1_7) rfl (by kernel_rfl) (by kernel_rfl) (by kernel_rfl) (fun _ _ _ h => h) (Or.inl ⟨by rfl, ?hyr1_7⟩) (by assumption) ?restr1_7
            case hyr1_7 => (intro w hSw; (try dsimp only at hSw); go_simp; try (with_reducible rfl))
            simp only [Act.put, List.getElem_toArray, List.getElem_cons_succ, List.getElem_cons_zero, List.setIfInBounds_toArray, List.set_cons_zero, List.set_cons_succ]
            refine wpAnyH_ready (rs := [4]) (by kernel_rfl) (by simp) ?_
            refine AllReadyH.cons rfl (fun K hK => ?_) AllReadyH.nil
            go_simp
            refine (treeLoop_any A n cap ts cc C _ HC HOKC (Lib.hid (hts.out.step (HBw.out.drew)))).mono ?_
            rintro _ w5 ⟨Wc, gc, rfl, hb5, h1, h2, h3⟩
            have HB5 := Lib.hid (HBw.out.drew.trans (hb5.mono HBw.out.drew.size))
            have HD5 := Lib.hid (HBk.out.drew.trans (hb5.mono HBk.out.drew.size))
            have HLC := Lib.hid (show LoopAt ts cc w5 w5.heap.size (some ⟨gc, 0, none⟩) Wc from ⟨h1, h2, h3⟩)
            clear h1 h2 h3
            refine hK.out _ _ (hHeld.below hb5 hHeld.lt) (fun hHeld1 => ?_)
            clear hK K hHeld
            have hHeld := hHeld1
            clear hHeld1
            try simp only [Act.put, List.getElem_toArray, List.getElem_cons_succ, List.getElem_cons_zero, List.setIfInBounds_toArray, List.set_cons_zero, List.set_cons_succ]
            refine wpAnyH_ready (rs := [8]) (by kernel_rfl) (by simp) ?_
            refine AllReadyH.cons rfl (fun K hK => ?_) AllReadyH.nil
            go_simp
            refine (treeLoop_any A n cap ts bb C _ HC HOKB (Lib.hid (hts.out.step HB5.out))).mono ?_
            rintro _ w6 ⟨Wb, gb, rfl, hb6, h1, h2, h3⟩
            have HB6 := Lib.hid (HB5.out.trans (hb6.mono HB5.out.size))
            have HD6 := Lib.hid (HD5.out.trans (hb6.mono HD5.out.size))
            have HLB := Lib.hid (show LoopAt ts bb w6 w6.heap.size (some ⟨gb, 0, none⟩) Wb from ⟨h1, h2, h3⟩)
            have HLC6 := Lib.hid (HLC.out.step hb6)
            clear h1 h2 h3
            refine hK.out _ _ (hHeld.below hb6 hHeld.lt) (fun hHeld1 => ?_)
            clear hK K hHeld
            have hHeld := hHeld1
            clear hHeld1
            try simp only [Act.put, List.getElem_toArray, List.getElem_cons_succ, List.getElem_cons_zero, List.setIfInBounds_toArray, List.set_cons_zero, List.set_cons_succ]
            refine wpAnyH_ready (rs := [9]) (by kernel_rfl) (by simp) ?_
            refine AllReadyH.cons rfl (fun K hK => ?_) AllReadyH.nil
            go_simp
            refine (isWorse_any A n cap ts cc bb wo Wc Wb _ _ _ HOKC HOKB HWO HLC6 HLB (Lib.hid (hts.out.step HB6.out)) (Lib.hid (hT.out.below HB6.out))).mono ?_
            rintro _ w7 ⟨rfl, hb7⟩
            have HB7 := Lib.hid (HB6.out.trans (hb7.mono HB6.out.size))
            have HD7 := Lib.hid (HD6.out.trans (hb7.mono HD6.out.size))
            refine hK.out _ _ (hHeld.below hb7 hHeld.lt) (fun hHeld1 => ?_)
            clear hK K hHeld
            have hHeld := hHeld1
            clear hHeld1
            try simp only [Act.put, List.getElem_toArray, List.getElem_cons_succ, List.getElem_cons_zero, List.setIfInBounds_toArray, List.set_cons_zero, List.set_cons_succ]
            refine wpAnyH_done (by kernel_rfl) ?_ _
            clear hHeld eK
            cases wo
            · have HN2 := Lib.hid (show wrK ts CL (k + 1 + 1) = bb by rw [HNX.out]; rfl)
              go_wp2_with fail
              go_roundw
              case rel => exact ⟨k + 1, bb, by omega, rfl, by go_num, HN2, HD7.out⟩
              case measure => simp [intOf]; omega
            · have HN2 := Lib.hid (show wrK ts CL (k + 1 + 1) = cc by rw [HNX.out]; rfl)
              go_wp2_with fail
              go_roundw
              case rel => exact ⟨k + 1, cc, by omega, rfl, by go_num, HN2, HD7.out⟩
              case measure => simp [intOf]; omega
          · have hkd : decide (k < m - 1) = false := by simpa using hlt
            have hkn : ¬ (k : Int) < ((m - 1 : Nat) : Int) := by omega
            have HFIN := Lib.hid (show wrK ts CL m = bb by rw [← HWK.out]; congr 1; omega)
            clear hlt
            go_wp2_with fail
            go_ret2
            exact ⟨by rw [HFN.out, HFIN.out]; rfl, HBw.out⟩
    · have HFN := Lib.hid (HFF.out hm)
      obtain rfl : m = 0 := by omega
      go_wp2_with fail
      go_ret2
      exact ⟨by rw [HFN.out]; rfl, HB3.out⟩
theorem count_is (A : Option Addr) (n cap : Nat) (ts : List Lg) (w : World) (hn : n ≤ 2000000) (hts : Hid (LgAt w w.heap.size A n ts)) (hT : Hid (Tab w)) :
    Calls Tryd.prog 39 #[.slice A n cap] w (APost (ansCo ts) w) := count_impl A n cap ts w hn hts hT
#print axioms worst_impl
end Go.Proofs.YtkeepfkjhcmhlaaDoor.lpi
