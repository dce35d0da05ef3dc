/-
  WorstLoop and LoopsThrough, by the program.
  IsBridge and BridgesOf, by the program.
  LoopsThrough, by the program.
  Conditions: those that each theorem names.
-/
import Derived.Test.YtkeepfkjhcmhlaaDoorKiH
import Derived.Test.YtkeepfkjhcmhlaaDoorKiN
import Derived.Test.YtkeepfkjhcmhlaaDoorKmN
import Derived.Test.YtkeepfkjhcmhlaaDoorNqI0
namespace Go.Proofs.YtkeepfkjhcmhlaaDoor.lpi
open Go.RowKit
open reads base ty lg lgi win rowi hs nt nq sn lp
set_option linter.unusedVariables false
set_option linter.unusedSimpArgs false

theorem own_le {w : World} {base size n c : Nat} {e : TypeId} {A : Option Addr} {xs : List Value} (h : w.ownsRow base e size (.slice A n c) n xs) : n ≤ c := by
  rcases h.2 with ⟨q, -⟩ | ⟨g, cap, cur, q, -, -, h1, -⟩
  · injection q with _ a b; omega
  · injection q with _ _ b; omega
theorem thrIds_len (ts : List Lg) (i : Int) : (thrIds ts i).length ≤ 12 := by
  unfold thrIds
  split
  · exact Nat.le_trans (thrL_len ts i _) (clIds_len ts)
  · exact Nat.zero_le _
set_option maxHeartbeats 16000000 in
set_option maxRecDepth 100000 in
theorem worst_impl (A : Option Addr) (n cap : Nat) (ts : List Lg) (w : World) (hn : n ≤ 2000000) (hts : Hid (LgAt w w.heap.size A n ts)) (hT : Hid (Tab w)) :
    Calls Tryd.prog 31 #[.slice A n cap] w (APost (ansWo ts) w) := by
  obtain ⟨C, HC⟩ : ∃ C, Hid (nv (netS ts) (clS ts) = C) := ⟨_, Lib.hid rfl⟩
  have hcz : C.size = 56 := by rw [← HC.out]; exact nv_size (nok_S ts)
  have HC1 := Lib.hid (show C.all (·.oneCell') = true by rw [← HC.out]; exact nv_one)
  obtain ⟨CL, HCL⟩ : ∃ C, Hid (clIds ts = C) := ⟨_, Lib.hid rfl⟩
  have HF := Lib.hid (show tru (clS ts) 12 = CL by rw [cl_S]; exact HCL.out)
  obtain ⟨m, HM⟩ : ∃ m, Hid (CL.length = m) := ⟨_, Lib.hid rfl⟩
  have hm12 : m ≤ 12 := by rw [← HM.out, ← HCL.out]; exact clIds_len ts
  cases hg : goodLg ts
  · have HG := Lib.hid hg
    have HFN := Lib.hid (show ansWo ts = .tuple #[.int .i64 0, .bool false] by unfold ansWo wrOk; rw [hg]; rfl)
    clear hg
    go_enter Tryd.func31, Tryd.ntmps31
    go_wp2_with fail
    refine (net_any A n cap ts C false HC HG w hn hts hT).mono ?_
    rintro e w1 ⟨rfl, b1⟩
    have HB1 := Lib.hid b1
    clear b1
    have hst := lay_net hcz HC1.out w1
    have HB2 := Lib.hid (HB1.out.alloc HB1.out.size (.cells C 73))
    have HN2 := Lib.hid (show BsAt (w1.alloc (.cells C 73)) w1.heap.size 44 (clS ts) from bs_cl (nok_S ts) (by rw [HC.out]; exact Blk.new _ _ _))
    go_wp2_with fail
    clear hst
    refine (marked_any w1.heap.size 44 12 _ _ (Lib.hid ((nok_S ts).2)) (by decide) HN2).mono ?_
    rintro e w2 ⟨A2, c2, rfl, hO, b2⟩
    rw [HF.out, HM.out]
    have HB := Lib.hid (HB2.out.trans (b2.mono HB2.out.size))
    clear hO b2 HN2 HB2
    go_wp2_with fail
    go_ret2
    exact ⟨by rw [HFN.out]; rfl, HB.out⟩
  · have HG := Lib.hid hg
    have HOKS := Lib.hid (show ∀ c ∈ CL, lpOk ts c = true from fun c hc => by unfold lpOk; rw [hg, HCL.out, mem_iff.2 hc]; rfl)
    have HFT := Lib.hid (show 0 < m → ansWo ts = .tuple #[.int .i64 (wrK ts CL m), .bool true] from fun h => by unfold ansWo wrV wrOk; rw [hg, HCL.out, HM.out, decide_eq_true h]; rfl)
    have HFF := Lib.hid (show ¬ 0 < m → ansWo ts = .tuple #[.int .i64 0, .bool false] from fun h => by unfold ansWo wrOk; rw [hg, HCL.out, HM.out, decide_eq_false h]; rfl)
    clear hg
    go_enter Tryd.func31, Tryd.ntmps31
    go_wp2_with fail
    refine (net_any A n cap ts C true HC HG w hn hts hT).mono ?_
    rintro e w1 ⟨rfl, b1⟩
    have HB1 := Lib.hid b1
    clear b1
    have hst := lay_net hcz HC1.out w1
    have HB2 := Lib.hid (HB1.out.alloc HB1.out.size (.cells C 73))
    have HN2 := Lib.hid (show BsAt (w1.alloc (.cells C 73)) w1.heap.size 44 (clS ts) from bs_cl (nok_S ts) (by rw [HC.out]; exact Blk.new _ _ _))
    have HG2 := Lib.hid (Blk.new w1 73 C)
    go_wp2_with fail
    clear hst
    refine (marked_any w1.heap.size 44 12 _ _ (Lib.hid ((nok_S ts).2)) (by decide) HN2).mono ?_
    rintro e w3 ⟨A2, c2, rfl, hO, b2⟩
    rw [HF.out, HM.out] at hO
    rw [HF.out, HM.out]
    have hmc := own_le hO
    obtain ⟨G, HGG⟩ : ∃ G, Hid (w1.heap.size = G) := ⟨_, Lib.hid rfl⟩
    have HG3 := Lib.hid (show Blk w3 G 73 C by rw [← HGG.out]; exact HG2.out.below b2 HG2.out.lt)
    have HB3 := Lib.hid (HB2.out.trans (b2.mono HB2.out.size))
    try rw [HGG.out]
    try simp only [HGG.out]
    clear b2 HN2 HB2 HG2 HGG
    by_cases hm : 0 < m
    · have HFN := Lib.hid (HFT.out hm)
      obtain ⟨gC, c9, hA2⟩ := row_some hO hm
      have hA3 : A2 = some ⟨gC, 0, none⟩ := by injection hA2
      subst hA3
      have HA := Lib.hid (own_In HM.out hO)
      have hm0 : ((m : Int) == 0) = false := by simp; omega
      have hm0' : decide ((m : Int) = 0) = false := by simp; omega
      have hm1 : (0 : Int) < (m : Int) := by omega
      have hm1' : (1 : Int) ≤ (m : Int) := by omega
      have hm1n : 1 ≤ m := hm
      have hmci : (m : Int) ≤ (c2 : Int) := by omega
      obtain ⟨c0, hc0⟩ := at_lt HM.out hm
      obtain ⟨gC', eC, hgC, e0⟩ := HA.out.2 0 c0 hc0
      obtain rfl : gC = gC' := by injection eC with eC; injection eC
      have HW1 := Lib.hid (wrK_one (ts := ts) hc0)
      clear hO hA2 hc0 eC
      by_cases h1 : c2 = 1
      · obtain rfl : m = 1 := by omega
        subst h1
        go_wp2_with fail
        go_loopw [7, 31] (fun b i wr => b = .int .i64 c0 ∧ i = .int .i64 0 ∧ w3 = wr) (fun _ _ _ => 0)
        case atStart => exact ⟨rfl, rfl, rfl⟩
        case round =>
          obtain ⟨rfl, rfl, rfl⟩ := hrel
          go_wp2_with fail
          go_ret2
          exact ⟨by rw [HFN.out, HW1.out]; rfl, HB3.out⟩
      · have h1i : ¬ (c2 : Int) = 1 := by omega
        go_wp2_with fail
        clear e0
        go_loopw [7, 31] (fun b i wr => ∃ (k : Nat) (bb : Int), k + 1 ≤ m ∧ b = .int .i64 bb ∧ i = .int .i64 (k : Int) ∧ Hid (wrK ts CL (k + 1) = bb) ∧ Below w3.heap.size w3 wr) (fun _ i _ => m - (intOf i).toNat)
        case atStart => exact ⟨0, c0, hm1n, rfl, rfl, HW1, Below.refl _ _⟩
        case round =>
          obtain ⟨k, bb, hk, rfl, rfl, HWK, hB⟩ := hrel
          have HBk := Lib.hid hB
          have HBw := Lib.hid (HB3.out.trans (hB.mono HB3.out.size))
          have HGk := Lib.hid (HG3.out.below hB HG3.out.lt)
          clear hB
          have hk0 : (0 : Int) ≤ (k : Int) := by omega
          have HOKB := Lib.hid (show lpOk ts bb = true by rw [← HWK.out]; exact HOKS.out _ (wrK_mem k (by rw [HM.out]; omega)))
          by_cases hlt : k < m - 1
          · obtain ⟨cc, hcc⟩ := at_lt HM.out (show k + 1 < m by omega)
            obtain ⟨gC', eC, hgC', eK⟩ := (HA.out.below HBk.out).2 (k + 1) cc hcc
            obtain rfl : gC = gC' := by injection eC with eC; injection eC
            rw [Nat.add_comm k 1] at eK
            have HOKC := Lib.hid (HOKS.out cc (List.mem_of_getElem? hcc))
            obtain ⟨wo, HWO⟩ : ∃ b, Hid (worse ts cc bb = b) := ⟨_, Lib.hid rfl⟩
            have HNX := Lib.hid (show wrK ts CL (k + 2) = if wo = true then cc else bb by rw [wrK_succ hcc, HWK.out, HWO.out])
            have hki : (k : Int) < ((m - 1 : Nat) : Int) := by omega
            have hkd : decide (k < m - 1) = true := by simpa using hlt
            clear hcc eC
            go_upto_region 9 with fail
            refine wp_region_held_drew (S := fun v => Blk v G 73 C) (by kernel_rfl) ?_ (fun hHeld => ?_)
            · exact HGk.out.drew
            refine' wpAnyH_take (i := 0) (v := ?vr1_0) rfl (by kernel_rfl) (by kernel_rfl) (by kernel_rfl) (fun _ _ _ h => h) (Or.inl ⟨by rfl, ?hyr1_0⟩) (by assumption) ?restr1_0
            case hyr1_0 => (intro w hSw; (try dsimp only at hSw); go_simp; try (with_reducible rfl))
            simp only [Act.put, List.getElem_toArray, List.getElem_cons_succ, List.getElem_cons_zero, List.setIfInBounds_toArray, List.set_cons_zero, List.set_cons_succ]
            refine' wpAnyH_take (i := 1) (v := ?vr1_1) rfl (by kernel_rfl) (by kernel_rfl) (by kernel_rfl) (fun _ _ _ h => h) (Or.inl ⟨by rfl, ?hyr1_1⟩) (by assumption) ?restr1_1
            case hyr1_1 => (intro w hSw; (try dsimp only at hSw); go_simp; try (with_reducible rfl))
            simp only [Act.put, List.getElem_toArray, List.getElem_cons_succ, List.getElem_cons_zero, List.setIfInBounds_toArray, List.set_cons_zero, List.set_cons_succ]
            refine' wpAnyH_take (i := 2) (v := .agg C) rfl (by kernel_rfl) (by kernel_rfl) (by kernel_rfl) (fun _ _ _ h => h) (Or.inl ⟨by rfl, fun v hSv => exec_load rfl rfl hSv hcz⟩) (by assumption) ?_
            simp only [Act.put, List.getElem_toArray, List.getElem_cons_succ, List.getElem_cons_zero, List.setIfInBounds_toArray, List.set_cons_zero, List.set_cons_succ]
            refine' wpAnyH_take (i := 3) (v := ?vr1_3) rfl (by kernel_rfl) (by kernel_rfl) (by kernel_rfl) (fun _ _ _ h => h) (Or.inl ⟨by rfl, ?hyr1_3⟩) (by assumption) ?restr1_3
            case hyr1_3 => (intro w hSw; (try dsimp only at hSw); go_simp; try (with_reducible rfl))
            simp only [Act.put, List.getElem_toArray, List.getElem_cons_succ, List.getElem_cons_zero, List.setIfInBounds_toArray, List.set_cons_zero, List.set_cons_succ]
            refine' wpAnyH_take (i := 5) (v := ?vr1_5) rfl (by kernel_rfl) (by kernel_rfl) (by kernel_rfl) (fun _ _ _ h => h) (Or.inl ⟨by rfl, ?hyr1_5⟩) (by assumption) ?restr1_5
            case hyr1_5 => (intro w hSw; (try dsimp only at hSw); go_simp; try (with_reducible rfl))
            simp only [Act.put, List.getElem_toArray, List.getElem_cons_succ, List.getElem_cons_zero, List.setIfInBounds_toArray, List.set_cons_zero, List.set_cons_succ]
            refine' wpAnyH_take (i := 6) (v := .agg C) rfl (by kernel_rfl) (by kernel_rfl) (by kernel_rfl) (fun _ _ _ h => h) (Or.inl ⟨by rfl, fun v hSv => exec_load rfl rfl hSv hcz⟩) (by assumption) ?_
            simp only [Act.put, List.getElem_toArray, List.getElem_cons_succ, List.getElem_cons_zero, List.setIfInBounds_toArray, List.set_cons_zero, List.set_cons_succ]
            refine' wpAnyH_take (i := 7) (v := ?vr1_7) rfl (by kernel_rfl) (by kernel_rfl) (by kernel_rfl) (fun _ _ _ h => h) (Or.inl ⟨by rfl, ?hyr1_7⟩) (by assumption) ?restr1_7
            case hyr1_7 => (intro w hSw; (try dsimp only at hSw); go_simp; try (with_reducible rfl))
            simp only [Act.put, List.getElem_toArray, List.getElem_cons_succ, List.getElem_cons_zero, List.setIfInBounds_toArray, List.set_cons_zero, List.set_cons_succ]
            refine wpAnyH_ready (rs := [4]) (by kernel_rfl) (by simp) ?_
            refine AllReadyH.cons rfl (fun K hK => ?_) AllReadyH.nil
            go_simp
            refine (treeLoop_any A n cap ts cc C _ HC HOKC (Lib.hid (hts.out.step (HBw.out.drew)))).mono ?_
            rintro _ w5 ⟨Wc, gc, rfl, hb5, h1, h2, h3⟩
            have HB5 := Lib.hid (HBw.out.drew.trans (hb5.mono HBw.out.drew.size))
            have HD5 := Lib.hid (HBk.out.drew.trans (hb5.mono HBk.out.drew.size))
            have HLC := Lib.hid (show LoopAt ts cc w5 w5.heap.size (some ⟨gc, 0, none⟩) Wc from ⟨h1, h2, h3⟩)
            clear h1 h2 h3
            refine hK.out _ _ (hHeld.below hb5 hHeld.lt) (fun hHeld1 => ?_)
            clear hK K hHeld
            have hHeld := hHeld1
            clear hHeld1
            try simp only [Act.put, List.getElem_toArray, List.getElem_cons_succ, List.getElem_cons_zero, List.setIfInBounds_toArray, List.set_cons_zero, List.set_cons_succ]
            refine wpAnyH_ready (rs := [8]) (by kernel_rfl) (by simp) ?_
            refine AllReadyH.cons rfl (fun K hK => ?_) AllReadyH.nil
            go_simp
            refine (treeLoop_any A n cap ts bb C _ HC HOKB (Lib.hid (hts.out.step HB5.out))).mono ?_
            rintro _ w6 ⟨Wb, gb, rfl, hb6, h1, h2, h3⟩
            have HB6 := Lib.hid (HB5.out.trans (hb6.mono HB5.out.size))
            have HD6 := Lib.hid (HD5.out.trans (hb6.mono HD5.out.size))
            have HLB := Lib.hid (show LoopAt ts bb w6 w6.heap.size (some ⟨gb, 0, none⟩) Wb from ⟨h1, h2, h3⟩)
            have HLC6 := Lib.hid (HLC.out.step hb6)
            clear h1 h2 h3
            refine hK.out _ _ (hHeld.below hb6 hHeld.lt) (fun hHeld1 => ?_)
            clear hK K hHeld
            have hHeld := hHeld1
            clear hHeld1
            try simp only [Act.put, List.getElem_toArray, List.getElem_cons_succ, List.getElem_cons_zero, List.setIfInBounds_toArray, List.set_cons_zero, List.set_cons_succ]
            refine wpAnyH_ready (rs := [9]) (by kernel_rfl) (by simp) ?_
            refine AllReadyH.cons rfl (fun K hK => ?_) AllReadyH.nil
            go_simp
            refine (isWorse_any A n cap ts cc bb wo Wc Wb _ _ _ HOKC HOKB HWO HLC6 HLB (Lib.hid (hts.out.step HB6.out)) (Lib.hid (hT.out.below HB6.out))).mono ?_
            rintro _ w7 ⟨rfl, hb7⟩
            have HB7 := Lib.hid (HB6.out.trans (hb7.mono HB6.out.size))
            have HD7 := Lib.hid (HD6.out.trans (hb7.mono HD6.out.size))
            refine hK.out _ _ (hHeld.below hb7 hHeld.lt) (fun hHeld1 => ?_)
            clear hK K hHeld
            have hHeld := hHeld1
            clear hHeld1
            try simp only [Act.put, List.getElem_toArray, List.getElem_cons_succ, List.getElem_cons_zero, List.setIfInBounds_toArray, List.set_cons_zero, List.set_cons_succ]
            refine wpAnyH_done (by kernel_rfl) ?_ _
            clear hHeld eK
            cases wo
            · have HN2 := Lib.hid (show wrK ts CL (k + 1 + 1) = bb by rw [HNX.out]; rfl)
              go_wp2_with fail
              go_roundw
              case rel => exact ⟨k + 1, bb, by omega, rfl, by go_num, HN2, HD7.out⟩
              case measure => simp [intOf]; omega
            · have HN2 := Lib.hid (show wrK ts CL (k + 1 + 1) = cc by rw [HNX.out]; rfl)
              go_wp2_with fail
              go_roundw
              case rel => exact ⟨k + 1, cc, by omega, rfl, by go_num, HN2, HD7.out⟩
              case measure => simp [intOf]; omega
          · have hkd : decide (k < m - 1) = false := by simpa using hlt
            have hkn : ¬ (k : Int) < ((m - 1 : Nat) : Int) := by omega
            have HFIN := Lib.hid (show wrK ts CL m = bb by rw [← HWK.out]; congr 1; omega)
            clear hlt
            go_wp2_with fail
            go_ret2
            exact ⟨by rw [HFN.out, HFIN.out]; rfl, HBw.out⟩
    · have HFN := Lib.hid (HFF.out hm)
      obtain rfl : m = 0 := by omega
      go_wp2_with fail
      go_ret2
      exact ⟨by rw [HFN.out]; rfl, HB3.out⟩
theorem count_is (A : Option Addr) (n cap : Nat) (ts : List Lg) (w : World) (hn : n ≤ 2000000) (hts : Hid (LgAt w w.heap.size A n ts)) (hT : Hid (Tab w)) :
    Calls Tryd.prog 39 #[.slice A n cap] w (APost (ansCo ts) w) := count_impl A n cap ts w hn hts hT
end Go.Proofs.YtkeepfkjhcmhlaaDoor.lpi

namespace Go.Proofs.YtkeepfkjhcmhlaaDoor.lpi
open Go.RowKit
open reads base ty lg lgi win rowi hs nt nq sn lp
set_option linter.unusedVariables false
set_option linter.unusedSimpArgs false

set_option maxHeartbeats 16000000 in
set_option maxRecDepth 100000 in
theorem isb_bad (A : Option Addr) (n cap : Nat) (ts : List Lg) (z : Int) (C : Array Value) (w : World) (hn : n ≤ 2000000) (HC : Hid (nv (netS ts) (clS ts) = C)) (hts : Hid (LgAt w w.heap.size A n ts)) (hT : Hid (Tab w)) (HG : Hid (goodLg ts = false)) :
    Calls Tryd.prog 33 #[.slice A n cap, .int .i64 z] w (APost (.tuple #[.bool false, .bool false]) w) := by
  have hcz : C.size = 56 := by rw [← HC.out]; exact nv_size (nok_S ts)
  have HC1 := Lib.hid (show C.all (·.oneCell') = true by rw [← HC.out]; exact nv_one)
  go_enter Tryd.func33, Tryd.ntmps33
  go_wp2_with fail
  refine (net_any A n cap ts C false HC HG _ hn hts hT).mono ?_
  rintro e w1 ⟨rfl, b1⟩
  have HB := Lib.hid b1
  clear b1
  have hst := lay_net hcz HC1.out w1
  have HB2 := Lib.hid (HB.out.alloc HB.out.size (.cells C 73))
  have HG2 := Lib.hid (Blk.new w1 73 C)
  obtain ⟨W, HW⟩ : ∃ W, Hid (w1.alloc (.cells C 73) = W) := ⟨_, Lib.hid rfl⟩
  obtain ⟨G, HGG⟩ : ∃ G, Hid (w1.heap.size = G) := ⟨_, Lib.hid rfl⟩
  go_upto_region 2 with fail
  clear hst
  rw [HGG.out] at HG2
  try rw [HGG.out]
  try simp only [HGG.out]
  rw [HW.out] at HB2 HG2 ⊢
  clear HW HB HGG
  refine wp_region_held_drew (S := (fun v => Blk v G 73 C)) (by kernel_rfl) ?_ (fun hHeld => ?_)
  · exact HG2.out.drew
  refine' wpAnyH_take (i := 0) (v := ?vr1_0) rfl (by kernel_rfl) (by kernel_rfl) (by kernel_rfl) (fun _ _ _ h => h) (Or.inl ⟨by rfl, ?hyr1_0⟩) (by assumption) ?restr1_0
  case hyr1_0 => (intro w hSw; (try dsimp only at hSw); go_simp; try (with_reducible rfl))
  simp only [Act.put, List.getElem_toArray, List.getElem_cons_succ, List.getElem_cons_zero, List.setIfInBounds_toArray, List.set_cons_zero, List.set_cons_succ]
  refine' wpAnyH_take (i := 1) (v := ?vr1_1) rfl (by kernel_rfl) (by kernel_rfl) (by kernel_rfl) (fun _ _ _ h => h) (Or.inl ⟨by rfl, ?hyr1_1⟩) (by assumption) ?restr1_1
  case hyr1_1 => (intro w hSw; (try dsimp only at hSw); go_simp; try (with_reducible rfl))
  simp only [Act.put, List.getElem_toArray, List.getElem_cons_succ, List.getElem_cons_zero, List.setIfInBounds_toArray, List.set_cons_zero, List.set_cons_succ]
  refine' wpAnyH_take (i := 2) (v := ?vr1_2) rfl (by kernel_rfl) (by kernel_rfl) (by kernel_rfl) (fun _ _ _ h => h) (Or.inl ⟨by rfl, ?hyr1_2⟩) (by assumption) ?restr1_2
  case hyr1_2 => (intro w hSw; (try dsimp only at hSw); go_simp; try (with_reducible rfl))
  simp only [Act.put, List.getElem_toArray, List.getElem_cons_succ, List.getElem_cons_zero, List.setIfInBounds_toArray, List.set_cons_zero, List.set_cons_succ]
  refine wpAnyH_take (i := 3) (v := undef) rfl (by kernel_rfl) (by kernel_rfl) (by kernel_rfl) (fun _ _ _ h => h) (Or.inr ⟨by rfl, rfl⟩) (by assumption) ?_
  simp only [Act.put, List.getElem_toArray, List.getElem_cons_succ, List.getElem_cons_zero, List.setIfInBounds_toArray, List.set_cons_zero, List.set_cons_succ]
  refine wpAnyH_take (i := 4) (v := undef) rfl (by kernel_rfl) (by kernel_rfl) (by kernel_rfl) (fun _ _ _ h => h) (Or.inr ⟨by rfl, rfl⟩) (by assumption) ?_
  simp only [Act.put, List.getElem_toArray, List.getElem_cons_succ, List.getElem_cons_zero, List.setIfInBounds_toArray, List.set_cons_zero, List.set_cons_succ]
  refine wpAnyH_take (i := 5) (v := undef) rfl (by kernel_rfl) (by kernel_rfl) (by kernel_rfl) (fun _ _ _ h => h) (Or.inr ⟨by rfl, rfl⟩) (by assumption) ?_
  simp only [Act.put, List.getElem_toArray, List.getElem_cons_succ, List.getElem_cons_zero, List.setIfInBounds_toArray, List.set_cons_zero, List.set_cons_succ]
  refine wpAnyH_take (i := 6) (v := undef) rfl (by kernel_rfl) (by kernel_rfl) (by kernel_rfl) (fun _ _ _ h => h) (Or.inr ⟨by rfl, rfl⟩) (by assumption) ?_
  simp only [Act.put, List.getElem_toArray, List.getElem_cons_succ, List.getElem_cons_zero, List.setIfInBounds_toArray, List.set_cons_zero, List.set_cons_succ]
  refine wpAnyH_take (i := 7) (v := undef) rfl (by kernel_rfl) (by kernel_rfl) (by kernel_rfl) (fun _ _ _ h => h) (Or.inr ⟨by rfl, rfl⟩) (by assumption) ?_
  simp only [Act.put, List.getElem_toArray, List.getElem_cons_succ, List.getElem_cons_zero, List.setIfInBounds_toArray, List.set_cons_zero, List.set_cons_succ]
  refine wpAnyH_take (i := 8) (v := undef) rfl (by kernel_rfl) (by kernel_rfl) (by kernel_rfl) (fun _ _ _ h => h) (Or.inr ⟨by rfl, rfl⟩) (by assumption) ?_
  simp only [Act.put, List.getElem_toArray, List.getElem_cons_succ, List.getElem_cons_zero, List.setIfInBounds_toArray, List.set_cons_zero, List.set_cons_succ]
  refine wpAnyH_take (i := 9) (v := undef) rfl (by kernel_rfl) (by kernel_rfl) (by kernel_rfl) (fun _ _ _ h => h) (Or.inr ⟨by rfl, rfl⟩) (by assumption) ?_
  simp only [Act.put, List.getElem_toArray, List.getElem_cons_succ, List.getElem_cons_zero, List.setIfInBounds_toArray, List.set_cons_zero, List.set_cons_succ]
  refine' wpAnyH_take (i := 10) (v := ?vr1_10) rfl (by kernel_rfl) (by kernel_rfl) (by kernel_rfl) (fun _ _ _ h => h) (Or.inl ⟨by rfl, ?hyr1_10⟩) (by assumption) ?restr1_10
  case hyr1_10 => (intro w hSw; (try dsimp only at hSw); go_simp; try (with_reducible rfl))
  simp only [Act.put, List.getElem_toArray, List.getElem_cons_succ, List.getElem_cons_zero, List.setIfInBounds_toArray, List.set_cons_zero, List.set_cons_succ]
  refine' wpAnyH_take (i := 11) (v := ?vr1_11) rfl (by kernel_rfl) (by kernel_rfl) (by kernel_rfl) (fun _ _ _ h => h) (Or.inl ⟨by rfl, ?hyr1_11⟩) (by assumption) ?restr1_11
  case hyr1_11 => (intro w hSw; (try dsimp only at hSw); go_simp; try (with_reducible rfl))
  simp only [Act.put, List.getElem_toArray, List.getElem_cons_succ, List.getElem_cons_zero, List.setIfInBounds_toArray, List.set_cons_zero, List.set_cons_succ]
  refine wpAnyH_take (i := 12) (v := undef) rfl (by kernel_rfl) (by kernel_rfl) (by kernel_rfl) (fun _ _ _ h => h) (Or.inr ⟨by rfl, rfl⟩) (by assumption) ?_
  simp only [Act.put, List.getElem_toArray, List.getElem_cons_succ, List.getElem_cons_zero, List.setIfInBounds_toArray, List.set_cons_zero, List.set_cons_succ]
  refine wpAnyH_take (i := 13) (v := undef) rfl (by kernel_rfl) (by kernel_rfl) (by kernel_rfl) (fun _ _ _ h => h) (Or.inr ⟨by rfl, rfl⟩) (by assumption) ?_
  simp only [Act.put, List.getElem_toArray, List.getElem_cons_succ, List.getElem_cons_zero, List.setIfInBounds_toArray, List.set_cons_zero, List.set_cons_succ]
  refine wpAnyH_take (i := 14) (v := undef) rfl (by kernel_rfl) (by kernel_rfl) (by kernel_rfl) (fun _ _ _ h => h) (Or.inr ⟨by rfl, rfl⟩) (by assumption) ?_
  simp only [Act.put, List.getElem_toArray, List.getElem_cons_succ, List.getElem_cons_zero, List.setIfInBounds_toArray, List.set_cons_zero, List.set_cons_succ]
  refine wpAnyH_take (i := 15) (v := undef) rfl (by kernel_rfl) (by kernel_rfl) (by kernel_rfl) (fun _ _ _ h => h) (Or.inr ⟨by rfl, rfl⟩) (by assumption) ?_
  simp only [Act.put, List.getElem_toArray, List.getElem_cons_succ, List.getElem_cons_zero, List.setIfInBounds_toArray, List.set_cons_zero, List.set_cons_succ]
  refine wpAnyH_take (i := 16) (v := undef) rfl (by kernel_rfl) (by kernel_rfl) (by kernel_rfl) (fun _ _ _ h => h) (Or.inr ⟨by rfl, rfl⟩) (by assumption) ?_
  simp only [Act.put, List.getElem_toArray, List.getElem_cons_succ, List.getElem_cons_zero, List.setIfInBounds_toArray, List.set_cons_zero, List.set_cons_succ]
  refine wpAnyH_take (i := 17) (v := undef) rfl (by kernel_rfl) (by kernel_rfl) (by kernel_rfl) (fun _ _ _ h => h) (Or.inr ⟨by rfl, rfl⟩) (by assumption) ?_
  simp only [Act.put, List.getElem_toArray, List.getElem_cons_succ, List.getElem_cons_zero, List.setIfInBounds_toArray, List.set_cons_zero, List.set_cons_succ]
  refine wpAnyH_take (i := 18) (v := undef) rfl (by kernel_rfl) (by kernel_rfl) (by kernel_rfl) (fun _ _ _ h => h) (Or.inr ⟨by rfl, rfl⟩) (by assumption) ?_
  simp only [Act.put, List.getElem_toArray, List.getElem_cons_succ, List.getElem_cons_zero, List.setIfInBounds_toArray, List.set_cons_zero, List.set_cons_succ]
  refine' wpAnyH_take (i := 19) (v := ?vr1_19) rfl (by kernel_rfl) (by kernel_rfl) (by kernel_rfl) (fun _ _ _ h => h) (Or.inl ⟨by rfl, ?hyr1_19⟩) (by assumption) ?restr1_19
  case hyr1_19 => (intro w hSw; (try dsimp only at hSw); go_simp; try (with_reducible rfl))
  simp only [Act.put, List.getElem_toArray, List.getElem_cons_succ, List.getElem_cons_zero, List.setIfInBounds_toArray, List.set_cons_zero, List.set_cons_succ]
  refine wpAnyH_done (by kernel_rfl) ?_ _
  have HBZ := Lib.hid (show Below w.heap.size w W.drew from HB2.out.drew)
  clear hHeld
  go_wp2_with fail
  go_ret2
  exact ⟨rfl, HBZ.out⟩
set_option maxHeartbeats 16000000 in
set_option maxRecDepth 100000 in
theorem isb_out (A : Option Addr) (n cap : Nat) (ts : List Lg) (z : Int) (C : Array Value) (w : World) (hn : n ≤ 2000000) (HC : Hid (nv (netS ts) (clS ts) = C)) (hts : Hid (LgAt w w.heap.size A n ts)) (hT : Hid (Tab w)) (HG : Hid (goodLg ts = true)) (HZ : Hid (btw 0 z ((n : Int) - 1) = false)) :
    Calls Tryd.prog 33 #[.slice A n cap, .int .i64 z] w (APost (.tuple #[.bool false, .bool false]) w) := by
  have hn12 : n ≤ 12 := by have h := hts.out.1; rw [← h]; exact goodLg_len HG.out
  have hcz : C.size = 56 := by rw [← HC.out]; exact nv_size (nok_S ts)
  have HC1 := Lib.hid (show C.all (·.oneCell') = true by rw [← HC.out]; exact nv_one)
  have H1 := Lib.hid (one_in HZ.out)
  go_enter Tryd.func33, Tryd.ntmps33
  go_wp2_with fail
  refine (net_any A n cap ts C true HC HG _ hn hts hT).mono ?_
  rintro e w1 ⟨rfl, b1⟩
  have HB := Lib.hid b1
  clear b1
  have hst := lay_net hcz HC1.out w1
  have HB2 := Lib.hid (HB.out.alloc HB.out.size (.cells C 73))
  have HG2 := Lib.hid (Blk.new w1 73 C)
  obtain ⟨W, HW⟩ : ∃ W, Hid (w1.alloc (.cells C 73) = W) := ⟨_, Lib.hid rfl⟩
  obtain ⟨G, HGG⟩ : ∃ G, Hid (w1.heap.size = G) := ⟨_, Lib.hid rfl⟩
  go_upto_region 2 with fail
  clear hst
  rw [HGG.out] at HG2
  try rw [HGG.out]
  try simp only [HGG.out]
  rw [HW.out] at HB2 HG2 ⊢
  clear HW HB HGG
  refine wp_region_held_drew (S := (fun v => Blk v G 73 C)) (by kernel_rfl) ?_ (fun hHeld => ?_)
  · exact HG2.out.drew
  refine' wpAnyH_take (i := 0) (v := ?vr2_0) rfl (by kernel_rfl) (by kernel_rfl) (by kernel_rfl) (fun _ _ _ h => h) (Or.inl ⟨by rfl, ?hyr2_0⟩) (by assumption) ?restr2_0
  case hyr2_0 => (intro w hSw; (try dsimp only at hSw); go_simp; try (with_reducible rfl))
  simp only [Act.put, List.getElem_toArray, List.getElem_cons_succ, List.getElem_cons_zero, List.setIfInBounds_toArray, List.set_cons_zero, List.set_cons_succ]
  refine' wpAnyH_take (i := 1) (v := ?vr2_1) rfl (by kernel_rfl) (by kernel_rfl) (by kernel_rfl) (fun _ _ _ h => h) (Or.inl ⟨by rfl, ?hyr2_1⟩) (by assumption) ?restr2_1
  case hyr2_1 => (intro w hSw; (try dsimp only at hSw); go_simp; try (with_reducible rfl))
  simp only [Act.put, List.getElem_toArray, List.getElem_cons_succ, List.getElem_cons_zero, List.setIfInBounds_toArray, List.set_cons_zero, List.set_cons_succ]
  refine' wpAnyH_take (i := 2) (v := ?vr2_2) rfl (by kernel_rfl) (by kernel_rfl) (by kernel_rfl) (fun _ _ _ h => h) (Or.inl ⟨by rfl, ?hyr2_2⟩) (by assumption) ?restr2_2
  case hyr2_2 => (intro w hSw; (try dsimp only at hSw); go_simp; try (with_reducible rfl))
  simp only [Act.put, List.getElem_toArray, List.getElem_cons_succ, List.getElem_cons_zero, List.setIfInBounds_toArray, List.set_cons_zero, List.set_cons_succ]
  refine' wpAnyH_take (i := 3) (v := ?vr2_3) rfl (by kernel_rfl) (by kernel_rfl) (by kernel_rfl) (fun _ _ _ h => h) (Or.inl ⟨by rfl, ?hyr2_3⟩) (by assumption) ?restr2_3
  case hyr2_3 => (intro w hSw; (try dsimp only at hSw); go_simp; try (with_reducible rfl))
  simp only [Act.put, List.getElem_toArray, List.getElem_cons_succ, List.getElem_cons_zero, List.setIfInBounds_toArray, List.set_cons_zero, List.set_cons_succ]
  refine' wpAnyH_take (i := 4) (v := ?vr2_4) rfl (by kernel_rfl) (by kernel_rfl) (by kernel_rfl) (fun _ _ _ h => h) (Or.inl ⟨by rfl, ?hyr2_4⟩) (by assumption) ?restr2_4
  case hyr2_4 => (intro w hSw; (try dsimp only at hSw); go_simp; try (with_reducible rfl))
  simp only [Act.put, List.getElem_toArray, List.getElem_cons_succ, List.getElem_cons_zero, List.setIfInBounds_toArray, List.set_cons_zero, List.set_cons_succ]
  refine' wpAnyH_take (i := 5) (v := .int .i64 ((n : Int) - 1)) rfl (by kernel_rfl) (by kernel_rfl) (by kernel_rfl) (fun _ _ _ h => h) (Or.inl ⟨by rfl, ?hyn5⟩) (by assumption) ?restn5
  case hyn5 =>
    intro v hSv
    go_simp
    exact IntWalk.i64_in _ (by omega)
  simp only [Act.put, List.getElem_toArray, List.getElem_cons_succ, List.getElem_cons_zero, List.setIfInBounds_toArray, List.set_cons_zero, List.set_cons_succ]
  refine' wpAnyH_take (i := 6) (v := ?vr2_6) rfl (by kernel_rfl) (by kernel_rfl) (by kernel_rfl) (fun _ _ _ h => h) (Or.inl ⟨by rfl, ?hyr2_6⟩) (by assumption) ?restr2_6
  case hyr2_6 => (intro w hSw; (try dsimp only at hSw); go_simp; try (with_reducible rfl))
  simp only [Act.put, List.getElem_toArray, List.getElem_cons_succ, List.getElem_cons_zero, List.setIfInBounds_toArray, List.set_cons_zero, List.set_cons_succ]
  refine wpAnyH_ready (rs := [7]) (by kernel_rfl) (by simp) ?_
  refine AllReadyH.cons rfl (fun K hK => ?_) AllReadyH.nil
  go_simp
  refine hK.out _ _ ((hHeld.alloc _).drew) (fun hHeld1 => ?_)
  clear hK K hHeld
  have hHeld := hHeld1
  clear hHeld1
  try simp only [Act.put, List.getElem_toArray, List.getElem_cons_succ, List.getElem_cons_zero, List.setIfInBounds_toArray, List.set_cons_zero, List.set_cons_succ]
  refine wpAnyH_ready (rs := [8]) (by kernel_rfl) (by simp) ?_
  refine AllReadyH.cons rfl (fun K hK => ?_) AllReadyH.nil
  go_simp
  refine (within_dr _ _ z false _ _ rfl H1.out).mono ?_
  rintro e w3 ⟨rfl, hw⟩
  have HW3 := Lib.hid hw
  clear hw
  have HBZ := Lib.hid (show Below w.heap.size w w3 by rw [← HW3.out]; exact (HB2.out.alloc HB2.out.size _).drew)
  refine hK.out _ _ ((by rw [← HW3.out]; exact hHeld)) (fun hHeld1 => ?_)
  clear hK K hHeld
  have hHeld := hHeld1
  clear hHeld1
  try simp only [Act.put, List.getElem_toArray, List.getElem_cons_succ, List.getElem_cons_zero, List.setIfInBounds_toArray, List.set_cons_zero, List.set_cons_succ]
  refine' wpAnyH_take (i := 9) (v := ?vr2_9) rfl (by kernel_rfl) (by kernel_rfl) (by kernel_rfl) (fun _ _ _ h => h) (Or.inl ⟨by rfl, ?hyr2_9⟩) (by assumption) ?restr2_9
  case hyr2_9 => (intro w hSw; (try dsimp only at hSw); go_simp; try (with_reducible rfl))
  simp only [Act.put, List.getElem_toArray, List.getElem_cons_succ, List.getElem_cons_zero, List.setIfInBounds_toArray, List.set_cons_zero, List.set_cons_succ]
  refine' wpAnyH_take (i := 10) (v := ?vr2_10) rfl (by kernel_rfl) (by kernel_rfl) (by kernel_rfl) (fun _ _ _ h => h) (Or.inl ⟨by rfl, ?hyr2_10⟩) (by assumption) ?restr2_10
  case hyr2_10 => (intro w hSw; (try dsimp only at hSw); go_simp; try (with_reducible rfl))
  simp only [Act.put, List.getElem_toArray, List.getElem_cons_succ, List.getElem_cons_zero, List.setIfInBounds_toArray, List.set_cons_zero, List.set_cons_succ]
  refine' wpAnyH_take (i := 11) (v := ?vr2_11) rfl (by kernel_rfl) (by kernel_rfl) (by kernel_rfl) (fun _ _ _ h => h) (Or.inl ⟨by rfl, ?hyr2_11⟩) (by assumption) ?restr2_11
  case hyr2_11 => (intro w hSw; (try dsimp only at hSw); go_simp; try (with_reducible rfl))
  simp only [Act.put, List.getElem_toArray, List.getElem_cons_succ, List.getElem_cons_zero, List.setIfInBounds_toArray, List.set_cons_zero, List.set_cons_succ]
  refine wpAnyH_take (i := 12) (v := undef) rfl (by kernel_rfl) (by kernel_rfl) (by kernel_rfl) (fun _ _ _ h => h) (Or.inr ⟨by rfl, rfl⟩) (by assumption) ?_
  simp only [Act.put, List.getElem_toArray, List.getElem_cons_succ, List.getElem_cons_zero, List.setIfInBounds_toArray, List.set_cons_zero, List.set_cons_succ]
  refine wpAnyH_take (i := 13) (v := undef) rfl (by kernel_rfl) (by kernel_rfl) (by kernel_rfl) (fun _ _ _ h => h) (Or.inr ⟨by rfl, rfl⟩) (by assumption) ?_
  simp only [Act.put, List.getElem_toArray, List.getElem_cons_succ, List.getElem_cons_zero, List.setIfInBounds_toArray, List.set_cons_zero, List.set_cons_succ]
  refine wpAnyH_take (i := 14) (v := undef) rfl (by kernel_rfl) (by kernel_rfl) (by kernel_rfl) (fun _ _ _ h => h) (Or.inr ⟨by rfl, rfl⟩) (by assumption) ?_
  simp only [Act.put, List.getElem_toArray, List.getElem_cons_succ, List.getElem_cons_zero, List.setIfInBounds_toArray, List.set_cons_zero, List.set_cons_succ]
  refine wpAnyH_take (i := 15) (v := undef) rfl (by kernel_rfl) (by kernel_rfl) (by kernel_rfl) (fun _ _ _ h => h) (Or.inr ⟨by rfl, rfl⟩) (by assumption) ?_
  simp only [Act.put, List.getElem_toArray, List.getElem_cons_succ, List.getElem_cons_zero, List.setIfInBounds_toArray, List.set_cons_zero, List.set_cons_succ]
  refine wpAnyH_take (i := 16) (v := undef) rfl (by kernel_rfl) (by kernel_rfl) (by kernel_rfl) (fun _ _ _ h => h) (Or.inr ⟨by rfl, rfl⟩) (by assumption) ?_
  simp only [Act.put, List.getElem_toArray, List.getElem_cons_succ, List.getElem_cons_zero, List.setIfInBounds_toArray, List.set_cons_zero, List.set_cons_succ]
  refine wpAnyH_take (i := 17) (v := undef) rfl (by kernel_rfl) (by kernel_rfl) (by kernel_rfl) (fun _ _ _ h => h) (Or.inr ⟨by rfl, rfl⟩) (by assumption) ?_
  simp only [Act.put, List.getElem_toArray, List.getElem_cons_succ, List.getElem_cons_zero, List.setIfInBounds_toArray, List.set_cons_zero, List.set_cons_succ]
  refine wpAnyH_take (i := 18) (v := undef) rfl (by kernel_rfl) (by kernel_rfl) (by kernel_rfl) (fun _ _ _ h => h) (Or.inr ⟨by rfl, rfl⟩) (by assumption) ?_
  simp only [Act.put, List.getElem_toArray, List.getElem_cons_succ, List.getElem_cons_zero, List.setIfInBounds_toArray, List.set_cons_zero, List.set_cons_succ]
  refine' wpAnyH_take (i := 19) (v := ?vr2_19) rfl (by kernel_rfl) (by kernel_rfl) (by kernel_rfl) (fun _ _ _ h => h) (Or.inl ⟨by rfl, ?hyr2_19⟩) (by assumption) ?restr2_19
  case hyr2_19 => (intro w hSw; (try dsimp only at hSw); go_simp; try (with_reducible rfl))
  simp only [Act.put, List.getElem_toArray, List.getElem_cons_succ, List.getElem_cons_zero, List.setIfInBounds_toArray, List.set_cons_zero, List.set_cons_succ]
  refine wpAnyH_done (by kernel_rfl) ?_ _
  clear hHeld HW3
  go_wp2_with fail
  go_ret2
  exact ⟨rfl, HBZ.out⟩
set_option maxHeartbeats 16000000 in
set_option maxRecDepth 100000 in
theorem isb_in (A : Option Addr) (n cap k : Nat) (x : Lg) (t b : Bool) (ts : List Lg) (C : Array Value) (w : World) (hn : n ≤ 2000000) (HC : Hid (nv (netS ts) (clS ts) = C)) (hts : Hid (LgAt w w.heap.size A n ts)) (hT : Hid (Tab w)) (HG : Hid (goodLg ts = true)) (HX : Hid (ts[k]? = some x)) (HM : Hid (mem (net ts).ps x.frm = t)) (HBR : Hid (brB ts k = b)) :
    Calls Tryd.prog 33 #[.slice A n cap, .int .i64 (k : Int)] w (APost (if t then .tuple #[.bool b, .bool true] else .tuple #[.bool false, .bool false]) w) := by
  have hL := hts.out.1
  have hn12 : n ≤ 12 := by rw [← hL]; exact goodLg_len HG.out
  have hkn : k < n := by rw [← hL]; exact (List.getElem?_eq_some_iff.1 HX.out).1
  have hk0 : (0 : Int) ≤ (k : Int) := by omega
  have hkn' : (k : Int) < (n : Int) := by omega
  have hkd : decide (k < n) = true := by simpa using hkn
  clear hL
  have H1 := Lib.hid (one_in (show btw 0 (k : Int) ((n : Int) - 1) = true from btw_mk (by omega) (by omega)))
  have HOK := Lib.hid (goodLg_at HG.out HX.out)
  have HNS := Lib.hid (show netS ts = net ts by unfold netS; rw [HG.out]; rfl)
  have HP1 := Lib.hid (show mem (netS ts).ps x.frm = t by rw [HNS.out]; exact HM.out)
  have HP2 := Lib.hid (show mem (netS ts).ps x.to_ = t by rw [HNS.out, ← net_ends HG.out HX.out]; exact HM.out)
  obtain ⟨gL, hA0, hgL, e0, e1, e2, e3, e4⟩ := hts.out.2 k x HX.out
  have HLL := Lib.hid (show (w.cell? ⟨gL, k * 5, none⟩ = some (.int .i64 x.frm) ∧ w.cell? ⟨gL, k * 5 + 1, none⟩ = some (.int .i64 x.to_) ∧ w.cell? ⟨gL, k * 5 + 2, none⟩ = some (.int .i64 x.tape) ∧ w.cell? ⟨gL, k * 5 + 3, none⟩ = some (.int .i64 x.comp) ∧ w.cell? ⟨gL, k * 5 + 4, none⟩ = some (.int .i64 x.slope)) ∧ gL < w.heap.size from ⟨⟨e0, e1, e2, e3, e4⟩, hgL⟩)
  clear e0 e1 e2 e3 e4 hgL
  subst hA0
  obtain ⟨rr, HRR⟩ : ∃ r : Value, Hid ((if t = true then Value.tuple #[.bool b, .bool true] else .tuple #[.bool false, .bool false]) = r) := ⟨_, Lib.hid rfl⟩
  rw [HRR.out]
  have hcz : C.size = 56 := by rw [← HC.out]; exact nv_size (nok_S ts)
  have HC1 := Lib.hid (show C.all (·.oneCell') = true by rw [← HC.out]; exact nv_one)
  go_enter Tryd.func33, Tryd.ntmps33
  go_wp2_with fail
  refine (net_any (some ⟨gL, 0, none⟩) n cap ts C true HC HG _ hn hts hT).mono ?_
  rintro e w1 ⟨rfl, b1⟩
  have HB := Lib.hid b1
  clear b1
  have hst := lay_net hcz HC1.out w1
  have HB2 := Lib.hid (HB.out.alloc HB.out.size (.cells C 73))
  have HG2 := Lib.hid (Blk.new w1 73 C)
  obtain ⟨W, HW⟩ : ∃ W, Hid (w1.alloc (.cells C 73) = W) := ⟨_, Lib.hid rfl⟩
  obtain ⟨G, HGG⟩ : ∃ G, Hid (w1.heap.size = G) := ⟨_, Lib.hid rfl⟩
  go_upto_region 2 with fail
  clear hst
  rw [HGG.out] at HG2
  try rw [HGG.out]
  try simp only [HGG.out]
  rw [HW.out] at HB2 HG2 ⊢
  clear HW HB HGG
  have HLW := Lib.hid (show LW gL k G x C W by
    obtain ⟨⟨e0, e1, e2, e3, e4⟩, l⟩ := HLL.out
    have A : ∀ o, W.cell? ⟨gL, o, none⟩ = w.cell? ⟨gL, o, none⟩ := fun o => HB2.out.cell (p := ⟨gL, o, none⟩) l
    exact ⟨⟨(A _).trans e0, (A _).trans e1, (A _).trans e2, (A _).trans e3, (A _).trans e4⟩, by have := HB2.out.size; omega, HG2.out⟩)
  clear HLL HG2
  refine wp_region_held_drew (S := (fun v => v.cell? ⟨gL, k * 5, none⟩ = some (.int .i64 x.frm) ∧ v.cell? ⟨gL, k * 5 + 1, none⟩ = some (.int .i64 x.to_) ∧ v.cell? ⟨gL, k * 5 + 2, none⟩ = some (.int .i64 x.tape) ∧ v.cell? ⟨gL, k * 5 + 3, none⟩ = some (.int .i64 x.comp) ∧ v.cell? ⟨gL, k * 5 + 4, none⟩ = some (.int .i64 x.slope) ∧ LW gL k G x C v)) (by kernel_rfl) ?_ (fun hHeld => ?_)
  · exact (HLW.out.step (Below.refl _ _).drew).mk6
  refine' wpAnyH_take (i := 0) (v := ?vr3_0) rfl (by kernel_rfl) (by kernel_rfl) (by kernel_rfl) (fun _ _ _ h => h) (Or.inl ⟨by rfl, ?hyr3_0⟩) (by assumption) ?restr3_0
  case hyr3_0 => (intro w hSw; (try dsimp only at hSw); go_simp; try (with_reducible rfl))
  simp only [Act.put, List.getElem_toArray, List.getElem_cons_succ, List.getElem_cons_zero, List.setIfInBounds_toArray, List.set_cons_zero, List.set_cons_succ]
  refine' wpAnyH_take (i := 1) (v := ?vr3_1) rfl (by kernel_rfl) (by kernel_rfl) (by kernel_rfl) (fun _ _ _ h => h) (Or.inl ⟨by rfl, ?hyr3_1⟩) (by assumption) ?restr3_1
  case hyr3_1 => (intro w hSw; (try dsimp only at hSw); go_simp; try (with_reducible rfl))
  simp only [Act.put, List.getElem_toArray, List.getElem_cons_succ, List.getElem_cons_zero, List.setIfInBounds_toArray, List.set_cons_zero, List.set_cons_succ]
  refine' wpAnyH_take (i := 2) (v := ?vr3_2) rfl (by kernel_rfl) (by kernel_rfl) (by kernel_rfl) (fun _ _ _ h => h) (Or.inl ⟨by rfl, ?hyr3_2⟩) (by assumption) ?restr3_2
  case hyr3_2 => (intro w hSw; (try dsimp only at hSw); go_simp; try (with_reducible rfl))
  simp only [Act.put, List.getElem_toArray, List.getElem_cons_succ, List.getElem_cons_zero, List.setIfInBounds_toArray, List.set_cons_zero, List.set_cons_succ]
  refine' wpAnyH_take (i := 3) (v := ?vr3_3) rfl (by kernel_rfl) (by kernel_rfl) (by kernel_rfl) (fun _ _ _ h => h) (Or.inl ⟨by rfl, ?hyr3_3⟩) (by assumption) ?restr3_3
  case hyr3_3 => (intro w hSw; (try dsimp only at hSw); go_simp; try (with_reducible rfl))
  simp only [Act.put, List.getElem_toArray, List.getElem_cons_succ, List.getElem_cons_zero, List.setIfInBounds_toArray, List.set_cons_zero, List.set_cons_succ]
  refine' wpAnyH_take (i := 4) (v := ?vr3_4) rfl (by kernel_rfl) (by kernel_rfl) (by kernel_rfl) (fun _ _ _ h => h) (Or.inl ⟨by rfl, ?hyr3_4⟩) (by assumption) ?restr3_4
  case hyr3_4 => (intro w hSw; (try dsimp only at hSw); go_simp; try (with_reducible rfl))
  simp only [Act.put, List.getElem_toArray, List.getElem_cons_succ, List.getElem_cons_zero, List.setIfInBounds_toArray, List.set_cons_zero, List.set_cons_succ]
  refine' wpAnyH_take (i := 5) (v := .int .i64 ((n : Int) - 1)) rfl (by kernel_rfl) (by kernel_rfl) (by kernel_rfl) (fun _ _ _ h => h) (Or.inl ⟨by rfl, ?hyn5⟩) (by assumption) ?restn5
  case hyn5 =>
    intro v hSv
    go_simp
    exact IntWalk.i64_in _ (by omega)
  simp only [Act.put, List.getElem_toArray, List.getElem_cons_succ, List.getElem_cons_zero, List.setIfInBounds_toArray, List.set_cons_zero, List.set_cons_succ]
  refine' wpAnyH_take (i := 6) (v := ?vr3_6) rfl (by kernel_rfl) (by kernel_rfl) (by kernel_rfl) (fun _ _ _ h => h) (Or.inl ⟨by rfl, ?hyr3_6⟩) (by assumption) ?restr3_6
  case hyr3_6 => (intro w hSw; (try dsimp only at hSw); go_simp; try (with_reducible rfl))
  simp only [Act.put, List.getElem_toArray, List.getElem_cons_succ, List.getElem_cons_zero, List.setIfInBounds_toArray, List.set_cons_zero, List.set_cons_succ]
  refine wpAnyH_ready (rs := [7]) (by kernel_rfl) (by simp) ?_
  refine AllReadyH.cons rfl (fun K hK => ?_) AllReadyH.nil
  go_simp
  refine hK.out _ _ ((hHeld.2.2.2.2.2.step (((Below.refl _ _).alloc (Nat.le_refl _) _).drew)).mk6) (fun hHeld1 => ?_)
  clear hK K hHeld
  have hHeld := hHeld1
  clear hHeld1
  try simp only [Act.put, List.getElem_toArray, List.getElem_cons_succ, List.getElem_cons_zero, List.setIfInBounds_toArray, List.set_cons_zero, List.set_cons_succ]
  refine wpAnyH_ready (rs := [8]) (by kernel_rfl) (by simp) ?_
  refine AllReadyH.cons rfl (fun K hK => ?_) AllReadyH.nil
  go_simp
  refine (within_dr _ _ (k : Int) true _ _ rfl H1.out).mono ?_
  rintro e w3 ⟨rfl, hw⟩
  have HW3 := Lib.hid hw
  clear hw
  have HB4 := Lib.hid (show Below w.heap.size w w3 by rw [← HW3.out]; exact (HB2.out.alloc HB2.out.size _).drew)
  have HL4 := Lib.hid (show LW gL k G x C w3 by rw [← HW3.out]; exact hHeld.2.2.2.2.2)
  refine hK.out _ _ ((by rw [← HW3.out]; exact hHeld)) (fun hHeld1 => ?_)
  clear hK K hHeld
  have hHeld := hHeld1
  clear hHeld1
  try simp only [Act.put, List.getElem_toArray, List.getElem_cons_succ, List.getElem_cons_zero, List.setIfInBounds_toArray, List.set_cons_zero, List.set_cons_succ]
  refine' wpAnyH_take (i := 9) (v := ?vr3_9) rfl (by kernel_rfl) (by kernel_rfl) (by kernel_rfl) (fun _ _ _ h => h) (Or.inl ⟨by rfl, ?hyr3_9⟩) (by assumption) ?restr3_9
  case hyr3_9 => (intro w hSw; (try dsimp only at hSw); go_simp; try (with_reducible rfl))
  simp only [Act.put, List.getElem_toArray, List.getElem_cons_succ, List.getElem_cons_zero, List.setIfInBounds_toArray, List.set_cons_zero, List.set_cons_succ]
  refine' wpAnyH_take (i := 10) (v := ?vr3_10) rfl (by kernel_rfl) (by kernel_rfl) (by kernel_rfl) (fun _ _ _ h => h) (Or.inl ⟨by rfl, ?hyr3_10⟩) (by assumption) ?restr3_10
  case hyr3_10 => (intro w hSw; (try dsimp only at hSw); go_simp; try (with_reducible rfl))
  simp only [Act.put, List.getElem_toArray, List.getElem_cons_succ, List.getElem_cons_zero, List.setIfInBounds_toArray, List.set_cons_zero, List.set_cons_succ]
  refine' wpAnyH_take (i := 11) (v := ?vr3_11) rfl (by kernel_rfl) (by kernel_rfl) (by kernel_rfl) (fun _ _ _ h => h) (Or.inl ⟨by rfl, ?hyr3_11⟩) (by assumption) ?restr3_11
  case hyr3_11 => (intro w hSw; (try dsimp only at hSw); go_simp; try (with_reducible rfl))
  simp only [Act.put, List.getElem_toArray, List.getElem_cons_succ, List.getElem_cons_zero, List.setIfInBounds_toArray, List.set_cons_zero, List.set_cons_succ]
  refine' wpAnyH_take (i := 12) (v := .agg C) rfl (by kernel_rfl) (by kernel_rfl) (by kernel_rfl) (fun _ _ _ h => h) (Or.inl ⟨by rfl, fun v hSv => exec_load rfl rfl hSv.2.2.2.2.2.2.2 hcz⟩) (by assumption) ?_
  simp only [Act.put, List.getElem_toArray, List.getElem_cons_succ, List.getElem_cons_zero, List.setIfInBounds_toArray, List.set_cons_zero, List.set_cons_succ]
  refine' wpAnyH_take (i := 13) (v := ?vr3_13) rfl (by kernel_rfl) (by kernel_rfl) (by kernel_rfl) (fun _ _ _ h => h) (Or.inl ⟨by rfl, ?hyr3_13⟩) (by assumption) ?restr3_13
  case hyr3_13 => (intro w hSw; (try dsimp only at hSw); go_simp; try (with_reducible rfl))
  simp only [Act.put, List.getElem_toArray, List.getElem_cons_succ, List.getElem_cons_zero, List.setIfInBounds_toArray, List.set_cons_zero, List.set_cons_succ]
  refine' wpAnyH_take (i := 14) (v := ?vr3_14) rfl (by kernel_rfl) (by kernel_rfl) (by kernel_rfl) (fun _ _ _ h => h) (Or.inl ⟨by rfl, ?hyr3_14⟩) (by assumption) ?restr3_14
  case hyr3_14 => (intro w hSw; (try dsimp only at hSw); go_simp; try (with_reducible rfl))
  simp only [Act.put, List.getElem_toArray, List.getElem_cons_succ, List.getElem_cons_zero, List.setIfInBounds_toArray, List.set_cons_zero, List.set_cons_succ]
  refine' wpAnyH_take (i := 15) (v := ?vr3_15) rfl (by kernel_rfl) (by kernel_rfl) (by kernel_rfl) (fun _ _ _ h => h) (Or.inl ⟨by rfl, ?hyr3_15⟩) (by assumption) ?restr3_15
  case hyr3_15 => (intro w hSw; (try dsimp only at hSw); go_simp; try (with_reducible rfl))
  simp only [Act.put, List.getElem_toArray, List.getElem_cons_succ, List.getElem_cons_zero, List.setIfInBounds_toArray, List.set_cons_zero, List.set_cons_succ]
  refine' wpAnyH_take (i := 16) (v := ?vr3_16) rfl (by kernel_rfl) (by kernel_rfl) (by kernel_rfl) (fun _ _ _ h => h) (Or.inl ⟨by rfl, ?hyr3_16⟩) (by assumption) ?restr3_16
  case hyr3_16 => (intro w hSw; (try dsimp only at hSw); go_simp; try (with_reducible rfl))
  simp only [Act.put, List.getElem_toArray, List.getElem_cons_succ, List.getElem_cons_zero, List.setIfInBounds_toArray, List.set_cons_zero, List.set_cons_succ]
  refine wpAnyH_ready (rs := [17]) (by kernel_rfl) (by simp) ?_
  refine AllReadyH.cons rfl (fun K hK => ?_) AllReadyH.nil
  go_simp
  refine (ends_c HC x t t _ HOK HP1 HP2).mono ?_
  rintro e w5 ⟨rfl, b5⟩
  have HB5 := Lib.hid (HB4.out.trans (b5.mono HB4.out.size))
  refine hK.out _ _ ((hHeld.2.2.2.2.2.step b5).mk6) (fun hHeld1 => ?_)
  clear hK K hHeld
  have hHeld := hHeld1
  clear hHeld1
  try simp only [Act.put, List.getElem_toArray, List.getElem_cons_succ, List.getElem_cons_zero, List.setIfInBounds_toArray, List.set_cons_zero, List.set_cons_succ]
  refine' wpAnyH_take (i := 18) (v := ?vr3_18) rfl (by kernel_rfl) (by kernel_rfl) (by kernel_rfl) (fun _ _ _ h => h) (Or.inl ⟨by rfl, ?hyr3_18⟩) (by assumption) ?restr3_18
  case hyr3_18 => (intro w hSw; (try dsimp only at hSw); go_simp; try (with_reducible rfl))
  simp only [Act.put, List.getElem_toArray, List.getElem_cons_succ, List.getElem_cons_zero, List.setIfInBounds_toArray, List.set_cons_zero, List.set_cons_succ]
  refine' wpAnyH_take (i := 19) (v := ?vr3_19) rfl (by kernel_rfl) (by kernel_rfl) (by kernel_rfl) (fun _ _ _ h => h) (Or.inl ⟨by rfl, ?hyr3_19⟩) (by assumption) ?restr3_19
  case hyr3_19 => (intro w hSw; (try dsimp only at hSw); go_simp; try (with_reducible rfl))
  simp only [Act.put, List.getElem_toArray, List.getElem_cons_succ, List.getElem_cons_zero, List.setIfInBounds_toArray, List.set_cons_zero, List.set_cons_succ]
  refine wpAnyH_done (by kernel_rfl) ?_ _
  clear hHeld HB4 HL4 HB2 HLW HW3
  cases t
  · go_wp2_with fail
    go_ret2
    exact ⟨by rw [← HRR.out]; rfl, HB5.out⟩
  · go_wp2_with fail
    refine (isNeeded_any (some ⟨gL, 0, none⟩) n cap ts k x b _ HG HX HM HBR (Lib.hid (hts.out.step HB5.out))).mono ?_
    rintro e w6 ⟨rfl, b6⟩
    have HB6 := Lib.hid (HB5.out.trans (b6.mono HB5.out.size))
    clear b6
    go_wp2_with fail
    go_ret2
    exact ⟨by rw [← HRR.out]; rfl, HB6.out⟩
theorem isBridge_impl (A : Option Addr) (n cap : Nat) (ts : List Lg) (z : Int) (w : World) (hn : n ≤ 2000000) (hts : Hid (LgAt w w.heap.size A n ts)) (hT : Hid (Tab w)) :
    Calls Tryd.prog 33 #[.slice A n cap, .int .i64 z] w (APost (ansBr ts z) w) := by
  have hL := hts.out.1
  cases hg : goodLg ts
  · have e : ansBr ts z = .tuple #[.bool false, .bool false] := by unfold ansBr brOk; rw [hg]; rfl
    rw [e]
    exact isb_bad A n cap ts z _ w hn (Lib.hid rfl) hts hT (Lib.hid hg)
  · cases hb : btw 0 z ((n : Int) - 1)
    · have e : ansBr ts z = .tuple #[.bool false, .bool false] := by unfold ansBr brOk; rw [hg, hL, hb]; rfl
      rw [e]
      exact isb_out A n cap ts z _ w hn (Lib.hid rfl) hts hT (Lib.hid hg) (Lib.hid hb)
    · obtain ⟨z0, z1⟩ := btw_yes hb
      obtain ⟨k, rfl⟩ := Int.eq_ofNat_of_zero_le z0
      obtain ⟨x, hx⟩ := at_lt hL (show k < n by omega)
      have e : ansBr ts (k : Int) = if mem (net ts).ps x.frm then .tuple #[.bool (brB ts k), .bool true] else .tuple #[.bool false, .bool false] := by
        unfold ansBr brOk brAt
        rw [hg, hL, hb, Int.toNat_natCast, hx]
        simp only [Bool.true_and]
      rw [e]
      exact isb_in A n cap k x _ _ ts _ w hn (Lib.hid rfl) hts hT (Lib.hid hg) (Lib.hid hx) (Lib.hid rfl) (Lib.hid rfl)
theorem brIds_len (ts : List Lg) : (brIds ts).length ≤ 12 := by
  unfold brIds
  cases h : goodLg ts
  · exact Nat.zero_le _
  · exact Nat.le_trans (brN_len ts ts.length) (goodLg_len h)
set_option maxHeartbeats 16000000 in
set_option maxRecDepth 100000 in
theorem bridgesOf_impl (A : Option Addr) (n cap : Nat) (ts : List Lg) (w : World) (hn : n ≤ 2000000) (hts : Hid (LgAt w w.heap.size A n ts)) (hT : Hid (Tab w)) :
    Calls Tryd.prog 35 #[.slice A n cap] w (LPost (brIds ts) (goodLg ts) w) := by
  obtain ⟨i0, hi, hz0, hz1, hz2⟩ := info_parts infoI
  have HL := Lib.hid hts.out.1
  obtain ⟨C, HC⟩ : ∃ C, Hid (nv (netS ts) (clS ts) = C) := ⟨_, Lib.hid rfl⟩
  have hcz : C.size = 56 := by rw [← HC.out]; exact nv_size (nok_S ts)
  have HC1 := Lib.hid (show C.all (·.oneCell') = true by rw [← HC.out]; exact nv_one)
  cases hg : goodLg ts
  · have HG := Lib.hid hg
    have HF := Lib.hid (show brIds ts = [] by unfold brIds; rw [hg]; rfl)
    clear hg
    go_enter Tryd.func35, Tryd.ntmps35
    go_wp2_with fail
    refine (net_any A n cap ts C false HC HG w hn hts hT).mono ?_
    rintro e w1 ⟨rfl, b1⟩
    have HB1 := Lib.hid b1
    clear b1
    have hst := lay_net hcz HC1.out w1
    have HB2 := Lib.hid (HB1.out.alloc HB1.out.size (.cells C 73))
    go_upto_region 2 with fail
    obtain ⟨V, HV⟩ : ∃ V, Hid (w1.alloc (.cells C 73) = V) := ⟨_, Lib.hid rfl⟩
    rw [HV.out] at HB2
    rw [HV.out]
    clear hst HV
    go_wp2_with fail
    go_ret2
    exact ⟨_, rfl, by rw [HF.out]; exact World.ownsRow_made V #[] 0 HB2.out.size (by decide) (by simp), HB2.out.alloc HB2.out.size _⟩
  · have HG := Lib.hid hg
    have hn12 := len12 HL.out hg
    have HF := Lib.hid (show brIds ts = brN ts n by unfold brIds; rw [hg, HL.out]; rfl)
    have HNS := Lib.hid (show netS ts = net ts by unfold netS; rw [hg]; rfl)
    clear hg
    go_enter Tryd.func35, Tryd.ntmps35
    go_wp2_with fail
    refine (net_any A n cap ts C true HC HG w hn hts hT).mono ?_
    rintro e w1 ⟨rfl, b1⟩
    have HB1 := Lib.hid b1
    clear b1
    have hst := lay_net hcz HC1.out w1
    have HB2 := Lib.hid (HB1.out.alloc HB1.out.size (.cells C 73))
    have HG2 := Lib.hid (Blk.new w1 73 C)
    obtain ⟨V, HV⟩ : ∃ V, Hid (w1.alloc (.cells C 73) = V) := ⟨_, Lib.hid rfl⟩
    obtain ⟨G, HGG⟩ : ∃ G, Hid (w1.heap.size = G) := ⟨_, Lib.hid rfl⟩
    rw [HV.out, HGG.out] at HG2
    rw [HV.out] at HB2
    go_upto_region 2 with fail
    try rw [HGG.out]
    try simp only [HGG.out]
    rw [HV.out]
    clear hst HV HGG HB1
    have HR2 := Lib.hid (show (V.alloc (.cells #[] 3)).ownsRow w.heap.size 3 1 (.slice (some ⟨V.heap.size, 0, none⟩) 0 0) 0 [] from World.ownsRow_made V #[] 0 HB2.out.size (by decide) (by simp))
    have HG3 := Lib.hid (HG2.out.alloc (.cells #[] 3))
    have HB3 := Lib.hid (HB2.out.alloc HB2.out.size (.cells #[] 3))
    go_wp2_with fail
    go_loopw [6, 20] (fun v i wr => ∃ (k m c : Nat) (A2 : Option Addr), k ≤ n ∧ i = .int .i64 (k : Nat) ∧ m ≤ k ∧ v = .slice A2 m c ∧ Hid ((brN ts k).length = m) ∧ wr.ownsRow w.heap.size 3 1 (.slice A2 m c) m (ints.intsV (brN ts k)) ∧ Blk wr G 73 C ∧ Below w.heap.size w wr) (fun _ i _ => n - (intOf i).toNat)
    case atStart => exact ⟨0, 0, 0, _, Nat.zero_le _, rfl, Nat.le_refl _, rfl, Lib.hid rfl, HR2.out, HG3.out, HB3.out⟩
    case round =>
      obtain ⟨k, m, c, A2, hk, rfl, hmk, rfl, HM, hO, hGk, hB⟩ := hrel
      have HO := Lib.hid hO
      have HGk := Lib.hid hGk
      have HB := Lib.hid hB
      have hBs := hB.size
      clear hO hGk hB HR2 HG3 HB3
      have hk0 : (0 : Int) ≤ (k : Int) := by omega
      by_cases hlt : k < n
      · obtain ⟨x, hx⟩ := at_lt HL.out hlt
        obtain ⟨gL, rfl, hgL, e0, e1, e2, e3, e4⟩ := (hts.out.below HB.out).2 k x hx
        have HX := Lib.hid hx
        have HOK := Lib.hid (goodLg_at HG.out hx)
        obtain ⟨t, HTT⟩ : ∃ t, Hid (mem (net ts).ps x.frm = t) := ⟨_, Lib.hid rfl⟩
        have HP1 := Lib.hid (show mem (netS ts).ps x.frm = t by rw [HNS.out]; exact HTT.out)
        have HP2 := Lib.hid (show mem (netS ts).ps x.to_ = t by rw [HNS.out, ← net_ends HG.out hx]; exact HTT.out)
        have HEA := Lib.hid (show brAt ts (k : Int) = t by unfold brAt; rw [Int.toNat_natCast, hx]; exact HTT.out)
        have hki : (k : Int) < (n : Int) := by omega
        have hkd : decide (k < n) = true := by simpa using hlt
        clear hx
        go_upto_region 8 with fail
        obtain ⟨U, HU⟩ : ∃ U, Hid (wr.alloc (.cells #[.int .i64 x.frm, .int .i64 x.to_, .int .i64 x.tape, .int .i64 x.comp, .int .i64 x.slope] 51) = U) := ⟨_, Lib.hid rfl⟩
        obtain ⟨X, HXX⟩ : ∃ X, Hid (wr.heap.size = X) := ⟨_, Lib.hid rfl⟩
        have HAL := Lib.hid (show Below wr.heap.size wr U by rw [← HU.out]; exact (Below.refl _ _).alloc (Nat.le_refl _) _)
        have HXU := Lib.hid (show Blk U X 51 #[.int .i64 x.frm, .int .i64 x.to_, .int .i64 x.tape, .int .i64 x.comp, .int .i64 x.slope] by rw [← HU.out, ← HXX.out]; exact Blk.new _ _ _)
        have HOU := Lib.hid (row_below HO.out HAL.out)
        have HGU := Lib.hid (HGk.out.below HAL.out HGk.out.lt)
        have HBU := Lib.hid (HB.out.trans (HAL.out.mono hBs))
        try rw [HXX.out]
        try simp only [HXX.out]
        rw [HU.out]
        clear HU HXX HO HGk HB e0 e1 e2 e3 e4 HAL
        refine wp_region_list ?_
        refine step_load _ rfl _ rfl G _ rfl HGU.out hcz ?_
        simp only [Act.put, List.getElem_toArray, List.getElem_cons_succ, List.getElem_cons_zero, List.setIfInBounds_toArray, List.set_cons_zero, List.set_cons_succ]
        have x0 := HXU.out.cell 0
        have x1 := HXU.out.cell 1
        have x2 := HXU.out.cell 2
        have x3 := HXU.out.cell 3
        have x4 := HXU.out.cell 4
        simp at x0 x1 x2 x3 x4
        go_wp2_with fail
        refine (ends_c HC x t t _ HOK HP1 HP2).mono ?_
        rintro e w5 ⟨rfl, b5⟩
        have HO5 := Lib.hid (row_below HOU.out b5)
        have HG5 := Lib.hid (HGU.out.below b5 HGU.out.lt)
        have HB5 := Lib.hid (HBU.out.trans (b5.mono HBU.out.size))
        clear b5 x0 x1 x2 x3 x4 HXU HOU HGU HBU
        cases t
        · have HCN := Lib.hid (show brN ts (k + 1) = brN ts k from brN_no (by rw [HEA.out]; rfl))
          go_wp2_with fail
          go_roundw
          case rel => exact ⟨k + 1, m, c, A2, by omega, by go_num, by omega, rfl, Lib.hid (by rw [HCN.out]; exact HM.out), by rw [HCN.out]; exact HO5.out, HG5.out, HB5.out⟩
          case measure => simp [intOf]; omega
        · obtain ⟨b, HBR⟩ : ∃ b, Hid (brB ts k = b) := ⟨_, Lib.hid rfl⟩
          go_wp2_with fail
          refine (isNeeded_any (some ⟨gL, 0, none⟩) n cap ts k x b _ HG HX HTT HBR (Lib.hid (hts.out.step HB5.out))).mono ?_
          rintro e w6 ⟨rfl, b6⟩
          have HO6 := Lib.hid (row_below HO5.out b6)
          have HG6 := Lib.hid (HG5.out.below b6 HG5.out.lt)
          have HB6 := Lib.hid (HB5.out.trans (b6.mono HB5.out.size))
          have hB6s := HB6.out.size
          clear b6 HO5 HG5 HB5
          cases b
          · have HCN := Lib.hid (show brN ts (k + 1) = brN ts k from brN_no (by rw [HEA.out, HBR.out]; rfl))
            go_wp2_with fail
            go_roundw
            case rel => exact ⟨k + 1, m, c, A2, by omega, by go_num, by omega, rfl, Lib.hid (by rw [HCN.out]; exact HM.out), by rw [HCN.out]; exact HO6.out, HG6.out, HB6.out⟩
            case measure => simp [intOf]; omega
          · have HCN := Lib.hid (show brN ts (k + 1) = brN ts k ++ [(k : Int)] from brN_yes HEA.out HBR.out)
            go_wp2_with (at_builtin; refine wpList_append_lies _ rfl _ _ 24 rfl w.heap.size 3 i0 (.int .i64 0) 1 8 Tryd.underlying24 hi hz0 hz1 hz2 rfl (by decide) _ _ _ rfl (HO6.out.alloc _) ⟨w6.heap.size, 0, none⟩ 1 1 [.int .i64 (k : Int)] rfl rfl (cell_one_new _ _ _) (by simp [Value.oneCell']) (by decide) (by unfold maxLen; omega) (by omega) (by simp; omega) _ rfl ?_; intro g9 c9 w9 hown' hgrow hat hlt9)
            have HAL := Lib.hid ((Below.refl w6.heap.size w6).alloc (Nat.le_refl _) (.cells #[.int .i64 (k : Int)] 3))
            have HB9 := Lib.hid ((HB6.out.trans (HAL.out.mono hB6s)).grown hgrow (by simp; omega) (fun g e => (HO6.out.lt g e).1))
            have HG9 := Lib.hid ((HG6.out.alloc (.cells #[.int .i64 (k : Int)] 3)).grown hgrow (by have := own_blk_ne HO6.out HG6.out (by decide); exact fun q => this q.symm))
            have HO9 := Lib.hid (show w9.ownsRow w.heap.size 3 1 (.slice (some ⟨g9, 0, none⟩) (m + 1) c9) (m + 1) (ints.intsV (brN ts (k + 1))) by rw [HCN.out, intsV_app]; exact hown')
            clear hown' hgrow hat
            go_wp2_with fail
            go_roundw
            case rel => exact ⟨k + 1, m + 1, c9, some ⟨g9, 0, none⟩, by omega, by go_num, by omega, rfl, Lib.hid (by rw [HCN.out, List.length_append, HM.out]; rfl), HO9.out, HG9.out, HB9.out⟩
            case measure => simp [intOf]; omega
      · have hkd : decide (k < n) = false := by simpa using hlt
        obtain rfl : k = n := by omega
        have HFIN := Lib.hid (show wr.ownsRow w.heap.size 3 1 (.slice A2 m c) (brIds ts).length (ints.intsV (brIds ts)) by rw [HF.out, HM.out]; exact HO.out)
        clear hlt
        go_wp2_with fail
        go_ret2
        exact ⟨_, rfl, HFIN.out, HB.out⟩
end Go.Proofs.YtkeepfkjhcmhlaaDoor.lpi

namespace Go.Proofs.YtkeepfkjhcmhlaaDoor.lpi
open Go.RowKit
open reads base ty lg lgi win rowi hs nt nq sn lp
set_option linter.unusedVariables false
set_option linter.unusedSimpArgs false

theorem thrIds_le (ts : List Lg) (i : Int) : (thrIds ts i).length ≤ 12 := by
  unfold thrIds
  split
  · exact Nat.le_trans (thrL_len ts i _) (clIds_len ts)
  · exact Nat.zero_le _
set_option maxHeartbeats 16000000 in
set_option maxRecDepth 100000 in
theorem through_impl (A : Option Addr) (n cap : Nat) (ts : List Lg) (z : Int) (w : World) (hn : n ≤ 2000000) (hts : Hid (LgAt w w.heap.size A n ts)) (hT : Hid (Tab w)) :
    Calls Tryd.prog 37 #[.slice A n cap, .int .i64 z] w (LPost (thrIds ts z) (thrOk ts z) w) := by
  obtain ⟨i0, hi, hz0, hz1, hz2⟩ := info_parts infoI
  have HL := Lib.hid hts.out.1
  obtain ⟨C, HC⟩ : ∃ C, Hid (nv (netS ts) (clS ts) = C) := ⟨_, Lib.hid rfl⟩
  have hcz : C.size = 56 := by rw [← HC.out]; exact nv_size (nok_S ts)
  have HC1 := Lib.hid (show C.all (·.oneCell') = true by rw [← HC.out]; exact nv_one)
  cases hg : goodLg ts
  · have HG := Lib.hid hg
    have HF := Lib.hid (show thrIds ts z = [] ∧ thrOk ts z = false by unfold thrIds thrOk; rw [hg]; exact ⟨rfl, rfl⟩)
    clear hg
    rw [HF.out.1, HF.out.2]
    go_enter Tryd.func37, Tryd.ntmps37
    go_wp2_with fail
    refine (net_any A n cap ts C false HC HG w hn hts hT).mono ?_
    rintro e w1 ⟨rfl, b1⟩
    have HB1 := Lib.hid b1
    clear b1
    have hst := lay_net hcz HC1.out w1
    have HB2 := Lib.hid (HB1.out.alloc HB1.out.size (.cells C 73))
    go_upto_region 2 with fail
    obtain ⟨V, HV⟩ : ∃ V, Hid (w1.alloc (.cells C 73) = V) := ⟨_, Lib.hid rfl⟩
    rw [HV.out] at HB2
    rw [HV.out]
    clear hst HV
    go_wp2_with fail
    go_ret2
    exact ⟨_, rfl, World.ownsRow_made V #[] 0 HB2.out.size (by decide) (by simp), HB2.out.alloc HB2.out.size _⟩
  cases hb : btw 0 z ((n : Int) - 1)
  · have HG := Lib.hid hg
    have HF := Lib.hid (show thrIds ts z = [] ∧ thrOk ts z = false by unfold thrIds thrOk; rw [hg, HL.out, hb]; exact ⟨rfl, rfl⟩)
    have HIN := Lib.hid (one_in hb)
    clear hg hb
    go_enter Tryd.func37, Tryd.ntmps37
    go_wp2_with fail
    refine (net_any A n cap ts C true HC HG w hn hts hT).mono ?_
    rintro e w1 ⟨rfl, b1⟩
    have HB1 := Lib.hid b1
    clear b1
    have hst := lay_net hcz HC1.out w1
    have HB2 := Lib.hid (HB1.out.alloc HB1.out.size (.cells C 73))
    go_upto_region 2 with fail
    obtain ⟨V, HV⟩ : ∃ V, Hid (w1.alloc (.cells C 73) = V) := ⟨_, Lib.hid rfl⟩
    rw [HV.out] at HB2
    rw [HV.out]
    clear hst HV
    go_wp2_with fail
    refine (within_new 0 ((n : Int) - 1) 1 [z] 1 3 _ false V _ rfl rfl (by decide) rfl HIN.out).mono ?_
    rintro e w9 ⟨rfl, rfl⟩
    simp only [List.map_cons, List.map_nil]
    have HB3 := Lib.hid (HB2.out.alloc HB2.out.size (.cells #[.int .i64 z] 3))
    obtain ⟨U, HU⟩ : ∃ U, Hid (V.alloc (.cells #[.int .i64 z] 3) = U) := ⟨_, Lib.hid rfl⟩
    rw [HU.out] at HB3
    rw [HU.out]
    clear HU HB2
    go_wp2_with fail
    go_ret2
    refine ⟨_, ?_, by rw [HF.out.1]; exact World.ownsRow_made U #[] 0 HB3.out.size (by decide) (by simp), HB3.out.alloc HB3.out.size _⟩
    rw [HF.out.2]; rfl
  have HG := Lib.hid hg
  have HIN := Lib.hid (one_in hb)
  obtain ⟨CL, HCL⟩ : ∃ C, Hid (clIds ts = C) := ⟨_, Lib.hid rfl⟩
  have HTR := Lib.hid (show tru (clS ts) 12 = CL by rw [cl_S]; exact HCL.out)
  obtain ⟨m0, HM0⟩ : ∃ m, Hid (CL.length = m) := ⟨_, Lib.hid rfl⟩
  have hm12 : m0 ≤ 12 := by rw [← HM0.out, ← HCL.out]; exact clIds_len ts
  have HOKS := Lib.hid (show ∀ c ∈ CL, lpOk ts c = true from fun c hc => by unfold lpOk; rw [hg, HCL.out, mem_iff.2 hc]; rfl)
  have HF := Lib.hid (show thrIds ts z = thrL ts z CL ∧ thrOk ts z = true by unfold thrIds thrOk; rw [hg, HL.out, hb, HCL.out]; exact ⟨rfl, rfl⟩)
  clear hg hb
  go_enter Tryd.func37, Tryd.ntmps37
  go_wp2_with fail
  refine (net_any A n cap ts C true HC HG w hn hts hT).mono ?_
  rintro e w1 ⟨rfl, b1⟩
  have HB1 := Lib.hid b1
  clear b1
  have hst := lay_net hcz HC1.out w1
  have HB2 := Lib.hid (HB1.out.alloc HB1.out.size (.cells C 73))
  go_upto_region 2 with fail
  obtain ⟨V, HV⟩ : ∃ V, Hid (w1.alloc (.cells C 73) = V) := ⟨_, Lib.hid rfl⟩
  obtain ⟨G, HGG⟩ : ∃ V, Hid (w1.heap.size = V) := ⟨_, Lib.hid rfl⟩
  have HGV := Lib.hid (show Blk V G 73 C by rw [← HV.out, ← HGG.out]; exact Blk.new _ _ _)
  rw [HV.out] at HB2
  try rw [HGG.out]
  try simp only [HGG.out]
  rw [HV.out]
  clear hst HV HGG HB1
  go_wp2_with fail
  refine (within_new 0 ((n : Int) - 1) 1 [z] 1 3 _ true V _ rfl rfl (by decide) rfl HIN.out).mono ?_
  rintro e w9 ⟨rfl, rfl⟩
  simp only [List.map_cons, List.map_nil]
  have HB3 := Lib.hid (HB2.out.alloc HB2.out.size (.cells #[.int .i64 z] 3))
  have HG3 := Lib.hid (HGV.out.alloc (.cells #[.int .i64 z] 3))
  obtain ⟨U, HU⟩ : ∃ U, Hid (V.alloc (.cells #[.int .i64 z] 3) = U) := ⟨_, Lib.hid rfl⟩
  rw [HU.out] at HB3 HG3
  rw [HU.out]
  clear HU HB2 HGV
  have HR4 := Lib.hid (show (U.alloc (.cells #[] 3)).ownsRow w.heap.size 3 1 (.slice (some ⟨U.heap.size, 0, none⟩) 0 0) 0 [] from World.ownsRow_made U #[] 0 HB3.out.size (by decide) (by simp))
  have HB4 := Lib.hid (HB3.out.alloc HB3.out.size (.cells #[] 3))
  have HG4 := Lib.hid (HG3.out.alloc (.cells #[] 3))
  go_upto_region 5 with fail
  obtain ⟨V2, HV2⟩ : ∃ V2, Hid (U.alloc (.cells #[] 3) = V2) := ⟨_, Lib.hid rfl⟩
  obtain ⟨G2, HGG2⟩ : ∃ V, Hid (U.heap.size = V) := ⟨_, Lib.hid rfl⟩
  rw [HV2.out, HGG2.out] at HR4
  rw [HV2.out] at HB4 HG4
  try rw [HGG2.out]
  try simp only [HGG2.out]
  rw [HV2.out]
  clear HV2 HGG2 HB3 HG3
  have HN4 := Lib.hid (show BsAt V2 G 44 (clS ts) from bs_cl (nok_S ts) (by rw [HC.out]; exact HG4.out))
  go_wp2_with fail
  refine (marked_any G 44 12 _ _ (Lib.hid ((nok_S ts).2)) (by decide) HN4).mono ?_
  rintro e w5 ⟨A1, c1, rfl, ho, b5⟩
  rw [HTR.out, HM0.out] at ho
  rw [HTR.out, HM0.out]
  have HB5 := Lib.hid (HB4.out.trans (b5.mono HB4.out.size))
  have HR5 := Lib.hid (row_below HR4.out b5)
  have HG5 := Lib.hid (HG4.out.below b5 HG4.out.lt)
  obtain ⟨sb, HSB⟩ : ∃ s, Hid (V2.heap.size = s) := ⟨_, Lib.hid rfl⟩
  have hG2 : G2 < sb := by rw [← HSB.out]; exact (HR4.out.lt G2 rfl).2
  have hGsb : G < sb := by rw [← HSB.out]; exact HG4.out.lt
  rw [HSB.out] at ho
  have HP5 := Lib.hid ho
  have HNE0 := Lib.hid (show ∀ g, (Value.slice (some ⟨G2, 0, none⟩) 0 0).ownBlock = some g → ¬ (Value.slice A1 m0 c1).ownBlock = some g from fun g e h => by
    have e2 : G2 = g := own_eq (n := 0) (c := 0) e
    have := (ho.lt g h).1
    omega)
  clear ho b5 HB4 HR4 HG4 HN4 HSB
  go_wp2_with fail
  go_loopw [8, 33] (fun v i wr => ∃ (k m c : Nat) (A2 : Option Addr), k ≤ m0 ∧ i = .int .i64 (k : Nat) ∧ m ≤ k ∧ v = .slice A2 m c ∧ Hid ((thrL ts z (CL.take k)).length = m) ∧ (∀ g, (Value.slice A2 m c).ownBlock = some g → ¬ (Value.slice A1 m0 c1).ownBlock = some g) ∧ wr.ownsRow w.heap.size 3 1 (.slice A2 m c) m (ints.intsV (thrL ts z (CL.take k))) ∧ wr.ownsRow sb 3 1 (.slice A1 m0 c1) m0 (ints.intsV CL) ∧ Blk wr G 73 C ∧ Below w.heap.size w wr) (fun _ i _ => m0 - (intOf i).toNat)
  case atStart => exact ⟨0, 0, 0, _, Nat.zero_le _, rfl, Nat.le_refl _, rfl, Lib.hid rfl, HNE0.out, HR5.out, HP5.out, HG5.out, HB5.out⟩
  case round =>
    obtain ⟨k, m, c, A2, hk, rfl, hmk, rfl, HM, hne, hO, hP, hGk, hB⟩ := hrel
    have HO := Lib.hid hO
    have HP := Lib.hid hP
    have HB := Lib.hid hB
    have HGk := Lib.hid hGk
    have HNE := Lib.hid hne
    have hBs := hB.size
    clear hO hP hB hne hGk HR5 HP5 HB5 HG5 HNE0
    have hk0 : (0 : Int) ≤ (k : Int) := by omega
    by_cases hlt : k < m0
    · obtain ⟨cc, hcc⟩ := at_lt HM0.out hlt
      have HOKC := Lib.hid (HOKS.out cc (List.mem_of_getElem? hcc))
      obtain ⟨gC, rfl, eC⟩ := (ints.IL.of_own HP.out).2 k cc hcc
      have HTS := Lib.hid (thr_step (ts := ts) (i := z) hcc)
      have HCC := Lib.hid hcc
      obtain ⟨L, HLL⟩ : ∃ L, Hid (lpIds ts cc = L) := ⟨_, Lib.hid rfl⟩
      obtain ⟨mL, HML⟩ : ∃ m, Hid (L.length = m) := ⟨_, Lib.hid rfl⟩
      have hmL : mL ≤ 13 := by rw [← HML.out, ← HLL.out]; exact lpIds_len
      have hki : (k : Int) < (m0 : Int) := by omega
      have hkd : decide (k < m0) = true := by simpa using hlt
      clear hcc
      go_upto_region 8 with fail
      refine wp_region_list ?_
      refine step_move _ rfl _ rfl _ rfl ?_
      simp only [Act.put, List.getElem_toArray, List.getElem_cons_succ, List.getElem_cons_zero, List.setIfInBounds_toArray, List.set_cons_zero, List.set_cons_succ]
      refine step_load _ rfl _ rfl G _ rfl HGk.out hcz ?_
      simp only [Act.put, List.getElem_toArray, List.getElem_cons_succ, List.getElem_cons_zero, List.setIfInBounds_toArray, List.set_cons_zero, List.set_cons_succ]
      go_wp2_with fail
      refine (treeLoop_any A n cap ts cc C _ HC HOKC (Lib.hid (hts.out.step HB.out))).mono ?_
      rintro e w6 ⟨W, g, rfl, hb6, h1, h2, h3⟩
      have H1 := Lib.hid h1
      have H2 := Lib.hid h2
      have HB6 := Lib.hid (HB.out.trans (hb6.mono hBs))
      have HO6 := Lib.hid (row_below HO.out hb6)
      have HP6 := Lib.hid (row_below HP.out hb6)
      have HG6 := Lib.hid (HGk.out.below hb6 HGk.out.lt)
      have hl : W.length ≤ 1000 := by have := congrArg List.length h2; rw [List.length_map] at this; have := lpIds_len (ts := ts) (i := cc); omega
      clear h1 h2 h3 hb6 HB HO HP HGk eC
      go_wp2_with fail
      refine (legsAlong_any W _ w6 hl H1).mono ?_
      rintro e w7 ⟨v7, rfl, ho7, b7⟩
      rw [H2.out, HLL.out, HML.out] at ho7
      obtain ⟨A5, c5, rfl⟩ := row_slice ho7
      have HI5 := Lib.hid (ints.IL.of_own ho7)
      have HB5 := Lib.hid (HB6.out.trans (b7.mono HB6.out.size))
      have HO5 := Lib.hid (row_below HO6.out b7)
      have HP5 := Lib.hid (row_below HP6.out b7)
      have HG5 := Lib.hid (HG6.out.below b7 HG6.out.lt)
      have hB5s := HB5.out.size
      clear b7 ho7 HB6 HO6 HP6 HG6 H1 H2
      cases hmm : mem L z
      · have HMM := Lib.hid hmm
        have HC := Lib.hid (show thrL ts z (CL.take (k + 1)) = thrL ts z (CL.take k) by rw [HTS.out, HLL.out, hmm]; rfl)
        clear hmm
        go_wp2_with fail
        refine (contains_int A5 mL c5 L z false HMM _ (by omega) HI5).mono ?_
        rintro e w9 ⟨rfl, rfl⟩
        go_wp2_with fail
        go_roundw
        case rel => exact ⟨k + 1, m, c, A2, by omega, by go_num, by omega, rfl, Lib.hid (by rw [HC.out]; exact HM.out), HNE.out, by rw [HC.out]; exact HO5.out, HP5.out, HG5.out, HB5.out⟩
        case measure => simp [intOf]; omega
      · have HMM := Lib.hid hmm
        have HC := Lib.hid (show thrL ts z (CL.take (k + 1)) = thrL ts z (CL.take k) ++ [cc] by rw [HTS.out, HLL.out, hmm]; rfl)
        clear hmm
        go_wp2_with fail
        refine (contains_int A5 mL c5 L z true HMM _ (by omega) HI5).mono ?_
        rintro e w9 ⟨rfl, rfl⟩
        go_wp2_with (at_builtin; refine wpList_append_lies _ rfl _ _ 24 rfl w.heap.size 3 i0 (.int .i64 0) 1 8 Tryd.underlying24 hi hz0 hz1 hz2 rfl (by decide) _ _ _ rfl (HO5.out.alloc _) ⟨w7.heap.size, 0, none⟩ 1 1 [.int .i64 cc] rfl rfl (cell_one_new _ _ _) (by simp [Value.oneCell']) (by decide) (by unfold maxLen; omega) (by omega) (by simp; omega) _ rfl ?_; intro g9 c9 w3 hown' hgrow hat hlt9)
        have hgC := (HP5.out.lt gC rfl).2
        have HNE9 := Lib.hid (show ∀ g, (Value.slice (some ⟨g9, 0, none⟩) (m + 1) c9).ownBlock = some g → ¬ (Value.slice (some ⟨gC, 0, none⟩) m0 c1).ownBlock = some g from fun g e h => by
          have e1 : g9 = g := own_eq (n := m + 1) (c := c9) e
          have e2 : gC = g := own_eq (n := m0) (c := c1) h
          rcases hat with z | z
          · exact HNE.out g9 z (by rw [e1, ← e2]; rfl)
          · have z2 : g9 = w7.heap.size + 1 := by simpa using z
            omega)
        have HAL := Lib.hid ((Below.refl w7.heap.size w7).alloc (Nat.le_refl _) (.cells #[.int .i64 cc] 3))
        have HP9 := Lib.hid ((row_below HP5.out HAL.out).kept hgrow (.inr (fun e => HNE.out gC e.symm rfl)))
        have HB9 := Lib.hid ((HB5.out.trans (HAL.out.mono hB5s)).grown hgrow (by simp; omega) (fun g e => (HO5.out.lt g e).1))
        have HG9 := Lib.hid ((HG5.out.alloc (.cells #[.int .i64 cc] 3)).grown hgrow (by have := own_blk_ne HO5.out HG5.out (by decide); exact fun q => this q.symm))
        have HO9 := Lib.hid (show w3.ownsRow w.heap.size 3 1 (.slice (some ⟨g9, 0, none⟩) (m + 1) c9) (m + 1) (ints.intsV (thrL ts z (CL.take (k + 1)))) by rw [HC.out, intsV_app]; exact hown')
        clear hown' hgrow hat
        go_wp2_with fail
        go_roundw
        case rel => exact ⟨k + 1, m + 1, c9, some ⟨g9, 0, none⟩, by omega, by go_num, by omega, rfl, Lib.hid (by rw [HC.out, List.length_append, HM.out]; rfl), HNE9.out, HO9.out, HP9.out, HG9.out, HB9.out⟩
        case measure => simp [intOf]; omega
    · have hkd : decide (k < m0) = false := by simpa using hlt
      obtain rfl : k = m0 := by omega
      have HFIN := Lib.hid (show wr.ownsRow w.heap.size 3 1 (.slice A2 m c) (thrIds ts z).length (ints.intsV (thrIds ts z)) by
        have h := HO.out
        have hm := HM.out
        rw [show k = CL.length from HM0.out.symm, List.take_length] at h hm
        rw [HF.out.1, hm]; exact h)
      have HT2 := Lib.hid HF.out.2
      clear hlt
      go_wp2_with fail
      go_ret2
      refine ⟨_, ?_, HFIN.out, HB.out⟩
      rw [HT2.out]; rfl
end Go.Proofs.YtkeepfkjhcmhlaaDoor.lpi
