/-
  LoopsThrough, by the program.
  Conditions: the legs lie in one block, at most 2000000 of them; the variable holds the table of the sines.
-/
import Derived.Test.YtkeepfkjhcmhlaaDoorKiH
namespace Go.Proofs.YtkeepfkjhcmhlaaDoor.lpi
open Go.RowKit
open reads base ty lg lgi win rowi hs nt nq sn lp
set_option linter.unusedVariables false
set_option linter.unusedSimpArgs false

theorem thrIds_le (ts : List Lg) (i : Int) : (thrIds ts i).length ≤ 12 := by
  unfold thrIds
  split
  · exact Nat.le_trans (thrL_len ts i _) (clIds_len ts)
  · exact Nat.zero_le _
set_option maxHeartbeats 16000000 in
set_option maxRecDepth 100000 in
theorem through_impl (A : Option Addr) (n cap : Nat) (ts : List Lg) (z : Int) (w : World) (hn : n ≤ 2000000) (hts : Hid (LgAt w w.heap.size A n ts)) (hT : Hid (Tab w)) :
    Calls Tryd.prog 37 #[.slice A n cap, .int .i64 z] w (LPost (thrIds ts z) (thrOk ts z) w) := by
  obtain ⟨i0, hi, hz0, hz1, hz2⟩ := info_parts infoI
  have HL := Lib.hid hts.out.1
  obtain ⟨C, HC⟩ : ∃ C, Hid (nv (netS ts) (clS ts) = C) := ⟨_, Lib.hid rfl⟩
  have hcz : C.size = 56 := by rw [← HC.out]; exact nv_size (nok_S ts)
  have HC1 := Lib.hid (show C.all (·.oneCell') = true by rw [← HC.out]; exact nv_one)
  cases hg : goodLg ts
  · have HG := Lib.hid hg
    have HF := Lib.hid (show thrIds ts z = [] ∧ thrOk ts z = false by unfold thrIds thrOk; rw [hg]; exact ⟨rfl, rfl⟩)
    clear hg
    rw [HF.out.1, HF.out.2]
    go_enter Tryd.func37, Tryd.ntmps37
    go_wp2_with fail
    refine (net_any A n cap ts C false HC HG w hn hts hT).mono ?_
    rintro e w1 ⟨rfl, b1⟩
    have HB1 := Lib.hid b1
    clear b1
    have hst := lay_net hcz HC1.out w1
    have HB2 := Lib.hid (HB1.out.alloc HB1.out.size (.cells C 73))
    go_upto_region 2 with fail
    obtain ⟨V, HV⟩ : ∃ V, Hid (w1.alloc (.cells C 73) = V) := ⟨_, Lib.hid rfl⟩
    rw [HV.out] at HB2
    rw [HV.out]
    clear hst HV
    go_wp2_with fail
    go_ret2
    exact ⟨_, rfl, World.ownsRow_made V #[] 0 HB2.out.size (by decide) (by simp), HB2.out.alloc HB2.out.size _⟩
  cases hb : btw 0 z ((n : Int) - 1)
  · have HG := Lib.hid hg
    have HF := Lib.hid (show thrIds ts z = [] ∧ thrOk ts z = false by unfold thrIds thrOk; rw [hg, HL.out, hb]; exact ⟨rfl, rfl⟩)
    have HIN := Lib.hid (one_in hb)
    clear hg hb
    go_enter Tryd.func37, Tryd.ntmps37
    go_wp2_with fail
    refine (net_any A n cap ts C true HC HG w hn hts hT).mono ?_
    rintro e w1 ⟨rfl, b1⟩
    have HB1 := Lib.hid b1
    clear b1
    have hst := lay_net hcz HC1.out w1
    have HB2 := Lib.hid (HB1.out.alloc HB1.out.size (.cells C 73))
    go_upto_region 2 with fail
    obtain ⟨V, HV⟩ : ∃ V, Hid (w1.alloc (.cells C 73) = V) := ⟨_, Lib.hid rfl⟩
    rw [HV.out] at HB2
    rw [HV.out]
    clear hst HV
    go_wp2_with fail
    refine (within_new 0 ((n : Int) - 1) 1 [z] 1 3 _ false V _ rfl rfl (by decide) rfl HIN.out).mono ?_
    rintro e w9 ⟨rfl, rfl⟩
    simp only [List.map_cons, List.map_nil]
    have HB3 := Lib.hid (HB2.out.alloc HB2.out.size (.cells #[.int .i64 z] 3))
    obtain ⟨U, HU⟩ : ∃ U, Hid (V.alloc (.cells #[.int .i64 z] 3) = U) := ⟨_, Lib.hid rfl⟩
    rw [HU.out] at HB3
    rw [HU.out]
    clear HU HB2
    go_wp2_with fail
    go_ret2
    refine ⟨_, ?_, by rw [HF.out.1]; exact World.ownsRow_made U #[] 0 HB3.out.size (by decide) (by simp), HB3.out.alloc HB3.out.size _⟩
    rw [HF.out.2]; rfl
  have HG := Lib.hid hg
  have HIN := Lib.hid (one_in hb)
  obtain ⟨CL, HCL⟩ : ∃ C, Hid (clIds ts = C) := ⟨_, Lib.hid rfl⟩
  have HTR := Lib.hid (show tru (clS ts) 12 = CL by rw [cl_S]; exact HCL.out)
  obtain ⟨m0, HM0⟩ : ∃ m, Hid (CL.length = m) := ⟨_, Lib.hid rfl⟩
  have hm12 : m0 ≤ 12 := by rw [← HM0.out, ← HCL.out]; exact clIds_len ts
  have HOKS := Lib.hid (show ∀ c ∈ CL, lpOk ts c = true from fun c hc => by unfold lpOk; rw [hg, HCL.out, mem_iff.2 hc]; rfl)
  have HF := Lib.hid (show thrIds ts z = thrL ts z CL ∧ thrOk ts z = true by unfold thrIds thrOk; rw [hg, HL.out, hb, HCL.out]; exact ⟨rfl, rfl⟩)
  clear hg hb
  go_enter Tryd.func37, Tryd.ntmps37
  go_wp2_with fail
  refine (net_any A n cap ts C true HC HG w hn hts hT).mono ?_
  rintro e w1 ⟨rfl, b1⟩
  have HB1 := Lib.hid b1
  clear b1
  have hst := lay_net hcz HC1.out w1
  have HB2 := Lib.hid (HB1.out.alloc HB1.out.size (.cells C 73))
  go_upto_region 2 with fail
  obtain ⟨V, HV⟩ : ∃ V, Hid (w1.alloc (.cells C 73) = V) := ⟨_, Lib.hid rfl⟩
  obtain ⟨G, HGG⟩ : ∃ V, Hid (w1.heap.size = V) := ⟨_, Lib.hid rfl⟩
  have HGV := Lib.hid (show Blk V G 73 C by rw [← HV.out, ← HGG.out]; exact Blk.new _ _ _)
  rw [HV.out] at HB2
  try rw [HGG.out]
  try simp only [HGG.out]
  rw [HV.out]
  clear hst HV HGG HB1
  go_wp2_with fail
  refine (within_new 0 ((n : Int) - 1) 1 [z] 1 3 _ true V _ rfl rfl (by decide) rfl HIN.out).mono ?_
  rintro e w9 ⟨rfl, rfl⟩
  simp only [List.map_cons, List.map_nil]
  have HB3 := Lib.hid (HB2.out.alloc HB2.out.size (.cells #[.int .i64 z] 3))
  have HG3 := Lib.hid (HGV.out.alloc (.cells #[.int .i64 z] 3))
  obtain ⟨U, HU⟩ : ∃ U, Hid (V.alloc (.cells #[.int .i64 z] 3) = U) := ⟨_, Lib.hid rfl⟩
  rw [HU.out] at HB3 HG3
  rw [HU.out]
  clear HU HB2 HGV
  have HR4 := Lib.hid (show (U.alloc (.cells #[] 3)).ownsRow w.heap.size 3 1 (.slice (some ⟨U.heap.size, 0, none⟩) 0 0) 0 [] from World.ownsRow_made U #[] 0 HB3.out.size (by decide) (by simp))
  have HB4 := Lib.hid (HB3.out.alloc HB3.out.size (.cells #[] 3))
  have HG4 := Lib.hid (HG3.out.alloc (.cells #[] 3))
  go_upto_region 5 with fail
  obtain ⟨V2, HV2⟩ : ∃ V2, Hid (U.alloc (.cells #[] 3) = V2) := ⟨_, Lib.hid rfl⟩
  obtain ⟨G2, HGG2⟩ : ∃ V, Hid (U.heap.size = V) := ⟨_, Lib.hid rfl⟩
  rw [HV2.out, HGG2.out] at HR4
  rw [HV2.out] at HB4 HG4
  try rw [HGG2.out]
  try simp only [HGG2.out]
  rw [HV2.out]
  clear HV2 HGG2 HB3 HG3
  have HN4 := Lib.hid (show BsAt V2 G 44 (clS ts) from bs_cl (nok_S ts) (by rw [HC.out]; exact HG4.out))
  go_wp2_with fail
  refine (marked_any G 44 12 _ _ (Lib.hid ((nok_S ts).2)) (by decide) HN4).mono ?_
  rintro e w5 ⟨A1, c1, rfl, ho, b5⟩
  rw [HTR.out, HM0.out] at ho
  rw [HTR.out, HM0.out]
  have HB5 := Lib.hid (HB4.out.trans (b5.mono HB4.out.size))
  have HR5 := Lib.hid (row_below HR4.out b5)
  have HG5 := Lib.hid (HG4.out.below b5 HG4.out.lt)
  obtain ⟨sb, HSB⟩ : ∃ s, Hid (V2.heap.size = s) := ⟨_, Lib.hid rfl⟩
  have hG2 : G2 < sb := by rw [← HSB.out]; exact (HR4.out.lt G2 rfl).2
  have hGsb : G < sb := by rw [← HSB.out]; exact HG4.out.lt
  rw [HSB.out] at ho
  have HP5 := Lib.hid ho
  have HNE0 := Lib.hid (show ∀ g, (Value.slice (some ⟨G2, 0, none⟩) 0 0).ownBlock = some g → ¬ (Value.slice A1 m0 c1).ownBlock = some g from fun g e h => by
    have e2 : G2 = g := own_eq (n := 0) (c := 0) e
    have := (ho.lt g h).1
    omega)
  clear ho b5 HB4 HR4 HG4 HN4 HSB
  go_wp2_with fail
  go_loopw [8, 33] (fun v i wr => ∃ (k m c : Nat) (A2 : Option Addr), k ≤ m0 ∧ i = .int .i64 (k : Nat) ∧ m ≤ k ∧ v = .slice A2 m c ∧ Hid ((thrL ts z (CL.take k)).length = m) ∧ (∀ g, (Value.slice A2 m c).ownBlock = some g → ¬ (Value.slice A1 m0 c1).ownBlock = some g) ∧ wr.ownsRow w.heap.size 3 1 (.slice A2 m c) m (ints.intsV (thrL ts z (CL.take k))) ∧ wr.ownsRow sb 3 1 (.slice A1 m0 c1) m0 (ints.intsV CL) ∧ Blk wr G 73 C ∧ Below w.heap.size w wr) (fun _ i _ => m0 - (intOf i).toNat)
  case atStart => exact ⟨0, 0, 0, _, Nat.zero_le _, rfl, Nat.le_refl _, rfl, Lib.hid rfl, HNE0.out, HR5.out, HP5.out, HG5.out, HB5.out⟩
  case round =>
    obtain ⟨k, m, c, A2, hk, rfl, hmk, rfl, HM, hne, hO, hP, hGk, hB⟩ := hrel
    have HO := Lib.hid hO
    have HP := Lib.hid hP
    have HB := Lib.hid hB
    have HGk := Lib.hid hGk
    have HNE := Lib.hid hne
    have hBs := hB.size
    clear hO hP hB hne hGk HR5 HP5 HB5 HG5 HNE0
    have hk0 : (0 : Int) ≤ (k : Int) := by omega
    by_cases hlt : k < m0
    · obtain ⟨cc, hcc⟩ := at_lt HM0.out hlt
      have HOKC := Lib.hid (HOKS.out cc (List.mem_of_getElem? hcc))
      obtain ⟨gC, rfl, eC⟩ := (ints.IL.of_own HP.out).2 k cc hcc
      have HTS := Lib.hid (thr_step (ts := ts) (i := z) hcc)
      have HCC := Lib.hid hcc
      obtain ⟨L, HLL⟩ : ∃ L, Hid (lpIds ts cc = L) := ⟨_, Lib.hid rfl⟩
      obtain ⟨mL, HML⟩ : ∃ m, Hid (L.length = m) := ⟨_, Lib.hid rfl⟩
      have hmL : mL ≤ 13 := by rw [← HML.out, ← HLL.out]; exact lpIds_len
      have hki : (k : Int) < (m0 : Int) := by omega
      have hkd : decide (k < m0) = true := by simpa using hlt
      clear hcc
      go_upto_region 8 with fail
      refine wp_region_list ?_
      refine step_move _ rfl _ rfl _ rfl ?_
      simp only [Act.put, List.getElem_toArray, List.getElem_cons_succ, List.getElem_cons_zero, List.setIfInBounds_toArray, List.set_cons_zero, List.set_cons_succ]
      refine step_load _ rfl _ rfl G _ rfl HGk.out hcz ?_
      simp only [Act.put, List.getElem_toArray, List.getElem_cons_succ, List.getElem_cons_zero, List.setIfInBounds_toArray, List.set_cons_zero, List.set_cons_succ]
      go_wp2_with fail
      refine (treeLoop_any A n cap ts cc C _ HC HOKC (Lib.hid (hts.out.step HB.out))).mono ?_
      rintro e w6 ⟨W, g, rfl, hb6, h1, h2, h3⟩
      have H1 := Lib.hid h1
      have H2 := Lib.hid h2
      have HB6 := Lib.hid (HB.out.trans (hb6.mono hBs))
      have HO6 := Lib.hid (row_below HO.out hb6)
      have HP6 := Lib.hid (row_below HP.out hb6)
      have HG6 := Lib.hid (HGk.out.below hb6 HGk.out.lt)
      have hl : W.length ≤ 1000 := by have := congrArg List.length h2; rw [List.length_map] at this; have := lpIds_len (ts := ts) (i := cc); omega
      clear h1 h2 h3 hb6 HB HO HP HGk eC
      go_wp2_with fail
      refine (legsAlong_any W _ w6 hl H1).mono ?_
      rintro e w7 ⟨v7, rfl, ho7, b7⟩
      rw [H2.out, HLL.out, HML.out] at ho7
      obtain ⟨A5, c5, rfl⟩ := row_slice ho7
      have HI5 := Lib.hid (ints.IL.of_own ho7)
      have HB5 := Lib.hid (HB6.out.trans (b7.mono HB6.out.size))
      have HO5 := Lib.hid (row_below HO6.out b7)
      have HP5 := Lib.hid (row_below HP6.out b7)
      have HG5 := Lib.hid (HG6.out.below b7 HG6.out.lt)
      have hB5s := HB5.out.size
      clear b7 ho7 HB6 HO6 HP6 HG6 H1 H2
      cases hmm : mem L z
      · have HMM := Lib.hid hmm
        have HC := Lib.hid (show thrL ts z (CL.take (k + 1)) = thrL ts z (CL.take k) by rw [HTS.out, HLL.out, hmm]; rfl)
        clear hmm
        go_wp2_with fail
        refine (contains_int A5 mL c5 L z false HMM _ (by omega) HI5).mono ?_
        rintro e w9 ⟨rfl, rfl⟩
        go_wp2_with fail
        go_roundw
        case rel => exact ⟨k + 1, m, c, A2, by omega, by go_num, by omega, rfl, Lib.hid (by rw [HC.out]; exact HM.out), HNE.out, by rw [HC.out]; exact HO5.out, HP5.out, HG5.out, HB5.out⟩
        case measure => simp [intOf]; omega
      · have HMM := Lib.hid hmm
        have HC := Lib.hid (show thrL ts z (CL.take (k + 1)) = thrL ts z (CL.take k) ++ [cc] by rw [HTS.out, HLL.out, hmm]; rfl)
        clear hmm
        go_wp2_with fail
        refine (contains_int A5 mL c5 L z true HMM _ (by omega) HI5).mono ?_
        rintro e w9 ⟨rfl, rfl⟩
        go_wp2_with (at_builtin; refine wpList_append_lies _ rfl _ _ 24 rfl w.heap.size 3 i0 (.int .i64 0) 1 8 Tryd.underlying24 hi hz0 hz1 hz2 rfl (by decide) _ _ _ rfl (HO5.out.alloc _) ⟨w7.heap.size, 0, none⟩ 1 1 [.int .i64 cc] rfl rfl (cell_one_new _ _ _) (by simp [Value.oneCell']) (by decide) (by unfold maxLen; omega) (by omega) (by simp; omega) _ rfl ?_; intro g9 c9 w3 hown' hgrow hat hlt9)
        have hgC := (HP5.out.lt gC rfl).2
        have HNE9 := Lib.hid (show ∀ g, (Value.slice (some ⟨g9, 0, none⟩) (m + 1) c9).ownBlock = some g → ¬ (Value.slice (some ⟨gC, 0, none⟩) m0 c1).ownBlock = some g from fun g e h => by
          have e1 : g9 = g := own_eq (n := m + 1) (c := c9) e
          have e2 : gC = g := own_eq (n := m0) (c := c1) h
          rcases hat with z | z
          · exact HNE.out g9 z (by rw [e1, ← e2]; rfl)
          · have z2 : g9 = w7.heap.size + 1 := by simpa using z
            omega)
        have HAL := Lib.hid ((Below.refl w7.heap.size w7).alloc (Nat.le_refl _) (.cells #[.int .i64 cc] 3))
        have HP9 := Lib.hid ((row_below HP5.out HAL.out).kept hgrow (.inr (fun e => HNE.out gC e.symm rfl)))
        have HB9 := Lib.hid ((HB5.out.trans (HAL.out.mono hB5s)).grown hgrow (by simp; omega) (fun g e => (HO5.out.lt g e).1))
        have HG9 := Lib.hid ((HG5.out.alloc (.cells #[.int .i64 cc] 3)).grown hgrow (by have := own_blk_ne HO5.out HG5.out (by decide); exact fun q => this q.symm))
        have HO9 := Lib.hid (show w3.ownsRow w.heap.size 3 1 (.slice (some ⟨g9, 0, none⟩) (m + 1) c9) (m + 1) (ints.intsV (thrL ts z (CL.take (k + 1)))) by rw [HC.out, intsV_app]; exact hown')
        clear hown' hgrow hat
        go_wp2_with fail
        go_roundw
        case rel => exact ⟨k + 1, m + 1, c9, some ⟨g9, 0, none⟩, by omega, by go_num, by omega, rfl, Lib.hid (by rw [HC.out, List.length_append, HM.out]; rfl), HNE9.out, HO9.out, HP9.out, HG9.out, HB9.out⟩
        case measure => simp [intOf]; omega
    · have hkd : decide (k < m0) = false := by simpa using hlt
      obtain rfl : k = m0 := by omega
      have HFIN := Lib.hid (show wr.ownsRow w.heap.size 3 1 (.slice A2 m c) (thrIds ts z).length (ints.intsV (thrIds ts z)) by
        have h := HO.out
        have hm := HM.out
        rw [show k = CL.length from HM0.out.symm, List.take_length] at h hm
        rw [HF.out.1, hm]; exact h)
      have HT2 := Lib.hid HF.out.2
      clear hlt
      go_wp2_with fail
      go_ret2
      refine ⟨_, ?_, HFIN.out, HB.out⟩
      rw [HT2.out]; rfl
#print axioms through_impl
end Go.Proofs.YtkeepfkjhcmhlaaDoor.lpi
