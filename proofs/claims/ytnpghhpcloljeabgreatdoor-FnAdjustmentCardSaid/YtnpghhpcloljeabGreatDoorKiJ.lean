/-
  IsBridge and BridgesOf, by the program.
  Conditions: those that each theorem names.
-/
import Derived.Test.YtnpghhpcloljeabGreatDoorKiN
import Derived.Test.YtnpghhpcloljeabGreatDoorKuMq
import Derived.Test.YtnpghhpcloljeabGreatDoorNqG0q
import Derived.Test.YtnpghhpcloljeabGreatDoorReadsq
import Derived.Deep.RegionHeld3
import Derived.Deep.DeepCutAuto
import Derived.OwnWalk
import Derived.Test.YtnpghhpcloljeabGreatDoorNtCq
import Derived.Test.YtnpghhpcloljeabGreatDoorLgRaq
import Derived.Deep.QuietTactic
import Derived.BigQuiet
import Derived.Deep.RegionWith
namespace Go.Proofs.YtnpghhpcloljeabGreatDoor.lpi
open Go.RowKit
open reads base ty lg lgi win rowi hs nt nq sn lp
set_option linter.unusedVariables false
set_option linter.unusedSimpArgs false
theorem brIds_len (ts : List Lg) : (brIds ts).length ≤ 12 := by
  unfold brIds
  cases h : goodLg ts
  · exact Nat.zero_le _
  · exact Nat.le_trans (brN_len ts ts.length) (goodLg_len h)
set_option maxHeartbeats 16000000 in
set_option maxRecDepth 100000 in
theorem bridgesOf_impl (A : Option Addr) (n cap : Nat) (ts : List Lg) (w : World) (hn : n ≤ 2000000) (hts : Hid (LgAt w w.heap.size A n ts)) (hT : Hid (Tab w)) :
    Calls Tryz.prog 17 #[.slice A n cap] w (LPost (brIds ts) (goodLg ts) w) := by
  obtain ⟨i0, hi, hz0, hz1, hz2⟩ := info_parts infoI
  have HL := Lib.hid hts.out.1
  obtain ⟨C, HC⟩ : ∃ C, Hid (nv (netS ts) (clS ts) = C) := ⟨_, Lib.hid rfl⟩
  have hcz : C.size = 56 := by rw [← HC.out]; exact nv_size (nok_S ts)
  have HC1 := Lib.hid (show C.all (·.oneCell') = true by rw [← HC.out]; exact nv_one)
  cases hg : goodLg ts
  · have HG := Lib.hid hg
    have HF := Lib.hid (show brIds ts = [] by unfold brIds; rw [hg]; rfl)
    clear hg
    go_enter Tryz.func17, Tryz.ntmps17
    go_wp2_with fail
    refine (net_any A n cap ts C false HC HG w hn hts hT).mono ?_
    rintro e w1 ⟨rfl, b1⟩
    have HB1 := Lib.hid b1
    clear b1
    have hst := lay_net hcz HC1.out w1
    have HB2 := Lib.hid (HB1.out.alloc HB1.out.size (.cells C 76))
    go_upto_region 2 with fail
    obtain ⟨V, HV⟩ : ∃ V, Hid (w1.alloc (.cells C 76) = V) := ⟨_, Lib.hid rfl⟩
    rw [HV.out] at HB2
    rw [HV.out]
    clear hst HV
    go_wp2_with fail
    go_ret2
    exact ⟨_, rfl, by rw [HF.out]; exact World.ownsRow_made V #[] 0 HB2.out.size (by decide) (by simp), HB2.out.alloc HB2.out.size _⟩
  · have HG := Lib.hid hg
    have hn12 := len12 HL.out hg
    have HF := Lib.hid (show brIds ts = brN ts n by unfold brIds; rw [hg, HL.out]; rfl)
    have HNS := Lib.hid (show netS ts = net ts by unfold netS; rw [hg]; rfl)
    clear hg
    go_enter Tryz.func17, Tryz.ntmps17
    go_wp2_with fail
    refine (net_any A n cap ts C true HC HG w hn hts hT).mono ?_
    rintro e w1 ⟨rfl, b1⟩
    have HB1 := Lib.hid b1
    clear b1
    have hst := lay_net hcz HC1.out w1
    have HB2 := Lib.hid (HB1.out.alloc HB1.out.size (.cells C 76))
    have HG2 := Lib.hid (Blk.new w1 76 C)
    obtain ⟨V, HV⟩ : ∃ V, Hid (w1.alloc (.cells C 76) = V) := ⟨_, Lib.hid rfl⟩
    obtain ⟨G, HGG⟩ : ∃ G, Hid (w1.heap.size = G) := ⟨_, Lib.hid rfl⟩
    rw [HV.out, HGG.out] at HG2
    rw [HV.out] at HB2
    go_upto_region 2 with fail
    try rw [HGG.out]
    try simp only [HGG.out]
    rw [HV.out]
    clear hst HV HGG HB1
    have HR2 := Lib.hid (show (V.alloc (.cells #[] 3)).ownsRow w.heap.size 3 1 (.slice (some ⟨V.heap.size, 0, none⟩) 0 0) 0 [] from World.ownsRow_made V #[] 0 HB2.out.size (by decide) (by simp))
    have HG3 := Lib.hid (HG2.out.alloc (.cells #[] 3))
    have HB3 := Lib.hid (HB2.out.alloc HB2.out.size (.cells #[] 3))
    go_wp2_with fail
    go_loopw [6, 20] (fun v i wr => ∃ (k m c : Nat) (A2 : Option Addr), k ≤ n ∧ i = .int .i64 (k : Nat) ∧ m ≤ k ∧ v = .slice A2 m c ∧ Hid ((brN ts k).length = m) ∧ wr.ownsRow w.heap.size 3 1 (.slice A2 m c) m (ints.intsV (brN ts k)) ∧ Blk wr G 76 C ∧ Below w.heap.size w wr) (fun _ i _ => n - (intOf i).toNat)
    case atStart => exact ⟨0, 0, 0, _, Nat.zero_le _, rfl, Nat.le_refl _, rfl, Lib.hid rfl, HR2.out, HG3.out, HB3.out⟩
    case round =>
      obtain ⟨k, m, c, A2, hk, rfl, hmk, rfl, HM, hO, hGk, hB⟩ := hrel
      have HO := Lib.hid hO
      have HGk := Lib.hid hGk
      have HB := Lib.hid hB
      have hBs := hB.size
      clear hO hGk hB HR2 HG3 HB3
      have hk0 : (0 : Int) ≤ (k : Int) := by omega
      by_cases hlt : k < n
      · obtain ⟨x, hx⟩ := at_lt HL.out hlt
        obtain ⟨gL, rfl, hgL, e0, e1, e2, e3, e4⟩ := (hts.out.below HB.out).2 k x hx
        have HX := Lib.hid hx
        have HOK := Lib.hid (goodLg_at HG.out hx)
        obtain ⟨t, HTT⟩ : ∃ t, Hid (mem (net ts).ps x.frm = t) := ⟨_, Lib.hid rfl⟩
        have HP1 := Lib.hid (show mem (netS ts).ps x.frm = t by rw [HNS.out]; exact HTT.out)
        have HP2 := Lib.hid (show mem (netS ts).ps x.to_ = t by rw [HNS.out, ← net_ends HG.out hx]; exact HTT.out)
        have HEA := Lib.hid (show brAt ts (k : Int) = t by unfold brAt; rw [Int.toNat_natCast, hx]; exact HTT.out)
        have hki : (k : Int) < (n : Int) := by omega
        have hkd : decide (k < n) = true := by simpa using hlt
        clear hx
        go_upto_region 8 with fail
        obtain ⟨U, HU⟩ : ∃ U, Hid (wr.alloc (.cells #[.int .i64 x.frm, .int .i64 x.to_, .int .i64 x.tape, .int .i64 x.comp, .int .i64 x.slope] 87) = U) := ⟨_, Lib.hid rfl⟩
        obtain ⟨X, HXX⟩ : ∃ X, Hid (wr.heap.size = X) := ⟨_, Lib.hid rfl⟩
        have HAL := Lib.hid (show Below wr.heap.size wr U by rw [← HU.out]; exact (Below.refl _ _).alloc (Nat.le_refl _) _)
        have HXU := Lib.hid (show Blk U X 87 #[.int .i64 x.frm, .int .i64 x.to_, .int .i64 x.tape, .int .i64 x.comp, .int .i64 x.slope] by rw [← HU.out, ← HXX.out]; exact Blk.new _ _ _)
        have HOU := Lib.hid (row_below HO.out HAL.out)
        have HGU := Lib.hid (HGk.out.below HAL.out HGk.out.lt)
        have HBU := Lib.hid (HB.out.trans (HAL.out.mono hBs))
        try rw [HXX.out]
        try simp only [HXX.out]
        rw [HU.out]
        clear HU HXX HO HGk HB e0 e1 e2 e3 e4 HAL
        refine wp_region_list ?_
        refine step_load _ rfl _ rfl G _ rfl HGU.out hcz ?_
        simp only [Act.put, List.getElem_toArray, List.getElem_cons_succ, List.getElem_cons_zero, List.setIfInBounds_toArray, List.set_cons_zero, List.set_cons_succ]
        have x0 := HXU.out.cell 0
        have x1 := HXU.out.cell 1
        have x2 := HXU.out.cell 2
        have x3 := HXU.out.cell 3
        have x4 := HXU.out.cell 4
        simp at x0 x1 x2 x3 x4
        go_wp2_with fail
        refine (ends_c HC x t t _ HOK HP1 HP2).mono ?_
        rintro e w5 ⟨rfl, b5⟩
        have HO5 := Lib.hid (row_below HOU.out b5)
        have HG5 := Lib.hid (HGU.out.below b5 HGU.out.lt)
        have HB5 := Lib.hid (HBU.out.trans (b5.mono HBU.out.size))
        clear b5 x0 x1 x2 x3 x4 HXU HOU HGU HBU
        cases t
        · have HCN := Lib.hid (show brN ts (k + 1) = brN ts k from brN_no (by rw [HEA.out]; rfl))
          go_wp2_with fail
          go_roundw
          case rel => exact ⟨k + 1, m, c, A2, by omega, by go_num, by omega, rfl, Lib.hid (by rw [HCN.out]; exact HM.out), by rw [HCN.out]; exact HO5.out, HG5.out, HB5.out⟩
          case measure => simp [intOf]; omega
        · obtain ⟨b, HBR⟩ : ∃ b, Hid (brB ts k = b) := ⟨_, Lib.hid rfl⟩
          go_wp2_with fail
          refine (isNeeded_any (some ⟨gL, 0, none⟩) n cap ts k x b _ HG HX HTT HBR (Lib.hid (hts.out.step HB5.out))).mono ?_
          rintro e w6 ⟨rfl, b6⟩
          have HO6 := Lib.hid (row_below HO5.out b6)
          have HG6 := Lib.hid (HG5.out.below b6 HG5.out.lt)
          have HB6 := Lib.hid (HB5.out.trans (b6.mono HB5.out.size))
          have hB6s := HB6.out.size
          clear b6 HO5 HG5 HB5
          cases b
          · have HCN := Lib.hid (show brN ts (k + 1) = brN ts k from brN_no (by rw [HEA.out, HBR.out]; rfl))
            go_wp2_with fail
            go_roundw
            case rel => exact ⟨k + 1, m, c, A2, by omega, by go_num, by omega, rfl, Lib.hid (by rw [HCN.out]; exact HM.out), by rw [HCN.out]; exact HO6.out, HG6.out, HB6.out⟩
            case measure => simp [intOf]; omega
          · have HCN := Lib.hid (show brN ts (k + 1) = brN ts k ++ [(k : Int)] from brN_yes HEA.out HBR.out)
            go_wp2_with (at_builtin; refine wpList_append_lies _ rfl _ _ 27 rfl w.heap.size 3 i0 (.int .i64 0) 1 8 Tryz.underlying27 hi hz0 hz1 hz2 rfl (by decide) _ _ _ rfl (HO6.out.alloc _) ⟨w6.heap.size, 0, none⟩ 1 1 [.int .i64 (k : Int)] rfl rfl (cell_one_new _ _ _) (by simp [Value.oneCell']) (by decide) (by unfold maxLen; omega) (by omega) (by simp; omega) _ rfl ?_; intro g9 c9 w9 hown' hgrow hat hlt9)
            have HAL := Lib.hid ((Below.refl w6.heap.size w6).alloc (Nat.le_refl _) (.cells #[.int .i64 (k : Int)] 3))
            have HB9 := Lib.hid ((HB6.out.trans (HAL.out.mono hB6s)).grown hgrow (by simp; omega) (fun g e => (HO6.out.lt g e).1))
            have HG9 := Lib.hid ((HG6.out.alloc (.cells #[.int .i64 (k : Int)] 3)).grown hgrow (by have := own_blk_ne HO6.out HG6.out (by decide); exact fun q => this q.symm))
            have HO9 := Lib.hid (show w9.ownsRow w.heap.size 3 1 (.slice (some ⟨g9, 0, none⟩) (m + 1) c9) (m + 1) (ints.intsV (brN ts (k + 1))) by rw [HCN.out, intsV_app]; exact hown')
            clear hown' hgrow hat
            go_wp2_with fail
            go_roundw
            case rel => exact ⟨k + 1, m + 1, c9, some ⟨g9, 0, none⟩, by omega, by go_num, by omega, rfl, Lib.hid (by rw [HCN.out, List.length_append, HM.out]; rfl), HO9.out, HG9.out, HB9.out⟩
            case measure => simp [intOf]; omega
      · have hkd : decide (k < n) = false := by simpa using hlt
        obtain rfl : k = n := by omega
        have HFIN := Lib.hid (show wr.ownsRow w.heap.size 3 1 (.slice A2 m c) (brIds ts).length (ints.intsV (brIds ts)) by rw [HF.out, HM.out]; exact HO.out)
        clear hlt
        go_wp2_with fail
        go_ret2
        exact ⟨_, rfl, HFIN.out, HB.out⟩
end Go.Proofs.YtnpghhpcloljeabGreatDoor.lpi
