/-
  The network of valid legs, by the program.
  Conditions: those that each theorem names.
-/
import Derived.Test.YtnpghhpcloljeabGreatDoorNqLq
namespace Go.Proofs.YtnpghhpcloljeabGreatDoor.nq
open Go.RowKit
open reads base ty lg lgi win hs nt rowi sn
set_option linter.unusedVariables false
set_option linter.unusedSimpArgs false

def gOf : Value → Nat
  | .pointer (some a) => a.block
  | _ => 0
/-- what holds at the label -/
def JJ (A : Option Addr) (n cap : Nat) (ts : List Lg) (w : World) (a' : Act) (w' : World) : Prop :=
  ∃ (k G : Nat) (u1 u5 u6 u7 u8 u9 u10 u11 u12 u13 u14 u15 u16 u17 u18 u19 u20 u21 u22 u23 u24 u25 u26 u27 u28 u29 u30 u31 u32 u33 u34 u35 u36 u37 u38 u39 u40 u41 u42 u43 u44 u45 u46 u47 u48 u49 u50 u51 u52 u53 u54 u55 u56 u57 u58 u59 u60 u61 u62 u63 : Value), a' = { tmps := #[.slice A n cap, u1, .pointer (some ⟨w.heap.size, 0, none⟩), .bool false, .pointer (some ⟨G, 0, none⟩), u5, u6, u7, u8, u9, u10, u11, u12, u13, u14, u15, u16, u17, u18, u19, u20, u21, u22, u23, u24, u25, u26, u27, u28, u29, u30, u31, u32, u33, u34, u35, u36, u37, u38, u39, u40, u41, u42, u43, u44, u45, u46, u47, u48, u49, u50, u51, u52, u53, u54, u55, u56, u57, u58, u59, u60, u61, u62, u63], defers := [] } ∧ k ≤ 8 ∧ Hid (∀ j, j < k → doesN ts (passes ts j) ts.length = true) ∧ NB w G (passes ts k) off12 w'
set_option maxHeartbeats 64000000 in
set_option maxRecDepth 100000 in
theorem net_good (A : Option Addr) (n cap : Nat) (ts : List Lg) (w : World) (hn : n ≤ 2000000) (hg : Hid (goodLg ts = true)) (hts : Hid (LgAt w w.heap.size A n ts)) (hT : Hid (Tab w)) :
    Calls Tryz.prog 69 #[.slice A n cap] w (NPost ts w) := by
  have HL := Lib.hid hts.out.1
  have hn12 : n ≤ 12 := by rw [← HL.out]; exact goodLg_len hg.out
  go_enter Tryz.func69, Tryz.ntmps69
  go_wp2_with fail
  refine wp_scope_twice 0 (JJ A n cap ts w) (fun a' w' => 8 - cnt (gOf (a'.tmps.getD 4 undef)) w') rfl ?pass ?first
  case first => as_aux_lemma =>
    intro hp
    have HP := Lib.hid hp
    clear hp
    go_wp2_with fail
    refine (areLegs_is A n cap ts true _ hn (Lib.hid (hts.out.alloc _)) hg).mono ?_
    rintro e w1 ⟨rfl, b1⟩
    have HZ := Lib.hid (show Blk w1 w.heap.size 76 (nv none6 off12) from ((show Blk (w.alloc (.cells #[.bool false, .bool false, .bool false, .bool false, .bool false, .bool false, .bool false, .bool false, .int .i64 0, .int .i64 0, .int .i64 0, .int .i64 0, .int .i64 0, .int .i64 0, .int .i64 0, .int .i64 0, .int .i64 0, .int .i64 0, .int .i64 0, .int .i64 0, .int .i64 0, .int .i64 0, .int .i64 0, .int .i64 0, .int .i64 0, .int .i64 0, .int .i64 0, .int .i64 0, .int .i64 0, .int .i64 0, .int .i64 0, .int .i64 0, .bool false, .bool false, .bool false, .bool false, .bool false, .bool false, .bool false, .bool false, .bool false, .bool false, .bool false, .bool false, .bool false, .bool false, .bool false, .bool false, .bool false, .bool false, .bool false, .bool false, .bool false, .bool false, .bool false, .bool false] 76)) w.heap.size 76 (nv none6 off12) from Blk.new w 76 #[.bool false, .bool false, .bool false, .bool false, .bool false, .bool false, .bool false, .bool false, .int .i64 0, .int .i64 0, .int .i64 0, .int .i64 0, .int .i64 0, .int .i64 0, .int .i64 0, .int .i64 0, .int .i64 0, .int .i64 0, .int .i64 0, .int .i64 0, .int .i64 0, .int .i64 0, .int .i64 0, .int .i64 0, .int .i64 0, .int .i64 0, .int .i64 0, .int .i64 0, .int .i64 0, .int .i64 0, .int .i64 0, .int .i64 0, .bool false, .bool false, .bool false, .bool false, .bool false, .bool false, .bool false, .bool false, .bool false, .bool false, .bool false, .bool false, .bool false, .bool false, .bool false, .bool false, .bool false, .bool false, .bool false, .bool false, .bool false, .bool false, .bool false, .bool false])).below b1 (by simp))
    have HB0 := Lib.hid (show Below w.heap.size w w1 from ((Below.refl _ _).alloc (Nat.le_refl _) _).trans (b1.mono (by simp)))
    clear b1
    go_upto_region 3 with fail
    refine wp_region_list ?_
    refine step_build _ rfl rfl ?_
    simp only [Act.put, List.getElem_toArray, List.getElem_cons_succ, List.getElem_cons_zero, List.setIfInBounds_toArray, List.set_cons_zero, List.set_cons_succ]
    refine step_alloc _ rfl rfl ?_
    simp only [Act.put, List.getElem_toArray, List.getElem_cons_succ, List.getElem_cons_zero, List.setIfInBounds_toArray, List.set_cons_zero, List.set_cons_succ]
    have HN2 := Lib.hid (show NB w w1.heap.size none6 off12 (w1.alloc (.cells (nv none6 off12) 76)) from ⟨HZ.out.alloc _, Blk.new _ _ _, HB0.out.alloc HB0.out.size _, HZ.out.lt⟩)
    obtain ⟨G, HGG⟩ : ∃ G, Hid (w1.heap.size = G) := ⟨_, Lib.hid rfl⟩
    obtain ⟨W2, HW2⟩ : ∃ W, Hid (w1.alloc (.cells (nv none6 off12) 76) = W) := ⟨_, Lib.hid rfl⟩
    rw [HW2.out, HGG.out] at HN2 ⊢
    clear HW2 HGG HZ HB0
    refine step_store _ rfl _ _ rfl G _ _ rfl rfl HN2.out.2.1 zero_size zero_size nv_one ?_
    intro W3 hW hG
    have HN3 := Lib.hid (HN2.out.grown hW hG)
    clear hW hG HN2
    simp only [Act.put, List.getElem_toArray, List.getElem_cons_succ, List.getElem_cons_zero, List.setIfInBounds_toArray, List.set_cons_zero, List.set_cons_succ]
    obtain ⟨y, k0⟩ : ∃ y, W3.cell? ⟨G, 0, none⟩ = some y := ⟨_, (HN3.out.2.1.cell _).trans (nv_ps (by omega))⟩
    have f0 := HN3.out.2.1.frozen 0
    have hl := HN3.out.2.1.lt
    go_wp2_with fail
    have HN4 := Lib.hid (show NB w G nt.start off12 (W3.setCell ⟨G, 0, none⟩ (.bool true)) from HN3.out.set 0 (.bool true) (by rw [nv_set_ps (by omega)]; rfl))
    clear k0 f0 hl HN3
    go_step3
    rename_i hKK
    refine hKK _ _ ?_
    exact HP.out _ _ ⟨0, G, _, _, _, _, _, _, _, _, _, _, _, _, _, _, _, _, _, _, _, _, _, _, _, _, _, _, _, _, _, _, _, _, _, _, _, _, _, _, _, _, _, _, _, _, _, _, _, _, _, _, _, _, _, _, _, _, _, _, _, _, rfl, by omega, Lib.hid (fun j hj => by omega), HN4.out⟩
  case pass => as_aux_lemma =>
    rintro a' w' ⟨k, G, u1, u5, u6, u7, u8, u9, u10, u11, u12, u13, u14, u15, u16, u17, u18, u19, u20, u21, u22, u23, u24, u25, u26, u27, u28, u29, u30, u31, u32, u33, u34, u35, u36, u37, u38, u39, u40, u41, u42, u43, u44, u45, u46, u47, u48, u49, u50, u51, u52, u53, u54, u55, u56, u57, u58, u59, u60, u61, u62, u63, rfl, hk, HD, hN⟩
    have HN := Lib.hid hN
    clear hN
    obtain ⟨S, HS⟩ : ∃ S, Hid (passes ts k = S) := ⟨_, Lib.hid rfl⟩
    have HOS := Lib.hid (show Ok S by rw [← HS.out]; exact ok_passes hg.out k)
    rw [HS.out] at HN
    have HMU := Lib.hid (cnt_nv HN.out.2.1 HOS.out)
    go_wp2_with fail
    go_loopw [5, 19] (fun ag i wr => ∃ (j : Nat) (bb : Bool), j ≤ n ∧ i = .int .i64 (j : Nat) ∧ Hid (doesN ts S j = bb) ∧ ag = .bool bb ∧ NB w G (legsN ts S j) off12 wr) (fun _ i _ => n - (intOf i).toNat)
    case atStart => exact ⟨0, false, Nat.zero_le _, rfl, Lib.hid rfl, rfl, HN.out⟩
    case round =>
      obtain ⟨j, bb, hj, rfl, HBB, rfl, hN⟩ := hrel
      have HNR := Lib.hid hN
      clear hN HN
      obtain ⟨s, HSS⟩ : ∃ s, Hid (legsN ts S j = s) := ⟨_, Lib.hid rfl⟩
      have HOKS := Lib.hid (show Ok s by rw [← HSS.out]; exact ok_legs hg.out HOS.out j)
      rw [HSS.out] at HNR
      have HNOK := Lib.hid (show NOk s off12 from ⟨HOKS.out.1, rfl⟩)
      by_cases hlt : j < n
      · obtain ⟨x, hx⟩ := at_lt HL.out hlt
        obtain ⟨gL, rfl, hgL, e0, e1, e2, e3, e4⟩ := (hts.out.below HNR.out.2.2.1).2 j x hx
        have hok := goodLg_at hg.out hx
        obtain ⟨l1, l2, l3, -⟩ := okLg_lim hok
        obtain ⟨fr, to_, tp, cp, sl⟩ := x
        simp only [] at l1 l2 l3 e0 e1 e2 e3 e4
        obtain ⟨a, rfl⟩ : ∃ a : Nat, fr = (a : Int) := ⟨fr.toNat, by omega⟩
        obtain ⟨b, rfl⟩ : ∃ b : Nat, to_ = (b : Int) := ⟨to_.toNat, by omega⟩
        have ha8 : a < 8 := by omega
        have hb8 : b < 8 := by omega
        have hai : (a : Int) < 8 := by omega
        have hbi : (b : Int) < 8 := by omega
        have ha0 : (0 : Int) ≤ (a : Int) := by omega
        have hb0 : (0 : Int) ≤ (b : Int) := by omega
        have HX := Lib.hid hx
        have HOK := Lib.hid hok
        have hgL2 : gL < wr.heap.size := by have := HNR.out.2.2.1.size; omega
        clear hx hok l1 l2 l3
        have hji : (j : Int) < (n : Int) := by omega
        have hj0 : 0 ≤ (j : Int) := by omega
        have hj12 : (j : Int) < 12 := by omega
        have hj12n : j < 12 := by omega
        have hjd : decide (j < n) = true := by simpa using hlt
        obtain ⟨pa, hpa⟩ : ∃ t, mem s.ps (a : Int) = t := ⟨_, rfl⟩
        obtain ⟨pb, hpb⟩ : ∃ t, mem s.ps (b : Int) = t := ⟨_, rfl⟩
        have HPA := Lib.hid hpa
        have HPB := Lib.hid hpb
        clear hpa hpb
        obtain ⟨W1, HW1⟩ : ∃ W, Hid (wr.alloc (.cells #[.int .i64 (a : Int), .int .i64 (b : Int), .int .i64 tp, .int .i64 cp, .int .i64 sl] 87) = W) := ⟨_, Lib.hid rfl⟩
        have HAL := Lib.hid (show Below wr.heap.size wr W1 by rw [← HW1.out]; exact (Below.refl _ _).alloc (Nat.le_refl _) _)
        have HN1 := Lib.hid (HNR.out.step HAL.out)
        obtain ⟨X, HXX⟩ : ∃ X, Hid (wr.heap.size = X) := ⟨_, Lib.hid rfl⟩
        have HBX := Lib.hid (show Blk W1 X 87 #[.int .i64 (a : Int), .int .i64 (b : Int), .int .i64 tp, .int .i64 cp, .int .i64 sl] by rw [← HW1.out, ← HXX.out]; exact Blk.new _ _ _)
        go_upto_region 9 with fail
        try rw [HXX.out]
        try simp only [HXX.out]
        rw [HW1.out]
        clear HW1 HNR HXX HAL e0 e1 e2 e3 e4 hgL2
        have x0 := HBX.out.cell 0
        have x1 := HBX.out.cell 1
        have fa : W1.cell? ⟨G, a, none⟩ = some (.bool pa) := by rw [HN1.out.2.1.cell, nv_ps ha8, HPA.out]
        have fb : W1.cell? ⟨G, b, none⟩ = some (.bool pb) := by rw [HN1.out.2.1.cell, nv_ps hb8, HPB.out]
        have HDB := Lib.hid (show doesN ts S (j + 1) = (bb || (pa != pb)) by rw [doesN_succ HX.out, HSS.out, HBB.out, does_marks HPA.out HPB.out])
        cases pa
        · cases pb
          · have HSX := Lib.hid (show legsN ts S (j + 1) = s by rw [legsN_succ HX.out, HSS.out, leg1_no (by rw [does_marks HPA.out HPB.out]; rfl)])
            go_wp2_with fail
            go_quiet (fail)
            go_wp2_with fail
            have HN2 := Lib.hid (HN1.out.step (drewN_below W1 nq))
            go_roundw
            case rel => exact ⟨j + 1, bb, by omega, by go_num, by rw [show (bb || (false != false)) = bb by cases bb <;> rfl] at HDB; exact HDB, rfl, by rw [HSX.out]; exact HN2.out⟩
            case measure => simp [intOf]; omega
          · obtain ⟨p, HPP⟩ : ∃ p, Hid (at_ s.pl (b : Int) = p) := ⟨_, Lib.hid rfl⟩
            obtain ⟨h, HHH⟩ : ∃ h, Hid (shf ⟨(a : Int), (b : Int), tp, cp, sl⟩ = h) := ⟨_, Lib.hid rfl⟩
            obtain ⟨c, HCC⟩ : ∃ c, Hid (sub3 p h = c) := ⟨_, Lib.hid rfl⟩
            have HBP := Lib.hid (show BdS p by rw [← HPP.out]; exact bd_at HOKS.out _)
            have HSX := Lib.hid (show legsN ts S (j + 1) = ⟨s.pl.set a c, put s.ps (a : Int), put s.tr (j : Int)⟩ by
              rw [legsN_succ HX.out, HSS.out, leg1_bwd HPA.out HPB.out]
              simp only [HPP.out, HHH.out, HCC.out, Int.toNat_natCast])
            go_wp2_with fail
            go_quiet (fail)
            obtain ⟨W2, HW2⟩ : ∃ W, Hid (W1.drewN nq = W) := ⟨_, Lib.hid rfl⟩
            have HBD := Lib.hid (show Below W1.heap.size W1 W2 by rw [← HW2.out]; exact drewN_below _ _)
            have HN2 := Lib.hid (HN1.out.step HBD.out)
            have HBX2 := Lib.hid (HBX.out.below HBD.out HBX.out.lt)
            clear fa fb x0 x1
            go_upto_region 10 with fail
            rw [HW2.out]
            clear HW2 HBD HN1 HBX
            have x0 := HBX2.out.cell 0
            have x1 := HBX2.out.cell 1
            have x2 := HBX2.out.cell 2
            have x3 := HBX2.out.cell 3
            have x4 := HBX2.out.cell 4
            go_wp2_with fail
            refine (place_bwd G b a tp cp sl s off12 p h c _ HNOK HOK HPB HPA HPP HHH HCC HBP (Lib.hid HN2.out.2.1) (Lib.hid (hT.out.below HN2.out.2.2.1))).mono ?_
            rintro e W3 ⟨rfl, hW, hG⟩
            have HN3 := Lib.hid (HN2.out.grown hW hG)
            clear hW hG HN2 HBX2 x0 x1 x2 x3 x4
            have HNOK3 := Lib.hid (show NOk ⟨s.pl.set a c, put s.ps (a : Int), s.tr⟩ off12 from ⟨by rw [List.length_set]; exact HNOK.out.1, rfl⟩)
            obtain ⟨y, k0⟩ : ∃ y, W3.cell? ⟨G, 32 + j, none⟩ = some y := ⟨_, (HN3.out.2.1.cell _).trans (nv_tr HNOK3.out hj12n)⟩
            have f0 := HN3.out.2.1.frozen (32 + j)
            have hl := HN3.out.2.1.lt
            go_wp2_with fail
            have HN4 := Lib.hid (HN3.out.set (32 + j) (.bool true) (nv_set_tr HNOK3.out hj12n))
            clear HN3 k0 f0 hl
            go_roundw
            case rel => exact ⟨j + 1, true, by omega, by go_num, by rw [show (bb || (false != true)) = true by cases bb <;> rfl] at HDB; exact HDB, rfl, by rw [HSX.out]; exact HN4.out⟩
            case measure => simp [intOf]; omega
        · cases pb
          · obtain ⟨p, HPP⟩ : ∃ p, Hid (at_ s.pl (a : Int) = p) := ⟨_, Lib.hid rfl⟩
            obtain ⟨h, HHH⟩ : ∃ h, Hid (shf ⟨(a : Int), (b : Int), tp, cp, sl⟩ = h) := ⟨_, Lib.hid rfl⟩
            obtain ⟨c, HCC⟩ : ∃ c, Hid (add3 p h = c) := ⟨_, Lib.hid rfl⟩
            have HBP := Lib.hid (show BdS p by rw [← HPP.out]; exact bd_at HOKS.out _)
            have HSX := Lib.hid (show legsN ts S (j + 1) = ⟨s.pl.set b c, put s.ps (b : Int), put s.tr (j : Int)⟩ by
              rw [legsN_succ HX.out, HSS.out, leg1_fwd HPA.out HPB.out]
              simp only [HPP.out, HHH.out, HCC.out, Int.toNat_natCast])
            go_wp2_with fail
            go_quiet (fail)
            obtain ⟨W2, HW2⟩ : ∃ W, Hid (W1.drewN nq = W) := ⟨_, Lib.hid rfl⟩
            have HBD := Lib.hid (show Below W1.heap.size W1 W2 by rw [← HW2.out]; exact drewN_below _ _)
            have HN2 := Lib.hid (HN1.out.step HBD.out)
            have HBX2 := Lib.hid (HBX.out.below HBD.out HBX.out.lt)
            clear fa fb x0 x1
            go_upto_region 10 with fail
            rw [HW2.out]
            clear HW2 HBD HN1 HBX
            have x0 := HBX2.out.cell 0
            have x1 := HBX2.out.cell 1
            have x2 := HBX2.out.cell 2
            have x3 := HBX2.out.cell 3
            have x4 := HBX2.out.cell 4
            go_wp2_with fail
            refine (place_fwd G a b tp cp sl s off12 p h c _ HNOK HOK HPA HPB HPP HHH HCC HBP (Lib.hid HN2.out.2.1) (Lib.hid (hT.out.below HN2.out.2.2.1))).mono ?_
            rintro e W3 ⟨rfl, hW, hG⟩
            have HN3 := Lib.hid (HN2.out.grown hW hG)
            clear hW hG HN2 HBX2 x0 x1 x2 x3 x4
            have HNOK3 := Lib.hid (show NOk ⟨s.pl.set b c, put s.ps (b : Int), s.tr⟩ off12 from ⟨by rw [List.length_set]; exact HNOK.out.1, rfl⟩)
            obtain ⟨y, k0⟩ : ∃ y, W3.cell? ⟨G, 32 + j, none⟩ = some y := ⟨_, (HN3.out.2.1.cell _).trans (nv_tr HNOK3.out hj12n)⟩
            have f0 := HN3.out.2.1.frozen (32 + j)
            have hl := HN3.out.2.1.lt
            go_wp2_with fail
            have HN4 := Lib.hid (HN3.out.set (32 + j) (.bool true) (nv_set_tr HNOK3.out hj12n))
            clear HN3 k0 f0 hl
            go_roundw
            case rel => exact ⟨j + 1, true, by omega, by go_num, by rw [show (bb || (true != false)) = true by cases bb <;> rfl] at HDB; exact HDB, rfl, by rw [HSX.out]; exact HN4.out⟩
            case measure => simp [intOf]; omega
          · have HSX := Lib.hid (show legsN ts S (j + 1) = s by rw [legsN_succ HX.out, HSS.out, leg1_no (by rw [does_marks HPA.out HPB.out]; rfl)])
            go_wp2_with fail
            go_quiet (fail)
            go_wp2_with fail
            have HN2 := Lib.hid (HN1.out.step (drewN_below W1 nq))
            go_roundw
            case rel => exact ⟨j + 1, bb, by omega, by go_num, by rw [show (bb || (true != true)) = bb by cases bb <;> rfl] at HDB; exact HDB, rfl, by rw [HSX.out]; exact HN2.out⟩
            case measure => simp [intOf]; omega
      · have hjd : decide (j < n) = false := by simpa using hlt
        obtain rfl : j = n := by omega
        clear hlt
        cases bb
        · have HSN := Lib.hid (show s = S by rw [← HSS.out]; exact doesN_no HBB.out)
          have HNN := Lib.hid (show net ts = S by rw [← HS.out]; exact net_is (by omega) (by rw [HS.out, HL.out]; exact HBB.out))
          rw [HSN.out] at HNR
          go_wp2_with fail
          go_loopw [44] (fun i wr => ∃ (q : Nat), q ≤ j ∧ i = .int .i64 (q : Nat) ∧ NB w G S (clM ts S q) wr) (fun i _ => j - (intOf i).toNat)
          case atStart => exact ⟨0, Nat.zero_le _, rfl, by rw [clM_zero]; exact HNR.out⟩
          case round =>
            obtain ⟨q, hq, rfl, hN⟩ := hrel
            have HQ := Lib.hid hN
            clear hN HNR
            have HNOQ := Lib.hid (show NOk S (clM ts S q) from ⟨HOS.out.1, clM_len _ _ _⟩)
            by_cases hlt : q < j
            · obtain ⟨x, hx⟩ := at_lt HL.out hlt
              obtain ⟨gL, rfl, hgL, e0, e1, e2, e3, e4⟩ := (hts.out.below HQ.out.2.2.1).2 q x hx
              have HOK := Lib.hid (goodLg_at hg.out hx)
              have HCS := Lib.hid (clM_step (s := S) hx (by omega))
              have HEN := Lib.hid (show mem S.ps x.frm = mem S.ps x.to_ by have h := net_ends hg.out hx; rwa [HNN.out] at h)
              have hgL2 : gL < wr.heap.size := by have := HQ.out.2.2.1.size; omega
              clear hx
              have hji : (q : Int) < (j : Int) := by omega
              have hj0 : 0 ≤ (q : Int) := by omega
              have hj12 : (q : Int) < 12 := by omega
              have hj12n : q < 12 := by omega
              have hjd : decide (q < j) = true := by simpa using hlt
              obtain ⟨pa, hpa⟩ : ∃ t, mem S.ps x.frm = t := ⟨_, rfl⟩
              obtain ⟨pt, hpt⟩ : ∃ t, mem S.tr (q : Int) = t := ⟨_, rfl⟩
              have HPA := Lib.hid hpa
              have HPB := Lib.hid (show mem S.ps x.to_ = pa by rw [← HEN.out]; exact hpa)
              have HPT := Lib.hid hpt
              rw [HPA.out, HPT.out] at HCS
              clear hpa hpt
              obtain ⟨W1, HW1⟩ : ∃ W, Hid (wr.alloc (.cells #[.int .i64 x.frm, .int .i64 x.to_, .int .i64 x.tape, .int .i64 x.comp, .int .i64 x.slope] 87) = W) := ⟨_, Lib.hid rfl⟩
              have HAL := Lib.hid (show Below wr.heap.size wr W1 by rw [← HW1.out]; exact (Below.refl _ _).alloc (Nat.le_refl _) _)
              have HN1 := Lib.hid (HQ.out.step HAL.out)
              obtain ⟨X, HXX⟩ : ∃ X, Hid (wr.heap.size = X) := ⟨_, Lib.hid rfl⟩
              have HBX := Lib.hid (show Blk W1 X 87 #[.int .i64 x.frm, .int .i64 x.to_, .int .i64 x.tape, .int .i64 x.comp, .int .i64 x.slope] by rw [← HW1.out, ← HXX.out]; exact Blk.new _ _ _)
              go_upto_region 17 with fail
              try rw [HXX.out]
              try simp only [HXX.out]
              rw [HW1.out]
              clear HW1 HQ HXX HAL e0 e1 e2 e3 e4 hgL2
              have x0 := HBX.out.cell 0
              have x1 := HBX.out.cell 1
              have x2 := HBX.out.cell 2
              have x3 := HBX.out.cell 3
              have x4 := HBX.out.cell 4
              refine wp_region_list ?_
              refine step_move _ rfl _ rfl _ rfl ?_
              simp only [Act.put, List.getElem_toArray, List.getElem_cons_succ, List.getElem_cons_zero, List.setIfInBounds_toArray, List.set_cons_zero, List.set_cons_succ]
              refine step_load _ rfl _ rfl G _ rfl HN1.out.2.1 (nv_size HNOQ.out) ?_
              simp only [Act.put, List.getElem_toArray, List.getElem_cons_succ, List.getElem_cons_zero, List.setIfInBounds_toArray, List.set_cons_zero, List.set_cons_succ]
              go_wp2_with fail
              refine (ends_any S (clM ts S q) x pa pa _ HOK HPA HPB).mono ?_
              rintro e W2 ⟨rfl, b2⟩
              have HN2 := Lib.hid (HN1.out.step b2)
              clear b2 HN1 HBX x0 x1 x2 x3 x4
              have k1 : W2.cell? ⟨G, 32 + q, none⟩ = some (.bool pt) := by rw [HN2.out.2.1.cell, nv_tr HNOQ.out hj12n, HPT.out]
              obtain ⟨y, k0⟩ : ∃ y, W2.cell? ⟨G, 44 + q, none⟩ = some y := by
                obtain ⟨b, hb⟩ : ∃ b, (clM ts S q)[q]? = some b := ⟨_, List.getElem?_eq_getElem (by rw [clM_len]; exact hj12n)⟩
                exact ⟨_, (HN2.out.2.1.cell _).trans (nv_cl HNOQ.out hb)⟩
              have f0 := HN2.out.2.1.frozen (44 + q)
              have hl := HN2.out.2.1.lt
              have HN3 := Lib.hid (HN2.out.set (44 + q) (.bool (pa && !pt)) (by rw [nv_set_cl HNOQ.out hj12n, ← HCS.out]))
              clear HN2 HPA HPB HPT HCS HEN
              cases pa
              · go_wp2_with fail
                go_roundw
                case rel => exact ⟨q + 1, by omega, by go_num, HN3.out⟩
                case measure => simp [intOf]; omega
              · cases pt
                · go_wp2_with fail
                  go_roundw
                  case rel => exact ⟨q + 1, by omega, by go_num, HN3.out⟩
                  case measure => simp [intOf]; omega
                · go_wp2_with fail
                  go_roundw
                  case rel => exact ⟨q + 1, by omega, by go_num, HN3.out⟩
                  case measure => simp [intOf]; omega
            · have hjd : decide (q < j) = false := by simpa using hlt
              obtain rfl : q = j := by omega
              clear hlt
              go_upto_region 19 with fail
              refine wp_region_list ?_
              refine step_load _ rfl _ rfl G _ rfl HQ.out.2.1 (nv_size HNOQ.out) ?_
              simp only [Act.put, List.getElem_toArray, List.getElem_cons_succ, List.getElem_cons_zero, List.setIfInBounds_toArray, List.set_cons_zero, List.set_cons_succ]
              refine step_store _ rfl _ _ rfl w.heap.size _ _ rfl rfl HQ.out.1 zero_size (nv_size HNOQ.out) nv_one ?_
              intro W3 hW hG
              have HW3 := Lib.hid hW
              have HB3 := Lib.hid (HQ.out.2.2.1.grown hG HQ.out.2.2.1.size (fun g e => by injection e with e; omega))
              clear hW hG HQ
              simp only [Act.put, List.getElem_toArray, List.getElem_cons_succ, List.getElem_cons_zero, List.setIfInBounds_toArray, List.set_cons_zero, List.set_cons_succ]
              go_wp2_with fail
              try simp only [Exit.jump]
              refine bodyPost_ret (v := .tuple #[.agg (nv S (clM ts S q)), .bool true]) ?_ rfl ⟨by rw [HNN.out, HL.out], HB3.out⟩
              rw [results_cell_tmp rfl]
              simp [asAddr, Result.andThen, run_loadVar_net HW3.out (nv_size HNOQ.out)]
        · have HP1 := Lib.hid (show passes ts (k + 1) = s by show legsN ts (passes ts k) ts.length = s; rw [HS.out, HL.out]; exact HSS.out)
          have HD1 := Lib.hid (show ∀ i, i < k + 1 → doesN ts (passes ts i) ts.length = true from fun i hi => by
            rcases Nat.lt_or_ge i k with q | q
            · exact HD.out i q
            · obtain rfl : i = k := by omega
              rw [HS.out, HL.out]; exact HBB.out)
          have HK := Lib.hid (passes_few hg.out HD1.out)
          have HMV := Lib.hid (cnt_nv HNR.out.2.1 HOKS.out)
          have HGR := Lib.hid (show S.ps.length + 1 ≤ s.ps.length by
            have h := legs_grow (ts := ts) (s := S) j
            rw [HBB.out, if_pos rfl, HSS.out] at h; exact h)
          go_wp2_with fail
          go_step3
          refine ⟨rfl, ⟨k + 1, G, _, _, _, _, _, _, _, _, _, _, _, _, _, _, _, _, _, _, _, _, _, _, _, _, _, _, _, _, _, _, _, _, _, _, _, _, _, _, _, _, _, _, _, _, _, _, _, _, _, _, _, _, _, _, _, _, _, _, _, _, rfl, by have := HK.out; omega, HD1, by rw [HP1.out]; exact HNR.out⟩, ?_⟩
          show 8 - cnt G _ < 8 - cnt G _
          rw [HMV.out, HMU.out]
          have h1 := HGR.out
          have h2 := HOKS.out.ps_len
          omega
end Go.Proofs.YtnpghhpcloljeabGreatDoor.nq
