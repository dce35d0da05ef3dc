/-
  The program: which stations are fixed, the measure of a leg, a leg added to a row, the placed legs, valid axes.
  The placed legs, by the program.
  The equations of a network, by the program.
  The equations of a network, by the program: the walk.
  How many bits of a number below 512 are set, by the library that the program calls.
  What the program adds to the determinants of greater sets of columns.
  The determinants of all sets of columns, by the program.
  The determinants of all sets of columns are what their expansions along the last row tell (pure mathematics).
  What the program finds in its determinants: the number of trees and the coordinates (pure mathematics).
  Valid axes, AdjustAxis and ResidualOf, by the model.
  The residuals of all legs, by the program.
  The adjustment of a network on an axis, by the program.
  The adjustment of any legs, TreeCount and AdjustAxis, by the program.
  TreeCount and AdjustAxis, by the program.
  Conditions: those that each theorem names.
-/
import Derived.Test.YtiimegmaokfpgabGreatDoorMdF
import Derived.Test.YtiimegmaokfpgabGreatDoorNqZ
import Derived.Test.YtiimegmaokfpgabGreatDoorMdG
import Derived.Test.YtiimegmaokfpgabGreatDoorMlD
import Derived.StillTailTactics
import Derived.Test.YtiimegmaokfpgabGreatDoorBase
import Derived.Test.YtiimegmaokfpgabGreatDoorMtA
import Derived.Deep.DeepCutAuto
import Derived.Deep.RegionHeld3
import Derived.Test.YtiimegmaokfpgabGreatDoorMlG
namespace Go.Proofs.YtiimegmaokfpgabGreatDoor.pg
open Go.RowKit
open reads base ty lg lgi win hs nt nq rowi sn mt ml
set_option linter.unusedVariables false
set_option linter.unusedSimpArgs false
set_option maxHeartbeats 4000000 in
set_option maxRecDepth 100000 in
theorem fixed_any (N : Net) (cl : List Bool) (C : Array Value) (s : Nat) (t : Bool) (w : World) (hC : Hid (nv N cl = C)) (hs : s < 8) (ht : Hid ((decide (s = 0) || !mem N.ps (s : Int)) = t)) :
    Calls Tryz.prog 161 #[.agg C, .int .i64 (s : Int)] w (BPost t w) := by
  have HP := Lib.hid (show C[s]? = some (.bool (mem N.ps (s : Int))) by rw [← hC.out]; exact nv_ps hs)
  obtain ⟨p, HPP⟩ : ∃ p, Hid (mem N.ps (s : Int) = p) := ⟨_, Lib.hid rfl⟩
  rw [HPP.out] at HP
  have HTT := Lib.hid (show (decide (s = 0) || !p) = t by rw [← HPP.out]; exact ht.out)
  obtain ⟨W, HW⟩ : ∃ W, Hid (w.alloc (.cells C 76) = W) := ⟨_, Lib.hid rfl⟩
  have c1 : W.cell? ⟨w.heap.size, s, none⟩ = some (.bool p) := by rw [← HW.out]; exact ((Blk.new w 76 C).cell s).trans HP.out
  have HB := Lib.hid (show Below w.heap.size w W by rw [← HW.out]; exact (Below.refl _ _).alloc (Nat.le_refl _) _)
  have hs0 : (0 : Int) ≤ (s : Int) := by omega
  have hs8 : (s : Int) < 8 := by omega
  by_cases hz : s = 0
  · subst hz
    obtain rfl : t = true := by rw [← HTT.out]; rfl
    go_enter Tryz.func161, Tryz.ntmps161
    go_upto_region 1 with fail
    rw [HW.out]
    clear HW HP HTT
    go_wp2_with fail
    go_ret
    exact ⟨rfl, HB.out⟩
  · obtain rfl : t = !p := by rw [← HTT.out]; simp [hz]
    have hz1 : ((s : Int) == 0) = false := by simp; omega
    have hz2 : ¬ (s : Int) = 0 := by omega
    go_enter Tryz.func161, Tryz.ntmps161
    go_upto_region 1 with fail
    rw [HW.out]
    clear HW HP HTT
    go_wp2_with fail
    go_ret
    exact ⟨rfl, HB.out⟩
theorem ix0 (a b c : Int) (W : World) : (Instr.index 155 (.agg #[.int .i64 a, .int .i64 b, .int .i64 c]) (.int .i64 0)).run Tryz.prog W = .ok (.int .i64 a) W := by kernel_rfl
theorem ix1 (a b c : Int) (W : World) : (Instr.index 155 (.agg #[.int .i64 a, .int .i64 b, .int .i64 c]) (.int .i64 1)).run Tryz.prog W = .ok (.int .i64 b) W := by kernel_rfl
theorem ix2 (a b c : Int) (W : World) : (Instr.index 155 (.agg #[.int .i64 a, .int .i64 b, .int .i64 c]) (.int .i64 2)).run Tryz.prog W = .ok (.int .i64 c) W := by kernel_rfl
set_option maxHeartbeats 8000000 in
set_option maxRecDepth 100000 in
theorem msOn_any (x : Lg) (ax r : Int) (w : World) (hx : Hid (okLg x = true)) (h0 : 0 ≤ ax) (h2 : ax ≤ 2) (hr : Hid (msA x ax = r)) (hT : Hid (Tab w)) :
    Calls Tryz.prog 126 #[.agg #[.int .i64 x.frm, .int .i64 x.to_, .int .i64 x.tape, .int .i64 x.comp, .int .i64 x.slope], .int .i64 ax] w (APost (.int .i64 r) w) := by
  have HB0 := Lib.hid ((Below.refl w.heap.size w).alloc (Nat.le_refl _) (.cells #[.int .i64 x.frm, .int .i64 x.to_, .int .i64 x.tape, .int .i64 x.comp, .int .i64 x.slope] 87))
  have HT0 := Lib.hid (hT.out.alloc (.cells #[.int .i64 x.frm, .int .i64 x.to_, .int .i64 x.tape, .int .i64 x.comp, .int .i64 x.slope] 87))
  have hax : ax = 0 ∨ ax = 1 ∨ ax = 2 := by omega
  obtain ⟨s, HS⟩ : ∃ s, Hid (shf x = s) := ⟨_, Lib.hid rfl⟩
  rcases hax with rfl | rfl | rfl
  · obtain rfl : r = s.east := by rw [← hr.out, ← HS.out]; rfl
    go_enter Tryz.func126, Tryz.ntmps126
    go_wp2_with fail
    refine (along_is x s HS _ hx HT0).mono ?_
    rintro e w1 ⟨rfl, b1⟩
    have HB1 := Lib.hid (HB0.out.trans (b1.mono HB0.out.size))
    clear b1
    have hix := ix0 s.east s.north s.up
    go_wp2_with  fail
    go_ret
    exact ⟨rfl, HB1.out.alloc HB1.out.size _⟩
  · obtain rfl : r = s.north := by rw [← hr.out, ← HS.out]; rfl
    go_enter Tryz.func126, Tryz.ntmps126
    go_wp2_with fail
    refine (along_is x s HS _ hx HT0).mono ?_
    rintro e w1 ⟨rfl, b1⟩
    have HB1 := Lib.hid (HB0.out.trans (b1.mono HB0.out.size))
    clear b1
    have hix := ix1 s.east s.north s.up
    go_wp2_with  fail
    go_ret
    exact ⟨rfl, HB1.out.alloc HB1.out.size _⟩
  · obtain rfl : r = s.up := by rw [← hr.out, ← HS.out]; rfl
    go_enter Tryz.func126, Tryz.ntmps126
    go_wp2_with fail
    refine (along_is x s HS _ hx HT0).mono ?_
    rintro e w1 ⟨rfl, b1⟩
    have HB1 := Lib.hid (HB0.out.trans (b1.mono HB0.out.size))
    clear b1
    have hix := ix2 s.east s.north s.up
    go_wp2_with  fail
    go_ret
    exact ⟨rfl, HB1.out.alloc HB1.out.size _⟩
def abF (f : Nat → Int) (i j : Nat) (mu : Int) : Nat → Int := upd (upd (upd f i (f i + 1)) j (f j - 1)) 8 (f 8 + mu)
def RPo (p n : Nat) (f : Nat → Int) (w : World) (e : Ending) (w' : World) : Prop := e = .returned (.tuple #[]) ∧ RwB w' p n f ∧ w.grownBy w' (some p)
set_option maxHeartbeats 8000000 in
set_option maxRecDepth 100000 in
theorem add_any (p i j : Nat) (mu : Int) (f : Nat → Int) (w : World) (hi : i < 8) (hj : j < 8) (hij : i ≠ j) (hb : Hid (∀ c, -10000 ≤ f c ∧ f c ≤ 10000)) (hm : -500 ≤ mu ∧ mu ≤ 500) (hr : Hid (RwB w p 9 f)) :
    Calls Tryz.prog 162 #[.slice (some ⟨p, 0, none⟩) 9 9, .int .i64 (i : Int), .int .i64 (j : Int), .int .i64 mu] w (RPo p 9 (abF f i j mu) w) := by
  have c1 := hr.out.at_ (j := i) (by omega)
  have f1 := hr.out.fro i
  have lp := hr.out.lt
  have b1 := hb.out i
  have b2 := hb.out j
  have b3 := hb.out 8
  have x1 : IntKind.i64.wrap (f i + 1) = f i + 1 := IntWalk.i64_in _ (by omega)
  have x2 : IntKind.i64.wrap (f j - 1) = f j - 1 := IntWalk.i64_in _ (by omega)
  have x3 : IntKind.i64.wrap (f 8 + mu) = f 8 + mu := IntWalk.i64_in _ (by omega)
  have HR1 := Lib.hid (hr.out.set (show i < 9 by omega) (f i + 1))
  have HR2 := Lib.hid (HR1.out.set (show j < 9 by omega) (f j - 1))
  have HR3 := Lib.hid (HR2.out.set (show 8 < 9 by omega) (f 8 + mu))
  have HG := Lib.hid (grown_set (grown_set (grown_set (g := p) (show w.grownBy w (some p) from ⟨rfl, rfl, rfl, Nat.le_refl _, fun _ _ _ => rfl⟩) i (.int .i64 (f i + 1))) j (.int .i64 (f j - 1))) 8 (.int .i64 (f 8 + mu)))
  have k2 := HR1.out.at_ (j := j) (by omega)
  have e2 : upd f i (f i + 1) j = f j := if_neg (fun q => hij q.symm)
  rw [e2] at k2
  have k3 := HR2.out.at_ (j := 8) (by omega)
  have e3 : upd (upd f i (f i + 1)) j (f j - 1) 8 = f 8 := by unfold upd; rw [if_neg (by omega), if_neg (by omega)]
  rw [e3] at k3
  have g2 := HR1.out.fro j
  have g3 := HR2.out.fro 8
  have hi9 : (i : Int) < 9 := by omega
  have hj9 : (j : Int) < 9 := by omega
  have hi0 : (0 : Int) ≤ (i : Int) := by omega
  have hj0 : (0 : Int) ≤ (j : Int) := by omega
  clear e2 e3
  go_enter Tryz.func162, Tryz.ntmps162
  go_upto_region 1 with fail
  obtain ⟨W1, HW1⟩ : ∃ W, Hid (w.setCell ⟨p, i, none⟩ (.int .i64 (f i + 1)) = W) := ⟨_, Lib.hid rfl⟩
  rw [HW1.out] at HR1 HR2 HR3 HG k2 k3 g2 g3 ⊢
  have lp1 := HR1.out.lt
  clear HW1 c1 f1 lp
  go_upto_region 2 with fail
  obtain ⟨W2, HW2⟩ : ∃ W, Hid (W1.setCell ⟨p, j, none⟩ (.int .i64 (f j - 1)) = W) := ⟨_, Lib.hid rfl⟩
  rw [HW2.out] at HR2 HR3 HG k3 g3 ⊢
  have lp2 := HR2.out.lt
  clear HW2 k2 g2 lp1
  go_wp2_with fail
  refine bodyPost_ret (v := .tuple #[]) (by simp [results, Tryz.results162, go_sem]) rfl ⟨rfl, HR3.out, HG.out⟩
theorem isAxis_any (ax : Int) (t : Bool) (w : World) (h : Hid (btw 0 ax 2 = t)) : Calls Tryz.prog 71 #[.int .i64 ax] w (BPost t w) := by
  have HIN := Lib.hid (one_in h.out)
  have HB := Lib.hid ((Below.refl w.heap.size w).alloc (Nat.le_refl _) (.cells #[.int .i64 ax] 3))
  go_enter Tryz.func71, Tryz.ntmps71
  go_wp2_with fail
  refine (within_new 0 2 1 [ax] 1 3 _ t w _ rfl rfl (by decide) rfl HIN.out).mono ?_
  rintro e w9 ⟨rfl, rfl⟩
  simp only [List.map_cons, List.map_nil]
  go_wp2_with fail
  go_ret
  exact ⟨rfl, HB.out⟩
end Go.Proofs.YtiimegmaokfpgabGreatDoor.pg
namespace Go.Proofs.YtiimegmaokfpgabGreatDoor.pg
open Go.RowKit
open reads base ty lg lgi win hs nt nq rowi sn mt ml
set_option linter.unusedVariables false
set_option linter.unusedSimpArgs false
set_option maxHeartbeats 8000000 in
set_option maxRecDepth 100000 in
theorem placedLegs_any (A : Option Addr) (n cap : Nat) (ts : List Lg) (cl : List Bool) (C : Array Value) (w : World) (hC : Hid (nv (net ts) cl = C)) (hcl : cl.length = 12) (hg : Hid (goodLg ts = true)) (hts : Hid (LgAt w w.heap.size A n ts)) :
    Calls Tryz.prog 91 #[.slice A n cap, .agg C] w (JPo (plIds ts) w) := by
  obtain ⟨i0, hi, hz0, hz1, hz2⟩ := info_parts infoI
  have HL := Lib.hid hts.out.1
  have hn12 := len12 HL.out hg.out
  have hcz : C.size = 56 := by rw [← hC.out]; exact nv_size ⟨(ok_net hg.out).1, hcl⟩
  have HP := Lib.hid (show plIds ts = plN ts n by unfold plIds; rw [HL.out])
  obtain ⟨G, HGE⟩ : ∃ q, Hid (w.heap.size = q) := ⟨_, Lib.hid rfl⟩
  have HG0 := Lib.hid (show Blk ((w.alloc (.cells C 76)).alloc (.cells #[] 3)) G 76 C by rw [← HGE.out]; exact (Blk.new _ _ _).alloc _)
  have HR0 := Lib.hid (show ((w.alloc (.cells C 76)).alloc (.cells #[] 3)).ownsRow w.heap.size 3 1 (.slice (some ⟨w.heap.size + 1, 0, none⟩) 0 0) 0 [] from by
    have h := World.ownsRow_made (base := w.heap.size) (e := 3) (size := 1) (w.alloc (.cells C 76)) #[] 0 (by simp) (by decide) (by simp)
    simpa using h)
  have HB0 := Lib.hid (((Below.refl w.heap.size w).alloc (Nat.le_refl _) (.cells C 76)).alloc (by simp) (.cells #[] 3))
  go_enter Tryz.func91, Tryz.ntmps91
  go_upto_region 2 with fail
  obtain ⟨V, HV⟩ : ∃ q, Hid ((w.alloc (.cells C 76)).alloc (.cells #[] 3) = q) := ⟨_, Lib.hid rfl⟩
  rw [HV.out] at HG0 HR0 HB0 ⊢
  try simp only [HGE.out]
  rw [HGE.out] at HR0
  clear HV
  go_wp2_with fail
  go_loopw [5, 11] (fun v i wr => ∃ (k m c : Nat) (A2 : Option Addr), k ≤ n ∧ i = .int .i64 (k : Nat) ∧ m ≤ k ∧ v = .slice A2 m c ∧ Hid ((plN ts k).length = m) ∧ Blk wr G 76 C ∧ wr.ownsRow G 3 1 (.slice A2 m c) m (ints.intsV (plN ts k)) ∧ Below w.heap.size w wr) (fun _ i _ => n - (intOf i).toNat)
  case atStart => exact ⟨0, 0, 0, _, Nat.zero_le _, rfl, Nat.le_refl _, rfl, Lib.hid rfl, HG0.out, HR0.out, HB0.out⟩
  case round =>
    obtain ⟨k, m, c, A2, hk, rfl, hmk, rfl, HM, hG, hO, hB⟩ := hrel
    have HG := Lib.hid hG
    have HO := Lib.hid hO
    have HB := Lib.hid hB
    have hBs := hB.size
    clear hG hO hB HG0 HR0 HB0
    have hk0 : (0 : Int) ≤ (k : Int) := by omega
    by_cases hlt : k < n
    · obtain ⟨x, hx⟩ := at_lt HL.out hlt
      obtain ⟨gL, rfl, hgL, e0, e1, e2, e3, e4⟩ := (hts.out.below HB.out).2 k x hx
      have HX := Lib.hid hx
      have HOX := Lib.hid (goodLg_at hg.out hx)
      have hki : (k : Int) < (n : Int) := by omega
      have hkd : decide (k < n) = true := by simpa using hlt
      have HQE := Lib.hid (net_ends hg.out hx)
      clear hx
      obtain ⟨q, HQ⟩ : ∃ q, Hid (mem (net ts).ps x.frm = q) := ⟨_, Lib.hid rfl⟩
      have HQ2 := Lib.hid (show mem (net ts).ps x.to_ = q by rw [← HQE.out]; exact HQ.out)
      obtain ⟨W0, HW0⟩ : ∃ W, Hid (wr.alloc (.cells #[.int .i64 x.frm, .int .i64 x.to_, .int .i64 x.tape, .int .i64 x.comp, .int .i64 x.slope] 87) = W) := ⟨_, Lib.hid rfl⟩
      have HG1 := Lib.hid (HG.out.alloc (.cells #[.int .i64 x.frm, .int .i64 x.to_, .int .i64 x.tape, .int .i64 x.comp, .int .i64 x.slope] 87))
      have HK1 := Lib.hid (Blk.new wr 87 #[.int .i64 x.frm, .int .i64 x.to_, .int .i64 x.tape, .int .i64 x.comp, .int .i64 x.slope])
      have HO1 := Lib.hid (HO.out.alloc (.cells #[.int .i64 x.frm, .int .i64 x.to_, .int .i64 x.tape, .int .i64 x.comp, .int .i64 x.slope] 87))
      have HB1 := Lib.hid (HB.out.alloc hBs (.cells #[.int .i64 x.frm, .int .i64 x.to_, .int .i64 x.tape, .int .i64 x.comp, .int .i64 x.slope] 87))
      go_upto_region 5 with fail
      rw [HW0.out] at HG1 HK1 HO1 HB1 ⊢
      obtain ⟨X, HXX⟩ : ∃ X, Hid (wr.heap.size = X) := ⟨_, Lib.hid rfl⟩
      rw [HXX.out] at HK1
      try simp only [HXX.out]
      have y0 := HK1.out.cell 0
      have y1 := HK1.out.cell 1
      have y2 := HK1.out.cell 2
      have y3 := HK1.out.cell 3
      have y4 := HK1.out.cell 4
      have lX := HK1.out.lt
      simp at y0 y1 y2 y3 y4
      clear HW0 HXX e0 e1 e2 e3 e4 hgL
      refine wp_region_list ?_
      refine step_load _ rfl _ rfl G _ rfl HG1.out hcz ?_
      simp only [Act.put, List.getElem_toArray, List.getElem_cons_succ, List.getElem_cons_zero, List.setIfInBounds_toArray, List.set_cons_zero, List.set_cons_succ]
      go_wp2_with fail
      refine (show Calls Tryz.prog 75 #[.agg C, .agg #[.int .i64 x.frm, .int .i64 x.to_, .int .i64 x.tape, .int .i64 x.comp, .int .i64 x.slope]] W0 (BPost (q && q) W0) from by rw [← hC.out]; exact ends_any (net ts) cl x q q W0 HOX HQ HQ2).mono ?_
      rintro e w5 ⟨rfl, b5⟩
      have HG5 := Lib.hid (HG1.out.below b5 HG1.out.lt)
      have HO5 := Lib.hid (row_below HO1.out b5)
      have HB5 := Lib.hid (HB1.out.trans (b5.mono HB1.out.size))
      have hB5s := HB5.out.size
      clear b5 y0 y1 y2 y3 y4 lX HK1 HG1 HO1 HB1 HG HO HB
      cases q
      · have HC := Lib.hid (show plN ts (k + 1) = plN ts k from idxs_no HX.out HQ.out)
        go_wp2_with fail
        go_roundw
        case rel => exact ⟨k + 1, m, c, A2, by omega, by go_num, by omega, rfl, Lib.hid (by rw [HC.out]; exact HM.out), HG5.out, by rw [HC.out]; exact HO5.out, HB5.out⟩
        case measure => simp [intOf]; omega
      · have HC := Lib.hid (show plN ts (k + 1) = plN ts k ++ [(k : Int)] from idxs_yes HX.out HQ.out)
        go_wp2_with (at_builtin; refine wpList_append_lies _ rfl _ _ 27 rfl G 3 i0 (.int .i64 0) 1 8 Tryz.underlying27 hi hz0 hz1 hz2 rfl (by decide) _ _ _ rfl (HO5.out.alloc _) ⟨w5.heap.size, 0, none⟩ 1 1 [.int .i64 (k : Int)] rfl rfl (cell_one_new _ _ _) (by simp [Value.oneCell']) (by decide) (by unfold maxLen; omega) (by omega) (by rw [← HGE.out]; simp; omega) _ rfl ?_; intro g9 c9 w3 hown' hgrow hat hlt9)
        have HAL := Lib.hid ((Below.refl w5.heap.size w5).alloc (Nat.le_refl _) (.cells #[.int .i64 (k : Int)] 3))
        have HG9 := Lib.hid (((HG5.out.alloc (.cells #[.int .i64 (k : Int)] 3))).grown hgrow (fun e => own_blk_ne HO5.out HG5.out (by decide) e.symm))
        have HB9 := Lib.hid ((HB5.out.trans (HAL.out.mono hB5s)).grown hgrow (by simp; omega) (fun g e => by have := (HO5.out.lt g e).1; rw [HGE.out]; exact this))
        have HO9 := Lib.hid (show w3.ownsRow G 3 1 (.slice (some ⟨g9, 0, none⟩) (m + 1) c9) (m + 1) (ints.intsV (plN ts (k + 1))) by rw [HC.out, intsV_app]; exact hown')
        clear hown' hgrow hat
        go_wp2_with fail
        go_roundw
        case rel => exact ⟨k + 1, m + 1, c9, some ⟨g9, 0, none⟩, by omega, by go_num, by omega, rfl, Lib.hid (by rw [HC.out, List.length_append, HM.out]; rfl), HG9.out, HO9.out, HB9.out⟩
        case measure => simp [intOf]; omega
    · have hkd : decide (k < n) = false := by simpa using hlt
      obtain rfl : k = n := by omega
      have HFIN := Lib.hid (show wr.ownsRow w.heap.size 3 1 (.slice A2 m c) (plIds ts).length (ints.intsV (plIds ts)) by rw [HP.out, HM.out, HGE.out]; exact HO.out)
      clear hlt
      go_wp2_with fail
      go_ret
      exact ⟨_, rfl, HFIN.out, HB.out⟩
end Go.Proofs.YtiimegmaokfpgabGreatDoor.pg
namespace Go.Proofs.YtiimegmaokfpgabGreatDoor.pg
open Go.RowKit
open reads base ty lg lgi win hs nt nq rowi sn mt ml dt
set_option linter.unusedVariables false
set_option linter.unusedSimpArgs false
def prF (us : List Ed) (l : List Nat) : Nat → Nat → Int := fun i c => PR us l i c
theorem pr_in {us : List Ed} {l : List Nat} {i : Nat} (h : i ∈ l) (c : Nat) : prF us l i c = AA us i c := by unfold prF PR; rw [if_pos h]
theorem pr_out {us : List Ed} {l : List Nat} {i : Nat} (h : i ∉ l) (c : Nat) : prF us l i c = dl c i := by unfold prF PR; rw [if_neg h]
theorem pr_bd {us : List Ed} {l : List Nat} (hu : ∀ x ∈ us, EdOk x) (hl : us.length ≤ 12) (i c : Nat) : -10000 ≤ prF us l i c ∧ prF us l i c ≤ 10000 := by
  by_cases q : i ∈ l
  · rw [pr_in q]
    have := AA_le hu i c; omega
  · rw [pr_out q]
    have := dl_range c i; omega
def rowT (us : List Ed) (l : List Nat) (e : Ed) (M : Nat → Nat → Int) : Nat → Nat → Int := if e.t ∈ l then fun r => if r = e.t then abF (M e.t) e.t e.f e.mu else M r else M
def rowF (us : List Ed) (l : List Nat) (e : Ed) (M : Nat → Nat → Int) : Nat → Nat → Int := if e.f ∈ l then fun r => if r = e.f then abF (M e.f) e.f e.t (-e.mu) else M r else M
theorem abF_at (f : Nat → Int) {i j : Nat} (mu : Int) (hi : i < 8) (hj : j < 8) (hij : i ≠ j) (c : Nat) : abF f i j mu c = f c + (dl c i - dl c j + mu * dl c 8) := by
  unfold abF upd
  by_cases c8 : c = 8
  · subst c8
    rw [if_pos rfl, dl_self, dl_ne (a := 8) (b := i) (by omega), dl_ne (a := 8) (b := j) (by omega)]; omega
  · rw [if_neg c8, dl_ne c8]
    by_cases cj : c = j
    · subst cj
      rw [if_pos rfl, dl_self, dl_ne (fun q => hij q.symm)]; omega
    · rw [if_neg cj, dl_ne cj]
      by_cases ci : c = i
      · subst ci
        rw [if_pos rfl, dl_self]; omega
      · rw [if_neg ci, dl_ne ci]; omega
theorem rowT_at (us : List Ed) (l : List Nat) (e : Ed) (M : Nat → Nat → Int) (r : Nat) : rowT us l e M r = if r = e.t ∧ e.t ∈ l then abF (M e.t) e.t e.f e.mu else M r := by
  unfold rowT
  by_cases h : e.t ∈ l <;> by_cases k : r = e.t <;> simp [h, k]
theorem rowF_at (us : List Ed) (l : List Nat) (e : Ed) (M : Nat → Nat → Int) (r : Nat) : rowF us l e M r = if r = e.f ∧ e.f ∈ l then abF (M e.f) e.f e.t (-e.mu) else M r := by
  unfold rowF
  by_cases h : e.f ∈ l <;> by_cases k : r = e.f <;> simp [h, k]
theorem rows_next {us : List Ed} {l : List Nat} {e : Ed} (he : EdOk e) (i c : Nat) : rowF us l e (rowT us l e (prF us l)) i c = prF (us ++ [e]) l i c := by
  obtain ⟨h1, h2, h3, -⟩ := he
  rw [rowF_at]
  by_cases q : i ∈ l
  · rw [pr_in q, AA_snoc]
    unfold ent
    by_cases it : i = e.t
    · subst it
      rw [if_neg (fun z => h3 z.1.symm), rowT_at, if_pos ⟨rfl, q⟩, abF_at _ _ h2 h1 (fun z => h3 z.symm), pr_in q, dl_self, dl_ne (fun z => h3 z.symm)]; omega
    · by_cases iF : i = e.f
      · subst iF
        rw [if_pos ⟨rfl, q⟩, abF_at _ _ h1 h2 h3, rowT_at, if_neg (fun z => h3 z.1), pr_in q, dl_self, dl_ne it]; grind
      · rw [if_neg (fun z => iF z.1), rowT_at, if_neg (fun z => it z.1), pr_in q, dl_ne it, dl_ne iF]; omega
  · rw [if_neg (fun z => q (by rw [z.1]; exact z.2)), rowT_at, if_neg (fun z => q (by rw [z.1]; exact z.2)), pr_out q, pr_out q]
theorem mx_row {w v : World} {b n c m i : Nat} {A : Option Addr} {P : Nat → Nat} {M : Nat → Nat → Int} {f : Nat → Int} (h : MxB w b A n c m P M) (hi : i < n) (hr : RwB v (P i) m f) (hg : w.grownBy v (some (P i))) : MxB v b A n c m P (fun r => if r = i then f else M r) := by
  refine ⟨h.1.kept hg (.inr (own_blk_ne h.1 (h.2.1 i hi).1 (by decide))), fun r hr9 => ?_, h.2.2⟩
  show RwB v (P r) m (if r = i then f else M r) ∧ _
  by_cases q : r = i
  · subst q; rw [if_pos rfl]; exact ⟨hr, (h.2.1 r hr9).2⟩
  · rw [if_neg q]
    exact ⟨Blk.grown (h.2.1 r hr9).1 hg (fun e => q (h.2.2 r i hr9 hi (by injection e))), (h.2.1 r hr9).2⟩
def pcs (k : Nat) (P : Nat → Nat) : Array Value := ((List.range 8).map (fun i => if i < k then Value.slice (some ⟨P i, 0, none⟩) 9 9 else .slice none 0 0)).toArray
theorem pcs_size (k : Nat) (P : Nat → Nat) : (pcs k P).size = 8 := by simp [pcs]
theorem pcs_at {k i : Nat} (P : Nat → Nat) (h : i < 8) : (pcs k P)[i]? = some (if i < k then Value.slice (some ⟨P i, 0, none⟩) 9 9 else .slice none 0 0) := by simp [pcs, h]
theorem pcs_set {k X : Nat} (P : Nat → Nat) (h : k < 8) : (pcs k P).setIfInBounds k (.slice (some ⟨X, 0, none⟩) 9 9) = pcs (k + 1) (fun i => if i = k then X else P i) := by
  apply Array.ext_getElem?
  intro i
  rw [Array.getElem?_setIfInBounds]
  by_cases hi : i < 8
  · rw [pcs_at (k := k + 1) (fun i => if i = k then X else P i) hi]
    by_cases e : k = i
    · subst e
      rw [if_pos rfl, pcs_size, if_pos h, if_pos (by omega)]; simp
    · rw [if_neg e, pcs_at _ hi]
      by_cases q : i < k
      · rw [if_pos q, if_pos (by omega)]; simp [show ¬ i = k from fun z => e z.symm]
      · rw [if_neg q, if_neg (by omega)]
  · rw [Array.getElem?_eq_none (by rw [pcs_size]; omega)]
    by_cases e : k = i
    · omega
    · rw [if_neg e, Array.getElem?_eq_none (by rw [pcs_size]; omega)]
theorem pcs_all (P : Nat → Nat) : (pcs 8 P).toList = rp 8 9 P := by
  unfold pcs rp
  rw [List.toList_toArray]
  exact List.map_congr_left (fun i hi => by rw [if_pos (List.mem_range.1 hi)])
theorem pcs_zero : madeCells #[Value.slice none 0 0] (8 * 1) = pcs 0 (fun _ => 0) := by kernel_rfl
def PB (w : World) (Q k : Nat) (P : Nat → Nat) (F : Nat → Nat → Int) (v : World) : Prop :=
  Blk v Q 27 (pcs k P) ∧ (∀ i, i < k → RwB v (P i) 9 (F i) ∧ w.heap.size ≤ P i) ∧ (∀ i j, i < k → j < k → P i = P j → i = j) ∧ Below w.heap.size w v ∧ w.heap.size ≤ Q
theorem PB.step {w v v' : World} {Q k : Nat} {P : Nat → Nat} {F : Nat → Nat → Int} (h : PB w Q k P F v) (hb : Below v.heap.size v v') : PB w Q k P F v' :=
  ⟨h.1.below hb h.1.lt, fun i hi => ⟨(h.2.1 i hi).1.below hb (h.2.1 i hi).1.lt, (h.2.1 i hi).2⟩, h.2.2.1, h.2.2.2.1.trans (hb.mono h.2.2.2.1.size), h.2.2.2.2⟩
theorem PB.more {w v : World} {Q k : Nat} {P : Nat → Nat} {F : Nat → Nat → Int} (h : PB w Q k P F v) (hk : k < 8) : PB w Q (k + 1) (fun i => if i = k then v.heap.size else P i) (fun i => if i = k then fun _ => 0 else F i) ((v.setCell ⟨Q, k, none⟩ (.slice (some ⟨v.heap.size, 0, none⟩) 9 9)).alloc (.cells (cs1 9 (fun _ => 0)) 3)) := by
  have hs := h.2.2.2.1.size
  have hz : (v.setCell ⟨Q, k, none⟩ (.slice (some ⟨v.heap.size, 0, none⟩) 9 9)).heap.size = v.heap.size := by simp [World.setCell]
  have hQ : Q ≠ v.heap.size := by have := h.1.lt; omega
  refine ⟨by have := (h.1.set_ k (.slice (some ⟨v.heap.size, 0, none⟩) 9 9)).alloc (.cells (cs1 9 (fun _ => 0)) 3); rwa [pcs_set P hk] at this, fun i hi => ?_, fun i j hi hj e => ?_, (h.2.2.2.1.setCell (p := ⟨Q, k, none⟩) h.2.2.2.2 _).alloc (by rw [hz]; exact hs) _, h.2.2.2.2⟩
  · show RwB _ (if i = k then v.heap.size else P i) 9 (if i = k then fun _ => 0 else F i) ∧ w.heap.size ≤ (if i = k then v.heap.size else P i)
    by_cases q : i = k
    · rw [if_pos q, if_pos q]
      have hn := Blk.new (v.setCell ⟨Q, k, none⟩ (.slice (some ⟨v.heap.size, 0, none⟩) 9 9)) 3 (cs1 9 (fun _ => 0))
      rw [hz] at hn
      exact ⟨hn, hs⟩
    · rw [if_neg q, if_neg q]
      have h2 := h.2.1 i (by omega)
      exact ⟨Blk.alloc (Blk.far h2.1 (by show P i ≠ Q; exact fun z => Blk.ne_ h.1 h2.1 (by decide) z.symm) _) _, h2.2⟩
  · have e : (if i = k then v.heap.size else P i) = (if j = k then v.heap.size else P j) := e
    by_cases q : i = k <;> by_cases q2 : j = k
    · omega
    · rw [if_pos q, if_neg q2] at e
      have := (h.2.1 j (by omega)).1.lt; omega
    · rw [if_neg q, if_pos q2] at e
      have := (h.2.1 i (by omega)).1.lt; omega
    · rw [if_neg q, if_neg q2] at e
      exact h.2.2.1 i j (by omega) (by omega) e
theorem PB.put {w v : World} {Q k : Nat} {P : Nat → Nat} {F : Nat → Nat → Int} (h : PB w Q (k + 1) P F v) (x : Int) (hk : k < 9) : PB w Q (k + 1) P (fun i => if i = k then upd (F k) k x else F i) (v.setCell ⟨P k, k, none⟩ (.int .i64 x)) := by
  have hk2 := h.2.1 k (by omega)
  refine ⟨h.1.far (by show Q ≠ P k; exact Blk.ne_ h.1 hk2.1 (by decide)) _, fun i hi => ?_, h.2.2.1, h.2.2.2.1.setCell (p := ⟨P k, k, none⟩) hk2.2 _, h.2.2.2.2⟩
  show RwB _ (P i) 9 (if i = k then upd (F k) k x else F i) ∧ _
  by_cases q : i = k
  · subst q; rw [if_pos rfl]; exact ⟨hk2.1.set hk x, hk2.2⟩
  · rw [if_neg q]
    exact ⟨Blk.far (h.2.1 i hi).1 (by show P i ≠ P k; exact fun z => q (h.2.2.1 i k hi (by omega) z)) _, (h.2.1 i hi).2⟩
theorem PB.congr {w v : World} {Q k : Nat} {P : Nat → Nat} {F F' : Nat → Nat → Int} (h : PB w Q k P F v) (e : ∀ i, i < k → ∀ c, c < 9 → F i c = F' i c) : PB w Q k P F' v :=
  ⟨h.1, fun i hi => ⟨(h.2.1 i hi).1.congr (e i hi), (h.2.1 i hi).2⟩, h.2.2⟩
theorem PB.done {w v : World} {Q : Nat} {P : Nat → Nat} {F : Nat → Nat → Int} (h : PB w Q 8 P F v) : MxB v w.heap.size (some ⟨Q, 0, none⟩) 8 8 9 P F := by
  have := row_blk (size := 1) (n := 8) h.1 h.2.2.2.2 (by decide) (by rw [pcs_size])
  rw [pcs_all] at this
  exact ⟨this, h.2.1, h.2.2.1⟩
end Go.Proofs.YtiimegmaokfpgabGreatDoor.pg
namespace Go.Proofs.YtiimegmaokfpgabGreatDoor.pg
open Go.RowKit
open reads base ty lg lgi win hs nt nq rowi sn mt ml dt
set_option linter.unusedVariables false
set_option linter.unusedSimpArgs false
theorem fix_is {ts : List Lg} (hg : goodLg ts = true) {s : Nat} : (decide (s = 0) || !mem (net ts).ps (s : Int)) = !decide (s ∈ stN ts) := by
  have h1 := mem_stN hg (s := (s : Int)) (by omega)
  rw [Int.toNat_natCast] at h1
  have hp := (ps_split hg).1
  have hso := (ps_split hg).2
  by_cases q : s ∈ stN ts
  · have hm : mem (net ts).ps (s : Int) = true := mem_iff.2 (by rw [hp]; exact List.mem_cons_of_mem _ (h1.1 q))
    have h0 : ¬ s = 0 := fun z => by have := hso.2 _ (h1.1 q); omega
    rw [hm]; simp [q, h0]
  · by_cases z : s = 0
    · simp [q, z]
      rw [z] at q; exact q
    · have hm : mem (net ts).ps (s : Int) = false := by
        cases e : mem (net ts).ps (s : Int)
        · rfl
        · have := mem_iff.1 e
          rw [hp] at this
          rcases List.mem_cons.1 this with y | y
          · omega
          · exact absurd (h1.2 y) q
      rw [hm]; simp [q]
def BqPo (F : Nat → Nat → Int) (w : World) (e : Ending) (w' : World) : Prop :=
  ∃ A c P, e = .returned (.slice A 8 c) ∧ MxB w' w.heap.size A 8 c 9 P F ∧ Below w.heap.size w w'
def BS (w : World) (Q G : Nat) (C : Array Value) (P : Nat → Nat) (U : List Int) (AU : Option Addr) (nu h1 : Nat) (M : Nat → Nat → Int) (v : World) : Prop :=
  MxB v w.heap.size (some ⟨Q, 0, none⟩) 8 8 9 P M ∧ Blk v G 76 C ∧ ints.IL v AU nu U ∧ Below w.heap.size w v ∧ (∀ g, AU = some ⟨g, 0, none⟩ → h1 ≤ g ∧ g < v.heap.size) ∧ (∀ i, i < 8 → P i < h1)
section
variable {w v v' : World} {Q G nu h1 : Nat} {C : Array Value} {P : Nat → Nat} {U : List Int} {AU : Option Addr} {M : Nat → Nat → Int}
theorem BS.step (h : BS w Q G C P U AU nu h1 M v) (hb : Below v.heap.size v v') : BS w Q G C P U AU nu h1 M v' := by
  obtain ⟨a, b, c, d, e, f⟩ := h
  refine ⟨a.step hb, b.below hb b.lt, c.keep (fun g o q => hb.cell (p := ⟨g, o, none⟩) (e g q).2), d.trans (hb.mono d.size), fun g q => ⟨(e g q).1, by have := (e g q).2; have := hb.size; omega⟩, f⟩
theorem BS.congr {N : Nat → Nat → Int} (h : BS w Q G C P U AU nu h1 M v) (e : ∀ i, i < 8 → ∀ c, c < 9 → M i c = N i c) : BS w Q G C P U AU nu h1 N v := ⟨h.1.congr e, h.2⟩
theorem BS.row {i : Nat} {f : Nat → Int} (h : BS w Q G C P U AU nu h1 M v) (hi : i < 8) (hr : RwB v' (P i) 9 f) (hg : v.grownBy v' (some (P i))) : BS w Q G C P U AU nu h1 (fun r => if r = i then f else M r) v' := by
  obtain ⟨a, b, c, d, e, g⟩ := h
  have hp := (a.2.1 i hi)
  refine ⟨mx_row a hi hr hg, b.grown hg (fun z => Blk.ne_ b hp.1 (by decide) (by injection z)), c.keep (fun k o q => World.cell?_of_block (hg.block k (e k q).2 (fun z => ?_))), d.grown hg d.size (fun k z => by injection z with z; rw [← z]; exact hp.2), fun k q => ⟨(e k q).1, by have := (e k q).2; have := hg.size; omega⟩, g⟩
  injection z with z
  have z : k = P i := z
  have := (e k q).1
  have := g i hi
  omega
end
set_option maxHeartbeats 16000000 in
set_option maxRecDepth 100000 in
theorem balance_any (A : Option Addr) (n cap : Nat) (ts : List Lg) (cl : List Bool) (C : Array Value) (ax : Int) (w : World) (h0 : 0 ≤ ax) (h2 : ax ≤ 2) (hC : Hid (nv (net ts) cl = C)) (hcl : cl.length = 12) (hg : Hid (goodLg ts = true)) (hts : Hid (LgAt w w.heap.size A n ts)) (hT : Hid (Tab w)) :
    Calls Tryz.prog 135 #[.slice A n cap, .agg C, .int .i64 ax] w (BqPo (prF (US ts ax) (stN ts)) w) := by
  obtain ⟨i0, hi, hz0, hz1, hz2⟩ := info_parts infoI
  obtain ⟨i1, ji, jz0, jz1, jz2⟩ := info_parts infoR
  have HL := Lib.hid hts.out.1
  have hn12 := len12 HL.out hg.out
  have hcz : C.size = 56 := by rw [← hC.out]; exact nv_size ⟨(ok_net hg.out).1, hcl⟩
  have hmk1 : ∀ W : World, (Instr.makeSlice 130 (.int .i64 8) (.int .i64 8)).run Tryz.prog W = .ok (.slice (some ⟨W.heap.size, 0, none⟩) 8 8) (W.alloc (.cells (pcs 0 (fun _ => 0)) 27)) := fun W => by
    have h := run_make_rowN (P := Tryz.prog) 130 27 i1 _ Tryz.underlying130 ji jz0 .i64 .i64 8 8 (Nat.le_refl _) (by rw [jz2]; omega) (by omega) W
    rw [jz1] at h
    rw [← pcs_zero]
    exact h
  have hmk2 : ∀ W : World, (Instr.makeSlice 27 (.int .i64 9) (.int .i64 9)).run Tryz.prog W = .ok (.slice (some ⟨W.heap.size, 0, none⟩) 9 9) (W.alloc (.cells (cs1 9 (fun _ => 0)) 3)) := fun W => by
    have h := run_make_rowN (P := Tryz.prog) 27 3 i0 _ Tryz.underlying27 hi hz0 .i64 .i64 9 9 (Nat.le_refl _) (by rw [hz2]; omega) (by omega) W
    rw [hz1] at h
    rw [← cs1_zero]
    exact h
  obtain ⟨G, HGE⟩ : ∃ q, Hid (w.heap.size = q) := ⟨_, Lib.hid rfl⟩
  obtain ⟨Q, HQE⟩ : ∃ q, Hid (w.heap.size + 1 = q) := ⟨_, Lib.hid rfl⟩
  have HG0 := Lib.hid (show Blk ((w.alloc (.cells C 76)).alloc (.cells (pcs 0 (fun _ => 0)) 27)) G 76 C by rw [← HGE.out]; exact (Blk.new _ _ _).alloc _)
  have HPB0 := Lib.hid (show PB w Q 0 (fun _ => 0) (fun _ _ => 0) ((w.alloc (.cells C 76)).alloc (.cells (pcs 0 (fun _ => 0)) 27)) from by
    refine ⟨?_, fun i hi9 => by omega, fun i j hi9 => by omega, ((Below.refl w.heap.size w).alloc (Nat.le_refl _) _).alloc (by simp) _, by rw [← HQE.out]; omega⟩
    have h := Blk.new (w.alloc (.cells C 76)) 27 (pcs 0 (fun _ => 0))
    rw [← HQE.out]; simpa using h)
  go_enter Tryz.func135, Tryz.ntmps135
  go_upto_region 2 with fail
  obtain ⟨V, HV⟩ : ∃ q, Hid ((w.alloc (.cells C 76)).alloc (.cells (pcs 0 (fun _ => 0)) 27) = q) := ⟨_, Lib.hid rfl⟩
  rw [HV.out] at HG0 HPB0 ⊢
  try simp only [HGE.out]
  have HQE2 := Lib.hid (show G + 1 = Q by rw [← HGE.out]; exact HQE.out)
  try simp only [HQE2.out]
  clear HV HQE HQE2
  go_wp2_with fail
  go_loopw [16] (fun i wr => ∃ (k : Nat) (P : Nat → Nat), k ≤ 8 ∧ i = .int .i64 (k : Nat) ∧ PB w Q k P (prF [] (stN ts)) wr ∧ Blk wr G 76 C) (fun i _ => 8 - (intOf i).toNat)
  case atStart => exact ⟨0, _, by omega, rfl, HPB0.out.congr (fun i hi9 => by omega), HG0.out⟩
  case round =>
    obtain ⟨k, P, hk, rfl, hPB, hGB⟩ := hrel
    have HPB := Lib.hid hPB
    have HGB := Lib.hid hGB
    clear hPB hGB HPB0 HG0
    have hk0 : (0 : Int) ≤ (k : Int) := by omega
    by_cases hlt : k < 8
    · have hki : (k : Int) < 8 := by omega
      have HFX := Lib.hid (fix_is hg.out (s := k))
      have q1 := (HPB.out.1.alloc (.cells (cs1 9 (fun _ => 0)) 3)).cell k
      have q2 := (HPB.out.1.alloc (.cells (cs1 9 (fun _ => 0)) 3)).frozen k
      have q3 := HPB.out.1.lt
      rw [pcs_at P hlt] at q1
      have HPM := Lib.hid (HPB.out.more hlt)
      have HGM := Lib.hid ((HGB.out.far (p := ⟨Q, k, none⟩) (Blk.ne_ HGB.out HPB.out.1 (by decide)) (.slice (some ⟨wr.heap.size, 0, none⟩) 9 9)).alloc (.cells (cs1 9 (fun _ => 0)) 3))
      go_upto_region 6 with fail
      obtain ⟨W1, HW1⟩ : ∃ W, Hid ((wr.setCell ⟨Q, k, none⟩ (.slice (some ⟨wr.heap.size, 0, none⟩) 9 9)).alloc (.cells (cs1 9 (fun _ => 0)) 3) = W) := ⟨_, Lib.hid rfl⟩
      rw [HW1.out] at HPM HGM ⊢
      obtain ⟨X, HXX⟩ : ∃ X, Hid (wr.heap.size = X) := ⟨_, Lib.hid rfl⟩
      rw [HXX.out] at HPM
      try simp only [HXX.out]
      clear HW1 HXX q1 q2 q3 HPB HGB
      refine wp_region_list ?_
      refine step_load _ rfl _ rfl G _ rfl HGM.out hcz ?_
      simp only [Act.put, List.getElem_toArray, List.getElem_cons_succ, List.getElem_cons_zero, List.setIfInBounds_toArray, List.set_cons_zero, List.set_cons_succ]
      go_wp2_with fail
      refine (fixed_any (net ts) cl C k (!decide (k ∈ stN ts)) W1 hC hlt HFX).mono ?_
      rintro e w5 ⟨rfl, b5⟩
      have HP5 := Lib.hid (HPM.out.step b5)
      have HG5 := Lib.hid (HGM.out.below b5 HGM.out.lt)
      clear b5 HPM HGM
      by_cases hin : k ∈ stN ts
      · have hdi : decide (k ∈ stN ts) = true := by simpa using hin
        have HP6 := Lib.hid (HP5.out.congr (F' := prF [] (stN ts)) (fun i hi9 c _ => by
          show (if i = k then fun _ => 0 else prF [] (stN ts) i) c = prF [] (stN ts) i c
          by_cases q : i = k
          · rw [if_pos q, q, pr_in hin]; rfl
          · rw [if_neg q]))
        have HIN := Lib.hid hin
        clear hin HP5
        rw [hdi]
        clear hdi
        go_wp2_with fail
        go_roundw
        case rel => exact ⟨k + 1, _, by omega, by go_num, HP6.out, HG5.out⟩
        case measure => simp [intOf]; omega
      · have hdi : decide (k ∈ stN ts) = false := by simpa using hin
        have HPP := Lib.hid (HP5.out.put 1 (by omega))
        have HGP := Lib.hid (HG5.out.far (p := ⟨if k = k then X else P k, k, none⟩) (Blk.ne_ HG5.out (HP5.out.2.1 k (by omega)).1 (by decide)) (.int .i64 1))
        have r0 := HP5.out.2.1 k (by omega)
        have r1 := RwB.at_ r0.1 (show k < 9 by omega)
        have r2 := RwB.fro r0.1 k
        have r3 := RwB.lt r0.1
        have r4 := HP5.out.1.cell k
        have r5 := HP5.out.1.lt
        rw [pcs_at _ hlt, if_pos (by omega)] at r4
        simp only [if_true] at r1 r2 r3 r4 HPP HGP
        have hk9 : (k : Int) < 9 := by omega
        have HP6 := Lib.hid (HPP.out.congr (F' := prF [] (stN ts)) (fun i hi9 c _ => by
          show (if i = k then upd (fun _ => 0) k 1 else if i = k then fun _ => 0 else prF [] (stN ts) i) c = prF [] (stN ts) i c
          by_cases q : i = k
          · rw [if_pos q, q, pr_out hin]
            unfold upd dl; rfl
          · rw [if_neg q, if_neg q]))
        clear r0 hin HP5 HPP
        rw [hdi]
        clear hdi
        go_wp2_with fail
        go_roundw
        case rel => exact ⟨k + 1, _, by omega, by go_num, HP6.out, HGP.out⟩
        case measure => simp [intOf]; omega
    · have hkd : ¬ (k : Int) < 8 := by omega
      obtain rfl : k = 8 := by omega
      have HMX := Lib.hid HPB.out.done
      have HBX := Lib.hid HPB.out.2.2.2.1
      have HPL := Lib.hid (show ∀ i, i < 8 → P i < wr.heap.size from fun i hi9 => (HPB.out.2.1 i hi9).1.lt)
      clear hlt HPB
      go_upto_region 9 with fail
      refine wp_region_list ?_
      refine step_move _ rfl _ rfl _ rfl ?_
      simp only [Act.put, List.getElem_toArray, List.getElem_cons_succ, List.getElem_cons_zero, List.setIfInBounds_toArray, List.set_cons_zero, List.set_cons_succ]
      refine step_load _ rfl _ rfl G _ rfl HGB.out hcz ?_
      simp only [Act.put, List.getElem_toArray, List.getElem_cons_succ, List.getElem_cons_zero, List.setIfInBounds_toArray, List.set_cons_zero, List.set_cons_succ]
      go_wp2_with fail
      refine (placedLegs_any A n cap ts cl C _ hC hcl hg (Lib.hid (hts.out.step HBX.out))).mono ?_
      rintro e w2 ⟨vU, rfl, hOU, b2⟩
      obtain ⟨U, HU⟩ : ∃ q, Hid (plIds ts = q) := ⟨_, Lib.hid rfl⟩
      rw [HU.out] at hOU
      obtain ⟨nu, HNU⟩ : ∃ q, Hid (U.length = q) := ⟨_, Lib.hid rfl⟩
      rw [HNU.out] at hOU
      obtain ⟨AU, cU, rfl⟩ := row_slice hOU
      have hnu : nu ≤ 12 := by rw [← HNU.out, ← HU.out]; have := plIds_len' ts; rw [HL.out] at this; omega
      obtain ⟨h1, HH1⟩ : ∃ q, Hid (wr.heap.size = q) := ⟨_, Lib.hid rfl⟩
      have HBS0 := Lib.hid (show BS w Q G C P U AU nu h1 (prF [] (stN ts)) w2 from ⟨HMX.out.step b2, HGB.out.below b2 HGB.out.lt, ints.IL.of_own hOU, HBX.out.trans (b2.mono HBX.out.size), fun g e => by have := hOU.lt g (by rw [e]; rfl); rw [← HH1.out]; exact this, fun i hi9 => by rw [← HH1.out]; exact HPL.out i hi9⟩)
      clear hOU b2 HMX HBX HGB HPL HH1
      go_wp2_with fail
      go_loopw [37] (fun i wr => ∃ k : Nat, k ≤ nu ∧ i = .int .i64 (k : Nat) ∧ BS w Q G C P U AU nu h1 (prF (eds ts ax (U.take k)) (stN ts)) wr) (fun i _ => nu - (intOf i).toNat)
      case atStart => exact ⟨0, Nat.zero_le _, rfl, HBS0.out⟩
      case round =>
        obtain ⟨k, hk, rfl, hBS⟩ := hrel
        have HBSQ := Lib.hid hBS
        clear hBS HBS0
        have hk0 : (0 : Int) ≤ (k : Int) := by omega
        by_cases hlt : k < nu
        · have hki : (k : Int) < (nu : Int) := by omega
          have hkd : decide (k < nu) = true := by simpa using hlt
          obtain ⟨q, hq⟩ := at_lt HNU.out hlt
          have hqm := List.mem_of_getElem? hq
          obtain ⟨jq, rfl, ⟨fr, tt, tp, cm, sl⟩, hx, -⟩ := plIds_at (by rw [HU.out]; exact hqm)
          have hjn : jq < n := by have := lt_at hx; rw [HL.out] at this; exact this
          have hji : (jq : Int) < (n : Int) := by omega
          have hj0 : (0 : Int) ≤ (jq : Int) := by omega
          have HOX := Lib.hid (goodLg_at hg.out hx)
          obtain ⟨⟨f0, f7⟩, ⟨t0, t7⟩, hne, -⟩ := okLg_lim HOX.out
          simp only [] at f0 f7 t0 t7 hne
          obtain ⟨f, rfl⟩ : ∃ f : Nat, fr = f := ⟨fr.toNat, by omega⟩
          obtain ⟨t, rfl⟩ : ∃ t : Nat, tt = t := ⟨tt.toNat, by omega⟩
          have hf8 : f < 8 := by omega
          have ht8 : t < 8 := by omega
          have hft : f ≠ t := fun z => hne (by rw [z])
          have htf : t ≠ f := fun z => hft z.symm
          have hfi : (f : Int) < 8 := by omega
          have hti : (t : Int) < 8 := by omega
          have HST := Lib.hid (show eds ts ax (U.take (k + 1)) = eds ts ax (U.take k) ++ [edOf ax ⟨(f : Int), (t : Int), tp, cm, sl⟩] by rw [eds_take hq, lgAt_is hx])
          have HED := Lib.hid (edOf_ok HOX.out ax)
          obtain ⟨us, HUS⟩ : ∃ us, Hid (eds ts ax (U.take k) = us) := ⟨_, Lib.hid rfl⟩
          have HBD := Lib.hid (show ∀ i c, -10000 ≤ prF us (stN ts) i c ∧ prF us (stN ts) i c ≤ 10000 from fun i c => pr_bd (by rw [← HUS.out]; exact eds_ok hg.out ax (fun i hi9 => by rw [HU.out]; exact List.mem_of_mem_take hi9)) (by rw [← HUS.out]; unfold eds; rw [List.length_map, List.length_take]; omega) i c)
          rw [HUS.out] at HST HBSQ
          obtain ⟨mu, HMU⟩ : ∃ q, Hid (msA ⟨(f : Int), (t : Int), tp, cm, sl⟩ ax = q) := ⟨_, Lib.hid rfl⟩
          have bmu := msA_bd HOX.out ax
          rw [HMU.out] at bmu
          obtain ⟨ed, HEE⟩ : ∃ q, Hid (edOf ax ⟨(f : Int), (t : Int), tp, cm, sl⟩ = q) := ⟨_, Lib.hid rfl⟩
          have HEP := Lib.hid (show ed.f = f ∧ ed.t = t ∧ ed.mu = mu by rw [← HEE.out]; exact ⟨rfl, rfl, HMU.out⟩)
          rw [HEE.out] at HST HED
          have HNX := Lib.hid (show ∀ i c, rowF us (stN ts) ed (rowT us (stN ts) ed (prF us (stN ts))) i c = prF (eds ts ax (U.take (k + 1))) (stN ts) i c from fun i c => by rw [HST.out]; exact rows_next HED.out i c)
          have HFT := Lib.hid (fix_is hg.out (s := t))
          have HFF := Lib.hid (fix_is hg.out (s := f))
          obtain ⟨gU, rfl, eU⟩ := HBSQ.out.2.2.1.2 k _ hq
          obtain ⟨gL, rfl, hgL, e0, e1, e2, e3, e4⟩ := (hts.out.below HBSQ.out.2.2.2.1).2 jq _ hx
          simp only [] at e0 e1 e2 e3 e4
          clear hq hqm hx HST HUS f0 f7 t0 t7 hne
          obtain ⟨W0, HW0⟩ : ∃ W, Hid (wr.alloc (.cells #[.int .i64 (f : Int), .int .i64 (t : Int), .int .i64 tp, .int .i64 cm, .int .i64 sl] 87) = W) := ⟨_, Lib.hid rfl⟩
          have HBS1 := Lib.hid (HBSQ.out.step ((Below.refl _ _).alloc (Nat.le_refl _) (.cells #[.int .i64 (f : Int), .int .i64 (t : Int), .int .i64 tp, .int .i64 cm, .int .i64 sl] 87)))
          have HK1 := Lib.hid (Blk.new wr 87 #[.int .i64 (f : Int), .int .i64 (t : Int), .int .i64 tp, .int .i64 cm, .int .i64 sl])
          go_upto_region 13 with fail
          rw [HW0.out] at HBS1 HK1 ⊢
          obtain ⟨X, HXX⟩ : ∃ X, Hid (wr.heap.size = X) := ⟨_, Lib.hid rfl⟩
          rw [HXX.out] at HK1
          try simp only [HXX.out]
          clear HW0 HXX e0 e1 e2 e3 e4 eU hgL HBSQ
          have y0 := HK1.out.cell 0
          have y1 := HK1.out.cell 1
          have y2 := HK1.out.cell 2
          have y3 := HK1.out.cell 3
          have y4 := HK1.out.cell 4
          have lX := HK1.out.lt
          simp at y0 y1 y2 y3 y4
          go_wp2_with fail
          refine (msOn_any ⟨(f : Int), (t : Int), tp, cm, sl⟩ ax mu _ HOX h0 h2 HMU (Lib.hid (hT.out.below HBS1.out.2.2.2.1))).mono ?_
          rintro e w3 ⟨rfl, b3⟩
          have HBS3 := Lib.hid (HBS1.out.step b3)
          have HK3 := Lib.hid (HK1.out.below b3 HK1.out.lt)
          clear b3 HBS1 HK1 y0 y1 y2 y3 y4 lX
          go_upto_region 14 with fail
          have y0 := HK3.out.cell 0
          have y1 := HK3.out.cell 1
          have lX := HK3.out.lt
          simp at y0 y1
          refine wp_region_list ?_
          refine step_load _ rfl _ rfl G _ rfl HBS3.out.2.1 hcz ?_
          simp only [Act.put, List.getElem_toArray, List.getElem_cons_succ, List.getElem_cons_zero, List.setIfInBounds_toArray, List.set_cons_zero, List.set_cons_succ]
          go_wp2_with fail
          refine (fixed_any (net ts) cl C t (!decide (t ∈ stN ts)) _ hC ht8 HFT).mono ?_
          rintro e w4 ⟨rfl, b9⟩
          have HBS4 := Lib.hid (HBS3.out.step b9)
          have HK4 := Lib.hid (HK3.out.below b9 HK3.out.lt)
          clear b9 HBS3 HK3 y0 y1 lX
          by_cases htin : t ∈ stN ts
          · have hdt : decide (t ∈ stN ts) = true := by simpa using htin
            rw [hdt]
            clear hdt
            have y0 := HK4.out.cell 0
            have y1 := HK4.out.cell 1
            have lX := HK4.out.lt
            simp at y0 y1
            obtain ⟨g9, eg, -, lg, tops, -⟩ := HBS4.out.1.top ht8
            obtain rfl : Q = g9 := by injection eg with eg; injection eg
            have tk := tops t ht8
            have HRW := Lib.hid (HBS4.out.1.2.1 t ht8).1
            have HBR := Lib.hid (show ∀ c, -10000 ≤ prF us (stN ts) t c ∧ prF us (stN ts) t c ≤ 10000 from fun c => HBD.out t c)
            clear eg tops
            go_upto_region 15 with fail
            refine wp_region_still_tail 10 (by kernel_rfl) (by kernel_rfl) ?_
            simp only [List.take_succ_cons, List.take_zero, List.drop_succ_cons, List.drop_zero]
            repeat still_step
            refine wpStill_nil ?_
            change wpList _ _ _ _ _ w4.drew
            clear y0 y1 lX tk lg
            go_wp2_with fail
            refine (add_any (P t) t f mu _ _ ht8 hf8 htf (Lib.hid HBR.out) (by omega) (Lib.hid (show RwB w4.drew (P t) 9 _ from HRW.out))).mono ?_
            rintro e w5 ⟨rfl, hR9, hG9⟩
            have HBS5 := Lib.hid ((HBS4.out.step (Below.refl _ _).drew).row ht8 hR9 hG9)
            have HK5 := Lib.hid ((HK4.out.drew).grown hG9 (fun z => Blk.ne_ HK4.out HRW.out (by decide) (by injection z)))
            clear hR9 hG9 HRW HBR
            have HBS6 := Lib.hid (HBS5.out.congr (N := rowT us (stN ts) ed (prF us (stN ts))) (fun i _ c _ => by
              rw [rowT_at, HEP.out.1, HEP.out.2.1, HEP.out.2.2]
              show (if i = t then abF (prF us (stN ts) t) t f mu else prF us (stN ts) i) c = _
              by_cases z : i = t
              · rw [if_pos z, if_pos ⟨z, htin⟩]
              · rw [if_neg z, if_neg (fun y => z y.1)]))
            have HK6 := Lib.hid HK5.out
            clear HBS5 HK5 HBS4 HK4
            go_upto_region 16 with fail
            have y0 := HK6.out.cell 0
            have y1 := HK6.out.cell 1
            have lX := HK6.out.lt
            simp at y0 y1
            refine wp_region_list ?_
            refine step_load _ rfl _ rfl G _ rfl HBS6.out.2.1 hcz ?_
            simp only [Act.put, List.getElem_toArray, List.getElem_cons_succ, List.getElem_cons_zero, List.setIfInBounds_toArray, List.set_cons_zero, List.set_cons_succ]
            go_wp2_with fail
            refine (fixed_any (net ts) cl C f (!decide (f ∈ stN ts)) _ hC hf8 HFF).mono ?_
            rintro e w6 ⟨rfl, b9⟩
            have HBS7 := Lib.hid (HBS6.out.step b9)
            have HK7 := Lib.hid (HK6.out.below b9 HK6.out.lt)
            clear b9 HBS6 HK6 y0 y1 lX
            by_cases hfin : f ∈ stN ts
            · have hdf : decide (f ∈ stN ts) = true := by simpa using hfin
              rw [hdf]
              clear hdf
              have xm : IntKind.i64.wrap (-mu) = -mu := IntWalk.i64_in _ (by omega)
              have y0 := HK7.out.cell 0
              have y1 := HK7.out.cell 1
              have lX := HK7.out.lt
              simp at y0 y1
              obtain ⟨g9, eg, -, lg, tops, -⟩ := HBS7.out.1.top hf8
              obtain rfl : Q = g9 := by injection eg with eg; injection eg
              have tk := tops f hf8
              have HRW := Lib.hid (HBS7.out.1.2.1 f hf8).1
              have hmf : ∀ c, (rowT us (stN ts) ed (prF us (stN ts))) f c = prF us (stN ts) f c := fun c => by rw [rowT_at, if_neg (by rw [HEP.out.2.1]; exact fun z => hft z.1)]
              have HBR := Lib.hid (show ∀ c, -10000 ≤ (rowT us (stN ts) ed (prF us (stN ts))) f c ∧ (rowT us (stN ts) ed (prF us (stN ts))) f c ≤ 10000 from fun c => by rw [hmf c]; exact HBD.out f c)
              clear hmf
              clear eg tops
              go_upto_region 17 with fail
              refine wp_region_still_tail 11 (by kernel_rfl) (by kernel_rfl) ?_
              simp only [List.take_succ_cons, List.take_zero, List.drop_succ_cons, List.drop_zero]
              repeat still_step
              refine wpStill_nil ?_
              change wpList _ _ _ _ _ w6.drew
              clear y0 y1 lX tk lg
              go_wp2_with fail
              refine (add_any (P f) f t (-mu) _ _ hf8 ht8 hft (Lib.hid HBR.out) (by omega) (Lib.hid (show RwB w6.drew (P f) 9 _ from HRW.out))).mono ?_
              rintro e w7 ⟨rfl, hR9, hG9⟩
              have HBS8 := Lib.hid ((HBS7.out.step (Below.refl _ _).drew).row hf8 hR9 hG9)
              have HK8 := Lib.hid ((HK7.out.drew).grown hG9 (fun z => Blk.ne_ HK7.out HRW.out (by decide) (by injection z)))
              clear hR9 hG9 HRW HBR
              have HFN := Lib.hid (HBS8.out.congr (N := prF (eds ts ax (U.take (k + 1))) (stN ts)) (fun i _ c _ => by
                rw [← HNX.out i c, rowF_at, HEP.out.1, HEP.out.2.1, HEP.out.2.2]
                show (if i = f then abF ((rowT us (stN ts) ed (prF us (stN ts))) f) f t (-mu) else (rowT us (stN ts) ed (prF us (stN ts))) i) c = _
                
                by_cases z : i = f
                · rw [if_pos z, if_pos ⟨z, hfin⟩]
                · rw [if_neg z, if_neg (fun y => z y.1)]))
              clear HBS8 HK8
              go_wp2_with fail
              go_roundw
              case rel => exact ⟨k + 1, by omega, by go_num, HFN.out⟩
              case measure => simp [intOf]; omega
            · have hdf : decide (f ∈ stN ts) = false := by simpa using hfin
              rw [hdf]
              clear hdf
              have HFN := Lib.hid (HBS7.out.congr (N := prF (eds ts ax (U.take (k + 1))) (stN ts)) (fun i _ c _ => by
                rw [← HNX.out i c, rowF_at, HEP.out.1, if_neg (fun y => hfin y.2)]))
              clear HBS7 HK7
              go_wp2_with fail
              go_roundw
              case rel => exact ⟨k + 1, by omega, by go_num, HFN.out⟩
              case measure => simp [intOf]; omega
          · have hdt : decide (t ∈ stN ts) = false := by simpa using htin
            rw [hdt]
            clear hdt
            have HNT := Lib.hid (show rowT us (stN ts) ed (prF us (stN ts)) = prF us (stN ts) by
              funext i
              rw [rowT_at, HEP.out.2.1, if_neg (fun y => htin y.2)])
            go_upto_region 16 with fail
            have y0 := HK4.out.cell 0
            have y1 := HK4.out.cell 1
            have lX := HK4.out.lt
            simp at y0 y1
            refine wp_region_list ?_
            refine step_load _ rfl _ rfl G _ rfl HBS4.out.2.1 hcz ?_
            simp only [Act.put, List.getElem_toArray, List.getElem_cons_succ, List.getElem_cons_zero, List.setIfInBounds_toArray, List.set_cons_zero, List.set_cons_succ]
            go_wp2_with fail
            refine (fixed_any (net ts) cl C f (!decide (f ∈ stN ts)) _ hC hf8 HFF).mono ?_
            rintro e w6 ⟨rfl, b9⟩
            have HBS7 := Lib.hid (HBS4.out.step b9)
            have HK7 := Lib.hid (HK4.out.below b9 HK4.out.lt)
            clear b9 HBS4 HK4 y0 y1 lX
            by_cases hfin : f ∈ stN ts
            · have hdf : decide (f ∈ stN ts) = true := by simpa using hfin
              rw [hdf]
              clear hdf
              have xm : IntKind.i64.wrap (-mu) = -mu := IntWalk.i64_in _ (by omega)
              have y0 := HK7.out.cell 0
              have y1 := HK7.out.cell 1
              have lX := HK7.out.lt
              simp at y0 y1
              obtain ⟨g9, eg, -, lg, tops, -⟩ := HBS7.out.1.top hf8
              obtain rfl : Q = g9 := by injection eg with eg; injection eg
              have tk := tops f hf8
              have HRW := Lib.hid (HBS7.out.1.2.1 f hf8).1
              have hmf : ∀ c, (prF us (stN ts)) f c = prF us (stN ts) f c := fun c => by rfl
              have HBR := Lib.hid (show ∀ c, -10000 ≤ (prF us (stN ts)) f c ∧ (prF us (stN ts)) f c ≤ 10000 from fun c => by rw [hmf c]; exact HBD.out f c)
              clear hmf
              clear eg tops
              go_upto_region 17 with fail
              refine wp_region_still_tail 11 (by kernel_rfl) (by kernel_rfl) ?_
              simp only [List.take_succ_cons, List.take_zero, List.drop_succ_cons, List.drop_zero]
              repeat still_step
              refine wpStill_nil ?_
              change wpList _ _ _ _ _ w6.drew
              clear y0 y1 lX tk lg
              go_wp2_with fail
              refine (add_any (P f) f t (-mu) _ _ hf8 ht8 hft (Lib.hid HBR.out) (by omega) (Lib.hid (show RwB w6.drew (P f) 9 _ from HRW.out))).mono ?_
              rintro e w7 ⟨rfl, hR9, hG9⟩
              have HBS8 := Lib.hid ((HBS7.out.step (Below.refl _ _).drew).row hf8 hR9 hG9)
              have HK8 := Lib.hid ((HK7.out.drew).grown hG9 (fun z => Blk.ne_ HK7.out HRW.out (by decide) (by injection z)))
              clear hR9 hG9 HRW HBR
              have HFN := Lib.hid (HBS8.out.congr (N := prF (eds ts ax (U.take (k + 1))) (stN ts)) (fun i _ c _ => by
                rw [← HNX.out i c, rowF_at, HEP.out.1, HEP.out.2.1, HEP.out.2.2]
                show (if i = f then abF ((prF us (stN ts)) f) f t (-mu) else (prF us (stN ts)) i) c = _
                rw [show rowT us (stN ts) ed (prF us (stN ts)) = prF us (stN ts) from HNT.out]
                by_cases z : i = f
                · rw [if_pos z, if_pos ⟨z, hfin⟩]
                · rw [if_neg z, if_neg (fun y => z y.1)]))
              clear HBS8 HK8
              go_wp2_with fail
              go_roundw
              case rel => exact ⟨k + 1, by omega, by go_num, HFN.out⟩
              case measure => simp [intOf]; omega
            · have hdf : decide (f ∈ stN ts) = false := by simpa using hfin
              rw [hdf]
              clear hdf
              have HFN := Lib.hid (HBS7.out.congr (N := prF (eds ts ax (U.take (k + 1))) (stN ts)) (fun i _ c _ => by
                rw [← HNX.out i c, rowF_at, HEP.out.1, if_neg (fun y => hfin y.2)]
                rw [show rowT us (stN ts) ed (prF us (stN ts)) = prF us (stN ts) from HNT.out]))
              clear HBS7 HK7
              go_wp2_with fail
              go_roundw
              case rel => exact ⟨k + 1, by omega, by go_num, HFN.out⟩
              case measure => simp [intOf]; omega
        · have hkd : decide (k < nu) = false := by simpa using hlt
          obtain rfl : k = nu := by omega
          have HTK := Lib.hid (show U.take k = U by rw [← HNU.out, List.take_length])
          rw [HTK.out] at HBSQ
          have HUU := Lib.hid (show eds ts ax U = US ts ax by unfold US; rw [HU.out])
          rw [HUU.out] at HBSQ
          clear hlt
          go_wp2_with fail
          go_ret
          exact ⟨_, _, P, rfl, HBSQ.out.1, HBSQ.out.2.2.2.1⟩
end Go.Proofs.YtiimegmaokfpgabGreatDoor.pg
namespace Go.Proofs.YtiimegmaokfpgabGreatDoor.pg
open Go.RowKit
open reads base
set_option linter.unusedVariables false
def cols (x : Nat) : List Nat := ((List.range 9).reverse).filter (fun i => x.testBit i)
set_option maxHeartbeats 4000000 in
theorem ones64 (x : Nat) (w : World) (h : x < 512) : Calls Tryz.prog 175 #[.int .u64 (x : Int)] w fun e w' => e = .returned (.int .i64 ((cols x).length : Nat)) ∧ w' = w := by
  go_enter Tryz.func175, Tryz.ntmps175
  go_wp2_with fail
  go_ret
  refine ⟨congrArg (fun z : Int => Ending.returned (Value.int .i64 z)) (?_ : (_ : Int) = _), rfl⟩
  revert h
  clear w
  revert x
  decide +kernel
theorem ones_any (x : Nat) (w : World) (h : x < 512) : Calls Tryz.prog 159 #[.int .u64 (x : Int)] w fun e w' => e = .returned (.int .i64 ((cols x).length : Nat)) ∧ w' = w := by
  go_enter Tryz.func159, Tryz.ntmps159
  go_wp2_with fail
  have x1 : IntKind.u64.wrap (x : Int) = (x : Int) := by
    show (x : Int) % 18446744073709551616 = x
    omega
  first | rw [x1] | skip
  refine (ones64 x _ h).mono ?_
  rintro e w1 ⟨rfl, rfl⟩
  go_wp2_with fail
  go_ret
  exact ⟨rfl, rfl⟩
end Go.Proofs.YtiimegmaokfpgabGreatDoor.pg
namespace Go.Proofs.YtiimegmaokfpgabGreatDoor.pg
open Go.RowKit
open reads base mt
set_option linter.unusedVariables false
set_option linter.unusedSimpArgs false
theorem or_is : ∀ T : Nat, T < 512 → ∀ c : Nat, c < 9 → bits BinOp.or IntKind.u64 (T : Int) (IntKind.u64.wrap (2 ^ c)) = ((T ||| 2 ^ c : Nat) : Int) := by decide +kernel
theorem or_lt : ∀ T : Nat, T < 512 → ∀ c : Nat, c < 9 → T ||| 2 ^ c < 512 := by decide +kernel
theorem shr_is : ∀ T : Nat, T < 512 → ∀ c : Nat, c < 9 → ((T : Int) / 2 ^ c) = ((T / 2 ^ c : Nat) : Int) := fun T _ c _ => by
  rw [Int.natCast_ediv]; congr 1
def sgf (T c : Nat) (x : Int) : Int := if (cols (T / 2 ^ c)).length % 2 = 1 then -x else x
def em1 (f : Nat → Int) (T c : Nat) (mn : Nat → Int) : Nat → Int :=
  if f c = 0 ∨ T ||| 2 ^ c = T then mn else upd mn (T ||| 2 ^ c) (wrap64 (mn (T ||| 2 ^ c) + wrap64 (sgf T c (f c) * mn T)))
def em (f : Nat → Int) (T : Nat) : Nat → (Nat → Int) → Nat → Int
  | 0, mn => mn
  | c + 1, mn => em1 f T c (em f T c mn)
def EPo (R : Nat) (mn : Nat → Int) (w : World) (e : Ending) (w' : World) : Prop := e = .returned (.tuple #[]) ∧ RwB w' R 512 mn ∧ w.grownBy w' (some R)
theorem grown_refl (w : World) (r : Option Nat) : w.grownBy w r := ⟨rfl, rfl, rfl, Nat.le_refl _, fun _ _ _ => rfl⟩
theorem grown_drew {w v : World} {r : Option Nat} (h : w.grownBy v r) : w.grownBy v.drew r := ⟨h.os, h.tape, h.output, h.size, h.block⟩
set_option maxHeartbeats 8000000 in
set_option maxRecDepth 100000 in
theorem expand_any (p R : Nat) (T : Nat) (f : Nat → Int) (mn : Nat → Int) (w : World) (hT : T < 512) (hf : Hid (∀ c, -10000 ≤ f c ∧ f c ≤ 10000)) (hr : Hid (RwB w p 9 f)) (hm : Hid (RwB w R 512 mn)) (hne : p ≠ R) :
    Calls Tryz.prog 160 #[.slice (some ⟨p, 0, none⟩) 9 9, .int .u64 (T : Int), .slice (some ⟨R, 0, none⟩) 512 512] w (EPo R (em f T 9 mn) w) := by
  go_enter Tryz.func160, Tryz.ntmps160
  go_wp2_with fail
  go_loopw [11] (fun i wr => ∃ c : Nat, c ≤ 9 ∧ i = .int .i64 (c : Nat) ∧ RwB wr R 512 (em f T c mn) ∧ w.grownBy wr (some R)) (fun i _ => 9 - (intOf i).toNat)
  case atStart => exact ⟨0, by omega, rfl, hm.out, grown_refl _ _⟩
  case round =>
    obtain ⟨c, hc, rfl, hM, hG⟩ := hrel
    have HM := Lib.hid hM
    have HG := Lib.hid hG
    have HP := Lib.hid (Blk.grown hr.out hG (by intro e; injection e with e; exact hne e))
    clear hM hG
    have hc0 : (0 : Int) ≤ (c : Int) := by omega
    by_cases hlt : c < 9
    · have hci : (c : Int) < 9 := by omega
      have d1 := RwB.at_ (f := f) HP.out hlt
      have o1 := or_is T hT c hlt
      obtain ⟨L, HL⟩ : ∃ L, Hid (T ||| 2 ^ c = L) := ⟨_, Lib.hid rfl⟩
      rw [HL.out] at o1
      have hL : L < 512 := by rw [← HL.out]; exact or_lt T hT c hlt
      obtain ⟨x, HX⟩ : ∃ x, Hid (f c = x) := ⟨_, Lib.hid rfl⟩
      have hxb := hf.out c
      rw [HX.out] at d1 hxb
      by_cases hz : x = 0
      · have HN := Lib.hid (show em f T (c + 1) mn = em f T c mn from if_pos (.inl (by rw [HX.out]; exact hz)))
        subst hz
        go_wp2_with fail
        go_roundw
        case rel => exact ⟨c + 1, by omega, by go_num, by rw [HN.out]; exact HM.out, HG.out⟩
        case measure => simp [intOf]; omega
      · have hz1 : (x == 0) = false := by simpa using hz
        by_cases hb : L = T
        · have HN := Lib.hid (show em f T (c + 1) mn = em f T c mn from if_pos (.inr (by rw [HL.out]; exact hb)))
          subst hb
          go_wp2_with fail
          go_roundw
          case rel => exact ⟨c + 1, by omega, by go_num, by rw [HN.out]; exact HM.out, HG.out⟩
          case measure => simp [intOf]; omega
        · have hb1 : ((L : Int) == (T : Int)) = false := by simp; omega
          have hb2 : ¬ (L : Int) = (T : Int) := by omega
          obtain ⟨s, HS⟩ : ∃ s, Hid (sgf T c x = s) := ⟨_, Lib.hid rfl⟩
          have HN := Lib.hid (show em f T (c + 1) mn = upd (em f T c mn) L (wrap64 (em f T c mn L + wrap64 (s * em f T c mn T))) by
            show em1 f T c (em f T c mn) = _
            unfold em1
            rw [if_neg (by rw [HX.out, HL.out]; exact fun q => q.elim hz hb), HL.out, HX.out, HS.out])
          have HZ := Lib.hid hz
          have s1 := shr_is T hT c hlt
          obtain ⟨Q, HQ⟩ : ∃ Q, Hid (T / 2 ^ c = Q) := ⟨_, Lib.hid rfl⟩
          rw [HQ.out] at s1
          have hQ : Q < 512 := by rw [← HQ.out]; exact Nat.lt_of_le_of_lt (Nat.div_le_self _ _) hT
          obtain ⟨K, HK⟩ : ∃ K, Hid ((cols Q).length = K) := ⟨_, Lib.hid rfl⟩
          have k1 : (K : Int).tmod 2 = ((K % 2 : Nat) : Int) := rfl
          have k2 : IntKind.i64.wrap ((K % 2 : Nat) : Int) = ((K % 2 : Nat) : Int) := IntWalk.i64_in _ (by omega)
          have m1 := HM.out.at_ hL
          have m2 := HM.out.at_ (j := T) hT
          have f1 := HM.out.fro L
          have lR := HM.out.lt
          have hLi : (L : Int) < 512 := by omega
          have hL0 : (0 : Int) ≤ (L : Int) := by omega
          have hTi : (T : Int) < 512 := by omega
          have hT0 : (0 : Int) ≤ (T : Int) := by omega
          obtain ⟨ml, HML⟩ : ∃ q, Hid (em f T c mn L = q) := ⟨_, Lib.hid rfl⟩
          obtain ⟨mt', HMT⟩ : ∃ q, Hid (em f T c mn T = q) := ⟨_, Lib.hid rfl⟩
          rw [HML.out] at m1
          rw [HMT.out] at m2
          rw [HML.out, HMT.out] at HN
          have HMN := Lib.hid (HM.out.set hL (wrap64 (ml + wrap64 (s * mt'))))
          have HGN := Lib.hid (grown_drew (grown_set HG.out L (.int .i64 (wrap64 (ml + wrap64 (s * mt'))))))
          have xn : IntKind.i64.wrap (-x) = -x := IntWalk.i64_in _ (by omega)
          have HKT := Lib.hid (show (if K % 2 = 1 then -x else x) = s by rw [← HS.out]; unfold sgf; rw [HQ.out, HK.out])
          clear HX HL HQ HS HML HMT
          go_wp2_with fail
          refine (ones_any Q _ hQ).mono ?_
          rintro e w1 ⟨rfl, rfl⟩
          rw [HK.out]
          clear HK
          by_cases hk : K % 2 = 1
          · obtain rfl : s = -x := by rw [← HKT.out, if_pos hk]
            rw [hk] at k1 k2
            clear hk HKT
            go_upto_region 7 with fail
            refine wp_region_still_tail 12 (by kernel_rfl) (by kernel_rfl) ?_
            simp only [List.take_succ_cons, List.take_zero, List.drop_succ_cons, List.drop_zero]
            repeat still_step
            refine wpStill_nil ?_
            change wpList _ _ _ _ _ w1.drew
            go_wp2_with fail
            go_roundw
            case rel => exact ⟨c + 1, by omega, by go_num, by rw [HN.out]; exact Blk.drew HMN.out, HGN.out⟩
            case measure => simp [intOf]; omega
          · obtain rfl : s = x := by rw [← HKT.out, if_neg hk]
            have hk0 : K % 2 = 0 := by omega
            rw [hk0] at k1 k2
            clear hk HKT hk0
            go_upto_region 7 with fail
            refine wp_region_still_tail 12 (by kernel_rfl) (by kernel_rfl) ?_
            simp only [List.take_succ_cons, List.take_zero, List.drop_succ_cons, List.drop_zero]
            repeat still_step
            refine wpStill_nil ?_
            change wpList _ _ _ _ _ w1.drew
            go_wp2_with fail
            go_roundw
            case rel => exact ⟨c + 1, by omega, by go_num, by rw [HN.out]; exact Blk.drew HMN.out, HGN.out⟩
            case measure => simp [intOf]; omega
    · have hcd : ¬ (c : Int) < 9 := by omega
      obtain rfl : c = 9 := by omega
      clear hlt
      go_wp2_with fail
      refine bodyPost_ret (v := .tuple #[]) (by simp [results, Tryz.results160, go_sem]) rfl ⟨rfl, HM.out, HG.out⟩
end Go.Proofs.YtiimegmaokfpgabGreatDoor.pg
namespace Go.Proofs.YtiimegmaokfpgabGreatDoor.pg
open Go.RowKit
open reads base mt rowi
set_option linter.unusedVariables false
set_option linter.unusedSimpArgs false
def ms (M : Nat → Nat → Int) : Nat → Nat → Int
  | 0 => upd (fun _ => 0) 0 1
  | s + 1 => if ms M s s = 0 ∨ 8 ≤ (cols s).length then ms M s else em (M (cols s).length) s 9 (ms M s)
def FPo (f : Nat → Int) (w : World) (e : Ending) (w' : World) : Prop :=
  ∃ R, e = .returned (.slice (some ⟨R, 0, none⟩) 512 512) ∧ RwB w' R 512 f ∧ w.heap.size ≤ R ∧ Below w.heap.size w w'
theorem mx_grown {w v : World} {b n c m R : Nat} {A : Option Addr} {P : Nat → Nat} {M : Nat → Nat → Int} (h : MxB w b A n c m P M) (hg : w.grownBy v (some R)) (hR : w.heap.size ≤ R ∨ (∀ i, i < n → P i ≠ R) ∧ (Value.slice A n c).ownBlock ≠ some R) : MxB v b A n c m P M := by
  have h2 : (∀ i, i < n → P i ≠ R) ∧ (Value.slice A n c).ownBlock ≠ some R := by
    rcases hR with q | q
    · refine ⟨fun i hi => ?_, fun e => ?_⟩
      · have := (h.2.1 i hi).1.lt; omega
      · have := (h.1.lt R e).2; omega
    · exact q
  exact ⟨h.1.kept hg (.inr h2.2), fun i hi => ⟨Blk.grown (h.2.1 i hi).1 hg (fun e => h2.1 i hi (by injection e)), (h.2.1 i hi).2⟩, h.2.2⟩
set_option maxHeartbeats 8000000 in
set_option maxRecDepth 100000 in
theorem minors_any (b : Nat) (A : Option Addr) (c : Nat) (P : Nat → Nat) (M : Nat → Nat → Int) (w : World) (hb : Hid (∀ i j, -10000 ≤ M i j ∧ M i j ≤ 10000)) (hM : Hid (MxB w b A 8 c 9 P M)) :
    Calls Tryz.prog 134 #[.slice A 8 c] w (FPo (ms M 512) w) := by
  obtain ⟨i0, hi, hz0, hz1, hz2⟩ := info_parts infoI
  have hmk : ∀ W : World, (Instr.makeSlice 27 (.int .i64 512) (.int .i64 512)).run Tryz.prog W = .ok (.slice (some ⟨W.heap.size, 0, none⟩) 512 512) (W.alloc (.cells (cs1 512 (fun _ => 0)) 3)) := fun W => by
    have h := run_make_rowN (P := Tryz.prog) 27 3 i0 _ Tryz.underlying27 hi hz0 .i64 .i64 512 512 (Nat.le_refl _) (by rw [hz2]; omega) (by omega) W
    rw [hz1] at h
    rw [← cs1_zero]
    exact h
  obtain ⟨g, rfl, hgb, hgl, htc, htf⟩ := hM.out.top (show 0 < 8 by omega)
  have t0 := htc 0 (by omega)
  clear htc htf
  obtain ⟨R, HRE⟩ : ∃ q, Hid (w.heap.size = q) := ⟨_, Lib.hid rfl⟩
  have HR0 := Lib.hid (Blk.new w 3 (cs1 512 (fun _ => 0)))
  have HB0 := Lib.hid ((Below.refl w.heap.size w).alloc (Nat.le_refl _) (.cells (cs1 512 (fun _ => 0)) 3))
  have HM0 := Lib.hid (hM.out.step HB0.out)
  have q0 : (w.alloc (.cells (cs1 512 (fun _ => 0)) 3)).frozen? ⟨w.heap.size, 0, none⟩ = false := HR0.out.frozen 0
  have q1 : (w.alloc (.cells (cs1 512 (fun _ => 0)) 3)).cell? ⟨w.heap.size, 0, none⟩ = some (.int .i64 0) := RwB.at_ (f := fun _ => 0) HR0.out (by omega)
  have HR1 := Lib.hid (show RwB (w.alloc (.cells ((cs1 512 (fun _ => 0)).setIfInBounds 0 (.int .i64 1)) 3)) w.heap.size 512 (ms M 0) from by
    have h := Blk.new w 3 ((cs1 512 (fun _ => 0)).setIfInBounds 0 (.int .i64 1))
    rw [cs1_set _ _ (by omega)] at h ⊢
    exact h)
  have HB1 := Lib.hid ((Below.refl w.heap.size w).alloc (Nat.le_refl _) (.cells ((cs1 512 (fun _ => 0)).setIfInBounds 0 (.int .i64 1)) 3))
  have HM1 := Lib.hid (hM.out.step HB1.out)
  have HNE := Lib.hid (show (∀ i, i < 8 → P i ≠ w.heap.size) ∧ (Value.slice (some ⟨g, 0, none⟩) 8 c).ownBlock ≠ some w.heap.size from ⟨fun i hi9 => by have := (hM.out.row hi9).2.2.2; omega, fun e => by have := (hM.out.1.lt _ e).2; omega⟩)
  rw [HRE.out] at HR1 HNE
  clear HR0 HB0 HM0
  go_enter Tryz.func134, Tryz.ntmps134
  go_wp2_with fail
  try simp only [HRE.out]
  go_loopw [16] (fun i wr => ∃ s : Nat, s ≤ 512 ∧ i = .int .i64 (s : Nat) ∧ RwB wr R 512 (ms M s) ∧ MxB wr b (some ⟨g, 0, none⟩) 8 c 9 P M ∧ Below w.heap.size w wr) (fun i _ => 512 - (intOf i).toNat)
  case atStart => exact ⟨0, by omega, rfl, HR1.out, HM1.out, HB1.out⟩
  case round =>
    obtain ⟨s, hs, rfl, hR, hMM, hB⟩ := hrel
    have HR := Lib.hid hR
    have HMM := Lib.hid hMM
    have HB := Lib.hid hB
    clear hR hMM hB HR1 HM1 HB1 t0 q0 q1
    have hs0 : (0 : Int) ≤ (s : Int) := by omega
    by_cases hlt : s < 512
    · have hsi : (s : Int) < 512 := by omega
      have x1 : IntKind.u64.wrap (s : Int) = (s : Int) := by
        show (s : Int) % 18446744073709551616 = s
        omega
      have d1 := HR.out.at_ hlt
      obtain ⟨ml, HML⟩ : ∃ q, Hid (ms M s s = q) := ⟨_, Lib.hid rfl⟩
      obtain ⟨K, HK⟩ : ∃ q, Hid ((cols s).length = q) := ⟨_, Lib.hid rfl⟩
      rw [HML.out] at d1
      go_wp2_with fail
      refine (ones_any s _ hlt).mono ?_
      rintro e w1 ⟨rfl, rfl⟩
      rw [HK.out]
      by_cases hz : ml = 0
      · have HN := Lib.hid (show ms M (s + 1) = ms M s from if_pos (.inl (by rw [HML.out]; exact hz)))
        subst hz
        go_wp2_with fail
        go_roundw
        case rel => exact ⟨s + 1, by omega, by go_num, by rw [HN.out]; exact HR.out, HMM.out, HB.out⟩
        case measure => simp [intOf]; omega
      · have hz1 : (ml == 0) = false := by simpa using hz
        by_cases hk : K < 8
        · have HN := Lib.hid (show ms M (s + 1) = em (M K) s 9 (ms M s) by
            show (if ms M s s = 0 ∨ 8 ≤ (cols s).length then _ else _) = _
            rw [if_neg (by rw [HML.out, HK.out]; exact fun q => q.elim hz (by omega)), HK.out])
          have hki : (K : Int) < 8 := by omega
          have hkd : decide (K < 8) = true := by simpa using hk
          have hk0 : (0 : Int) ≤ (K : Int) := by omega
          obtain ⟨g', eg, -, lg, htc, htf⟩ := HMM.out.top (show 0 < 8 by omega)
          obtain rfl : g = g' := by injection eg with eg; injection eg
          have tk := htc K hk
          have HP := Lib.hid ((HMM.out.2.1 K hk).1)
          clear eg htc htf HML
          go_wp2_with fail
          refine (expand_any (P K) R s (M K) (ms M s) _ hlt (Lib.hid (hb.out K)) HP HR (HNE.out.1 K hk)).mono ?_
          rintro e w2 ⟨rfl, hR2, hG2⟩
          have HR2 := Lib.hid (show RwB w2 R 512 (ms M (s + 1)) by rw [HN.out]; exact hR2)
          have HMM2 := Lib.hid (mx_grown HMM.out hG2 (.inr HNE.out))
          have HB2 := Lib.hid (HB.out.grown hG2 HB.out.size (fun k e => by injection e with e; rw [← e, ← HRE.out]; exact Nat.le_refl _))
          clear hR2 hG2 HR HMM HB HP tk d1 lg
          go_wp2_with fail
          go_roundw
          case rel => exact ⟨s + 1, by omega, by go_num, HR2.out, HMM2.out, HB2.out⟩
          case measure => simp [intOf]; omega
        · have HN := Lib.hid (show ms M (s + 1) = ms M s from if_pos (.inr (by rw [HK.out]; omega)))
          have hki : ¬ (K : Int) < 8 := by omega
          have hkd : decide (K < 8) = false := by simpa using hk
          go_wp2_with fail
          go_roundw
          case rel => exact ⟨s + 1, by omega, by go_num, by rw [HN.out]; exact HR.out, HMM.out, HB.out⟩
          case measure => simp [intOf]; omega
    · have hcd : ¬ (s : Int) < 512 := by omega
      obtain rfl : s = 512 := by omega
      clear hlt
      go_wp2_with fail
      go_ret
      exact ⟨R, rfl, HR.out, by rw [HRE.out]; exact Nat.le_refl _, HB.out⟩
end Go.Proofs.YtiimegmaokfpgabGreatDoor.pg
namespace Go.Proofs.YtiimegmaokfpgabGreatDoor.dt
open Go.RowKit
open pg mt
set_option linter.unusedVariables false
def Cg (a b : Int) : Prop := ∃ k : Int, a = b + k * 18446744073709551616
theorem cg_refl (a : Int) : Cg a a := ⟨0, by omega⟩
theorem Cg.trans {a b c : Int} (h : Cg a b) (g : Cg b c) : Cg a c := by
  obtain ⟨k, e⟩ := h
  obtain ⟨l, f⟩ := g
  exact ⟨k + l, by omega⟩
theorem Cg.add {a b c d : Int} (h : Cg a b) (g : Cg c d) : Cg (a + c) (b + d) := by
  obtain ⟨k, e⟩ := h
  obtain ⟨l, f⟩ := g
  exact ⟨k + l, by omega⟩
theorem Cg.mul {a b : Int} (c : Int) (h : Cg a b) : Cg (c * a) (c * b) := by
  obtain ⟨k, e⟩ := h
  exact ⟨c * k, by rw [e]; grind⟩
theorem cg_wrap (x : Int) : Cg (wrap64 x) x := by
  have h : wrap64 x = (x + 9223372036854775808) % 18446744073709551616 - 9223372036854775808 := by kernel_rfl
  refine ⟨-((x + 9223372036854775808) / 18446744073709551616), ?_⟩
  rw [h]
  have := Int.emod_add_mul_ediv (x + 9223372036854775808) 18446744073709551616
  omega
theorem Cg.eq {a b : Int} (h : Cg a b) (h1 : -9223372036854775808 ≤ a) (h2 : a < 9223372036854775808) (h3 : -9223372036854775808 ≤ b) (h4 : b < 9223372036854775808) : a = b := by
  obtain ⟨k, e⟩ := h
  have : k = 0 := by omega
  rw [this] at e; omega
theorem ex_sum (r : Rw) : ∀ (cs : List Nat) (f : List Nat → Int), cs.Nodup → ex r f cs = (cs.map (fun c => sg (cs.idxOf c) * r c * f (cs.erase c))).sum
  | [], f, h => rfl
  | a :: cs, f, h => by
    have hn := List.nodup_cons.1 h
    simp only [ex, List.map_cons, List.sum_cons]
    rw [ex_sum r cs _ hn.2]
    have e : (cs.map (fun c => sg ((a :: cs).idxOf c) * r c * f ((a :: cs).erase c))).sum = (cs.map (fun c => (-1) * (sg (cs.idxOf c) * r c * f (a :: cs.erase c)))).sum := sum_congr (fun c hc => by
      have hac : ¬ a = c := fun q => hn.1 (by rw [q]; exact hc)
      have hb : (a == c) = false := by simpa using hac
      rw [List.idxOf_cons, List.erase_cons]
      simp only [hb, cond_false, if_false, Bool.false_eq_true]
      rw [sg_succ]; grind)
    rw [e, sum_mul, List.idxOf_cons_self, List.erase_cons_head, sg_zero, Int.one_mul]; omega
def wo (S c : Nat) : Nat := S ^^^ 2 ^ c
theorem wo_facts : ∀ S : Nat, S < 512 → ∀ c ∈ cols S, wo S c < S ∧ cols (wo S c) = (cols S).erase c ∧ wo S c ||| 2 ^ c = S ∧ (cols (wo S c / 2 ^ c)).length = (cols S).idxOf c ∧ (cols (wo S c)).length + 1 = (cols S).length ∧ c < 9 := by decide +kernel
theorem put_facts : ∀ T : Nat, T < 512 → ∀ c : Nat, c < 9 → T ||| 2 ^ c = T ∨ (wo (T ||| 2 ^ c) c = T ∧ c ∈ cols (T ||| 2 ^ c) ∧ T ||| 2 ^ c < 512 ∧ T < T ||| 2 ^ c) := by decide +kernel
theorem same_facts : ∀ S : Nat, S < 512 → ∀ c ∈ cols S, wo S c ||| 2 ^ c ≠ wo S c := by decide +kernel
theorem cols_nodup : ∀ S : Nat, S < 512 → (cols S).Nodup := by decide +kernel
theorem cols_full : ∀ S : Nat, S < 512 → ((cols S).length ≤ 8 ∨ S = 511) ∧ ((cols S).length = 0 ↔ S = 0) := by decide +kernel
def VV (R : Nat → Rw) (S : Nat) : Int := dt ((rv (cols S).length).map R) (cols S)
def tm (R : Nat → Rw) (S c : Nat) : Int := sg ((cols S).idxOf c) * R ((cols S).length - 1) c * VV R (wo S c)
def Pt (R : Nat → Rw) (S s c0 : Nat) : Int := ((cols S).map (fun c => if wo S c < s ∨ wo S c = s ∧ c < c0 then tm R S c else 0)).sum
theorem pt_all {R : Nat → Rw} {S s : Nat} (hS : S < 512) (h0 : S ≠ 0) (hs : S ≤ s) : Pt R S s 0 = VV R S := by
  unfold Pt VV
  have hl : 0 < (cols S).length := Nat.pos_of_ne_zero (fun e => h0 ((cols_full S hS).2.1 e))
  obtain ⟨k, hk⟩ : ∃ k, (cols S).length = k + 1 := ⟨(cols S).length - 1, by omega⟩
  rw [hk, rv_succ, List.map_cons, dt_cons, ex_sum _ _ _ (cols_nodup S hS)]
  refine sum_congr (fun c hc => ?_)
  obtain ⟨h1, h2, -, -, h5, -⟩ := wo_facts S hS c hc
  rw [if_pos (.inl (by omega))]
  unfold tm VV
  rw [h2, hk, show (cols S).erase c = cols (wo S c) from h2.symm]
  have e : (cols (wo S c)).length = k := by omega
  rw [e]; rfl
theorem pt_next {R : Nat → Rw} {S s : Nat} (hS : S < 512) : Pt R S s 9 = Pt R S (s + 1) 0 := by
  unfold Pt
  refine sum_congr (fun c hc => ?_)
  have h9 := (wo_facts S hS c hc).2.2.2.2.2
  by_cases q : wo S c < s ∨ wo S c = s ∧ c < 9
  · rw [if_pos q, if_pos (.inl (by omega))]
  · rw [if_neg q, if_neg (by omega)]
theorem pt_other {R : Nat → Rw} {S s c0 : Nat} (hS : S < 512) (h : ∀ c ∈ cols S, ¬ (wo S c = s ∧ c = c0)) : Pt R S s (c0 + 1) = Pt R S s c0 := by
  unfold Pt
  refine sum_congr (fun c hc => ?_)
  have := h c hc
  by_cases q : wo S c < s ∨ wo S c = s ∧ c < c0
  · rw [if_pos q, if_pos (by omega)]
  · rw [if_neg q, if_neg (by omega)]
theorem pt_this {R : Nat → Rw} {S s c0 : Nat} (hS : S < 512) (hc0 : c0 ∈ cols S) (h : wo S c0 = s) : Pt R S s (c0 + 1) = Pt R S s c0 + tm R S c0 := by
  unfold Pt
  have hn := cols_nodup S hS
  obtain ⟨u, v, e⟩ := List.append_of_mem hc0
  have same : ∀ l : List Nat, c0 ∉ l → (∀ c ∈ l, c ∈ cols S) → (l.map (fun c => if wo S c < s ∨ wo S c = s ∧ c < c0 + 1 then tm R S c else 0)).sum = (l.map (fun c => if wo S c < s ∨ wo S c = s ∧ c < c0 then tm R S c else 0)).sum := fun l hl _ => sum_congr (fun c hc => by
    have : c ≠ c0 := fun q => hl (by rw [← q]; exact hc)
    by_cases q : wo S c < s ∨ wo S c = s ∧ c < c0
    · rw [if_pos q, if_pos (by omega)]
    · rw [if_neg q, if_neg (by omega)])
  rw [e] at hn
  have n1 := List.nodup_append.1 hn
  have hu : c0 ∉ u := fun q => n1.2.2 c0 q c0 (List.mem_cons_self ..) rfl
  have hv : c0 ∉ v := (List.nodup_cons.1 n1.2.1).1
  have e1 : ((cols S).map (fun c => if wo S c < s ∨ wo S c = s ∧ c < c0 + 1 then tm R S c else 0)).sum = (u.map (fun c => if wo S c < s ∨ wo S c = s ∧ c < c0 + 1 then tm R S c else 0)).sum + (tm R S c0 + (v.map (fun c => if wo S c < s ∨ wo S c = s ∧ c < c0 + 1 then tm R S c else 0)).sum) := by
    rw [e, List.map_append, List.sum_append, List.map_cons, List.sum_cons, if_pos (.inr ⟨h, by omega⟩)]
  have e2 : ((cols S).map (fun c => if wo S c < s ∨ wo S c = s ∧ c < c0 then tm R S c else 0)).sum = (u.map (fun c => if wo S c < s ∨ wo S c = s ∧ c < c0 then tm R S c else 0)).sum + (0 + (v.map (fun c => if wo S c < s ∨ wo S c = s ∧ c < c0 then tm R S c else 0)).sum) := by
    rw [e, List.map_append, List.sum_append, List.map_cons, List.sum_cons, if_neg (by omega)]
  rw [e1, e2, same u hu (fun c hc => by rw [e]; exact List.mem_append_left _ hc), same v hv (fun c hc => by rw [e]; exact List.mem_append_right _ (List.mem_cons_of_mem _ hc))]
  omega
def MI (R : Nat → Rw) (s c0 : Nat) (mn : Nat → Int) : Prop := mn 0 = 1 ∧ ∀ S, S < 511 → S ≠ 0 → Cg (mn S) (Pt R S s c0)
theorem mi_em {R : Nat → Rw} {s : Nat} {mn : Nat → Int} (hs : s < 512) (hv : Cg (mn s) (VV R s)) (h : MI R s 0 mn) : ∀ c0, c0 ≤ 9 → MI R s c0 (em (R (cols s).length) s c0 mn) ∧ (em (R (cols s).length) s c0 mn) s = mn s
  | 0, _ => ⟨h, rfl⟩
  | c0 + 1, hc => by
    obtain ⟨⟨i0, ih⟩, is⟩ := mi_em hs hv h c0 (by omega)
    have e : em (R (cols s).length) s (c0 + 1) mn = em1 (R (cols s).length) s c0 (em (R (cols s).length) s c0 mn) := rfl
    obtain ⟨m, hm⟩ : ∃ m, m = em (R (cols s).length) s c0 mn := ⟨_, rfl⟩
    rw [← hm] at i0 ih is e
    rw [e]
    unfold em1
    rcases put_facts s hs c0 (by omega) with hb | ⟨p1, p2, p3, p4⟩
    · rw [if_pos (.inr hb)]
      refine ⟨⟨i0, fun S h1 h2 => ?_⟩, is⟩
      rw [pt_other (by omega) (fun c hc9 q => same_facts S (by omega) c hc9 (by rw [q.1, q.2]; exact hb))]
      exact ih S h1 h2
    · obtain ⟨L, hL⟩ : ∃ L, L = s ||| 2 ^ c0 := ⟨_, rfl⟩
      rw [← hL] at p1 p2 p3 p4 ⊢
      have only : ∀ S, S < 512 → S ≠ L → ∀ c ∈ cols S, ¬ (wo S c = s ∧ c = c0) := fun S h1 h2 c hc9 q => h2 (by
        have := (wo_facts S h1 c hc9).2.2.1
        rw [q.1, q.2] at this
        rw [hL]; exact this.symm)
      obtain ⟨-, -, -, w4, w5, -⟩ := wo_facts L p3 c0 p2
      have ht : tm R L c0 = sgf s c0 (R (cols s).length c0) * VV R s := by
        unfold tm sgf
        rw [p1] at w4 w5 ⊢
        rw [show (cols L).length - 1 = (cols s).length by omega, ← w4]
        unfold sg
        split <;> simp
      by_cases hf : R (cols s).length c0 = 0
      · rw [if_pos (.inl hf)]
        refine ⟨⟨i0, fun S h1 h2 => ?_⟩, is⟩
        by_cases q : S = L
        · rw [q, pt_this p3 p2 p1, ht, hf, ← q]
          have : sgf s c0 0 = 0 := by unfold sgf; split <;> rfl
          rw [this, Int.zero_mul, Int.add_zero]
          exact ih S h1 h2
        · rw [pt_other (by omega) (only S (by omega) q)]; exact ih S h1 h2
      · rw [if_neg (fun q => q.elim hf (fun z => by omega))]
        refine ⟨⟨?_, fun S h1 h2 => ?_⟩, ?_⟩
        · show upd m L _ 0 = 1
          unfold upd; rw [if_neg (by omega)]; exact i0
        · by_cases q : S = L
          · rw [q, pt_this p3 p2 p1, ht]
            show Cg (upd m L _ L) _
            unfold upd; rw [if_pos rfl]
            refine (cg_wrap _).trans (Cg.add (by rw [← q]; exact ih S h1 h2) ((cg_wrap _).trans (Cg.mul _ ?_)))
            rw [is]; exact hv
          · rw [pt_other (by omega) (only S (by omega) q)]
            show Cg (upd m L _ S) _
            unfold upd; rw [if_neg q]; exact ih S h1 h2
        · show upd m L _ s = mn s
          unfold upd; rw [if_neg (by omega)]; exact is
theorem mi_ms (R : Nat → Rw) : ∀ s, s ≤ 511 → MI R s 0 (ms R s)
  | 0, _ => by
    refine ⟨rfl, fun S h1 h2 => ?_⟩
    have e : Pt R S 0 0 = 0 := by
      unfold Pt
      have : ((cols S).map (fun c => if wo S c < 0 ∨ wo S c = 0 ∧ c < 0 then tm R S c else 0)).sum = ((cols S).map (fun c => 0 * (0 : Int))).sum := sum_congr (fun c _ => by rw [if_neg (by omega)]; rfl)
      rw [this, sum_mul]; omega
    rw [e]
    show Cg (upd (fun _ => 0) 0 1 S) 0
    unfold upd; rw [if_neg h2]; exact cg_refl 0
  | s + 1, hs => by
    have ih := mi_ms R s (by omega)
    have hv : Cg (ms R s s) (VV R s) := by
      by_cases q : s = 0
      · rw [q] at ih ⊢
        rw [ih.1]
        have : VV R 0 = 1 := by
          have e0 : cols 0 = [] := by decide
          unfold VV; rw [e0]; rfl
        rw [this]; exact cg_refl 1
      · have := ih.2 s (by omega) q
        rw [pt_all (by omega) q (Nat.le_refl _)] at this; exact this
    show MI R (s + 1) 0 (if ms R s s = 0 ∨ 8 ≤ (cols s).length then _ else _)
    by_cases hz : ms R s s = 0 ∨ 8 ≤ (cols s).length
    · rw [if_pos hz]
      refine ⟨ih.1, fun S h1 h2 => ?_⟩
      rw [← pt_next (by omega)]
      -- all parts that come from s are nothing, or there are none
      have key : ∀ c0, c0 ≤ 9 → Cg (Pt R S s 0) (Pt R S s c0) := by
        intro c0
        induction c0 with
        | zero => intro _; exact cg_refl _
        | succ c0 ih9 =>
          intro hc
          have i9 := ih9 (by omega)
          by_cases q : c0 ∈ cols S ∧ wo S c0 = s
          · rw [pt_this (by omega) q.1 q.2]
            have hv0 : ms R s s = 0 := by
              rcases hz with z | z
              · exact z
              · have w5 := (wo_facts S (by omega) c0 q.1).2.2.2.2.1
                rw [q.2] at w5
                rcases (cols_full S (by omega)).1 with y | y <;> omega
            rw [hv0] at hv
            have ht : Cg 0 (tm R S c0) := by
              unfold tm
              rw [q.2]
              have := Cg.mul (sg ((cols S).idxOf c0) * R ((cols S).length - 1) c0) hv
              rwa [Int.mul_zero] at this
            have := i9.add ht
            rwa [Int.add_zero] at this
          · rw [pt_other (by omega) (fun c hc9 z => q ⟨by rw [← z.2]; exact hc9, by rw [← z.2]; exact z.1⟩)]
            exact i9
      exact (ih.2 S h1 h2).trans (key 9 (by omega))
    · rw [if_neg hz]
      have := (mi_em (by omega) hv ih 9 (by omega)).1
      refine ⟨this.1, fun S h1 h2 => ?_⟩
      rw [← pt_next (by omega)]
      exact this.2 S h1 h2
theorem ms_VV (R : Nat → Rw) {S : Nat} (hS : S < 511) (h0 : S ≠ 0) : Cg (ms R 512 S) (VV R S) := by
  have h := (mi_ms R 511 (by omega)).2 S hS h0
  rw [pt_all (by omega) h0 (by omega)] at h
  have e : ms R 512 = ms R 511 := if_pos (.inr (by decide))
  rw [e]; exact h
end Go.Proofs.YtiimegmaokfpgabGreatDoor.dt
namespace Go.Proofs.YtiimegmaokfpgabGreatDoor.dt
open Go.RowKit
open pg mt lg
set_option linter.unusedVariables false
theorem wrap_in (x : Int) : -9223372036854775808 ≤ wrap64 x ∧ wrap64 x < 9223372036854775808 := by unfold wrap64; omega
theorem em_in {f : Nat → Int} {T : Nat} {mn : Nat → Int} (h : ∀ S, -9223372036854775808 ≤ mn S ∧ mn S < 9223372036854775808) : ∀ c S, -9223372036854775808 ≤ em f T c mn S ∧ em f T c mn S < 9223372036854775808
  | 0, S => h S
  | c + 1, S => by
    show _ ≤ em1 f T c (em f T c mn) S ∧ em1 f T c (em f T c mn) S < _
    unfold em1
    by_cases q : f c = 0 ∨ T ||| 2 ^ c = T
    · rw [if_pos q]; exact em_in h c S
    · rw [if_neg q]
      unfold upd
      by_cases z : S = T ||| 2 ^ c
      · rw [if_pos z]; exact wrap_in _
      · rw [if_neg z]; exact em_in h c S
theorem ms_in (M : Nat → Nat → Int) : ∀ s S, -9223372036854775808 ≤ ms M s S ∧ ms M s S < 9223372036854775808
  | 0, S => by
    show _ ≤ upd (fun _ => 0) 0 1 S ∧ upd (fun _ => 0) 0 1 S < _
    unfold upd
    by_cases z : S = 0
    · rw [if_pos z]; omega
    · rw [if_neg z]; show -9223372036854775808 ≤ (0 : Int) ∧ (0 : Int) < 9223372036854775808; omega
  | s + 1, S => by
    show _ ≤ (if ms M s s = 0 ∨ 8 ≤ (cols s).length then ms M s else em (M (cols s).length) s 9 (ms M s)) S ∧ (if ms M s s = 0 ∨ 8 ≤ (cols s).length then ms M s else em (M (cols s).length) s 9 (ms M s)) S < _
    by_cases q : ms M s s = 0 ∨ 8 ≤ (cols s).length
    · rw [if_pos q]; exact ms_in M s S
    · rw [if_neg q]; exact em_in (ms_in M s) 9 S
theorem cols_255 : cols 255 = rv 8 := by decide
theorem cols_x : ∀ s : Nat, s < 8 → cols (511 - 2 ^ s) = 8 :: (rv 8).filter (fun x => x != s) ∧ 511 - 2 ^ s < 511 ∧ 511 - 2 ^ s ≠ 0 := by decide
theorem ms_TC {ts : List ty.Lg} (hg : goodLg ts = true) (ax : Int) : ms (prF (US ts ax) (stN ts)) 512 255 = TC ts := by
  have h := nw_net hg ax
  have c := ms_VV (prF (US ts ax) (stN ts)) (S := 255) (by omega) (by omega)
  have e : VV (prF (US ts ax) (stN ts)) 255 = TC ts := by
    unfold VV
    rw [cols_255, rv_length, ← DD_ax hg ax, ← PR_DD h.hn h.h8]; rfl
  rw [e] at c
  have b := ms_in (prF (US ts ax) (stN ts)) 512 255
  have b2 := TC_le hg
  have b3 := TC_pos hg
  exact c.eq b.1 b.2 (by omega) (by omega)
theorem ms_XC {ts : List ty.Lg} (hg : goodLg ts = true) (ax : Int) {s : Nat} (hs : s < 8) : ms (prF (US ts ax) (stN ts)) 512 (511 - 2 ^ s) = if (7 - s) % 2 = 1 then -(XC ts ax s) else XC ts ax s := by
  have h := nw_net hg ax
  obtain ⟨k1, k2, k3⟩ := cols_x s hs
  have c := ms_VV (prF (US ts ax) (stN ts)) k2 k3
  have e : XC ts ax s = sg (7 - s) * VV (prF (US ts ax) (stN ts)) (511 - 2 ^ s) := by
    unfold VV
    have l8 : (cols (511 - 2 ^ s)).length = 8 := by
      have : ∀ s : Nat, s < 8 → (cols (511 - 2 ^ s)).length = 8 := by decide
      exact this s hs
    rw [l8, k1]
    unfold XC
    rw [← PR_XX h.hn h.h8 hs, dt_place hs]; rfl
  have e2 : VV (prF (US ts ax) (stN ts)) (511 - 2 ^ s) = if (7 - s) % 2 = 1 then -(XC ts ax s) else XC ts ax s := by
    rw [e]
    unfold sg
    split <;> omega
  rw [e2] at c
  have b := ms_in (prF (US ts ax) (stN ts)) 512 (511 - 2 ^ s)
  have b2 := XC_le hg ax s
  refine c.eq b.1 b.2 ?_ ?_ <;> (split <;> omega)
theorem ix_is : ∀ s : Nat, s < 8 → bits BinOp.or IntKind.u64 (bits BinOp.andNot IntKind.u64 255 (IntKind.u64.wrap (2 ^ s))) 256 = ((511 - 2 ^ s : Nat) : Int) := by decide +kernel
theorem ix_lt : ∀ s : Nat, s < 8 → 511 - 2 ^ s < 512 := by decide
end Go.Proofs.YtiimegmaokfpgabGreatDoor.dt
namespace Go.Proofs.YtiimegmaokfpgabGreatDoor.ml
open Go.RowKit
open reads base inn ty lg rowi hs nt mt dt
set_option linter.unusedVariables false
set_option linter.unusedSimpArgs false
def axOk (ts : List Lg) (ax : Int) : Bool := goodLg ts && btw 0 ax 2
end Go.Proofs.YtiimegmaokfpgabGreatDoor.ml
namespace Go.Proofs.YtiimegmaokfpgabGreatDoor.pg
open Go.RowKit
open reads base ty lg lgi win hs nt nq rowi sn mt ml dt
set_option linter.unusedVariables false
set_option linter.unusedSimpArgs false
def rsF (ts : List Lg) (ax : Int) (cs : List Int) (den : Int) (U : List Int) (i : Nat) : Int := if (i : Int) ∈ U then rsV (lgAt ts i) ax cs den else 0
def rsL (ts : List Lg) (ax : Int) (cs : List Int) (den : Int) : List Int := (List.range ts.length).map (rsF ts ax cs den (plIds ts))
theorem rsL_len (ts : List Lg) (ax : Int) (cs : List Int) (den : Int) : (rsL ts ax cs den).length = ts.length := by simp [rsL]
set_option maxHeartbeats 16000000 in
set_option maxRecDepth 100000 in
theorem residuals_any (A : Option Addr) (n cap : Nat) (ts : List Lg) (cl : List Bool) (C : Array Value) (ax den : Int) (Ac : Option Addr) (cc : Nat) (cs : List Int) (w : World) (h0 : 0 ≤ ax) (h2 : ax ≤ 2) (hd : -1000000 ≤ den ∧ den ≤ 1000000) (hcb : Hid (CBd cs)) (hca : Hid (IO w w.heap.size Ac 8 cs)) (hC : Hid (nv (net ts) cl = C)) (hcl : cl.length = 12) (hg : Hid (goodLg ts = true)) (hts : Hid (LgAt w w.heap.size A n ts)) (hT : Hid (Tab w)) :
    Calls Tryz.prog 74 #[.slice A n cap, .agg C, .int .i64 ax, .slice Ac 8 cc, .int .i64 den] w (JPo (rsL ts ax cs den) w) := by
  obtain ⟨i0, hi, hz0, hz1, hz2⟩ := info_parts infoI
  have HL := Lib.hid hts.out.1
  have hn12 := len12 HL.out hg.out
  have hcz : C.size = 56 := by rw [← hC.out]; exact nv_size ⟨(ok_net hg.out).1, hcl⟩
  have hmk : ∀ W : World, (Instr.makeSlice 27 (.int .i64 (n : Int)) (.int .i64 (n : Int))).run Tryz.prog W = .ok (.slice (some ⟨W.heap.size, 0, none⟩) n n) (W.alloc (.cells (cs1 n (fun _ => 0)) 3)) := fun W => by
    have h := run_make_rowN (P := Tryz.prog) 27 3 i0 _ Tryz.underlying27 hi hz0 .i64 .i64 n n (Nat.le_refl _) (by rw [hz2]; omega) (by omega) W
    rw [hz1] at h
    rw [← cs1_zero]
    exact h
  obtain ⟨G, HGE⟩ : ∃ q, Hid (w.heap.size = q) := ⟨_, Lib.hid rfl⟩
  obtain ⟨R, HRE⟩ : ∃ q, Hid (G + 1 = q) := ⟨_, Lib.hid rfl⟩
  have HG0 := Lib.hid (show Blk ((w.alloc (.cells C 76)).alloc (.cells (cs1 n (fun _ => 0)) 3)) G 76 C by rw [← HGE.out]; exact (Blk.new _ _ _).alloc _)
  have HR0 := Lib.hid (show RwB ((w.alloc (.cells C 76)).alloc (.cells (cs1 n (fun _ => 0)) 3)) R n (fun _ => 0) by
    have h := Blk.new (w.alloc (.cells C 76)) 3 (cs1 n (fun _ => 0))
    rw [← HRE.out, ← HGE.out]; unfold RwB; simpa using h)
  have HB0 := Lib.hid (((Below.refl w.heap.size w).alloc (Nat.le_refl _) (.cells C 76)).alloc (by simp) (.cells (cs1 n (fun _ => 0)) 3))
  have hcc := Lib.hid (show ∀ g o, Ac = some ⟨g, o, none⟩ → g < G from fun g o e => by
    obtain ⟨g', o', e', hg', -⟩ := hca.out.2 0 _ (cat_at (by rw [hca.out.1]; omega))
    rw [e] at e'
    obtain rfl : g = g' := by injection e' with e'; injection e'
    rw [← HGE.out]; exact hg')
  go_enter Tryz.func74, Tryz.ntmps74
  go_upto_region 2 with fail
  obtain ⟨V, HV⟩ : ∃ q, Hid ((w.alloc (.cells C 76)).alloc (.cells (cs1 n (fun _ => 0)) 3) = q) := ⟨_, Lib.hid rfl⟩
  rw [HV.out] at HG0 HR0 HB0 ⊢
  try simp only [HGE.out]
  try simp only [HRE.out]
  clear HV
  refine wp_region_list ?_
  refine step_move _ rfl _ rfl _ rfl ?_
  simp only [Act.put, List.getElem_toArray, List.getElem_cons_succ, List.getElem_cons_zero, List.setIfInBounds_toArray, List.set_cons_zero, List.set_cons_succ]
  refine step_load _ rfl _ rfl G _ rfl HG0.out hcz ?_
  simp only [Act.put, List.getElem_toArray, List.getElem_cons_succ, List.getElem_cons_zero, List.setIfInBounds_toArray, List.set_cons_zero, List.set_cons_succ]
  go_wp2_with fail
  refine (placedLegs_any A n cap ts cl C _ hC hcl hg (Lib.hid (hts.out.step HB0.out))).mono ?_
  rintro e w2 ⟨vU, rfl, hOU, b2⟩
  obtain ⟨U, HU⟩ : ∃ q, Hid (plIds ts = q) := ⟨_, Lib.hid rfl⟩
  rw [HU.out] at hOU
  obtain ⟨nu, HNU⟩ : ∃ q, Hid (U.length = q) := ⟨_, Lib.hid rfl⟩
  rw [HNU.out] at hOU
  obtain ⟨AU, cU, rfl⟩ := row_slice hOU
  have hnu : nu ≤ 12 := by rw [← HNU.out, ← HU.out]; have := plIds_len' ts; rw [HL.out] at this; omega
  have HR1 := Lib.hid (HR0.out.below b2 HR0.out.lt)
  have HB1 := Lib.hid (HB0.out.trans (b2.mono HB0.out.size))
  have HUG := Lib.hid (show ∀ g o, AU = some ⟨g, o, none⟩ → ¬ g = R from fun g o e z => by
    have h1 : V.heap.size ≤ g := by
      rcases Nat.eq_zero_or_pos nu with y | y
      · rcases hOU.2 with ⟨z1, -⟩ | ⟨g1, c1, u1, z1, z2, -⟩
        · injection z1 with z1 _ _; rw [e] at z1; cases z1
        · injection z1 with z1 _ _; rw [e] at z1; injection z1 with z1; injection z1 with z1 _; omega
      · obtain ⟨g1, c1, z1, z2, -⟩ := hOU.form y
        injection z1 with z1 _ _; rw [e] at z1; injection z1 with z1; injection z1 with z1 _; omega
    have h2 := HR0.out.lt
    omega)
  have HUO := Lib.hid hOU
  clear hOU b2 HR0 HB0 HG0
  go_wp2_with fail
  go_loopw [22] (fun i wr => ∃ k : Nat, k ≤ nu ∧ i = .int .i64 (k : Nat) ∧ RwB wr R n (rsF ts ax cs den (U.take k)) ∧ IO wr wr.heap.size AU nu U ∧ Below w.heap.size w wr) (fun i _ => nu - (intOf i).toNat)
  case atStart => exact ⟨0, Nat.zero_le _, rfl, HR1.out.congr (fun j _ => rfl), IO.of_own HUO.out, HB1.out⟩
  case round =>
    obtain ⟨k, hk, rfl, hR, hS, hB⟩ := hrel
    have HRQ := Lib.hid hR
    have HSQ := Lib.hid hS
    have HBQ := Lib.hid hB
    clear hR hS hB HR1 HUO HB1
    have hk0 : (0 : Int) ≤ (k : Int) := by omega
    by_cases hlt : k < nu
    · have hki : (k : Int) < (nu : Int) := by omega
      have hkd : decide (k < nu) = true := by simpa using hlt
      obtain ⟨q, hq⟩ := at_lt HNU.out hlt
      have hqm := List.mem_of_getElem? hq
      obtain ⟨jq, rfl, ⟨fr, tt, tp, cm, sl⟩, hx, -⟩ := plIds_at (by rw [HU.out]; exact hqm)
      have hjn : jq < n := by have := lt_at hx; rw [HL.out] at this; exact this
      have hji : (jq : Int) < (n : Int) := by omega
      have hj0 : (0 : Int) ≤ (jq : Int) := by omega
      have HOX := Lib.hid (goodLg_at hg.out hx)
      obtain ⟨⟨f0, f7⟩, ⟨t0, t7⟩, hne, -⟩ := okLg_lim HOX.out
      simp only [] at f0 f7 t0 t7 hne
      obtain ⟨f, rfl⟩ : ∃ f : Nat, fr = f := ⟨fr.toNat, by omega⟩
      obtain ⟨t, rfl⟩ : ∃ t : Nat, tt = t := ⟨tt.toNat, by omega⟩
      have hfi : (f : Int) < 8 := by omega
      have hti : (t : Int) < 8 := by omega
      obtain ⟨mu, HMU⟩ : ∃ q, Hid (msA ⟨(f : Int), (t : Int), tp, cm, sl⟩ ax = q) := ⟨_, Lib.hid rfl⟩
      obtain ⟨cf, HCF⟩ : ∃ m, Hid (cat cs (f : Int) = m) := ⟨_, Lib.hid rfl⟩
      obtain ⟨ct, HCT⟩ : ∃ m, Hid (cat cs (t : Int) = m) := ⟨_, Lib.hid rfl⟩
      have HRV := Lib.hid (show rsV (lgAt ts (jq : Int)) ax cs den = mu * den - (ct - cf) by
        rw [lgAt_is hx]
        show msA ⟨(f : Int), (t : Int), tp, cm, sl⟩ ax * den - cat cs (t : Int) + cat cs (f : Int) = _
        rw [HMU.out, HCF.out, HCT.out]; omega)
      have bm := msA_bd HOX.out ax
      rw [HMU.out] at bm
      have bp := md_bd bm hd
      have bf := hcb.out.at_ (f : Int)
      have bt := hcb.out.at_ (t : Int)
      rw [HCF.out] at bf
      rw [HCT.out] at bt
      have x1 : IntKind.i64.wrap (mu * den) = mu * den := IntWalk.i64_in _ (by omega)
      have x2 : IntKind.i64.wrap (ct - cf) = ct - cf := IntWalk.i64_in _ (by omega)
      have x3 : IntKind.i64.wrap (mu * den - (ct - cf)) = mu * den - (ct - cf) := IntWalk.i64_in _ (by omega)
      have HTK := Lib.hid (take_snoc hq)
      obtain ⟨gU, oU, rfl, hgU, eU⟩ := HSQ.out.2 k _ hq
      have hUR2 := HUG.out gU oU rfl
      obtain ⟨gL, rfl, hgL, e0, e1, e2, e3, e4⟩ := (hts.out.below HBQ.out).2 jq _ hx
      simp only [] at e0 e1 e2 e3 e4
      clear hq hqm hx f0 f7 t0 t7 hne bm bp bf bt
      obtain ⟨W0, HW0⟩ : ∃ W, Hid (wr.alloc (.cells #[.int .i64 (f : Int), .int .i64 (t : Int), .int .i64 tp, .int .i64 cm, .int .i64 sl] 87) = W) := ⟨_, Lib.hid rfl⟩
      have HAL := Lib.hid ((Below.refl wr.heap.size wr).alloc (Nat.le_refl _) (.cells #[.int .i64 (f : Int), .int .i64 (t : Int), .int .i64 tp, .int .i64 cm, .int .i64 sl] 87))
      have HSW := Lib.hid (HSQ.out.step HAL.out)
      have HRW := Lib.hid (HRQ.out.below HAL.out HRQ.out.lt)
      have HBW := Lib.hid (HBQ.out.trans (HAL.out.mono HBQ.out.size))
      have HK1 := Lib.hid (Blk.new wr 87 #[.int .i64 (f : Int), .int .i64 (t : Int), .int .i64 tp, .int .i64 cm, .int .i64 sl])
      go_upto_region 6 with fail
      rw [HW0.out] at HSW HRW HBW HK1 ⊢
      obtain ⟨X, HXX⟩ : ∃ X, Hid (wr.heap.size = X) := ⟨_, Lib.hid rfl⟩
      rw [HXX.out] at HK1
      try simp only [HXX.out]
      have hXR : ¬ X = R := fun z => by have := HRQ.out.lt; rw [HXX.out] at this; omega
      clear HW0 HXX e0 e1 e2 e3 e4 eU hgL HAL HSQ HRQ HBQ
      have y0 := HK1.out.cell 0
      have y1 := HK1.out.cell 1
      have y2 := HK1.out.cell 2
      have y3 := HK1.out.cell 3
      have y4 := HK1.out.cell 4
      have lX := HK1.out.lt
      simp at y0 y1 y2 y3 y4
      obtain ⟨gc, oc, rfl, hgc, ef⟩ := (hca.out.below HBW.out).2 f _ (cat_at (by rw [hca.out.1]; omega))
      obtain ⟨g', o', eg, -, et⟩ := (hca.out.below HBW.out).2 t _ (cat_at (by rw [hca.out.1]; omega))
      obtain ⟨rfl, rfl⟩ : gc = g' ∧ oc = o' := by injection eg with eg; injection eg with e1 e2; exact ⟨e1, e2⟩
      rw [HCF.out] at ef
      rw [HCT.out] at et
      have hcR : ¬ gc = R := fun z => by have := hcc.out gc oc rfl; rw [← HRE.out] at z; omega
      have HTB := Lib.hid (show Below w.heap.size w W0.drew from HBW.out.drew)
      obtain ⟨B, HBB⟩ : ∃ B, Hid (W0.heap.size = B) := ⟨_, Lib.hid rfl⟩
      have hRB : R < B := by rw [← HBB.out]; exact HRW.out.lt
      rw [HBB.out] at lX
      have hgcB : gc < B := by rw [← HBB.out]; have := HBW.out.size; omega
      clear eg hgc
      refine wp_region_held_drew (S := (fun v => ∀ b o, b < B → b ≠ R → v.cell? ⟨b, o, none⟩ = W0.cell? ⟨b, o, none⟩)) (by kernel_rfl) ?_ (fun hHeld => ?_)
      · exact (fun b o _ _ => rfl)
      refine' wpAnyH_take (i := 0) (v := ?vr1_0) rfl (by kernel_rfl) (by kernel_rfl) (by kernel_rfl) (fun _ _ _ h => h) (Or.inl ⟨by rfl, ?hyr1_0⟩) (by assumption) ?restr1_0
      case hyr1_0 => (intro w hSw; (try dsimp only at hSw); go_simp; try (with_reducible rfl))
      simp only [Act.put, List.getElem_toArray, List.getElem_cons_succ, List.getElem_cons_zero, List.setIfInBounds_toArray, List.set_cons_zero, List.set_cons_succ]
      refine' wpAnyH_take (i := 1) (v := ?vr1_1) rfl (by kernel_rfl) (by kernel_rfl) (by kernel_rfl) (fun _ _ _ h => h) (Or.inl ⟨by rfl, ?hyr1_1⟩) (by assumption) ?restr1_1
      case hyr1_1 => (intro w hSw; (try dsimp only at hSw); go_simp; try (with_reducible rfl))
      simp only [Act.put, List.getElem_toArray, List.getElem_cons_succ, List.getElem_cons_zero, List.setIfInBounds_toArray, List.set_cons_zero, List.set_cons_succ]
      refine' wpAnyH_take (i := 2) (v := ?vr1_2) rfl (by kernel_rfl) (by kernel_rfl) (by kernel_rfl) (fun _ _ _ h => h) (Or.inl ⟨by rfl, ?hyr1_2⟩) (by assumption) ?restr1_2
      case hyr1_2 => (intro w hSw; (try dsimp only at hSw); go_simp; try (with_reducible rfl))
      simp only [Act.put, List.getElem_toArray, List.getElem_cons_succ, List.getElem_cons_zero, List.setIfInBounds_toArray, List.set_cons_zero, List.set_cons_succ]
      refine' wpAnyH_take (i := 3) (v := ?vr1_3) rfl (by kernel_rfl) (by kernel_rfl) (by kernel_rfl) (fun _ _ _ h => h) (Or.inl ⟨by rfl, ?hyr1_3⟩) (by assumption) ?restr1_3
      case hyr1_3 => (intro w hSw; (try dsimp only at hSw); go_simp; try (with_reducible rfl))
      simp only [Act.put, List.getElem_toArray, List.getElem_cons_succ, List.getElem_cons_zero, List.setIfInBounds_toArray, List.set_cons_zero, List.set_cons_succ]
      refine' wpAnyH_take (i := 5) (v := ?vr1_5) rfl (by kernel_rfl) (by kernel_rfl) (by kernel_rfl) (fun _ _ _ h => h) (Or.inl ⟨by rfl, ?hyr1_5⟩) (by assumption) ?restr1_5
      case hyr1_5 => (intro w hSw; (try dsimp only at hSw); go_simp; try (with_reducible rfl))
      simp only [Act.put, List.getElem_toArray, List.getElem_cons_succ, List.getElem_cons_zero, List.setIfInBounds_toArray, List.set_cons_zero, List.set_cons_succ]
      refine' wpAnyH_take (i := 7) (v := ?vr1_7) rfl (by kernel_rfl) (by kernel_rfl) (by kernel_rfl) (fun _ _ _ h => h) (Or.inl ⟨by rfl, ?hyr1_7⟩) (by assumption) ?restr1_7
      case hyr1_7 => (intro w hSw; (try dsimp only at hSw); go_simp; try (with_reducible rfl))
      simp only [Act.put, List.getElem_toArray, List.getElem_cons_succ, List.getElem_cons_zero, List.setIfInBounds_toArray, List.set_cons_zero, List.set_cons_succ]
      refine' wpAnyH_take (i := 8) (v := ?vr1_8) rfl (by kernel_rfl) (by kernel_rfl) (by kernel_rfl) (fun _ _ _ h => h) (Or.inl ⟨by rfl, ?hyr1_8⟩) (by assumption) ?restr1_8
      case hyr1_8 => (intro w hSw; (try dsimp only at hSw); go_simp; try (with_reducible rfl))
      simp only [Act.put, List.getElem_toArray, List.getElem_cons_succ, List.getElem_cons_zero, List.setIfInBounds_toArray, List.set_cons_zero, List.set_cons_succ]
      refine' wpAnyH_take (i := 9) (v := ?vr1_9) rfl (by kernel_rfl) (by kernel_rfl) (by kernel_rfl) (fun _ _ _ h => h) (Or.inl ⟨by rfl, ?hyr1_9⟩) (by assumption) ?restr1_9
      case hyr1_9 => (intro w hSw; (try dsimp only at hSw); go_simp; try (with_reducible rfl))
      simp only [Act.put, List.getElem_toArray, List.getElem_cons_succ, List.getElem_cons_zero, List.setIfInBounds_toArray, List.set_cons_zero, List.set_cons_succ]
      refine' wpAnyH_take (i := 10) (v := ?vr1_10) rfl (by kernel_rfl) (by kernel_rfl) (by kernel_rfl) (fun _ _ _ h => h) (Or.inl ⟨by rfl, ?hyr1_10⟩) (by assumption) ?restr1_10
      case hyr1_10 => (intro w hSw; (try dsimp only at hSw); go_simp; try (with_reducible rfl))
      simp only [Act.put, List.getElem_toArray, List.getElem_cons_succ, List.getElem_cons_zero, List.setIfInBounds_toArray, List.set_cons_zero, List.set_cons_succ]
      refine' wpAnyH_take (i := 11) (v := ?vr1_11) rfl (by kernel_rfl) (by kernel_rfl) (by kernel_rfl) (fun _ _ _ h => h) (Or.inl ⟨by rfl, ?hyr1_11⟩) (by assumption) ?restr1_11
      case hyr1_11 => (intro w hSw; (try dsimp only at hSw); go_simp; try (with_reducible rfl))
      simp only [Act.put, List.getElem_toArray, List.getElem_cons_succ, List.getElem_cons_zero, List.setIfInBounds_toArray, List.set_cons_zero, List.set_cons_succ]
      refine' wpAnyH_take (i := 12) (v := ?vr1_12) rfl (by kernel_rfl) (by kernel_rfl) (by kernel_rfl) (fun _ _ _ h => h) (Or.inl ⟨by rfl, ?hyr1_12⟩) (by assumption) ?restr1_12
      case hyr1_12 => (intro w hSw; (try dsimp only at hSw); go_simp; try (with_reducible rfl))
      simp only [Act.put, List.getElem_toArray, List.getElem_cons_succ, List.getElem_cons_zero, List.setIfInBounds_toArray, List.set_cons_zero, List.set_cons_succ]
      refine' wpAnyH_take (i := 13) (v := ?vr1_13) rfl (by kernel_rfl) (by kernel_rfl) (by kernel_rfl) (fun _ _ _ h => h) (Or.inl ⟨by rfl, ?hyr1_13⟩) (by assumption) ?restr1_13
      case hyr1_13 => (intro w hSw; (try dsimp only at hSw); go_simp; try (with_reducible rfl))
      simp only [Act.put, List.getElem_toArray, List.getElem_cons_succ, List.getElem_cons_zero, List.setIfInBounds_toArray, List.set_cons_zero, List.set_cons_succ]
      refine' wpAnyH_take (i := 14) (v := ?vr1_14) rfl (by kernel_rfl) (by kernel_rfl) (by kernel_rfl) (fun _ _ _ h => h) (Or.inl ⟨by rfl, ?hyr1_14⟩) (by assumption) ?restr1_14
      case hyr1_14 => (intro w hSw; (try dsimp only at hSw); go_simp; try (with_reducible rfl))
      simp only [Act.put, List.getElem_toArray, List.getElem_cons_succ, List.getElem_cons_zero, List.setIfInBounds_toArray, List.set_cons_zero, List.set_cons_succ]
      refine' wpAnyH_take (i := 15) (v := ?vr1_15) rfl (by kernel_rfl) (by kernel_rfl) (by kernel_rfl) (fun _ _ _ h => h) (Or.inl ⟨by rfl, ?hyr1_15⟩) (by assumption) ?restr1_15
      case hyr1_15 => (intro w hSw; (try dsimp only at hSw); go_simp; try (with_reducible rfl))
      simp only [Act.put, List.getElem_toArray, List.getElem_cons_succ, List.getElem_cons_zero, List.setIfInBounds_toArray, List.set_cons_zero, List.set_cons_succ]
      refine' wpAnyH_take (i := 16) (v := ?vr1_16) rfl (by kernel_rfl) (by kernel_rfl) (by kernel_rfl) (fun _ _ _ h => h) (Or.inl ⟨by rfl, ?hyr1_16⟩) (by assumption) ?restr1_16
      case hyr1_16 => (intro w hSw; (try dsimp only at hSw); go_simp; try (with_reducible rfl))
      simp only [Act.put, List.getElem_toArray, List.getElem_cons_succ, List.getElem_cons_zero, List.setIfInBounds_toArray, List.set_cons_zero, List.set_cons_succ]
      refine' wpAnyH_take (i := 17) (v := ?vr1_17) rfl (by kernel_rfl) (by kernel_rfl) (by kernel_rfl) (fun _ _ _ h => h) (Or.inl ⟨by rfl, ?hyr1_17⟩) (by assumption) ?restr1_17
      case hyr1_17 => (intro w hSw; (try dsimp only at hSw); go_simp; try (with_reducible rfl))
      simp only [Act.put, List.getElem_toArray, List.getElem_cons_succ, List.getElem_cons_zero, List.setIfInBounds_toArray, List.set_cons_zero, List.set_cons_succ]
      refine wpAnyH_ready (rs := [4]) (by kernel_rfl) (by simp) ?_
      refine AllReadyH.cons rfl (fun K hK => ?_) AllReadyH.nil
      go_simp
      refine (msOn_any ⟨(f : Int), (t : Int), tp, cm, sl⟩ ax mu _ HOX h0 h2 HMU (Lib.hid (hT.out.below HTB.out))).mono ?_
      rintro e w1 ⟨rfl, b1⟩
      have HB2 := Lib.hid b1
      clear b1
      refine hK.out _ _ (sr_step hHeld (HB2.out.mono (by rw [← HBB.out]; exact Nat.le_refl _))) (fun hHeld1 => ?_)
      clear hK K hHeld
      have hHeld := hHeld1
      clear hHeld1
      try simp only [Act.put, List.getElem_toArray, List.getElem_cons_succ, List.getElem_cons_zero, List.setIfInBounds_toArray, List.set_cons_zero, List.set_cons_succ]
      refine' wpAnyH_take (i := 6) (v := ?vr1_6) rfl (by kernel_rfl) (by kernel_rfl) (by kernel_rfl) (fun _ _ _ h => h) (Or.inl ⟨by rfl, ?hyr1_6⟩) (by assumption) ?restr1_6
      case hyr1_6 => (intro w hSw; (try dsimp only at hSw); go_simp; try (with_reducible rfl))
      simp only [Act.put, List.getElem_toArray, List.getElem_cons_succ, List.getElem_cons_zero, List.setIfInBounds_toArray, List.set_cons_zero, List.set_cons_succ]
      refine' wpAnyH_take (i := 18) (v := ?vr1_18) rfl (by kernel_rfl) (by kernel_rfl) (by kernel_rfl) (fun _ _ _ h => h) (Or.inl ⟨by rfl, ?hyr1_18⟩) (by assumption) ?restr1_18
      case hyr1_18 => (intro w hSw; (try dsimp only at hSw); go_simp; try (with_reducible rfl))
      simp only [Act.put, List.getElem_toArray, List.getElem_cons_succ, List.getElem_cons_zero, List.setIfInBounds_toArray, List.set_cons_zero, List.set_cons_succ]
      have HR3 := Lib.hid ((HRW.out.below (Below.refl _ _).drew HRW.out.lt).below HB2.out HRW.out.lt)
      have f3 := HR3.out.fro jq
      have l3 := HR3.out.lt
      have d3 := HR3.out.at_ hjn
      refine' wpAnyH_take (i := 19) (v := ?vr1_19) rfl (by kernel_rfl) (by kernel_rfl) (by kernel_rfl) (fun _ _ _ h => h) (Or.inl ⟨by rfl, ?hyr1_19⟩) (by assumption) ?restr1_19
      case hyr1_19 => (intro w hSw; (try dsimp only at hSw); go_simp; try (with_reducible rfl))
      simp only [Act.put, List.getElem_toArray, List.getElem_cons_succ, List.getElem_cons_zero, List.setIfInBounds_toArray, List.set_cons_zero, List.set_cons_succ]
      refine wpAnyH_ready (rs := [20]) (by kernel_rfl) (by simp) ?_
      refine AllReadyH.cons rfl (fun K hK => ?_) AllReadyH.nil
      go_simp
      refine hK.out _ _ (sr_set hHeld _ _) (fun hHeld1 => ?_)
      clear hK K hHeld hHeld1
      try simp only [Act.put, List.getElem_toArray, List.getElem_cons_succ, List.getElem_cons_zero, List.setIfInBounds_toArray, List.set_cons_zero, List.set_cons_succ]
      refine wpAnyH_done (by kernel_rfl) ?_ _
      have HRF := Lib.hid ((HR3.out.set hjn (mu * den - (ct - cf))).congr (g := rsF ts ax cs den (U.take (k + 1))) (fun j _ => by
        unfold upd rsF
        rw [HTK.out]
        by_cases z : j = jq
        · rw [if_pos z, z, if_pos (List.mem_append_right _ (List.mem_singleton.2 rfl)), HRV.out]
        · rw [if_neg z]
          by_cases z2 : (j : Int) ∈ U.take k
          · rw [if_pos z2, if_pos (List.mem_append_left _ z2)]
          · rw [if_neg z2, if_neg (fun y => by rcases List.mem_append.1 y with y | y; exact z2 y; exact z (by have := List.mem_singleton.1 y; omega))]))
      have hsW := HBW.out.size
      have HBF := Lib.hid (((HTB.out).trans (HB2.out.mono (by have := HTB.out.size; exact this))).setCell (p := ⟨R, jq, none⟩) (by show w.heap.size ≤ R; rw [HGE.out, ← HRE.out]; omega) (.int .i64 (mu * den - (ct - cf))))
      have HSF := Lib.hid (show IO (w1.setCell ⟨R, jq, none⟩ (.int .i64 (mu * den - (ct - cf)))) (w1.setCell ⟨R, jq, none⟩ (.int .i64 (mu * den - (ct - cf)))).heap.size (some ⟨gU, oU, none⟩) nu U from by
        have h9 := (HSW.out.below (Below.refl _ _).drew).below HB2.out
        refine ⟨h9.1, fun q x hx => ?_⟩
        obtain ⟨g, o, e, hg9, hc⟩ := h9.2 q x hx
        refine ⟨g, o, e, ?_, ?_⟩
        · have : (w1.setCell ⟨R, jq, none⟩ (.int .i64 (mu * den - (ct - cf)))).heap.size = w1.heap.size := by simp [World.setCell]
          rw [this]; have z2 := HB2.out.size; have z3 : W0.drew.heap.size = W0.heap.size := rfl; omega
        · refine (World.cell?_setCell_other w1 _ _ _ (fun z => ?_)).trans hc
          injection z with z1 _
          injection e with e; injection e with e1 _
          exact hUR2 (by rw [e1]; exact z1.symm))
      clear HB2 HR3
      go_wp2_with fail
      go_roundw
      case rel => exact ⟨k + 1, by omega, by go_num, HRF.out, HSF.out, HBF.out⟩
      case measure => simp [intOf]; omega
    · have hkd : decide (k < nu) = false := by simpa using hlt
      obtain rfl : k = nu := by omega
      have HTA := Lib.hid (show U.take k = U by rw [← HNU.out, List.take_length])
      rw [HTA.out] at HRQ
      have HFIN := Lib.hid (show wr.ownsRow w.heap.size 3 1 (.slice (some ⟨R, 0, none⟩) n n) (rsL ts ax cs den).length (ints.intsV (rsL ts ax cs den)) from by
        rw [rsL_len, HL.out]
        have := HRQ.out.own (base := w.heap.size) (by rw [HGE.out, ← HRE.out]; omega) (by unfold maxLen; omega)
        unfold rsL
        rw [HL.out, HU.out]; exact this)
      clear hlt
      go_wp2_with fail
      go_ret
      exact ⟨_, rfl, HFIN.out, HBQ.out⟩
end Go.Proofs.YtiimegmaokfpgabGreatDoor.pg
namespace Go.Proofs.YtiimegmaokfpgabGreatDoor.pg
open Go.RowKit
open reads base ty lg lgi win hs nt nq rowi sn mt ml dt
set_option linter.unusedVariables false
set_option linter.unusedSimpArgs false
def AJo (ts : List Lg) (ax : Int) (w : World) (e : Ending) (w' : World) : Prop :=
  ∃ (AU : Option Addr) (cU : Nat) (Ax : Option Addr) (cx : Nat) (Ar : Option Addr) (cr : Nat), e = .returned (.agg #[.slice AU (plIds ts).length cU, .int .i64 (TC ts), .slice Ax 8 cx, .slice Ar ts.length cr]) ∧
    w'.ownsRow w.heap.size 3 1 (.slice AU (plIds ts).length cU) (plIds ts).length (ints.intsV (plIds ts)) ∧
    w'.ownsRow w.heap.size 3 1 (.slice Ax 8 cx) 8 (ints.intsV (xcN ts ax)) ∧
    w'.ownsRow w.heap.size 3 1 (.slice Ar ts.length cr) ts.length (ints.intsV (rsL ts ax (xcN ts ax) (TC ts))) ∧ Below w.heap.size w w'
set_option maxHeartbeats 16000000 in
set_option maxRecDepth 100000 in
theorem adjOn_any (A : Option Addr) (n cap : Nat) (ts : List Lg) (cl : List Bool) (C : Array Value) (ax : Int) (w : World) (h0 : 0 ≤ ax) (h2 : ax ≤ 2) (hC : Hid (nv (net ts) cl = C)) (hcl : cl.length = 12) (hg : Hid (goodLg ts = true)) (hts : Hid (LgAt w w.heap.size A n ts)) (hT : Hid (Tab w)) :
    Calls Tryz.prog 92 #[.slice A n cap, .agg C, .int .i64 ax] w (AJo ts ax w) := by
  obtain ⟨i0, hi, hz0, hz1, hz2⟩ := info_parts infoI
  have HL := Lib.hid hts.out.1
  have hn12 := len12 HL.out hg.out
  have hcz : C.size = 56 := by rw [← hC.out]; exact nv_size ⟨(ok_net hg.out).1, hcl⟩
  obtain ⟨G, HGE⟩ : ∃ q, Hid (w.heap.size = q) := ⟨_, Lib.hid rfl⟩
  obtain ⟨RV, HRE⟩ : ∃ q, Hid (G + 1 = q) := ⟨_, Lib.hid rfl⟩
  have HG0 := Lib.hid (show Blk ((w.alloc (.cells C 76)).alloc (.cells #[.slice none 0 0, .int .i64 0, .slice none 0 0, .slice none 0 0] 64)) G 76 C by rw [← HGE.out]; exact (Blk.new _ _ _).alloc _)
  have HV0 := Lib.hid (show Blk ((w.alloc (.cells C 76)).alloc (.cells #[.slice none 0 0, .int .i64 0, .slice none 0 0, .slice none 0 0] 64)) RV 64 #[.slice none 0 0, .int .i64 0, .slice none 0 0, .slice none 0 0] by
    have h := Blk.new (w.alloc (.cells C 76)) 64 #[.slice none 0 0, .int .i64 0, .slice none 0 0, .slice none 0 0]
    rw [← HRE.out, ← HGE.out]; simpa using h)
  have HB0 := Lib.hid (((Below.refl w.heap.size w).alloc (Nat.le_refl _) (.cells C 76)).alloc (by simp) (.cells #[.slice none 0 0, .int .i64 0, .slice none 0 0, .slice none 0 0] 64))
  go_enter Tryz.func92, Tryz.ntmps92
  go_upto_region 1 with fail
  obtain ⟨V, HV⟩ : ∃ q, Hid ((w.alloc (.cells C 76)).alloc (.cells #[.slice none 0 0, .int .i64 0, .slice none 0 0, .slice none 0 0] 64) = q) := ⟨_, Lib.hid rfl⟩
  rw [HV.out] at HG0 HV0 HB0 ⊢
  try simp only [HGE.out]
  try simp only [HRE.out]
  clear HV
  refine wp_region_list ?_
  refine step_move _ rfl _ rfl _ rfl ?_
  simp only [Act.put, List.getElem_toArray, List.getElem_cons_succ, List.getElem_cons_zero, List.setIfInBounds_toArray, List.set_cons_zero, List.set_cons_succ]
  refine step_load _ rfl _ rfl G _ rfl HG0.out hcz ?_
  simp only [Act.put, List.getElem_toArray, List.getElem_cons_succ, List.getElem_cons_zero, List.setIfInBounds_toArray, List.set_cons_zero, List.set_cons_succ]
  go_wp2_with fail
  refine (balance_any A n cap ts cl C ax _ h0 h2 hC hcl hg (Lib.hid (hts.out.step HB0.out)) (Lib.hid (hT.out.below HB0.out))).mono ?_
  rintro e w1 ⟨AB, cB, PB', rfl, hMX, b1⟩
  have HMX := Lib.hid hMX
  have HB1 := Lib.hid (HB0.out.trans (b1.mono HB0.out.size))
  have HG1 := Lib.hid (HG0.out.below b1 HG0.out.lt)
  have HV1 := Lib.hid (HV0.out.below b1 HV0.out.lt)
  clear hMX b1 HG0 HV0 HB0
  go_wp2_with fail
  refine (minors_any _ AB cB PB' _ w1 (Lib.hid (fun i j => pr_bd (nw_net hg.out ax).hu (US_len hg.out ax) i j)) HMX).mono ?_
  rintro e w2 ⟨RM, rfl, hRM, hRMb, b2⟩
  have HRW := Lib.hid hRM
  have HBW := Lib.hid (HB1.out.trans (b2.mono HB1.out.size))
  have HGW := Lib.hid (HG1.out.below b2 HG1.out.lt)
  have HVW := Lib.hid (HV1.out.below b2 HV1.out.lt)
  clear hRM b2 hRMb HMX HB1 HG1 HV1
  obtain ⟨tr, HTR⟩ : ∃ q, Hid (TC ts = q) := ⟨_, Lib.hid rfl⟩
  have d255 := HRW.out.at_ (j := 255) (by omega)
  rw [ms_TC hg.out ax, HTR.out] at d255
  have lRM := HRW.out.lt
  obtain ⟨U, HU⟩ : ∃ q, Hid (plIds ts = q) := ⟨_, Lib.hid rfl⟩
  obtain ⟨nu, HNU⟩ : ∃ q, Hid (U.length = q) := ⟨_, Lib.hid rfl⟩
  have hnu : nu ≤ 12 := by rw [← HNU.out, ← HU.out]; have := plIds_len' ts; rw [HL.out] at this; omega
  go_upto_region 4 with fail
  obtain ⟨W0, HW0⟩ : ∃ W, Hid (w2 = W) := ⟨_, Lib.hid rfl⟩
  rw [HW0.out] at HRW HBW HGW HVW d255 lRM ⊢
  clear HW0
  have HBD := Lib.hid HBW.out.drew
  obtain ⟨B, HBB⟩ : ∃ B, Hid (W0.heap.size = B) := ⟨_, Lib.hid rfl⟩
  have hBB := HBB.out
  rw [hBB] at lRM
  go_cut [10] (fun v wx => ∃ (X cU : Nat) (AU : Option Addr), v = .pointer (some ⟨X, 0, none⟩) ∧ RV < X ∧ Blk wx X 64 #[.slice AU nu cU, .int .i64 tr, .slice none 0 0, .slice none 0 0] ∧ wx.ownsRow w.heap.size 3 1 (.slice AU nu cU) nu (ints.intsV U) ∧ RwB wx RM 512 (ms (prF (US ts ax) (stN ts)) 512) ∧ Blk wx RV 64 #[.slice none 0 0, .int .i64 0, .slice none 0 0, .slice none 0 0] ∧ Blk wx G 76 C ∧ Below w.heap.size w wx)
  case first =>
    rename_i J0 K0 hJ0 hK0
    refine wp_region_held_drew (S := (fun v => (∀ b o, b < B → v.cell? ⟨b, o, none⟩ = W0.cell? ⟨b, o, none⟩) ∧ Blk v G 76 C)) (by kernel_rfl) ?_ (fun hHeld => ?_)
    · exact ⟨fun b o _ => rfl, HGW.out.drew⟩
    refine' wpAnyH_take (i := 0) (v := ?v300) rfl (by kernel_rfl) (by kernel_rfl) (by kernel_rfl) (fun _ _ _ h => h) (Or.inl ⟨by rfl, ?hy300⟩) (by assumption) ?rest300
    case hy300 => (intro w hSw; (try dsimp only at hSw); go_simp; try (with_reducible rfl))
    simp only [Act.put, List.getElem_toArray, List.getElem_cons_succ, List.getElem_cons_zero, List.setIfInBounds_toArray, List.set_cons_zero, List.set_cons_succ]
    refine' wpAnyH_take (i := 1) (v := .agg C) rfl (by kernel_rfl) (by kernel_rfl) (by kernel_rfl) (fun _ _ _ h => h) (Or.inl ⟨by rfl, fun v hSv => exec_load rfl rfl hSv.2 hcz⟩) (by assumption) ?_
    simp only [Act.put, List.getElem_toArray, List.getElem_cons_succ, List.getElem_cons_zero, List.setIfInBounds_toArray, List.set_cons_zero, List.set_cons_succ]
    refine' wpAnyH_take (i := 3) (v := ?v303) rfl (by kernel_rfl) (by kernel_rfl) (by kernel_rfl) (fun _ _ _ h => h) (Or.inl ⟨by rfl, ?hy303⟩) (by assumption) ?rest303
    case hy303 => (intro w hSw; (try dsimp only at hSw); go_simp; try (with_reducible rfl))
    simp only [Act.put, List.getElem_toArray, List.getElem_cons_succ, List.getElem_cons_zero, List.setIfInBounds_toArray, List.set_cons_zero, List.set_cons_succ]
    refine' wpAnyH_take (i := 4) (v := ?v304) rfl (by kernel_rfl) (by kernel_rfl) (by kernel_rfl) (fun _ _ _ h => h) (Or.inl ⟨by rfl, ?hy304⟩) (by assumption) ?rest304
    case hy304 => (intro w hSw; (try dsimp only at hSw); go_simp; try (with_reducible rfl))
    simp only [Act.put, List.getElem_toArray, List.getElem_cons_succ, List.getElem_cons_zero, List.setIfInBounds_toArray, List.set_cons_zero, List.set_cons_succ]
    refine' wpAnyH_take (i := 5) (v := ?v305) rfl (by kernel_rfl) (by kernel_rfl) (by kernel_rfl) (fun _ _ _ h => h) (Or.inl ⟨by rfl, ?hy305⟩) (by assumption) ?rest305
    case hy305 => (intro w hSw; (try dsimp only at hSw); go_simp; try (with_reducible rfl))
    simp only [Act.put, List.getElem_toArray, List.getElem_cons_succ, List.getElem_cons_zero, List.setIfInBounds_toArray, List.set_cons_zero, List.set_cons_succ]
    refine' wpAnyH_take (i := 6) (v := ?v306) rfl (by kernel_rfl) (by kernel_rfl) (by kernel_rfl) (fun _ _ _ h => h) (Or.inl ⟨by rfl, ?hy306⟩) (by assumption) ?rest306
    case hy306 => (intro w hSw; (try dsimp only at hSw); go_simp; try (with_reducible rfl))
    simp only [Act.put, List.getElem_toArray, List.getElem_cons_succ, List.getElem_cons_zero, List.setIfInBounds_toArray, List.set_cons_zero, List.set_cons_succ]
    refine wpAnyH_ready (rs := [2, 8]) (by kernel_rfl) (by simp) ?_
    refine AllReadyH.cons rfl (fun K hK => ?_) (AllReadyH.cons rfl (fun K hK => ?_) AllReadyH.nil)
    · go_simp
      refine (placedLegs_any A n cap ts cl C _ hC hcl hg (Lib.hid (hts.out.step HBD.out))).mono ?_
      rintro e w5 ⟨vU, rfl, hOU, b5⟩
      rw [HU.out, HNU.out] at hOU
      obtain ⟨AU, cU, rfl⟩ := row_slice hOU
      have HO5 := Lib.hid hOU
      have HB5 := Lib.hid b5
      clear hOU b5
      refine hK.out _ _ ⟨fun b o hb => (HB5.out.cell (p := ⟨b, o, none⟩) (by show b < W0.heap.size; omega)).trans (hHeld.1 b o hb), hHeld.2.below HB5.out hHeld.2.lt⟩ (fun hHeld1 => ?_)
      clear hK K hHeld
      have hHeld := hHeld1
      clear hHeld1
      try simp only [Act.put, List.getElem_toArray, List.getElem_cons_succ, List.getElem_cons_zero, List.setIfInBounds_toArray, List.set_cons_zero, List.set_cons_succ]
      have HC5 := Lib.hid hHeld.1
      have HG5 := Lib.hid hHeld.2
      refine' wpAnyH_take (i := 7) (v := ?v207) rfl (by kernel_rfl) (by kernel_rfl) (by kernel_rfl) (fun _ _ _ h => h) (Or.inl ⟨by rfl, ?hy207⟩) (by assumption) ?rest207
      case hy207 => (intro w hSw; (try dsimp only at hSw); go_simp; try (with_reducible rfl))
      simp only [Act.put, List.getElem_toArray, List.getElem_cons_succ, List.getElem_cons_zero, List.setIfInBounds_toArray, List.set_cons_zero, List.set_cons_succ]
      refine wpAnyH_ready (rs := [8]) (by kernel_rfl) (by simp) ?_
      refine AllReadyH.cons rfl (fun K hK => ?_) AllReadyH.nil
      go_simp
      refine hK.out _ _ ⟨fun b o hb => (World.cell?_alloc_lt _ _ ⟨b, o, none⟩ (by show b < w5.heap.size; have h9 := HB5.out.size; have h8 : W0.drew.heap.size = W0.heap.size := rfl; omega)).trans (hHeld.1 b o hb), hHeld.2.alloc _⟩ (fun hHeld1 => ?_)
      clear hK K hHeld
      have hHeld := hHeld1
      clear hHeld1
      try simp only [Act.put, List.getElem_toArray, List.getElem_cons_succ, List.getElem_cons_zero, List.setIfInBounds_toArray, List.set_cons_zero, List.set_cons_succ]
      refine wpAnyH_ready (rs := [9]) (by kernel_rfl) (by simp) ?_
      refine AllReadyH.cons rfl (fun K hK => ?_) AllReadyH.nil
      go_simp
      have hs5 : W0.drew.heap.size ≤ w5.heap.size := HB5.out.size
      have hsd : W0.drew.heap.size = W0.heap.size := rfl
      refine hK.out _ _ ⟨fun b o hb => (World.cell?_alloc_lt w5 _ ⟨b, o, none⟩ (by show b < w5.heap.size; omega)).trans (HC5.out b o hb), HG5.out.alloc _⟩ (fun hHeld1 => ?_)
      clear hK K hHeld hHeld1
      try simp only [Act.put, List.getElem_toArray, List.getElem_cons_succ, List.getElem_cons_zero, List.setIfInBounds_toArray, List.set_cons_zero, List.set_cons_succ]
      refine wpAnyH_done (by kernel_rfl) ?_ _
      refine hK0 _ _ (Met.intro (hJ0 _ _ ?_))
      (repeat apply Exists.intro)
      exact ⟨⟨w5.heap.size, cU, AU, rfl, (by have h7 := HVW.out.lt; omega), Blk.new _ _ _, own_mono (HO5.out.alloc _) HBD.out.size, Blk.alloc (Blk.below (Blk.drew HRW.out) HB5.out HRW.out.lt) _, ((HVW.out.drew).below HB5.out HVW.out.lt).alloc _, HG5.out.alloc _, (HBD.out.trans (HB5.out.mono HBD.out.size)).alloc (by have h8 := HBD.out.size; omega) _⟩, rfl⟩
    · go_simp
      refine hK.out _ _ ⟨fun b o hb => (World.cell?_alloc_lt _ _ ⟨b, o, none⟩ (by show b < W0.heap.size; omega)).trans (hHeld.1 b o hb), hHeld.2.alloc _⟩ (fun hHeld1 => ?_)
      clear hK K hHeld
      have hHeld := hHeld1
      clear hHeld1
      try simp only [Act.put, List.getElem_toArray, List.getElem_cons_succ, List.getElem_cons_zero, List.setIfInBounds_toArray, List.set_cons_zero, List.set_cons_succ]
      have HBE := Lib.hid (HBD.out.alloc HBD.out.size (.cells #[.slice none 0 0, .int .i64 0, .slice none 0 0, .slice none 0 0] 64))
      refine wpAnyH_ready (rs := [2]) (by kernel_rfl) (by simp) ?_
      refine AllReadyH.cons rfl (fun K hK => ?_) AllReadyH.nil
      go_simp
      refine (placedLegs_any A n cap ts cl C _ hC hcl hg (Lib.hid (hts.out.step HBE.out))).mono ?_
      rintro e w5 ⟨vU, rfl, hOU, b5⟩
      rw [HU.out, HNU.out] at hOU
      obtain ⟨AU, cU, rfl⟩ := row_slice hOU
      have HO5 := Lib.hid hOU
      have HB5 := Lib.hid b5
      clear hOU b5
      refine hK.out _ _ ⟨fun b o hb => (HB5.out.cell (p := ⟨b, o, none⟩) (by show b < (W0.drew.alloc _).heap.size; have h8 : W0.drew.heap.size = W0.heap.size := rfl; simp; omega)).trans (hHeld.1 b o hb), hHeld.2.below HB5.out hHeld.2.lt⟩ (fun hHeld1 => ?_)
      clear hK K hHeld
      have hHeld := hHeld1
      clear hHeld1
      try simp only [Act.put, List.getElem_toArray, List.getElem_cons_succ, List.getElem_cons_zero, List.setIfInBounds_toArray, List.set_cons_zero, List.set_cons_succ]
      refine' wpAnyH_take (i := 7) (v := ?v307) rfl (by kernel_rfl) (by kernel_rfl) (by kernel_rfl) (fun _ _ _ h => h) (Or.inl ⟨by rfl, ?hy307⟩) (by assumption) ?rest307
      case hy307 => (intro w hSw; (try dsimp only at hSw); go_simp; try (with_reducible rfl))
      simp only [Act.put, List.getElem_toArray, List.getElem_cons_succ, List.getElem_cons_zero, List.setIfInBounds_toArray, List.set_cons_zero, List.set_cons_succ]
      have HC5 := Lib.hid hHeld.1
      have HG5 := Lib.hid hHeld.2
      have HX9 := Lib.hid (show Blk w5 B 64 #[.slice none 0 0, .int .i64 0, .slice none 0 0, .slice none 0 0] from by have h9 := (Blk.new W0.drew 64 #[.slice none 0 0, .int .i64 0, .slice none 0 0, .slice none 0 0]).below HB5.out (by simp); rw [← hBB]; exact h9)
      have l9 := HX9.out.lt
      have z0 := HX9.out.cell 0
      have z1 := HX9.out.cell 1
      have z2 := HX9.out.cell 2
      have z3 := HX9.out.cell 3
      have f0 := HX9.out.frozen 0
      have f1 := HX9.out.frozen 1
      have f2 := HX9.out.frozen 2
      have f3 := HX9.out.frozen 3
      simp at z0 z1 z2 z3
      refine wpAnyH_ready (rs := [9]) (by kernel_rfl) (by simp) ?_
      refine AllReadyH.cons rfl (fun K hK => ?_) AllReadyH.nil
      go_simp
      have hGB := Lib.hid (grown_set (grown_set (grown_set (grown_set (g := B) (show w5.grownBy w5 (some B) from ⟨rfl, rfl, rfl, Nat.le_refl _, fun _ _ _ => rfl⟩) 0 (.slice AU nu cU)) 1 (.int .i64 tr)) 2 (.slice none 0 0)) 3 (.slice none 0 0))
      have HXF := Lib.hid ((((HX9.out.set_ 0 (.slice AU nu cU)).set_ 1 (.int .i64 tr)).set_ 2 (.slice none 0 0)).set_ 3 (.slice none 0 0))
      have hs5 : (W0.drew.alloc (.cells #[.slice none 0 0, .int .i64 0, .slice none 0 0, .slice none 0 0] 64)).heap.size ≤ w5.heap.size := HB5.out.size
      have hsd : (W0.drew.alloc (.cells #[.slice none 0 0, .int .i64 0, .slice none 0 0, .slice none 0 0] 64)).heap.size = W0.heap.size + 1 := by simp
      refine hK.out _ _ ⟨fun b o hb => (World.cell?_of_block (hGB.out.block b (by omega) (fun e => by injection e with e; omega))).trans (HC5.out b o hb), HG5.out.grown hGB.out (fun e => Blk.ne_ HG5.out HX9.out (by decide) (by injection e))⟩ (fun hHeld1 => ?_)
      clear hK K hHeld hHeld1
      try simp only [Act.put, List.getElem_toArray, List.getElem_cons_succ, List.getElem_cons_zero, List.setIfInBounds_toArray, List.set_cons_zero, List.set_cons_succ]
      refine wpAnyH_done (by kernel_rfl) ?_ _
      refine hK0 _ _ (Met.intro (hJ0 _ _ ?_))
      (repeat apply Exists.intro)
      exact ⟨⟨B, cU, AU, rfl, (by have h7 := HVW.out.lt; omega), HXF.out, (own_mono HO5.out (by have h8 := HBD.out.size; have h9 : W0.drew.heap.size = W0.heap.size := rfl; omega)).kept hGB.out (.inr (own_blk_ne HO5.out HX9.out (by decide))), Blk.grown (Blk.below (Blk.alloc (Blk.drew HRW.out) _) HB5.out (Blk.alloc (Blk.drew HRW.out) _).lt) hGB.out (fun e => by injection e with e; have h7 := HRW.out.lt; omega), ((HVW.out.drew.alloc _).below HB5.out (HVW.out.drew.alloc _).lt).grown hGB.out (fun e => by injection e with e; have h7 := HVW.out.lt; omega), HG5.out.grown hGB.out (fun e => Blk.ne_ HG5.out HX9.out (by decide) (by injection e)), (HBE.out.trans (HB5.out.mono HBE.out.size)).grown hGB.out (by have h8 := HBE.out.size; omega) (fun k e => by injection e with e; have h8 := HBD.out.size; have h9 : W0.drew.heap.size = W0.heap.size := rfl; omega)⟩, rfl⟩
  case rest =>
    obtain ⟨X, cU, AU, rfl, hRX, hX, hO, hRm, hV, hG, hB⟩ := hcut
    have HX := Lib.hid hX
    have HO := Lib.hid hO
    have HRM := Lib.hid hRm
    have HV := Lib.hid hV
    have HG := Lib.hid hG
    have HB := Lib.hid hB
    have HNR := Lib.hid (show RM < B ∧ B ≤ W0.heap.size from ⟨lRM, by rw [hBB]; exact Nat.le_refl _⟩)
    clear hX hO hRm hV hG hB HRW HGW HVW HBW HBD hBB HBB d255
    obtain ⟨g0, HG00⟩ : ∃ q, Hid (w.heap.size = q) := ⟨_, Lib.hid rfl⟩
    have HO0 := Lib.hid (show ∀ v : World, v.ownsRow w.heap.size 3 1 (.slice none 0 0) 0 (ints.intsV ((List.range 0).map (XC ts ax))) from fun v => World.ownsRow_nil v _ _ _)
    go_wp2_with fail
    go_loopw [28] (fun i wr => ∃ (k cx : Nat) (Ax : Option Addr), k ≤ 8 ∧ i = .int .i64 (k : Nat) ∧ Blk wr X 64 #[.slice AU nu cU, .int .i64 tr, .slice Ax k cx, .slice none 0 0] ∧ wr.ownsRow w.heap.size 3 1 (.slice AU nu cU) nu (ints.intsV U) ∧ wr.ownsRow w.heap.size 3 1 (.slice Ax k cx) k (ints.intsV ((List.range k).map (XC ts ax))) ∧ RwB wr RM 512 (ms (prF (US ts ax) (stN ts)) 512) ∧ Blk wr RV 64 #[.slice none 0 0, .int .i64 0, .slice none 0 0, .slice none 0 0] ∧ Blk wr G 76 C ∧ (∀ g, (Value.slice Ax k cx).ownBlock = some g → g ≠ RM ∧ (Value.slice AU nu cU).ownBlock ≠ some g) ∧ Below w.heap.size w wr) (fun i _ => 8 - (intOf i).toNat)
    case atStart => exact ⟨0, 0, none, by omega, rfl, HX.out, HO.out, HO0.out _, HRM.out, HV.out, HG.out, fun g e => by simp [Value.ownBlock] at e, HB.out⟩
    case round =>
      obtain ⟨k, cx, Ax, hk, rfl, hX, hO, hP, hRm, hV, hG, hN, hB⟩ := hrel
      have HXQ := Lib.hid hX
      have HOQ := Lib.hid hO
      have HPQ := Lib.hid hP
      have HRQ := Lib.hid hRm
      have HVQ := Lib.hid hV
      have HGQ := Lib.hid hG
      have HNQ := Lib.hid hN
      have HBQ := Lib.hid hB
      have hBs := hB.size
      clear hX hO hP hRm hV hG hN hB HX HO HRM HV HG HB
      have hk0 : (0 : Int) ≤ (k : Int) := by omega
      by_cases hlt : k < 8
      · have hki : (k : Int) < 8 := by omega
        have o1 := ix_is k hlt
        obtain ⟨J, HJ⟩ : ∃ q, Hid (511 - 2 ^ k = q) := ⟨_, Lib.hid rfl⟩
        rw [HJ.out] at o1
        have hJ : J < 512 := by rw [← HJ.out]; exact ix_lt k hlt
        have hJi : (J : Int) < 512 := by omega
        have hJ0 : (0 : Int) ≤ (J : Int) := by omega
        obtain ⟨x, HXV⟩ : ∃ q, Hid (XC ts ax k = q) := ⟨_, Lib.hid rfl⟩
        have bx := XC_le hg.out ax k
        rw [HXV.out] at bx
        have d1 := HRQ.out.at_ hJ
        have HDV := Lib.hid (ms_XC hg.out ax hlt)
        rw [HJ.out, HXV.out] at HDV
        rw [HDV.out] at d1
        have k7 : (7 : Int) - (k : Int) = ((7 - k : Nat) : Int) := by omega
        have k1 : ((7 - k : Nat) : Int).tmod 2 = (((7 - k) % 2 : Nat) : Int) := rfl
        have k2 : ((7 : Int) - (k : Int)).tmod 2 = (((7 - k) % 2 : Nat) : Int) := by rw [k7, k1]
        have k3 : IntKind.i64.wrap (((7 - k) % 2 : Nat) : Int) = (((7 - k) % 2 : Nat) : Int) := IntWalk.i64_in _ (by omega)
        have k4 : IntKind.i64.wrap (7 - (k : Int)) = 7 - (k : Int) := IntWalk.i64_in _ (by omega)
        have xw : IntKind.i64.wrap x = x := IntWalk.i64_in _ (by omega)
        have HS1 := Lib.hid (show (List.range (k + 1)).map (XC ts ax) = (List.range k).map (XC ts ax) ++ [x] by rw [List.range_succ, List.map_append, ← HXV.out]; rfl)
        clear k7 k1 HDV HJ HXV
        by_cases hp : (7 - k) % 2 = 1
        · rw [if_pos hp] at d1
          rw [hp] at k2 k3
          clear hp
          go_upto_region 11 with fail
          obtain ⟨W1, HW1⟩ : ∃ W, Hid (wr = W) := ⟨_, Lib.hid rfl⟩
          rw [HW1.out] at HXQ HOQ HPQ HRQ HVQ HGQ HBQ hBs d1 ⊢
          clear HW1 d1
          have q2 := HXQ.out.cell 2
          have q2f := HXQ.out.frozen 2
          have ql := HXQ.out.lt
          simp at q2
          have HAL := Lib.hid ((Below.refl W1.heap.size W1).alloc (Nat.le_refl _) (.cells #[.int .i64 x] 3))
          have q2a : (W1.alloc (.cells #[.int .i64 x] 3)).cell? ⟨X, 2, none⟩ = some (.slice Ax k cx) := (HXQ.out.alloc _).cell 2
          go_wp2_with (at_builtin; refine wpList_append_lies _ rfl _ _ 27 rfl w.heap.size 3 i0 (.int .i64 0) 1 8 Tryz.underlying27 hi hz0 hz1 hz2 rfl (by decide) _ _ _ rfl (HPQ.out.alloc _) ⟨W1.heap.size, 0, none⟩ 1 1 [.int .i64 x] rfl rfl (cell_one_new _ _ _) (by simp [Value.oneCell']) (by decide) (by unfold maxLen; omega) (by omega) (by simp; omega) _ rfl ?_; intro g9 c9 w3 hown' hgrow hat hlt9; have HX3 := Lib.hid ((HXQ.out.alloc (.cells #[.int .i64 x] 3)).grown hgrow (fun e => own_blk_ne HPQ.out HXQ.out (by decide) e.symm)); have HO3 := Lib.hid ((HOQ.out.alloc (.cells #[.int .i64 x] 3)).kept hgrow (by cases hz : (Value.slice AU nu cU).ownBlock with | none => exact .inl rfl | some y => exact .inr (fun e => (HNQ.out y e.symm).2 hz))); have HR3 := Lib.hid (Blk.grown (Blk.alloc HRQ.out (.cells #[.int .i64 x] 3)) hgrow (fun e => (HNQ.out RM e.symm).1 rfl)); have HV3 := Lib.hid ((HVQ.out.alloc (.cells #[.int .i64 x] 3)).grown hgrow (fun e => own_blk_ne HPQ.out HVQ.out (by decide) e.symm)); have HG3 := Lib.hid ((HGQ.out.alloc (.cells #[.int .i64 x] 3)).grown hgrow (fun e => own_blk_ne HPQ.out HGQ.out (by decide) e.symm)); have HB3 := Lib.hid ((HBQ.out.trans (HAL.out.mono hBs)).grown hgrow (by simp; omega) (fun g e => (HPQ.out.lt g e).1)); clear q2 q2f ql q2a; have q3 := HX3.out.cell 2; have q3f := HX3.out.frozen 2; have q3l := HX3.out.lt; simp at q3)
          have HP3 := Lib.hid (show w3.ownsRow w.heap.size 3 1 (.slice (some ⟨g9, 0, none⟩) (k + 1) c9) (k + 1) (ints.intsV ((List.range (k + 1)).map (XC ts ax))) by rw [HS1.out, intsV_app]; exact hown')
          have HN3 := Lib.hid (show ∀ g, (Value.slice (some ⟨g9, 0, none⟩) (k + 1) c9).ownBlock = some g → g ≠ RM ∧ (Value.slice AU nu cU).ownBlock ≠ some g from fun g e => by
            have e1 : g9 = g := by simpa [Value.ownBlock] using e
            rcases hat with z | z
            · exact HNQ.out g (by rw [← e1]; exact z)
            · have z2 : g9 = W1.heap.size + 1 := by simpa using z
              have hr := HRQ.out.lt
              exact ⟨by omega, fun y => by have := (HOQ.out.lt g y).2; omega⟩)
          clear hown' hgrow hat HAL
          have HX4 := Lib.hid (HX3.out.set_ 2 (.slice (some ⟨g9, 0, none⟩) (k + 1) c9))
          have HO4 := Lib.hid (own_far' X HO3.out (own_blk_ne HO3.out HX3.out (by decide)) 2 (.slice (some ⟨g9, 0, none⟩) (k + 1) c9))
          have HP4 := Lib.hid (own_far' X HP3.out (own_blk_ne HP3.out HX3.out (by decide)) 2 (.slice (some ⟨g9, 0, none⟩) (k + 1) c9))
          have HR4 := Lib.hid (Blk.far HR3.out (p := ⟨X, 2, none⟩) (by show RM ≠ X; exact Blk.ne_ HR3.out HX3.out (by decide)) (.slice (some ⟨g9, 0, none⟩) (k + 1) c9))
          have HV4 := Lib.hid (HV3.out.far (p := ⟨X, 2, none⟩) (by show RV ≠ X; omega) (.slice (some ⟨g9, 0, none⟩) (k + 1) c9))
          have HG4 := Lib.hid (HG3.out.far (p := ⟨X, 2, none⟩) (by show G ≠ X; exact Blk.ne_ HG3.out HX3.out (by decide)) (.slice (some ⟨g9, 0, none⟩) (k + 1) c9))
          have HB4 := Lib.hid (HB3.out.setCell (p := ⟨X, 2, none⟩) (by show w.heap.size ≤ X; rw [HGE.out]; have := HRE.out; omega) (.slice (some ⟨g9, 0, none⟩) (k + 1) c9))
          clear HX3 HO3 HP3 HR3 HV3 HG3 HB3 HXQ HOQ HPQ HRQ HVQ HGQ HBQ HNQ
          go_wp2_with fail
          go_roundw
          case rel => exact ⟨k + 1, c9, some ⟨g9, 0, none⟩, by omega, by go_num, HX4.out, HO4.out, HP4.out, HR4.out, HV4.out, HG4.out, HN3.out, HB4.out⟩
          case measure => simp [intOf]; omega
        · rw [if_neg hp] at d1
          have hp0 : (7 - k) % 2 = 0 := by omega
          rw [hp0] at k2 k3
          clear hp hp0
          go_upto_region 11 with fail
          obtain ⟨W1, HW1⟩ : ∃ W, Hid (wr = W) := ⟨_, Lib.hid rfl⟩
          rw [HW1.out] at HXQ HOQ HPQ HRQ HVQ HGQ HBQ hBs d1 ⊢
          clear HW1 d1
          have q2 := HXQ.out.cell 2
          have q2f := HXQ.out.frozen 2
          have ql := HXQ.out.lt
          simp at q2
          have HAL := Lib.hid ((Below.refl W1.heap.size W1).alloc (Nat.le_refl _) (.cells #[.int .i64 x] 3))
          have q2a : (W1.alloc (.cells #[.int .i64 x] 3)).cell? ⟨X, 2, none⟩ = some (.slice Ax k cx) := (HXQ.out.alloc _).cell 2
          go_wp2_with (at_builtin; refine wpList_append_lies _ rfl _ _ 27 rfl w.heap.size 3 i0 (.int .i64 0) 1 8 Tryz.underlying27 hi hz0 hz1 hz2 rfl (by decide) _ _ _ rfl (HPQ.out.alloc _) ⟨W1.heap.size, 0, none⟩ 1 1 [.int .i64 x] rfl rfl (cell_one_new _ _ _) (by simp [Value.oneCell']) (by decide) (by unfold maxLen; omega) (by omega) (by simp; omega) _ rfl ?_; intro g9 c9 w3 hown' hgrow hat hlt9; have HX3 := Lib.hid ((HXQ.out.alloc (.cells #[.int .i64 x] 3)).grown hgrow (fun e => own_blk_ne HPQ.out HXQ.out (by decide) e.symm)); have HO3 := Lib.hid ((HOQ.out.alloc (.cells #[.int .i64 x] 3)).kept hgrow (by cases hz : (Value.slice AU nu cU).ownBlock with | none => exact .inl rfl | some y => exact .inr (fun e => (HNQ.out y e.symm).2 hz))); have HR3 := Lib.hid (Blk.grown (Blk.alloc HRQ.out (.cells #[.int .i64 x] 3)) hgrow (fun e => (HNQ.out RM e.symm).1 rfl)); have HV3 := Lib.hid ((HVQ.out.alloc (.cells #[.int .i64 x] 3)).grown hgrow (fun e => own_blk_ne HPQ.out HVQ.out (by decide) e.symm)); have HG3 := Lib.hid ((HGQ.out.alloc (.cells #[.int .i64 x] 3)).grown hgrow (fun e => own_blk_ne HPQ.out HGQ.out (by decide) e.symm)); have HB3 := Lib.hid ((HBQ.out.trans (HAL.out.mono hBs)).grown hgrow (by simp; omega) (fun g e => (HPQ.out.lt g e).1)); clear q2 q2f ql q2a; have q3 := HX3.out.cell 2; have q3f := HX3.out.frozen 2; have q3l := HX3.out.lt; simp at q3)
          have HP3 := Lib.hid (show w3.ownsRow w.heap.size 3 1 (.slice (some ⟨g9, 0, none⟩) (k + 1) c9) (k + 1) (ints.intsV ((List.range (k + 1)).map (XC ts ax))) by rw [HS1.out, intsV_app]; exact hown')
          have HN3 := Lib.hid (show ∀ g, (Value.slice (some ⟨g9, 0, none⟩) (k + 1) c9).ownBlock = some g → g ≠ RM ∧ (Value.slice AU nu cU).ownBlock ≠ some g from fun g e => by
            have e1 : g9 = g := by simpa [Value.ownBlock] using e
            rcases hat with z | z
            · exact HNQ.out g (by rw [← e1]; exact z)
            · have z2 : g9 = W1.heap.size + 1 := by simpa using z
              have hr := HRQ.out.lt
              exact ⟨by omega, fun y => by have := (HOQ.out.lt g y).2; omega⟩)
          clear hown' hgrow hat HAL
          have HX4 := Lib.hid (HX3.out.set_ 2 (.slice (some ⟨g9, 0, none⟩) (k + 1) c9))
          have HO4 := Lib.hid (own_far' X HO3.out (own_blk_ne HO3.out HX3.out (by decide)) 2 (.slice (some ⟨g9, 0, none⟩) (k + 1) c9))
          have HP4 := Lib.hid (own_far' X HP3.out (own_blk_ne HP3.out HX3.out (by decide)) 2 (.slice (some ⟨g9, 0, none⟩) (k + 1) c9))
          have HR4 := Lib.hid (Blk.far HR3.out (p := ⟨X, 2, none⟩) (by show RM ≠ X; exact Blk.ne_ HR3.out HX3.out (by decide)) (.slice (some ⟨g9, 0, none⟩) (k + 1) c9))
          have HV4 := Lib.hid (HV3.out.far (p := ⟨X, 2, none⟩) (by show RV ≠ X; omega) (.slice (some ⟨g9, 0, none⟩) (k + 1) c9))
          have HG4 := Lib.hid (HG3.out.far (p := ⟨X, 2, none⟩) (by show G ≠ X; exact Blk.ne_ HG3.out HX3.out (by decide)) (.slice (some ⟨g9, 0, none⟩) (k + 1) c9))
          have HB4 := Lib.hid (HB3.out.setCell (p := ⟨X, 2, none⟩) (by show w.heap.size ≤ X; rw [HGE.out]; have := HRE.out; omega) (.slice (some ⟨g9, 0, none⟩) (k + 1) c9))
          clear HX3 HO3 HP3 HR3 HV3 HG3 HB3 HXQ HOQ HPQ HRQ HVQ HGQ HBQ HNQ
          go_wp2_with fail
          go_roundw
          case rel => exact ⟨k + 1, c9, some ⟨g9, 0, none⟩, by omega, by go_num, HX4.out, HO4.out, HP4.out, HR4.out, HV4.out, HG4.out, HN3.out, HB4.out⟩
          case measure => simp [intOf]; omega
      · have hkd : ¬ (k : Int) < 8 := by omega
        obtain rfl : k = 8 := by omega
        have HPX := Lib.hid (show wr.ownsRow w.heap.size 3 1 (.slice Ax 8 cx) 8 (ints.intsV (xcN ts ax)) from HPQ.out)
        have q0 := HXQ.out.cell 0
        have q1 := HXQ.out.cell 1
        have q2 := HXQ.out.cell 2
        have q3 := HXQ.out.cell 3
        have qf := HXQ.out.frozen 3
        have ql := HXQ.out.lt
        simp at q0 q1 q2 q3
        clear hlt HPQ hkd
        go_upto_region 13 with fail
        refine wp_region_list ?_
        refine step_move _ rfl _ rfl _ rfl ?_
        simp only [Act.put, List.getElem_toArray, List.getElem_cons_succ, List.getElem_cons_zero, List.setIfInBounds_toArray, List.set_cons_zero, List.set_cons_succ]
        refine step_load _ rfl _ rfl G _ rfl HGQ.out hcz ?_
        simp only [Act.put, List.getElem_toArray, List.getElem_cons_succ, List.getElem_cons_zero, List.setIfInBounds_toArray, List.set_cons_zero, List.set_cons_succ]
        have btr : -1000000 ≤ tr ∧ tr ≤ 1000000 := by have h1 := TC_le hg.out; have h2 := TC_pos hg.out; rw [HTR.out] at h1 h2; omega
        go_wp2_with fail
        refine (residuals_any A n cap ts cl C ax tr Ax cx (xcN ts ax) wr h0 h2 btr (Lib.hid (xcN_bd hg.out ax)) (Lib.hid (IO.of_own HPX.out)) hC hcl hg (Lib.hid (hts.out.step HBQ.out)) (Lib.hid (hT.out.below HBQ.out))).mono ?_
        rintro e w5 ⟨vR, rfl, hOR, b5⟩
        have hrl : (rsL ts ax (xcN ts ax) tr).length = n := by rw [rsL_len, HL.out]
        rw [hrl] at hOR
        obtain ⟨Ar, cr, rfl⟩ := row_slice hOR
        have HX5 := Lib.hid (HXQ.out.below b5 HXQ.out.lt)
        have HV5 := Lib.hid (HVQ.out.below b5 HVQ.out.lt)
        have HO5 := Lib.hid (row_below HOQ.out b5)
        have HP5 := Lib.hid (row_below HPX.out b5)
        have HR5 := Lib.hid (own_mono hOR hBs)
        have HB5 := Lib.hid (HBQ.out.trans (b5.mono hBs))
        clear b5 hOR HXQ HVQ HOQ HPX HRQ HGQ HBQ HNQ q0 q1 q2 q3 qf ql
        have q0 := HX5.out.cell 0
        have q1 := HX5.out.cell 1
        have q2 := HX5.out.cell 2
        have q3 := HX5.out.cell 3
        have qf := HX5.out.frozen 3
        have ql := HX5.out.lt
        simp at q0 q1 q2 q3
        go_upto_region 14 with fail
        have HV6 := Lib.hid (HV5.out.far (p := ⟨X, 3, none⟩) (by show RV ≠ X; omega) (.slice Ar n cr))
        have HX6 := Lib.hid (HX5.out.set_ 3 (.slice Ar n cr))
        have HO6 := Lib.hid (own_far' X HO5.out (own_blk_ne HO5.out HX5.out (by decide)) 3 (.slice Ar n cr))
        have HP6 := Lib.hid (own_far' X HP5.out (own_blk_ne HP5.out HX5.out (by decide)) 3 (.slice Ar n cr))
        have HR6 := Lib.hid (own_far' X HR5.out (own_blk_ne HR5.out HX5.out (by decide)) 3 (.slice Ar n cr))
        have HB6 := Lib.hid (HB5.out.setCell (p := ⟨X, 3, none⟩) (by show w.heap.size ≤ X; rw [HGE.out]; have := HRE.out; omega) (.slice Ar n cr))
        obtain ⟨W6, HW6⟩ : ∃ W, Hid (w5.setCell ⟨X, 3, none⟩ (.slice Ar n cr) = W) := ⟨_, Lib.hid rfl⟩
        rw [HW6.out] at HV6 HX6 HO6 HP6 HR6 HB6 ⊢
        clear HW6 HX5 HV5 HO5 HP5 HR5 HB5 q0 q1 q2 q3 qf ql
        have q0 := HX6.out.cell 0
        have q1 := HX6.out.cell 1
        have q2 := HX6.out.cell 2
        have q3 := HX6.out.cell 3
        have z0 := HV6.out.cell 0
        have z1 := HV6.out.cell 1
        have z2 := HV6.out.cell 2
        have z3 := HV6.out.cell 3
        have f0 := HV6.out.frozen 0
        have f1 := HV6.out.frozen 1
        have f2 := HV6.out.frozen 2
        have f3 := HV6.out.frozen 3
        have zl := HV6.out.lt
        simp at q0 q1 q2 q3 z0 z1 z2 z3
        have HGG := Lib.hid (grown_set (grown_set (grown_set (grown_set (g := RV) (show W6.grownBy W6 (some RV) from ⟨rfl, rfl, rfl, Nat.le_refl _, fun _ _ _ => rfl⟩) 0 (.slice AU nu cU)) 1 (.int .i64 tr)) 2 (.slice Ax 8 cx)) 3 (.slice Ar n cr))
        have HO7 := Lib.hid (HO6.out.kept HGG.out (.inr (own_blk_ne HO6.out HV6.out (by decide))))
        have HP7 := Lib.hid (HP6.out.kept HGG.out (.inr (own_blk_ne HP6.out HV6.out (by decide))))
        have HR7 := Lib.hid (HR6.out.kept HGG.out (.inr (own_blk_ne HR6.out HV6.out (by decide))))
        have HB7 := Lib.hid (HB6.out.grown HGG.out HB6.out.size (fun q e => by injection e with e; rw [HGE.out]; have := HRE.out; omega))
        clear HO6 HP6 HR6 HB6 HX6 HGG
        go_wp2_with fail
        refine bodyPost_ret (v := .agg #[.slice AU nu cU, .int .i64 tr, .slice Ax 8 cx, .slice Ar n cr]) (by simp [results, Tryz.results92, go_sem, *]) rfl ⟨AU, cU, Ax, cx, Ar, cr, ?_, ?_, HP7.out, ?_, HB7.out⟩
        · rw [HU.out, HNU.out, HTR.out, HL.out]
        · rw [HU.out, HNU.out]; exact HO7.out
        · rw [HTR.out, HL.out]; exact HR7.out
end Go.Proofs.YtiimegmaokfpgabGreatDoor.pg
namespace Go.Proofs.YtiimegmaokfpgabGreatDoor.pg
open Go.RowKit
open reads base ty lg lgi win hs nt nq rowi sn mt ml dt
set_option linter.unusedVariables false
set_option linter.unusedSimpArgs false
def NPo0 (w : World) (e : Ending) (w' : World) : Prop := e = .returned (.tuple #[.agg #[.slice none 0 0, .int .i64 0, .slice none 0 0, .slice none 0 0], .bool false]) ∧ Below w.heap.size w w'
def YPo (ts : List Lg) (ax : Int) (w : World) (e : Ending) (w' : World) : Prop :=
  ∃ (AU : Option Addr) (cU : Nat) (Ax : Option Addr) (cx : Nat) (Ar : Option Addr) (cr : Nat), e = .returned (.tuple #[.agg #[.slice AU (plIds ts).length cU, .int .i64 (TC ts), .slice Ax 8 cx, .slice Ar ts.length cr], .bool true]) ∧
    w'.ownsRow w.heap.size 3 1 (.slice AU (plIds ts).length cU) (plIds ts).length (ints.intsV (plIds ts)) ∧
    w'.ownsRow w.heap.size 3 1 (.slice Ax 8 cx) 8 (ints.intsV (xcN ts ax)) ∧
    w'.ownsRow w.heap.size 3 1 (.slice Ar ts.length cr) ts.length (ints.intsV (rsL ts ax (xcN ts ax) (TC ts))) ∧ Below w.heap.size w w'
set_option maxHeartbeats 8000000 in
set_option maxRecDepth 100000 in
theorem adjOf_no (A : Option Addr) (n cap : Nat) (ts : List Lg) (ax : Int) (w : World) (hn : n ≤ 2000000) (hts : Hid (LgAt w w.heap.size A n ts)) (hT : Hid (Tab w)) (ho : Hid (axOk ts ax = false)) :
    Calls Tryz.prog 65 #[.slice A n cap, .int .i64 ax] w (NPo0 w) := by
  obtain ⟨C, HC⟩ : ∃ C, Hid (nv (netS ts) (clS ts) = C) := ⟨_, Lib.hid rfl⟩
  obtain ⟨g, HG⟩ : ∃ g, Hid (goodLg ts = g) := ⟨_, Lib.hid rfl⟩
  obtain ⟨t, HAX⟩ : ∃ t, Hid (btw 0 ax 2 = t) := ⟨_, Lib.hid rfl⟩
  have HGT := Lib.hid (show (g && t) = false by rw [← HG.out, ← HAX.out]; exact ho.out)
  have hcz : C.size = 56 := by rw [← HC.out]; exact nv_size (nok_S ts)
  have HC1 := Lib.hid (show C.all (·.oneCell') = true by rw [← HC.out]; exact nv_one)
  have HA0 := Lib.hid (hts.out.alloc (.cells #[.slice none 0 0, .int .i64 0, .slice none 0 0, .slice none 0 0] 64))
  have HT0 := Lib.hid (hT.out.alloc (.cells #[.slice none 0 0, .int .i64 0, .slice none 0 0, .slice none 0 0] 64))
  have HB0 := Lib.hid ((Below.refl w.heap.size w).alloc (Nat.le_refl _) (.cells #[.slice none 0 0, .int .i64 0, .slice none 0 0, .slice none 0 0] 64))
  have HV0 := Lib.hid (Blk.new w 64 #[.slice none 0 0, .int .i64 0, .slice none 0 0, .slice none 0 0])
  go_enter Tryz.func65, Tryz.ntmps65
  go_wp2_with fail
  refine (net_any A n cap ts C g HC HG _ hn HA0 HT0).mono ?_
  rintro e w1 ⟨rfl, b1⟩
  have HB1 := Lib.hid (HB0.out.trans (b1.mono HB0.out.size))
  have HV1 := Lib.hid (HV0.out.below b1 HV0.out.lt)
  clear b1 HA0 HT0 HB0 HV0
  have hst := lay_net hcz HC1.out w1
  have HB2 := Lib.hid (HB1.out.alloc HB1.out.size (.cells C 76))
  have HV2 := Lib.hid (HV1.out.alloc (.cells C 76))
  go_upto_region 2 with fail
  clear hst
  obtain ⟨W, HW⟩ : ∃ W, Hid (w1.alloc (.cells C 76) = W) := ⟨_, Lib.hid rfl⟩
  obtain ⟨RV, HRV⟩ : ∃ q, Hid (w.heap.size = q) := ⟨_, Lib.hid rfl⟩
  rw [HW.out] at HB2 HV2 ⊢
  rw [HRV.out] at HV2
  try simp only [HRV.out]
  clear HW HB1 HV1
  cases g
  · have z0 := HV2.out.cell 0
    have z1 := HV2.out.cell 1
    have z2 := HV2.out.cell 2
    have z3 := HV2.out.cell 3
    have f0 := HV2.out.frozen 0
    have f1 := HV2.out.frozen 1
    have f2 := HV2.out.frozen 2
    have f3 := HV2.out.frozen 3
    have zl := HV2.out.lt
    simp at z0 z1 z2 z3
    go_wp2_with fail
    refine bodyPost_ret (v := .tuple #[.agg #[.slice none 0 0, .int .i64 0, .slice none 0 0, .slice none 0 0], .bool false]) (by simp [results, Tryz.results65, go_sem, *]) rfl ⟨rfl, ?_⟩
    exact (((HB2.out.setCell (p := ⟨RV, 0, none⟩) (by show w.heap.size ≤ RV; rw [HRV.out]; exact Nat.le_refl _) _).setCell (p := ⟨RV, 1, none⟩) (by show w.heap.size ≤ RV; rw [HRV.out]; exact Nat.le_refl _) _).setCell (p := ⟨RV, 2, none⟩) (by show w.heap.size ≤ RV; rw [HRV.out]; exact Nat.le_refl _) _).setCell (p := ⟨RV, 3, none⟩) (by show w.heap.size ≤ RV; rw [HRV.out]; exact Nat.le_refl _) _
  · obtain rfl : t = false := by simpa using HGT.out
    go_wp2_with fail
    refine (isAxis_any ax false _ HAX).mono ?_
    rintro e w5 ⟨rfl, b5⟩
    have HB5 := Lib.hid (HB2.out.trans (b5.mono HB2.out.size))
    have HV5 := Lib.hid (HV2.out.below b5 HV2.out.lt)
    clear b5 HB2 HV2
    have z0 := HV5.out.cell 0
    have z1 := HV5.out.cell 1
    have z2 := HV5.out.cell 2
    have z3 := HV5.out.cell 3
    have f0 := HV5.out.frozen 0
    have f1 := HV5.out.frozen 1
    have f2 := HV5.out.frozen 2
    have f3 := HV5.out.frozen 3
    have zl := HV5.out.lt
    simp at z0 z1 z2 z3
    go_wp2_with fail
    refine bodyPost_ret (v := .tuple #[.agg #[.slice none 0 0, .int .i64 0, .slice none 0 0, .slice none 0 0], .bool false]) (by simp [results, Tryz.results65, go_sem, *]) rfl ⟨rfl, ?_⟩
    exact (((HB5.out.setCell (p := ⟨RV, 0, none⟩) (by show w.heap.size ≤ RV; rw [HRV.out]; exact Nat.le_refl _) _).setCell (p := ⟨RV, 1, none⟩) (by show w.heap.size ≤ RV; rw [HRV.out]; exact Nat.le_refl _) _).setCell (p := ⟨RV, 2, none⟩) (by show w.heap.size ≤ RV; rw [HRV.out]; exact Nat.le_refl _) _).setCell (p := ⟨RV, 3, none⟩) (by show w.heap.size ≤ RV; rw [HRV.out]; exact Nat.le_refl _) _
set_option maxHeartbeats 8000000 in
set_option maxRecDepth 100000 in
theorem adjOf_yes (A : Option Addr) (n cap : Nat) (ts : List Lg) (ax : Int) (w : World) (hn : n ≤ 2000000) (hts : Hid (LgAt w w.heap.size A n ts)) (hT : Hid (Tab w)) (ho : Hid (axOk ts ax = true)) :
    Calls Tryz.prog 65 #[.slice A n cap, .int .i64 ax] w (YPo ts ax w) := by
  obtain ⟨C, HC⟩ : ∃ C, Hid (nv (netS ts) (clS ts) = C) := ⟨_, Lib.hid rfl⟩
  have HGA := Lib.hid (show goodLg ts = true ∧ btw 0 ax 2 = true by have := ho.out; unfold axOk at this; rwa [Bool.and_eq_true] at this)
  have HG := Lib.hid HGA.out.1
  have HAX := Lib.hid HGA.out.2
  have hax := btw_yes HAX.out
  have hcz : C.size = 56 := by rw [← HC.out]; exact nv_size (nok_S ts)
  have HC1 := Lib.hid (show C.all (·.oneCell') = true by rw [← HC.out]; exact nv_one)
  have HCN := Lib.hid (show nv (net ts) (clS ts) = C by rw [← HC.out]; unfold netS; rw [HG.out]; rfl)
  have hcl12 : (clS ts).length = 12 := (nok_S ts).2
  have HL := Lib.hid hts.out.1
  have HA0 := Lib.hid (hts.out.alloc (.cells #[.slice none 0 0, .int .i64 0, .slice none 0 0, .slice none 0 0] 64))
  have HT0 := Lib.hid (hT.out.alloc (.cells #[.slice none 0 0, .int .i64 0, .slice none 0 0, .slice none 0 0] 64))
  have HB0 := Lib.hid ((Below.refl w.heap.size w).alloc (Nat.le_refl _) (.cells #[.slice none 0 0, .int .i64 0, .slice none 0 0, .slice none 0 0] 64))
  have HV0 := Lib.hid (Blk.new w 64 #[.slice none 0 0, .int .i64 0, .slice none 0 0, .slice none 0 0])
  go_enter Tryz.func65, Tryz.ntmps65
  go_wp2_with fail
  refine (net_any A n cap ts C true HC HG _ hn HA0 HT0).mono ?_
  rintro e w1 ⟨rfl, b1⟩
  have HB1 := Lib.hid (HB0.out.trans (b1.mono HB0.out.size))
  have HV1 := Lib.hid (HV0.out.below b1 HV0.out.lt)
  clear b1 HA0 HT0 HB0 HV0
  have hst := lay_net hcz HC1.out w1
  have HB2 := Lib.hid (HB1.out.alloc HB1.out.size (.cells C 76))
  have HV2 := Lib.hid (HV1.out.alloc (.cells C 76))
  have HG2 := Lib.hid (Blk.new w1 76 C)
  go_upto_region 2 with fail
  clear hst
  obtain ⟨W, HW⟩ : ∃ W, Hid (w1.alloc (.cells C 76) = W) := ⟨_, Lib.hid rfl⟩
  obtain ⟨RV, HRV⟩ : ∃ q, Hid (w.heap.size = q) := ⟨_, Lib.hid rfl⟩
  obtain ⟨G, HGG⟩ : ∃ q, Hid (w1.heap.size = q) := ⟨_, Lib.hid rfl⟩
  rw [HGG.out] at HG2
  rw [HW.out] at HB2 HV2 HG2 ⊢
  rw [HRV.out] at HV2
  try simp only [HRV.out, HGG.out]
  clear HW HB1 HV1 HGG
  go_wp2_with fail
  refine (isAxis_any ax true _ HAX).mono ?_
  rintro e w5 ⟨rfl, b5⟩
  have HB5 := Lib.hid (HB2.out.trans (b5.mono HB2.out.size))
  have HV5 := Lib.hid (HV2.out.below b5 HV2.out.lt)
  have HG5 := Lib.hid (HG2.out.below b5 HG2.out.lt)
  clear b5 HB2 HV2 HG2
  go_upto_region 4 with fail
  refine wp_region_list ?_
  refine step_move _ rfl _ rfl _ rfl ?_
  simp only [Act.put, List.getElem_toArray, List.getElem_cons_succ, List.getElem_cons_zero, List.setIfInBounds_toArray, List.set_cons_zero, List.set_cons_succ]
  refine step_load _ rfl _ rfl G _ rfl HG5.out hcz ?_
  simp only [Act.put, List.getElem_toArray, List.getElem_cons_succ, List.getElem_cons_zero, List.setIfInBounds_toArray, List.set_cons_zero, List.set_cons_succ]
  go_wp2_with fail
  refine (adjOn_any A n cap ts (clS ts) C ax w5 hax.1 hax.2 HCN hcl12 HG (Lib.hid (hts.out.step HB5.out)) (Lib.hid (hT.out.below HB5.out))).mono ?_
  rintro e w6 ⟨AU, cU, Ax, cx, Ar, cr, rfl, hOU, hOX, hOR, b6⟩
  have HV6 := Lib.hid (HV5.out.below b6 HV5.out.lt)
  have HB6 := Lib.hid (HB5.out.trans (b6.mono HB5.out.size))
  have HOU := Lib.hid (own_mono hOU HB5.out.size)
  have HOX := Lib.hid (own_mono hOX HB5.out.size)
  have HOR := Lib.hid (own_mono hOR HB5.out.size)
  clear hOU hOX hOR b6 HV5 HB5 HG5
  obtain ⟨tr, HTR⟩ : ∃ q, Hid (TC ts = q) := ⟨_, Lib.hid rfl⟩
  obtain ⟨nu, HNU⟩ : ∃ q, Hid ((plIds ts).length = q) := ⟨_, Lib.hid rfl⟩
  obtain ⟨n9, HN9⟩ : ∃ q, Hid (ts.length = q) := ⟨_, Lib.hid rfl⟩
  rw [HNU.out] at HOU
  rw [HN9.out] at HOR
  rw [HTR.out, HNU.out, HN9.out]
  have z0 := HV6.out.cell 0
  have z1 := HV6.out.cell 1
  have z2 := HV6.out.cell 2
  have z3 := HV6.out.cell 3
  have f0 := HV6.out.frozen 0
  have f1 := HV6.out.frozen 1
  have f2 := HV6.out.frozen 2
  have f3 := HV6.out.frozen 3
  have zl := HV6.out.lt
  simp at z0 z1 z2 z3
  have HGG := Lib.hid (grown_set (grown_set (grown_set (grown_set (g := RV) (show w6.grownBy w6 (some RV) from ⟨rfl, rfl, rfl, Nat.le_refl _, fun _ _ _ => rfl⟩) 0 (.slice AU nu cU)) 1 (.int .i64 tr)) 2 (.slice Ax 8 cx)) 3 (.slice Ar n9 cr))
  have HO7 := Lib.hid (HOU.out.kept HGG.out (.inr (own_blk_ne HOU.out HV6.out (by decide))))
  have HP7 := Lib.hid (HOX.out.kept HGG.out (.inr (own_blk_ne HOX.out HV6.out (by decide))))
  have HR7 := Lib.hid (HOR.out.kept HGG.out (.inr (own_blk_ne HOR.out HV6.out (by decide))))
  have HB7 := Lib.hid (HB6.out.grown HGG.out HB6.out.size (fun q e => by injection e with e; rw [HRV.out, e]; exact Nat.le_refl _))
  clear HOU HOX HOR HB6 HGG
  go_wp2_with fail
  refine bodyPost_ret (v := .tuple #[.agg #[.slice AU nu cU, .int .i64 tr, .slice Ax 8 cx, .slice Ar n9 cr], .bool true]) (by simp [results, Tryz.results65, go_sem, *]) rfl ⟨AU, cU, Ax, cx, Ar, cr, ?_, ?_, HP7.out, ?_, HB7.out⟩
  · rw [HNU.out, HTR.out, HN9.out]
  · rw [HNU.out]; exact HO7.out
  · rw [HTR.out, HN9.out] at *; exact HR7.out
end Go.Proofs.YtiimegmaokfpgabGreatDoor.pg
namespace Go.Proofs.YtiimegmaokfpgabGreatDoor.pg
open Go.RowKit
open reads base ty lg lgi win hs nt nq rowi sn mt ml dt
set_option linter.unusedVariables false
set_option linter.unusedSimpArgs false
end Go.Proofs.YtiimegmaokfpgabGreatDoor.pg
