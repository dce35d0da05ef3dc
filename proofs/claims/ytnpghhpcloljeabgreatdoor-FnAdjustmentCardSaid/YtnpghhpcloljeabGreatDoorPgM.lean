/-
  The program: which stations are fixed, the measure of a leg, a leg added to a row, the placed legs, valid axes.
  The placed legs, by the program.
  The equations of a network, by the program.
  The equations of a network, by the program: the walk.
  Conditions: those that each theorem names.
-/
import Derived.Test.YtnpghhpcloljeabGreatDoorMlAq
import Derived.Test.YtnpghhpcloljeabGreatDoorNqG0q
import Derived.Test.YtnpghhpcloljeabGreatDoorNqAq
import Derived.StillTailTactics
namespace Go.Proofs.YtnpghhpcloljeabGreatDoor.pg
open Go.RowKit
open reads base ty lg lgi win hs nt nq rowi sn mt ml
set_option linter.unusedVariables false
set_option linter.unusedSimpArgs false

set_option maxHeartbeats 4000000 in
set_option maxRecDepth 100000 in
theorem fixed_any (N : Net) (cl : List Bool) (C : Array Value) (s : Nat) (t : Bool) (w : World) (hC : Hid (nv N cl = C)) (hs : s < 8) (ht : Hid ((decide (s = 0) || !mem N.ps (s : Int)) = t)) :
    Calls Tryz.prog 161 #[.agg C, .int .i64 (s : Int)] w (BPost t w) := by
  have HP := Lib.hid (show C[s]? = some (.bool (mem N.ps (s : Int))) by rw [← hC.out]; exact nv_ps hs)
  obtain ⟨p, HPP⟩ : ∃ p, Hid (mem N.ps (s : Int) = p) := ⟨_, Lib.hid rfl⟩
  rw [HPP.out] at HP
  have HTT := Lib.hid (show (decide (s = 0) || !p) = t by rw [← HPP.out]; exact ht.out)
  obtain ⟨W, HW⟩ : ∃ W, Hid (w.alloc (.cells C 76) = W) := ⟨_, Lib.hid rfl⟩
  have c1 : W.cell? ⟨w.heap.size, s, none⟩ = some (.bool p) := by rw [← HW.out]; exact ((Blk.new w 76 C).cell s).trans HP.out
  have HB := Lib.hid (show Below w.heap.size w W by rw [← HW.out]; exact (Below.refl _ _).alloc (Nat.le_refl _) _)
  have hs0 : (0 : Int) ≤ (s : Int) := by omega
  have hs8 : (s : Int) < 8 := by omega
  by_cases hz : s = 0
  · subst hz
    obtain rfl : t = true := by rw [← HTT.out]; rfl
    go_enter Tryz.func161, Tryz.ntmps161
    go_upto_region 1 with fail
    rw [HW.out]
    clear HW HP HTT
    go_wp2_with fail
    go_ret
    exact ⟨rfl, HB.out⟩
  · obtain rfl : t = !p := by rw [← HTT.out]; simp [hz]
    have hz1 : ((s : Int) == 0) = false := by simp; omega
    have hz2 : ¬ (s : Int) = 0 := by omega
    go_enter Tryz.func161, Tryz.ntmps161
    go_upto_region 1 with fail
    rw [HW.out]
    clear HW HP HTT
    go_wp2_with fail
    go_ret
    exact ⟨rfl, HB.out⟩
theorem ix0 (a b c : Int) (W : World) : (Instr.index 155 (.agg #[.int .i64 a, .int .i64 b, .int .i64 c]) (.int .i64 0)).run Tryz.prog W = .ok (.int .i64 a) W := by kernel_rfl
theorem ix1 (a b c : Int) (W : World) : (Instr.index 155 (.agg #[.int .i64 a, .int .i64 b, .int .i64 c]) (.int .i64 1)).run Tryz.prog W = .ok (.int .i64 b) W := by kernel_rfl
theorem ix2 (a b c : Int) (W : World) : (Instr.index 155 (.agg #[.int .i64 a, .int .i64 b, .int .i64 c]) (.int .i64 2)).run Tryz.prog W = .ok (.int .i64 c) W := by kernel_rfl
set_option maxHeartbeats 8000000 in
set_option maxRecDepth 100000 in
theorem msOn_any (x : Lg) (ax r : Int) (w : World) (hx : Hid (okLg x = true)) (h0 : 0 ≤ ax) (h2 : ax ≤ 2) (hr : Hid (msA x ax = r)) (hT : Hid (Tab w)) :
    Calls Tryz.prog 126 #[.agg #[.int .i64 x.frm, .int .i64 x.to_, .int .i64 x.tape, .int .i64 x.comp, .int .i64 x.slope], .int .i64 ax] w (APost (.int .i64 r) w) := by
  have HB0 := Lib.hid ((Below.refl w.heap.size w).alloc (Nat.le_refl _) (.cells #[.int .i64 x.frm, .int .i64 x.to_, .int .i64 x.tape, .int .i64 x.comp, .int .i64 x.slope] 87))
  have HT0 := Lib.hid (hT.out.alloc (.cells #[.int .i64 x.frm, .int .i64 x.to_, .int .i64 x.tape, .int .i64 x.comp, .int .i64 x.slope] 87))
  have hax : ax = 0 ∨ ax = 1 ∨ ax = 2 := by omega
  obtain ⟨s, HS⟩ : ∃ s, Hid (shf x = s) := ⟨_, Lib.hid rfl⟩
  rcases hax with rfl | rfl | rfl
  · obtain rfl : r = s.east := by rw [← hr.out, ← HS.out]; rfl
    go_enter Tryz.func126, Tryz.ntmps126
    go_wp2_with fail
    refine (along_is x s HS _ hx HT0).mono ?_
    rintro e w1 ⟨rfl, b1⟩
    have HB1 := Lib.hid (HB0.out.trans (b1.mono HB0.out.size))
    clear b1
    have hix := ix0 s.east s.north s.up
    go_wp2_with  fail
    go_ret
    exact ⟨rfl, HB1.out.alloc HB1.out.size _⟩
  · obtain rfl : r = s.north := by rw [← hr.out, ← HS.out]; rfl
    go_enter Tryz.func126, Tryz.ntmps126
    go_wp2_with fail
    refine (along_is x s HS _ hx HT0).mono ?_
    rintro e w1 ⟨rfl, b1⟩
    have HB1 := Lib.hid (HB0.out.trans (b1.mono HB0.out.size))
    clear b1
    have hix := ix1 s.east s.north s.up
    go_wp2_with  fail
    go_ret
    exact ⟨rfl, HB1.out.alloc HB1.out.size _⟩
  · obtain rfl : r = s.up := by rw [← hr.out, ← HS.out]; rfl
    go_enter Tryz.func126, Tryz.ntmps126
    go_wp2_with fail
    refine (along_is x s HS _ hx HT0).mono ?_
    rintro e w1 ⟨rfl, b1⟩
    have HB1 := Lib.hid (HB0.out.trans (b1.mono HB0.out.size))
    clear b1
    have hix := ix2 s.east s.north s.up
    go_wp2_with  fail
    go_ret
    exact ⟨rfl, HB1.out.alloc HB1.out.size _⟩
/-- a leg added to a row -/
def abF (f : Nat → Int) (i j : Nat) (mu : Int) : Nat → Int := upd (upd (upd f i (f i + 1)) j (f j - 1)) 8 (f 8 + mu)
def RPo (p n : Nat) (f : Nat → Int) (w : World) (e : Ending) (w' : World) : Prop := e = .returned (.tuple #[]) ∧ RwB w' p n f ∧ w.grownBy w' (some p)
set_option maxHeartbeats 8000000 in
set_option maxRecDepth 100000 in
theorem add_any (p i j : Nat) (mu : Int) (f : Nat → Int) (w : World) (hi : i < 8) (hj : j < 8) (hij : i ≠ j) (hb : Hid (∀ c, -10000 ≤ f c ∧ f c ≤ 10000)) (hm : -500 ≤ mu ∧ mu ≤ 500) (hr : Hid (RwB w p 9 f)) :
    Calls Tryz.prog 162 #[.slice (some ⟨p, 0, none⟩) 9 9, .int .i64 (i : Int), .int .i64 (j : Int), .int .i64 mu] w (RPo p 9 (abF f i j mu) w) := by
  have c1 := hr.out.at_ (j := i) (by omega)
  have f1 := hr.out.fro i
  have lp := hr.out.lt
  have b1 := hb.out i
  have b2 := hb.out j
  have b3 := hb.out 8
  have x1 : IntKind.i64.wrap (f i + 1) = f i + 1 := IntWalk.i64_in _ (by omega)
  have x2 : IntKind.i64.wrap (f j - 1) = f j - 1 := IntWalk.i64_in _ (by omega)
  have x3 : IntKind.i64.wrap (f 8 + mu) = f 8 + mu := IntWalk.i64_in _ (by omega)
  have HR1 := Lib.hid (hr.out.set (show i < 9 by omega) (f i + 1))
  have HR2 := Lib.hid (HR1.out.set (show j < 9 by omega) (f j - 1))
  have HR3 := Lib.hid (HR2.out.set (show 8 < 9 by omega) (f 8 + mu))
  have HG := Lib.hid (grown_set (grown_set (grown_set (g := p) (show w.grownBy w (some p) from ⟨rfl, rfl, rfl, Nat.le_refl _, fun _ _ _ => rfl⟩) i (.int .i64 (f i + 1))) j (.int .i64 (f j - 1))) 8 (.int .i64 (f 8 + mu)))
  have k2 := HR1.out.at_ (j := j) (by omega)
  have e2 : upd f i (f i + 1) j = f j := if_neg (fun q => hij q.symm)
  rw [e2] at k2
  have k3 := HR2.out.at_ (j := 8) (by omega)
  have e3 : upd (upd f i (f i + 1)) j (f j - 1) 8 = f 8 := by unfold upd; rw [if_neg (by omega), if_neg (by omega)]
  rw [e3] at k3
  have g2 := HR1.out.fro j
  have g3 := HR2.out.fro 8
  have hi9 : (i : Int) < 9 := by omega
  have hj9 : (j : Int) < 9 := by omega
  have hi0 : (0 : Int) ≤ (i : Int) := by omega
  have hj0 : (0 : Int) ≤ (j : Int) := by omega
  clear e2 e3
  go_enter Tryz.func162, Tryz.ntmps162
  go_upto_region 1 with fail
  obtain ⟨W1, HW1⟩ : ∃ W, Hid (w.setCell ⟨p, i, none⟩ (.int .i64 (f i + 1)) = W) := ⟨_, Lib.hid rfl⟩
  rw [HW1.out] at HR1 HR2 HR3 HG k2 k3 g2 g3 ⊢
  have lp1 := HR1.out.lt
  clear HW1 c1 f1 lp
  go_upto_region 2 with fail
  obtain ⟨W2, HW2⟩ : ∃ W, Hid (W1.setCell ⟨p, j, none⟩ (.int .i64 (f j - 1)) = W) := ⟨_, Lib.hid rfl⟩
  rw [HW2.out] at HR2 HR3 HG k3 g3 ⊢
  have lp2 := HR2.out.lt
  clear HW2 k2 g2 lp1
  go_wp2_with fail
  refine bodyPost_ret (v := .tuple #[]) (by simp [results, Tryz.results162, go_sem]) rfl ⟨rfl, HR3.out, HG.out⟩
theorem isAxis_any (ax : Int) (t : Bool) (w : World) (h : Hid (btw 0 ax 2 = t)) : Calls Tryz.prog 71 #[.int .i64 ax] w (BPost t w) := by
  have HIN := Lib.hid (one_in h.out)
  have HB := Lib.hid ((Below.refl w.heap.size w).alloc (Nat.le_refl _) (.cells #[.int .i64 ax] 3))
  go_enter Tryz.func71, Tryz.ntmps71
  go_wp2_with fail
  refine (within_new 0 2 1 [ax] 1 3 _ t w _ rfl rfl (by decide) rfl HIN.out).mono ?_
  rintro e w9 ⟨rfl, rfl⟩
  simp only [List.map_cons, List.map_nil]
  go_wp2_with fail
  go_ret
  exact ⟨rfl, HB.out⟩
end Go.Proofs.YtnpghhpcloljeabGreatDoor.pg

namespace Go.Proofs.YtnpghhpcloljeabGreatDoor.pg
open Go.RowKit
open reads base ty lg lgi win hs nt nq rowi sn mt ml
set_option linter.unusedVariables false
set_option linter.unusedSimpArgs false

set_option maxHeartbeats 8000000 in
set_option maxRecDepth 100000 in
theorem placedLegs_any (A : Option Addr) (n cap : Nat) (ts : List Lg) (cl : List Bool) (C : Array Value) (w : World) (hC : Hid (nv (net ts) cl = C)) (hcl : cl.length = 12) (hg : Hid (goodLg ts = true)) (hts : Hid (LgAt w w.heap.size A n ts)) :
    Calls Tryz.prog 91 #[.slice A n cap, .agg C] w (JPo (plIds ts) w) := by
  obtain ⟨i0, hi, hz0, hz1, hz2⟩ := info_parts infoI
  have HL := Lib.hid hts.out.1
  have hn12 := len12 HL.out hg.out
  have hcz : C.size = 56 := by rw [← hC.out]; exact nv_size ⟨(ok_net hg.out).1, hcl⟩
  have HP := Lib.hid (show plIds ts = plN ts n by unfold plIds; rw [HL.out])
  obtain ⟨G, HGE⟩ : ∃ q, Hid (w.heap.size = q) := ⟨_, Lib.hid rfl⟩
  have HG0 := Lib.hid (show Blk ((w.alloc (.cells C 76)).alloc (.cells #[] 3)) G 76 C by rw [← HGE.out]; exact (Blk.new _ _ _).alloc _)
  have HR0 := Lib.hid (show ((w.alloc (.cells C 76)).alloc (.cells #[] 3)).ownsRow w.heap.size 3 1 (.slice (some ⟨w.heap.size + 1, 0, none⟩) 0 0) 0 [] from by
    have h := World.ownsRow_made (base := w.heap.size) (e := 3) (size := 1) (w.alloc (.cells C 76)) #[] 0 (by simp) (by decide) (by simp)
    simpa using h)
  have HB0 := Lib.hid (((Below.refl w.heap.size w).alloc (Nat.le_refl _) (.cells C 76)).alloc (by simp) (.cells #[] 3))
  go_enter Tryz.func91, Tryz.ntmps91
  go_upto_region 2 with fail
  obtain ⟨V, HV⟩ : ∃ q, Hid ((w.alloc (.cells C 76)).alloc (.cells #[] 3) = q) := ⟨_, Lib.hid rfl⟩
  rw [HV.out] at HG0 HR0 HB0 ⊢
  try simp only [HGE.out]
  rw [HGE.out] at HR0
  clear HV
  go_wp2_with fail
  go_loopw [5, 11] (fun v i wr => ∃ (k m c : Nat) (A2 : Option Addr), k ≤ n ∧ i = .int .i64 (k : Nat) ∧ m ≤ k ∧ v = .slice A2 m c ∧ Hid ((plN ts k).length = m) ∧ Blk wr G 76 C ∧ wr.ownsRow G 3 1 (.slice A2 m c) m (ints.intsV (plN ts k)) ∧ Below w.heap.size w wr) (fun _ i _ => n - (intOf i).toNat)
  case atStart => exact ⟨0, 0, 0, _, Nat.zero_le _, rfl, Nat.le_refl _, rfl, Lib.hid rfl, HG0.out, HR0.out, HB0.out⟩
  case round =>
    obtain ⟨k, m, c, A2, hk, rfl, hmk, rfl, HM, hG, hO, hB⟩ := hrel
    have HG := Lib.hid hG
    have HO := Lib.hid hO
    have HB := Lib.hid hB
    have hBs := hB.size
    clear hG hO hB HG0 HR0 HB0
    have hk0 : (0 : Int) ≤ (k : Int) := by omega
    by_cases hlt : k < n
    · obtain ⟨x, hx⟩ := at_lt HL.out hlt
      obtain ⟨gL, rfl, hgL, e0, e1, e2, e3, e4⟩ := (hts.out.below HB.out).2 k x hx
      have HX := Lib.hid hx
      have HOX := Lib.hid (goodLg_at hg.out hx)
      have hki : (k : Int) < (n : Int) := by omega
      have hkd : decide (k < n) = true := by simpa using hlt
      have HQE := Lib.hid (net_ends hg.out hx)
      clear hx
      obtain ⟨q, HQ⟩ : ∃ q, Hid (mem (net ts).ps x.frm = q) := ⟨_, Lib.hid rfl⟩
      have HQ2 := Lib.hid (show mem (net ts).ps x.to_ = q by rw [← HQE.out]; exact HQ.out)
      obtain ⟨W0, HW0⟩ : ∃ W, Hid (wr.alloc (.cells #[.int .i64 x.frm, .int .i64 x.to_, .int .i64 x.tape, .int .i64 x.comp, .int .i64 x.slope] 87) = W) := ⟨_, Lib.hid rfl⟩
      have HG1 := Lib.hid (HG.out.alloc (.cells #[.int .i64 x.frm, .int .i64 x.to_, .int .i64 x.tape, .int .i64 x.comp, .int .i64 x.slope] 87))
      have HK1 := Lib.hid (Blk.new wr 87 #[.int .i64 x.frm, .int .i64 x.to_, .int .i64 x.tape, .int .i64 x.comp, .int .i64 x.slope])
      have HO1 := Lib.hid (HO.out.alloc (.cells #[.int .i64 x.frm, .int .i64 x.to_, .int .i64 x.tape, .int .i64 x.comp, .int .i64 x.slope] 87))
      have HB1 := Lib.hid (HB.out.alloc hBs (.cells #[.int .i64 x.frm, .int .i64 x.to_, .int .i64 x.tape, .int .i64 x.comp, .int .i64 x.slope] 87))
      go_upto_region 5 with fail
      rw [HW0.out] at HG1 HK1 HO1 HB1 ⊢
      obtain ⟨X, HXX⟩ : ∃ X, Hid (wr.heap.size = X) := ⟨_, Lib.hid rfl⟩
      rw [HXX.out] at HK1
      try simp only [HXX.out]
      have y0 := HK1.out.cell 0
      have y1 := HK1.out.cell 1
      have y2 := HK1.out.cell 2
      have y3 := HK1.out.cell 3
      have y4 := HK1.out.cell 4
      have lX := HK1.out.lt
      simp at y0 y1 y2 y3 y4
      clear HW0 HXX e0 e1 e2 e3 e4 hgL
      refine wp_region_list ?_
      refine step_load _ rfl _ rfl G _ rfl HG1.out hcz ?_
      simp only [Act.put, List.getElem_toArray, List.getElem_cons_succ, List.getElem_cons_zero, List.setIfInBounds_toArray, List.set_cons_zero, List.set_cons_succ]
      go_wp2_with fail
      refine (show Calls Tryz.prog 75 #[.agg C, .agg #[.int .i64 x.frm, .int .i64 x.to_, .int .i64 x.tape, .int .i64 x.comp, .int .i64 x.slope]] W0 (BPost (q && q) W0) from by rw [← hC.out]; exact ends_any (net ts) cl x q q W0 HOX HQ HQ2).mono ?_
      rintro e w5 ⟨rfl, b5⟩
      have HG5 := Lib.hid (HG1.out.below b5 HG1.out.lt)
      have HO5 := Lib.hid (row_below HO1.out b5)
      have HB5 := Lib.hid (HB1.out.trans (b5.mono HB1.out.size))
      have hB5s := HB5.out.size
      clear b5 y0 y1 y2 y3 y4 lX HK1 HG1 HO1 HB1 HG HO HB
      cases q
      · have HC := Lib.hid (show plN ts (k + 1) = plN ts k from idxs_no HX.out HQ.out)
        go_wp2_with fail
        go_roundw
        case rel => exact ⟨k + 1, m, c, A2, by omega, by go_num, by omega, rfl, Lib.hid (by rw [HC.out]; exact HM.out), HG5.out, by rw [HC.out]; exact HO5.out, HB5.out⟩
        case measure => simp [intOf]; omega
      · have HC := Lib.hid (show plN ts (k + 1) = plN ts k ++ [(k : Int)] from idxs_yes HX.out HQ.out)
        go_wp2_with (at_builtin; refine wpList_append_lies _ rfl _ _ 27 rfl G 3 i0 (.int .i64 0) 1 8 Tryz.underlying27 hi hz0 hz1 hz2 rfl (by decide) _ _ _ rfl (HO5.out.alloc _) ⟨w5.heap.size, 0, none⟩ 1 1 [.int .i64 (k : Int)] rfl rfl (cell_one_new _ _ _) (by simp [Value.oneCell']) (by decide) (by unfold maxLen; omega) (by omega) (by rw [← HGE.out]; simp; omega) _ rfl ?_; intro g9 c9 w3 hown' hgrow hat hlt9)
        have HAL := Lib.hid ((Below.refl w5.heap.size w5).alloc (Nat.le_refl _) (.cells #[.int .i64 (k : Int)] 3))
        have HG9 := Lib.hid (((HG5.out.alloc (.cells #[.int .i64 (k : Int)] 3))).grown hgrow (fun e => own_blk_ne HO5.out HG5.out (by decide) e.symm))
        have HB9 := Lib.hid ((HB5.out.trans (HAL.out.mono hB5s)).grown hgrow (by simp; omega) (fun g e => by have := (HO5.out.lt g e).1; rw [HGE.out]; exact this))
        have HO9 := Lib.hid (show w3.ownsRow G 3 1 (.slice (some ⟨g9, 0, none⟩) (m + 1) c9) (m + 1) (ints.intsV (plN ts (k + 1))) by rw [HC.out, intsV_app]; exact hown')
        clear hown' hgrow hat
        go_wp2_with fail
        go_roundw
        case rel => exact ⟨k + 1, m + 1, c9, some ⟨g9, 0, none⟩, by omega, by go_num, by omega, rfl, Lib.hid (by rw [HC.out, List.length_append, HM.out]; rfl), HG9.out, HO9.out, HB9.out⟩
        case measure => simp [intOf]; omega
    · have hkd : decide (k < n) = false := by simpa using hlt
      obtain rfl : k = n := by omega
      have HFIN := Lib.hid (show wr.ownsRow w.heap.size 3 1 (.slice A2 m c) (plIds ts).length (ints.intsV (plIds ts)) by rw [HP.out, HM.out, HGE.out]; exact HO.out)
      clear hlt
      go_wp2_with fail
      go_ret
      exact ⟨_, rfl, HFIN.out, HB.out⟩
end Go.Proofs.YtnpghhpcloljeabGreatDoor.pg

namespace Go.Proofs.YtnpghhpcloljeabGreatDoor.pg
open Go.RowKit
open reads base ty lg lgi win hs nt nq rowi sn mt ml dt
set_option linter.unusedVariables false
set_option linter.unusedSimpArgs false

/-- the rows of the stations -/
def prF (us : List Ed) (l : List Nat) : Nat → Nat → Int := fun i c => PR us l i c
theorem pr_in {us : List Ed} {l : List Nat} {i : Nat} (h : i ∈ l) (c : Nat) : prF us l i c = AA us i c := by unfold prF PR; rw [if_pos h]
theorem pr_out {us : List Ed} {l : List Nat} {i : Nat} (h : i ∉ l) (c : Nat) : prF us l i c = dl c i := by unfold prF PR; rw [if_neg h]
theorem pr_bd {us : List Ed} {l : List Nat} (hu : ∀ x ∈ us, EdOk x) (hl : us.length ≤ 12) (i c : Nat) : -10000 ≤ prF us l i c ∧ prF us l i c ≤ 10000 := by
  by_cases q : i ∈ l
  · rw [pr_in q]
    have := AA_le hu i c; omega
  · rw [pr_out q]
    have := dl_range c i; omega
/-- a leg's two rows -/
def rowT (us : List Ed) (l : List Nat) (e : Ed) (M : Nat → Nat → Int) : Nat → Nat → Int := if e.t ∈ l then fun r => if r = e.t then abF (M e.t) e.t e.f e.mu else M r else M
def rowF (us : List Ed) (l : List Nat) (e : Ed) (M : Nat → Nat → Int) : Nat → Nat → Int := if e.f ∈ l then fun r => if r = e.f then abF (M e.f) e.f e.t (-e.mu) else M r else M
theorem abF_at (f : Nat → Int) {i j : Nat} (mu : Int) (hi : i < 8) (hj : j < 8) (hij : i ≠ j) (c : Nat) : abF f i j mu c = f c + (dl c i - dl c j + mu * dl c 8) := by
  unfold abF upd
  by_cases c8 : c = 8
  · subst c8
    rw [if_pos rfl, dl_self, dl_ne (a := 8) (b := i) (by omega), dl_ne (a := 8) (b := j) (by omega)]; omega
  · rw [if_neg c8, dl_ne c8]
    by_cases cj : c = j
    · subst cj
      rw [if_pos rfl, dl_self, dl_ne (fun q => hij q.symm)]; omega
    · rw [if_neg cj, dl_ne cj]
      by_cases ci : c = i
      · subst ci
        rw [if_pos rfl, dl_self]; omega
      · rw [if_neg ci, dl_ne ci]; omega
theorem rowT_at (us : List Ed) (l : List Nat) (e : Ed) (M : Nat → Nat → Int) (r : Nat) : rowT us l e M r = if r = e.t ∧ e.t ∈ l then abF (M e.t) e.t e.f e.mu else M r := by
  unfold rowT
  by_cases h : e.t ∈ l <;> by_cases k : r = e.t <;> simp [h, k]
theorem rowF_at (us : List Ed) (l : List Nat) (e : Ed) (M : Nat → Nat → Int) (r : Nat) : rowF us l e M r = if r = e.f ∧ e.f ∈ l then abF (M e.f) e.f e.t (-e.mu) else M r := by
  unfold rowF
  by_cases h : e.f ∈ l <;> by_cases k : r = e.f <;> simp [h, k]
theorem rows_next {us : List Ed} {l : List Nat} {e : Ed} (he : EdOk e) (i c : Nat) : rowF us l e (rowT us l e (prF us l)) i c = prF (us ++ [e]) l i c := by
  obtain ⟨h1, h2, h3, -⟩ := he
  rw [rowF_at]
  by_cases q : i ∈ l
  · rw [pr_in q, AA_snoc]
    unfold ent
    by_cases it : i = e.t
    · subst it
      rw [if_neg (fun z => h3 z.1.symm), rowT_at, if_pos ⟨rfl, q⟩, abF_at _ _ h2 h1 (fun z => h3 z.symm), pr_in q, dl_self, dl_ne (fun z => h3 z.symm)]; omega
    · by_cases iF : i = e.f
      · subst iF
        rw [if_pos ⟨rfl, q⟩, abF_at _ _ h1 h2 h3, rowT_at, if_neg (fun z => h3 z.1), pr_in q, dl_self, dl_ne it]; grind
      · rw [if_neg (fun z => iF z.1), rowT_at, if_neg (fun z => it z.1), pr_in q, dl_ne it, dl_ne iF]; omega
  · rw [if_neg (fun z => q (by rw [z.1]; exact z.2)), rowT_at, if_neg (fun z => q (by rw [z.1]; exact z.2)), pr_out q, pr_out q]
/-- one row changed by a call -/
theorem mx_row {w v : World} {b n c m i : Nat} {A : Option Addr} {P : Nat → Nat} {M : Nat → Nat → Int} {f : Nat → Int} (h : MxB w b A n c m P M) (hi : i < n) (hr : RwB v (P i) m f) (hg : w.grownBy v (some (P i))) : MxB v b A n c m P (fun r => if r = i then f else M r) := by
  refine ⟨h.1.kept hg (.inr (own_blk_ne h.1 (h.2.1 i hi).1 (by decide))), fun r hr9 => ?_, h.2.2⟩
  show RwB v (P r) m (if r = i then f else M r) ∧ _
  by_cases q : r = i
  · subst q; rw [if_pos rfl]; exact ⟨hr, (h.2.1 r hr9).2⟩
  · rw [if_neg q]
    exact ⟨Blk.grown (h.2.1 r hr9).1 hg (fun e => q (h.2.2 r i hr9 hi (by injection e))), (h.2.1 r hr9).2⟩
/-- the first rows made -/
def pcs (k : Nat) (P : Nat → Nat) : Array Value := ((List.range 8).map (fun i => if i < k then Value.slice (some ⟨P i, 0, none⟩) 9 9 else .slice none 0 0)).toArray
theorem pcs_size (k : Nat) (P : Nat → Nat) : (pcs k P).size = 8 := by simp [pcs]
theorem pcs_at {k i : Nat} (P : Nat → Nat) (h : i < 8) : (pcs k P)[i]? = some (if i < k then Value.slice (some ⟨P i, 0, none⟩) 9 9 else .slice none 0 0) := by simp [pcs, h]
theorem pcs_set {k X : Nat} (P : Nat → Nat) (h : k < 8) : (pcs k P).setIfInBounds k (.slice (some ⟨X, 0, none⟩) 9 9) = pcs (k + 1) (fun i => if i = k then X else P i) := by
  apply Array.ext_getElem?
  intro i
  rw [Array.getElem?_setIfInBounds]
  by_cases hi : i < 8
  · rw [pcs_at (k := k + 1) (fun i => if i = k then X else P i) hi]
    by_cases e : k = i
    · subst e
      rw [if_pos rfl, pcs_size, if_pos h, if_pos (by omega)]; simp
    · rw [if_neg e, pcs_at _ hi]
      by_cases q : i < k
      · rw [if_pos q, if_pos (by omega)]; simp [show ¬ i = k from fun z => e z.symm]
      · rw [if_neg q, if_neg (by omega)]
  · rw [Array.getElem?_eq_none (by rw [pcs_size]; omega)]
    by_cases e : k = i
    · omega
    · rw [if_neg e, Array.getElem?_eq_none (by rw [pcs_size]; omega)]
theorem pcs_all (P : Nat → Nat) : (pcs 8 P).toList = rp 8 9 P := by
  unfold pcs rp
  rw [List.toList_toArray]
  exact List.map_congr_left (fun i hi => by rw [if_pos (List.mem_range.1 hi)])
theorem pcs_zero : madeCells #[Value.slice none 0 0] (8 * 1) = pcs 0 (fun _ => 0) := by kernel_rfl
/-- the rows made so far, in a block of their own -/
def PB (w : World) (Q k : Nat) (P : Nat → Nat) (F : Nat → Nat → Int) (v : World) : Prop :=
  Blk v Q 27 (pcs k P) ∧ (∀ i, i < k → RwB v (P i) 9 (F i) ∧ w.heap.size ≤ P i) ∧ (∀ i j, i < k → j < k → P i = P j → i = j) ∧ Below w.heap.size w v ∧ w.heap.size ≤ Q
theorem PB.step {w v v' : World} {Q k : Nat} {P : Nat → Nat} {F : Nat → Nat → Int} (h : PB w Q k P F v) (hb : Below v.heap.size v v') : PB w Q k P F v' :=
  ⟨h.1.below hb h.1.lt, fun i hi => ⟨(h.2.1 i hi).1.below hb (h.2.1 i hi).1.lt, (h.2.1 i hi).2⟩, h.2.2.1, h.2.2.2.1.trans (hb.mono h.2.2.2.1.size), h.2.2.2.2⟩
/-- a new row, all of it nothing -/
theorem PB.more {w v : World} {Q k : Nat} {P : Nat → Nat} {F : Nat → Nat → Int} (h : PB w Q k P F v) (hk : k < 8) : PB w Q (k + 1) (fun i => if i = k then v.heap.size else P i) (fun i => if i = k then fun _ => 0 else F i) ((v.setCell ⟨Q, k, none⟩ (.slice (some ⟨v.heap.size, 0, none⟩) 9 9)).alloc (.cells (cs1 9 (fun _ => 0)) 3)) := by
  have hs := h.2.2.2.1.size
  have hz : (v.setCell ⟨Q, k, none⟩ (.slice (some ⟨v.heap.size, 0, none⟩) 9 9)).heap.size = v.heap.size := by simp [World.setCell]
  have hQ : Q ≠ v.heap.size := by have := h.1.lt; omega
  refine ⟨by have := (h.1.set_ k (.slice (some ⟨v.heap.size, 0, none⟩) 9 9)).alloc (.cells (cs1 9 (fun _ => 0)) 3); rwa [pcs_set P hk] at this, fun i hi => ?_, fun i j hi hj e => ?_, (h.2.2.2.1.setCell (p := ⟨Q, k, none⟩) h.2.2.2.2 _).alloc (by rw [hz]; exact hs) _, h.2.2.2.2⟩
  · show RwB _ (if i = k then v.heap.size else P i) 9 (if i = k then fun _ => 0 else F i) ∧ w.heap.size ≤ (if i = k then v.heap.size else P i)
    by_cases q : i = k
    · rw [if_pos q, if_pos q]
      have hn := Blk.new (v.setCell ⟨Q, k, none⟩ (.slice (some ⟨v.heap.size, 0, none⟩) 9 9)) 3 (cs1 9 (fun _ => 0))
      rw [hz] at hn
      exact ⟨hn, hs⟩
    · rw [if_neg q, if_neg q]
      have h2 := h.2.1 i (by omega)
      exact ⟨Blk.alloc (Blk.far h2.1 (by show P i ≠ Q; exact fun z => Blk.ne_ h.1 h2.1 (by decide) z.symm) _) _, h2.2⟩
  · have e : (if i = k then v.heap.size else P i) = (if j = k then v.heap.size else P j) := e
    by_cases q : i = k <;> by_cases q2 : j = k
    · omega
    · rw [if_pos q, if_neg q2] at e
      have := (h.2.1 j (by omega)).1.lt; omega
    · rw [if_neg q, if_pos q2] at e
      have := (h.2.1 i (by omega)).1.lt; omega
    · rw [if_neg q, if_neg q2] at e
      exact h.2.2.1 i j (by omega) (by omega) e
/-- an entry of the last row -/
theorem PB.put {w v : World} {Q k : Nat} {P : Nat → Nat} {F : Nat → Nat → Int} (h : PB w Q (k + 1) P F v) (x : Int) (hk : k < 9) : PB w Q (k + 1) P (fun i => if i = k then upd (F k) k x else F i) (v.setCell ⟨P k, k, none⟩ (.int .i64 x)) := by
  have hk2 := h.2.1 k (by omega)
  refine ⟨h.1.far (by show Q ≠ P k; exact Blk.ne_ h.1 hk2.1 (by decide)) _, fun i hi => ?_, h.2.2.1, h.2.2.2.1.setCell (p := ⟨P k, k, none⟩) hk2.2 _, h.2.2.2.2⟩
  show RwB _ (P i) 9 (if i = k then upd (F k) k x else F i) ∧ _
  by_cases q : i = k
  · subst q; rw [if_pos rfl]; exact ⟨hk2.1.set hk x, hk2.2⟩
  · rw [if_neg q]
    exact ⟨Blk.far (h.2.1 i hi).1 (by show P i ≠ P k; exact fun z => q (h.2.2.1 i k hi (by omega) z)) _, (h.2.1 i hi).2⟩
theorem PB.congr {w v : World} {Q k : Nat} {P : Nat → Nat} {F F' : Nat → Nat → Int} (h : PB w Q k P F v) (e : ∀ i, i < k → ∀ c, c < 9 → F i c = F' i c) : PB w Q k P F' v :=
  ⟨h.1, fun i hi => ⟨(h.2.1 i hi).1.congr (e i hi), (h.2.1 i hi).2⟩, h.2.2⟩
theorem PB.done {w v : World} {Q : Nat} {P : Nat → Nat} {F : Nat → Nat → Int} (h : PB w Q 8 P F v) : MxB v w.heap.size (some ⟨Q, 0, none⟩) 8 8 9 P F := by
  have := row_blk (size := 1) (n := 8) h.1 h.2.2.2.2 (by decide) (by rw [pcs_size])
  rw [pcs_all] at this
  exact ⟨this, h.2.1, h.2.2.1⟩
end Go.Proofs.YtnpghhpcloljeabGreatDoor.pg

namespace Go.Proofs.YtnpghhpcloljeabGreatDoor.pg
open Go.RowKit
open reads base ty lg lgi win hs nt nq rowi sn mt ml dt
set_option linter.unusedVariables false
set_option linter.unusedSimpArgs false

/-- a station is fixed -/
theorem fix_is {ts : List Lg} (hg : goodLg ts = true) {s : Nat} : (decide (s = 0) || !mem (net ts).ps (s : Int)) = !decide (s ∈ stN ts) := by
  have h1 := mem_stN hg (s := (s : Int)) (by omega)
  rw [Int.toNat_natCast] at h1
  have hp := (ps_split hg).1
  have hso := (ps_split hg).2
  by_cases q : s ∈ stN ts
  · have hm : mem (net ts).ps (s : Int) = true := mem_iff.2 (by rw [hp]; exact List.mem_cons_of_mem _ (h1.1 q))
    have h0 : ¬ s = 0 := fun z => by have := hso.2 _ (h1.1 q); omega
    rw [hm]; simp [q, h0]
  · by_cases z : s = 0
    · simp [q, z]
      rw [z] at q; exact q
    · have hm : mem (net ts).ps (s : Int) = false := by
        cases e : mem (net ts).ps (s : Int)
        · rfl
        · have := mem_iff.1 e
          rw [hp] at this
          rcases List.mem_cons.1 this with y | y
          · omega
          · exact absurd (h1.2 y) q
      rw [hm]; simp [q]
def BqPo (F : Nat → Nat → Int) (w : World) (e : Ending) (w' : World) : Prop :=
  ∃ A c P, e = .returned (.slice A 8 c) ∧ MxB w' w.heap.size A 8 c 9 P F ∧ Below w.heap.size w w'
/-- the rows, the network's box, the used legs -/
def BS (w : World) (Q G : Nat) (C : Array Value) (P : Nat → Nat) (U : List Int) (AU : Option Addr) (nu h1 : Nat) (M : Nat → Nat → Int) (v : World) : Prop :=
  MxB v w.heap.size (some ⟨Q, 0, none⟩) 8 8 9 P M ∧ Blk v G 76 C ∧ ints.IL v AU nu U ∧ Below w.heap.size w v ∧ (∀ g, AU = some ⟨g, 0, none⟩ → h1 ≤ g ∧ g < v.heap.size) ∧ (∀ i, i < 8 → P i < h1)
section
variable {w v v' : World} {Q G nu h1 : Nat} {C : Array Value} {P : Nat → Nat} {U : List Int} {AU : Option Addr} {M : Nat → Nat → Int}
theorem BS.step (h : BS w Q G C P U AU nu h1 M v) (hb : Below v.heap.size v v') : BS w Q G C P U AU nu h1 M v' := by
  obtain ⟨a, b, c, d, e, f⟩ := h
  refine ⟨a.step hb, b.below hb b.lt, c.keep (fun g o q => hb.cell (p := ⟨g, o, none⟩) (e g q).2), d.trans (hb.mono d.size), fun g q => ⟨(e g q).1, by have := (e g q).2; have := hb.size; omega⟩, f⟩
theorem BS.congr {N : Nat → Nat → Int} (h : BS w Q G C P U AU nu h1 M v) (e : ∀ i, i < 8 → ∀ c, c < 9 → M i c = N i c) : BS w Q G C P U AU nu h1 N v := ⟨h.1.congr e, h.2⟩
theorem BS.row {i : Nat} {f : Nat → Int} (h : BS w Q G C P U AU nu h1 M v) (hi : i < 8) (hr : RwB v' (P i) 9 f) (hg : v.grownBy v' (some (P i))) : BS w Q G C P U AU nu h1 (fun r => if r = i then f else M r) v' := by
  obtain ⟨a, b, c, d, e, g⟩ := h
  have hp := (a.2.1 i hi)
  refine ⟨mx_row a hi hr hg, b.grown hg (fun z => Blk.ne_ b hp.1 (by decide) (by injection z)), c.keep (fun k o q => World.cell?_of_block (hg.block k (e k q).2 (fun z => ?_))), d.grown hg d.size (fun k z => by injection z with z; rw [← z]; exact hp.2), fun k q => ⟨(e k q).1, by have := (e k q).2; have := hg.size; omega⟩, g⟩
  injection z with z
  have z : k = P i := z
  have := (e k q).1
  have := g i hi
  omega
end
set_option maxHeartbeats 16000000 in
set_option maxRecDepth 100000 in
theorem balance_any (A : Option Addr) (n cap : Nat) (ts : List Lg) (cl : List Bool) (C : Array Value) (ax : Int) (w : World) (h0 : 0 ≤ ax) (h2 : ax ≤ 2) (hC : Hid (nv (net ts) cl = C)) (hcl : cl.length = 12) (hg : Hid (goodLg ts = true)) (hts : Hid (LgAt w w.heap.size A n ts)) (hT : Hid (Tab w)) :
    Calls Tryz.prog 135 #[.slice A n cap, .agg C, .int .i64 ax] w (BqPo (prF (US ts ax) (stN ts)) w) := by
  obtain ⟨i0, hi, hz0, hz1, hz2⟩ := info_parts infoI
  obtain ⟨i1, ji, jz0, jz1, jz2⟩ := info_parts infoR
  have HL := Lib.hid hts.out.1
  have hn12 := len12 HL.out hg.out
  have hcz : C.size = 56 := by rw [← hC.out]; exact nv_size ⟨(ok_net hg.out).1, hcl⟩
  have hmk1 : ∀ W : World, (Instr.makeSlice 130 (.int .i64 8) (.int .i64 8)).run Tryz.prog W = .ok (.slice (some ⟨W.heap.size, 0, none⟩) 8 8) (W.alloc (.cells (pcs 0 (fun _ => 0)) 27)) := fun W => by
    have h := run_make_rowN (P := Tryz.prog) 130 27 i1 _ Tryz.underlying130 ji jz0 .i64 .i64 8 8 (Nat.le_refl _) (by rw [jz2]; omega) (by omega) W
    rw [jz1] at h
    rw [← pcs_zero]
    exact h
  have hmk2 : ∀ W : World, (Instr.makeSlice 27 (.int .i64 9) (.int .i64 9)).run Tryz.prog W = .ok (.slice (some ⟨W.heap.size, 0, none⟩) 9 9) (W.alloc (.cells (cs1 9 (fun _ => 0)) 3)) := fun W => by
    have h := run_make_rowN (P := Tryz.prog) 27 3 i0 _ Tryz.underlying27 hi hz0 .i64 .i64 9 9 (Nat.le_refl _) (by rw [hz2]; omega) (by omega) W
    rw [hz1] at h
    rw [← cs1_zero]
    exact h
  obtain ⟨G, HGE⟩ : ∃ q, Hid (w.heap.size = q) := ⟨_, Lib.hid rfl⟩
  obtain ⟨Q, HQE⟩ : ∃ q, Hid (w.heap.size + 1 = q) := ⟨_, Lib.hid rfl⟩
  have HG0 := Lib.hid (show Blk ((w.alloc (.cells C 76)).alloc (.cells (pcs 0 (fun _ => 0)) 27)) G 76 C by rw [← HGE.out]; exact (Blk.new _ _ _).alloc _)
  have HPB0 := Lib.hid (show PB w Q 0 (fun _ => 0) (fun _ _ => 0) ((w.alloc (.cells C 76)).alloc (.cells (pcs 0 (fun _ => 0)) 27)) from by
    refine ⟨?_, fun i hi9 => by omega, fun i j hi9 => by omega, ((Below.refl w.heap.size w).alloc (Nat.le_refl _) _).alloc (by simp) _, by rw [← HQE.out]; omega⟩
    have h := Blk.new (w.alloc (.cells C 76)) 27 (pcs 0 (fun _ => 0))
    rw [← HQE.out]; simpa using h)
  go_enter Tryz.func135, Tryz.ntmps135
  go_upto_region 2 with fail
  obtain ⟨V, HV⟩ : ∃ q, Hid ((w.alloc (.cells C 76)).alloc (.cells (pcs 0 (fun _ => 0)) 27) = q) := ⟨_, Lib.hid rfl⟩
  rw [HV.out] at HG0 HPB0 ⊢
  try simp only [HGE.out]
  have HQE2 := Lib.hid (show G + 1 = Q by rw [← HGE.out]; exact HQE.out)
  try simp only [HQE2.out]
  clear HV HQE HQE2
  go_wp2_with fail
  go_loopw [16] (fun i wr => ∃ (k : Nat) (P : Nat → Nat), k ≤ 8 ∧ i = .int .i64 (k : Nat) ∧ PB w Q k P (prF [] (stN ts)) wr ∧ Blk wr G 76 C) (fun i _ => 8 - (intOf i).toNat)
  case atStart => exact ⟨0, _, by omega, rfl, HPB0.out.congr (fun i hi9 => by omega), HG0.out⟩
  case round =>
    obtain ⟨k, P, hk, rfl, hPB, hGB⟩ := hrel
    have HPB := Lib.hid hPB
    have HGB := Lib.hid hGB
    clear hPB hGB HPB0 HG0
    have hk0 : (0 : Int) ≤ (k : Int) := by omega
    by_cases hlt : k < 8
    · have hki : (k : Int) < 8 := by omega
      have HFX := Lib.hid (fix_is hg.out (s := k))
      have q1 := (HPB.out.1.alloc (.cells (cs1 9 (fun _ => 0)) 3)).cell k
      have q2 := (HPB.out.1.alloc (.cells (cs1 9 (fun _ => 0)) 3)).frozen k
      have q3 := HPB.out.1.lt
      rw [pcs_at P hlt] at q1
      have HPM := Lib.hid (HPB.out.more hlt)
      have HGM := Lib.hid ((HGB.out.far (p := ⟨Q, k, none⟩) (Blk.ne_ HGB.out HPB.out.1 (by decide)) (.slice (some ⟨wr.heap.size, 0, none⟩) 9 9)).alloc (.cells (cs1 9 (fun _ => 0)) 3))
      go_upto_region 6 with fail
      obtain ⟨W1, HW1⟩ : ∃ W, Hid ((wr.setCell ⟨Q, k, none⟩ (.slice (some ⟨wr.heap.size, 0, none⟩) 9 9)).alloc (.cells (cs1 9 (fun _ => 0)) 3) = W) := ⟨_, Lib.hid rfl⟩
      rw [HW1.out] at HPM HGM ⊢
      obtain ⟨X, HXX⟩ : ∃ X, Hid (wr.heap.size = X) := ⟨_, Lib.hid rfl⟩
      rw [HXX.out] at HPM
      try simp only [HXX.out]
      clear HW1 HXX q1 q2 q3 HPB HGB
      refine wp_region_list ?_
      refine step_load _ rfl _ rfl G _ rfl HGM.out hcz ?_
      simp only [Act.put, List.getElem_toArray, List.getElem_cons_succ, List.getElem_cons_zero, List.setIfInBounds_toArray, List.set_cons_zero, List.set_cons_succ]
      go_wp2_with fail
      refine (fixed_any (net ts) cl C k (!decide (k ∈ stN ts)) W1 hC hlt HFX).mono ?_
      rintro e w5 ⟨rfl, b5⟩
      have HP5 := Lib.hid (HPM.out.step b5)
      have HG5 := Lib.hid (HGM.out.below b5 HGM.out.lt)
      clear b5 HPM HGM
      by_cases hin : k ∈ stN ts
      · have hdi : decide (k ∈ stN ts) = true := by simpa using hin
        have HP6 := Lib.hid (HP5.out.congr (F' := prF [] (stN ts)) (fun i hi9 c _ => by
          show (if i = k then fun _ => 0 else prF [] (stN ts) i) c = prF [] (stN ts) i c
          by_cases q : i = k
          · rw [if_pos q, q, pr_in hin]; rfl
          · rw [if_neg q]))
        have HIN := Lib.hid hin
        clear hin HP5
        rw [hdi]
        clear hdi
        go_wp2_with fail
        go_roundw
        case rel => exact ⟨k + 1, _, by omega, by go_num, HP6.out, HG5.out⟩
        case measure => simp [intOf]; omega
      · have hdi : decide (k ∈ stN ts) = false := by simpa using hin
        have HPP := Lib.hid (HP5.out.put 1 (by omega))
        have HGP := Lib.hid (HG5.out.far (p := ⟨if k = k then X else P k, k, none⟩) (Blk.ne_ HG5.out (HP5.out.2.1 k (by omega)).1 (by decide)) (.int .i64 1))
        have r0 := HP5.out.2.1 k (by omega)
        have r1 := RwB.at_ r0.1 (show k < 9 by omega)
        have r2 := RwB.fro r0.1 k
        have r3 := RwB.lt r0.1
        have r4 := HP5.out.1.cell k
        have r5 := HP5.out.1.lt
        rw [pcs_at _ hlt, if_pos (by omega)] at r4
        simp only [if_true] at r1 r2 r3 r4 HPP HGP
        have hk9 : (k : Int) < 9 := by omega
        have HP6 := Lib.hid (HPP.out.congr (F' := prF [] (stN ts)) (fun i hi9 c _ => by
          show (if i = k then upd (fun _ => 0) k 1 else if i = k then fun _ => 0 else prF [] (stN ts) i) c = prF [] (stN ts) i c
          by_cases q : i = k
          · rw [if_pos q, q, pr_out hin]
            unfold upd dl; rfl
          · rw [if_neg q, if_neg q]))
        clear r0 hin HP5 HPP
        rw [hdi]
        clear hdi
        go_wp2_with fail
        go_roundw
        case rel => exact ⟨k + 1, _, by omega, by go_num, HP6.out, HGP.out⟩
        case measure => simp [intOf]; omega
    · have hkd : ¬ (k : Int) < 8 := by omega
      obtain rfl : k = 8 := by omega
      have HMX := Lib.hid HPB.out.done
      have HBX := Lib.hid HPB.out.2.2.2.1
      have HPL := Lib.hid (show ∀ i, i < 8 → P i < wr.heap.size from fun i hi9 => (HPB.out.2.1 i hi9).1.lt)
      clear hlt HPB
      go_upto_region 9 with fail
      refine wp_region_list ?_
      refine step_move _ rfl _ rfl _ rfl ?_
      simp only [Act.put, List.getElem_toArray, List.getElem_cons_succ, List.getElem_cons_zero, List.setIfInBounds_toArray, List.set_cons_zero, List.set_cons_succ]
      refine step_load _ rfl _ rfl G _ rfl HGB.out hcz ?_
      simp only [Act.put, List.getElem_toArray, List.getElem_cons_succ, List.getElem_cons_zero, List.setIfInBounds_toArray, List.set_cons_zero, List.set_cons_succ]
      go_wp2_with fail
      refine (placedLegs_any A n cap ts cl C _ hC hcl hg (Lib.hid (hts.out.step HBX.out))).mono ?_
      rintro e w2 ⟨vU, rfl, hOU, b2⟩
      obtain ⟨U, HU⟩ : ∃ q, Hid (plIds ts = q) := ⟨_, Lib.hid rfl⟩
      rw [HU.out] at hOU
      obtain ⟨nu, HNU⟩ : ∃ q, Hid (U.length = q) := ⟨_, Lib.hid rfl⟩
      rw [HNU.out] at hOU
      obtain ⟨AU, cU, rfl⟩ := row_slice hOU
      have hnu : nu ≤ 12 := by rw [← HNU.out, ← HU.out]; have := plIds_len' ts; rw [HL.out] at this; omega
      obtain ⟨h1, HH1⟩ : ∃ q, Hid (wr.heap.size = q) := ⟨_, Lib.hid rfl⟩
      have HBS0 := Lib.hid (show BS w Q G C P U AU nu h1 (prF [] (stN ts)) w2 from ⟨HMX.out.step b2, HGB.out.below b2 HGB.out.lt, ints.IL.of_own hOU, HBX.out.trans (b2.mono HBX.out.size), fun g e => by have := hOU.lt g (by rw [e]; rfl); rw [← HH1.out]; exact this, fun i hi9 => by rw [← HH1.out]; exact HPL.out i hi9⟩)
      clear hOU b2 HMX HBX HGB HPL HH1
      go_wp2_with fail
      go_loopw [37] (fun i wr => ∃ k : Nat, k ≤ nu ∧ i = .int .i64 (k : Nat) ∧ BS w Q G C P U AU nu h1 (prF (eds ts ax (U.take k)) (stN ts)) wr) (fun i _ => nu - (intOf i).toNat)
      case atStart => exact ⟨0, Nat.zero_le _, rfl, HBS0.out⟩
      case round =>
        obtain ⟨k, hk, rfl, hBS⟩ := hrel
        have HBSQ := Lib.hid hBS
        clear hBS HBS0
        have hk0 : (0 : Int) ≤ (k : Int) := by omega
        by_cases hlt : k < nu
        · have hki : (k : Int) < (nu : Int) := by omega
          have hkd : decide (k < nu) = true := by simpa using hlt
          obtain ⟨q, hq⟩ := at_lt HNU.out hlt
          have hqm := List.mem_of_getElem? hq
          obtain ⟨jq, rfl, ⟨fr, tt, tp, cm, sl⟩, hx, -⟩ := plIds_at (by rw [HU.out]; exact hqm)
          have hjn : jq < n := by have := lt_at hx; rw [HL.out] at this; exact this
          have hji : (jq : Int) < (n : Int) := by omega
          have hj0 : (0 : Int) ≤ (jq : Int) := by omega
          have HOX := Lib.hid (goodLg_at hg.out hx)
          obtain ⟨⟨f0, f7⟩, ⟨t0, t7⟩, hne, -⟩ := okLg_lim HOX.out
          simp only [] at f0 f7 t0 t7 hne
          obtain ⟨f, rfl⟩ : ∃ f : Nat, fr = f := ⟨fr.toNat, by omega⟩
          obtain ⟨t, rfl⟩ : ∃ t : Nat, tt = t := ⟨tt.toNat, by omega⟩
          have hf8 : f < 8 := by omega
          have ht8 : t < 8 := by omega
          have hft : f ≠ t := fun z => hne (by rw [z])
          have htf : t ≠ f := fun z => hft z.symm
          have hfi : (f : Int) < 8 := by omega
          have hti : (t : Int) < 8 := by omega
          have HST := Lib.hid (show eds ts ax (U.take (k + 1)) = eds ts ax (U.take k) ++ [edOf ax ⟨(f : Int), (t : Int), tp, cm, sl⟩] by rw [eds_take hq, lgAt_is hx])
          have HED := Lib.hid (edOf_ok HOX.out ax)
          obtain ⟨us, HUS⟩ : ∃ us, Hid (eds ts ax (U.take k) = us) := ⟨_, Lib.hid rfl⟩
          have HBD := Lib.hid (show ∀ i c, -10000 ≤ prF us (stN ts) i c ∧ prF us (stN ts) i c ≤ 10000 from fun i c => pr_bd (by rw [← HUS.out]; exact eds_ok hg.out ax (fun i hi9 => by rw [HU.out]; exact List.mem_of_mem_take hi9)) (by rw [← HUS.out]; unfold eds; rw [List.length_map, List.length_take]; omega) i c)
          rw [HUS.out] at HST HBSQ
          obtain ⟨mu, HMU⟩ : ∃ q, Hid (msA ⟨(f : Int), (t : Int), tp, cm, sl⟩ ax = q) := ⟨_, Lib.hid rfl⟩
          have bmu := msA_bd HOX.out ax
          rw [HMU.out] at bmu
          obtain ⟨ed, HEE⟩ : ∃ q, Hid (edOf ax ⟨(f : Int), (t : Int), tp, cm, sl⟩ = q) := ⟨_, Lib.hid rfl⟩
          have HEP := Lib.hid (show ed.f = f ∧ ed.t = t ∧ ed.mu = mu by rw [← HEE.out]; exact ⟨rfl, rfl, HMU.out⟩)
          rw [HEE.out] at HST HED
          have HNX := Lib.hid (show ∀ i c, rowF us (stN ts) ed (rowT us (stN ts) ed (prF us (stN ts))) i c = prF (eds ts ax (U.take (k + 1))) (stN ts) i c from fun i c => by rw [HST.out]; exact rows_next HED.out i c)
          have HFT := Lib.hid (fix_is hg.out (s := t))
          have HFF := Lib.hid (fix_is hg.out (s := f))
          obtain ⟨gU, rfl, eU⟩ := HBSQ.out.2.2.1.2 k _ hq
          obtain ⟨gL, rfl, hgL, e0, e1, e2, e3, e4⟩ := (hts.out.below HBSQ.out.2.2.2.1).2 jq _ hx
          simp only [] at e0 e1 e2 e3 e4
          clear hq hqm hx HST HUS f0 f7 t0 t7 hne
          obtain ⟨W0, HW0⟩ : ∃ W, Hid (wr.alloc (.cells #[.int .i64 (f : Int), .int .i64 (t : Int), .int .i64 tp, .int .i64 cm, .int .i64 sl] 87) = W) := ⟨_, Lib.hid rfl⟩
          have HBS1 := Lib.hid (HBSQ.out.step ((Below.refl _ _).alloc (Nat.le_refl _) (.cells #[.int .i64 (f : Int), .int .i64 (t : Int), .int .i64 tp, .int .i64 cm, .int .i64 sl] 87)))
          have HK1 := Lib.hid (Blk.new wr 87 #[.int .i64 (f : Int), .int .i64 (t : Int), .int .i64 tp, .int .i64 cm, .int .i64 sl])
          go_upto_region 13 with fail
          rw [HW0.out] at HBS1 HK1 ⊢
          obtain ⟨X, HXX⟩ : ∃ X, Hid (wr.heap.size = X) := ⟨_, Lib.hid rfl⟩
          rw [HXX.out] at HK1
          try simp only [HXX.out]
          clear HW0 HXX e0 e1 e2 e3 e4 eU hgL HBSQ
          have y0 := HK1.out.cell 0
          have y1 := HK1.out.cell 1
          have y2 := HK1.out.cell 2
          have y3 := HK1.out.cell 3
          have y4 := HK1.out.cell 4
          have lX := HK1.out.lt
          simp at y0 y1 y2 y3 y4
          go_wp2_with fail
          refine (msOn_any ⟨(f : Int), (t : Int), tp, cm, sl⟩ ax mu _ HOX h0 h2 HMU (Lib.hid (hT.out.below HBS1.out.2.2.2.1))).mono ?_
          rintro e w3 ⟨rfl, b3⟩
          have HBS3 := Lib.hid (HBS1.out.step b3)
          have HK3 := Lib.hid (HK1.out.below b3 HK1.out.lt)
          clear b3 HBS1 HK1 y0 y1 y2 y3 y4 lX
          go_upto_region 14 with fail
          have y0 := HK3.out.cell 0
          have y1 := HK3.out.cell 1
          have lX := HK3.out.lt
          simp at y0 y1
          refine wp_region_list ?_
          refine step_load _ rfl _ rfl G _ rfl HBS3.out.2.1 hcz ?_
          simp only [Act.put, List.getElem_toArray, List.getElem_cons_succ, List.getElem_cons_zero, List.setIfInBounds_toArray, List.set_cons_zero, List.set_cons_succ]
          go_wp2_with fail
          refine (fixed_any (net ts) cl C t (!decide (t ∈ stN ts)) _ hC ht8 HFT).mono ?_
          rintro e w4 ⟨rfl, b9⟩
          have HBS4 := Lib.hid (HBS3.out.step b9)
          have HK4 := Lib.hid (HK3.out.below b9 HK3.out.lt)
          clear b9 HBS3 HK3 y0 y1 lX
          by_cases htin : t ∈ stN ts
          · have hdt : decide (t ∈ stN ts) = true := by simpa using htin
            rw [hdt]
            clear hdt
            have y0 := HK4.out.cell 0
            have y1 := HK4.out.cell 1
            have lX := HK4.out.lt
            simp at y0 y1
            obtain ⟨g9, eg, -, lg, tops, -⟩ := HBS4.out.1.top ht8
            obtain rfl : Q = g9 := by injection eg with eg; injection eg
            have tk := tops t ht8
            have HRW := Lib.hid (HBS4.out.1.2.1 t ht8).1
            have HBR := Lib.hid (show ∀ c, -10000 ≤ prF us (stN ts) t c ∧ prF us (stN ts) t c ≤ 10000 from fun c => HBD.out t c)
            clear eg tops
            go_upto_region 15 with fail
            refine wp_region_still_tail 10 (by kernel_rfl) (by kernel_rfl) ?_
            simp only [List.take_succ_cons, List.take_zero, List.drop_succ_cons, List.drop_zero]
            repeat still_step
            refine wpStill_nil ?_
            change wpList _ _ _ _ _ w4.drew
            clear y0 y1 lX tk lg
            go_wp2_with fail
            refine (add_any (P t) t f mu _ _ ht8 hf8 htf (Lib.hid HBR.out) (by omega) (Lib.hid (show RwB w4.drew (P t) 9 _ from HRW.out))).mono ?_
            rintro e w5 ⟨rfl, hR9, hG9⟩
            have HBS5 := Lib.hid ((HBS4.out.step (Below.refl _ _).drew).row ht8 hR9 hG9)
            have HK5 := Lib.hid ((HK4.out.drew).grown hG9 (fun z => Blk.ne_ HK4.out HRW.out (by decide) (by injection z)))
            clear hR9 hG9 HRW HBR
            have HBS6 := Lib.hid (HBS5.out.congr (N := rowT us (stN ts) ed (prF us (stN ts))) (fun i _ c _ => by
              rw [rowT_at, HEP.out.1, HEP.out.2.1, HEP.out.2.2]
              show (if i = t then abF (prF us (stN ts) t) t f mu else prF us (stN ts) i) c = _
              by_cases z : i = t
              · rw [if_pos z, if_pos ⟨z, htin⟩]
              · rw [if_neg z, if_neg (fun y => z y.1)]))
            have HK6 := Lib.hid HK5.out
            clear HBS5 HK5 HBS4 HK4
            go_upto_region 16 with fail
            have y0 := HK6.out.cell 0
            have y1 := HK6.out.cell 1
            have lX := HK6.out.lt
            simp at y0 y1
            refine wp_region_list ?_
            refine step_load _ rfl _ rfl G _ rfl HBS6.out.2.1 hcz ?_
            simp only [Act.put, List.getElem_toArray, List.getElem_cons_succ, List.getElem_cons_zero, List.setIfInBounds_toArray, List.set_cons_zero, List.set_cons_succ]
            go_wp2_with fail
            refine (fixed_any (net ts) cl C f (!decide (f ∈ stN ts)) _ hC hf8 HFF).mono ?_
            rintro e w6 ⟨rfl, b9⟩
            have HBS7 := Lib.hid (HBS6.out.step b9)
            have HK7 := Lib.hid (HK6.out.below b9 HK6.out.lt)
            clear b9 HBS6 HK6 y0 y1 lX
            by_cases hfin : f ∈ stN ts
            · have hdf : decide (f ∈ stN ts) = true := by simpa using hfin
              rw [hdf]
              clear hdf
              have xm : IntKind.i64.wrap (-mu) = -mu := IntWalk.i64_in _ (by omega)
              have y0 := HK7.out.cell 0
              have y1 := HK7.out.cell 1
              have lX := HK7.out.lt
              simp at y0 y1
              obtain ⟨g9, eg, -, lg, tops, -⟩ := HBS7.out.1.top hf8
              obtain rfl : Q = g9 := by injection eg with eg; injection eg
              have tk := tops f hf8
              have HRW := Lib.hid (HBS7.out.1.2.1 f hf8).1
              have hmf : ∀ c, (rowT us (stN ts) ed (prF us (stN ts))) f c = prF us (stN ts) f c := fun c => by rw [rowT_at, if_neg (by rw [HEP.out.2.1]; exact fun z => hft z.1)]
              have HBR := Lib.hid (show ∀ c, -10000 ≤ (rowT us (stN ts) ed (prF us (stN ts))) f c ∧ (rowT us (stN ts) ed (prF us (stN ts))) f c ≤ 10000 from fun c => by rw [hmf c]; exact HBD.out f c)
              clear hmf
              clear eg tops
              go_upto_region 17 with fail
              refine wp_region_still_tail 11 (by kernel_rfl) (by kernel_rfl) ?_
              simp only [List.take_succ_cons, List.take_zero, List.drop_succ_cons, List.drop_zero]
              repeat still_step
              refine wpStill_nil ?_
              change wpList _ _ _ _ _ w6.drew
              clear y0 y1 lX tk lg
              go_wp2_with fail
              refine (add_any (P f) f t (-mu) _ _ hf8 ht8 hft (Lib.hid HBR.out) (by omega) (Lib.hid (show RwB w6.drew (P f) 9 _ from HRW.out))).mono ?_
              rintro e w7 ⟨rfl, hR9, hG9⟩
              have HBS8 := Lib.hid ((HBS7.out.step (Below.refl _ _).drew).row hf8 hR9 hG9)
              have HK8 := Lib.hid ((HK7.out.drew).grown hG9 (fun z => Blk.ne_ HK7.out HRW.out (by decide) (by injection z)))
              clear hR9 hG9 HRW HBR
              have HFN := Lib.hid (HBS8.out.congr (N := prF (eds ts ax (U.take (k + 1))) (stN ts)) (fun i _ c _ => by
                rw [← HNX.out i c, rowF_at, HEP.out.1, HEP.out.2.1, HEP.out.2.2]
                show (if i = f then abF ((rowT us (stN ts) ed (prF us (stN ts))) f) f t (-mu) else (rowT us (stN ts) ed (prF us (stN ts))) i) c = _
                
                by_cases z : i = f
                · rw [if_pos z, if_pos ⟨z, hfin⟩]
                · rw [if_neg z, if_neg (fun y => z y.1)]))
              clear HBS8 HK8
              go_wp2_with fail
              go_roundw
              case rel => exact ⟨k + 1, by omega, by go_num, HFN.out⟩
              case measure => simp [intOf]; omega
            · have hdf : decide (f ∈ stN ts) = false := by simpa using hfin
              rw [hdf]
              clear hdf
              have HFN := Lib.hid (HBS7.out.congr (N := prF (eds ts ax (U.take (k + 1))) (stN ts)) (fun i _ c _ => by
                rw [← HNX.out i c, rowF_at, HEP.out.1, if_neg (fun y => hfin y.2)]))
              clear HBS7 HK7
              go_wp2_with fail
              go_roundw
              case rel => exact ⟨k + 1, by omega, by go_num, HFN.out⟩
              case measure => simp [intOf]; omega
          · have hdt : decide (t ∈ stN ts) = false := by simpa using htin
            rw [hdt]
            clear hdt
            have HNT := Lib.hid (show rowT us (stN ts) ed (prF us (stN ts)) = prF us (stN ts) by
              funext i
              rw [rowT_at, HEP.out.2.1, if_neg (fun y => htin y.2)])
            go_upto_region 16 with fail
            have y0 := HK4.out.cell 0
            have y1 := HK4.out.cell 1
            have lX := HK4.out.lt
            simp at y0 y1
            refine wp_region_list ?_
            refine step_load _ rfl _ rfl G _ rfl HBS4.out.2.1 hcz ?_
            simp only [Act.put, List.getElem_toArray, List.getElem_cons_succ, List.getElem_cons_zero, List.setIfInBounds_toArray, List.set_cons_zero, List.set_cons_succ]
            go_wp2_with fail
            refine (fixed_any (net ts) cl C f (!decide (f ∈ stN ts)) _ hC hf8 HFF).mono ?_
            rintro e w6 ⟨rfl, b9⟩
            have HBS7 := Lib.hid (HBS4.out.step b9)
            have HK7 := Lib.hid (HK4.out.below b9 HK4.out.lt)
            clear b9 HBS4 HK4 y0 y1 lX
            by_cases hfin : f ∈ stN ts
            · have hdf : decide (f ∈ stN ts) = true := by simpa using hfin
              rw [hdf]
              clear hdf
              have xm : IntKind.i64.wrap (-mu) = -mu := IntWalk.i64_in _ (by omega)
              have y0 := HK7.out.cell 0
              have y1 := HK7.out.cell 1
              have lX := HK7.out.lt
              simp at y0 y1
              obtain ⟨g9, eg, -, lg, tops, -⟩ := HBS7.out.1.top hf8
              obtain rfl : Q = g9 := by injection eg with eg; injection eg
              have tk := tops f hf8
              have HRW := Lib.hid (HBS7.out.1.2.1 f hf8).1
              have hmf : ∀ c, (prF us (stN ts)) f c = prF us (stN ts) f c := fun c => by rfl
              have HBR := Lib.hid (show ∀ c, -10000 ≤ (prF us (stN ts)) f c ∧ (prF us (stN ts)) f c ≤ 10000 from fun c => by rw [hmf c]; exact HBD.out f c)
              clear hmf
              clear eg tops
              go_upto_region 17 with fail
              refine wp_region_still_tail 11 (by kernel_rfl) (by kernel_rfl) ?_
              simp only [List.take_succ_cons, List.take_zero, List.drop_succ_cons, List.drop_zero]
              repeat still_step
              refine wpStill_nil ?_
              change wpList _ _ _ _ _ w6.drew
              clear y0 y1 lX tk lg
              go_wp2_with fail
              refine (add_any (P f) f t (-mu) _ _ hf8 ht8 hft (Lib.hid HBR.out) (by omega) (Lib.hid (show RwB w6.drew (P f) 9 _ from HRW.out))).mono ?_
              rintro e w7 ⟨rfl, hR9, hG9⟩
              have HBS8 := Lib.hid ((HBS7.out.step (Below.refl _ _).drew).row hf8 hR9 hG9)
              have HK8 := Lib.hid ((HK7.out.drew).grown hG9 (fun z => Blk.ne_ HK7.out HRW.out (by decide) (by injection z)))
              clear hR9 hG9 HRW HBR
              have HFN := Lib.hid (HBS8.out.congr (N := prF (eds ts ax (U.take (k + 1))) (stN ts)) (fun i _ c _ => by
                rw [← HNX.out i c, rowF_at, HEP.out.1, HEP.out.2.1, HEP.out.2.2]
                show (if i = f then abF ((prF us (stN ts)) f) f t (-mu) else (prF us (stN ts)) i) c = _
                rw [show rowT us (stN ts) ed (prF us (stN ts)) = prF us (stN ts) from HNT.out]
                by_cases z : i = f
                · rw [if_pos z, if_pos ⟨z, hfin⟩]
                · rw [if_neg z, if_neg (fun y => z y.1)]))
              clear HBS8 HK8
              go_wp2_with fail
              go_roundw
              case rel => exact ⟨k + 1, by omega, by go_num, HFN.out⟩
              case measure => simp [intOf]; omega
            · have hdf : decide (f ∈ stN ts) = false := by simpa using hfin
              rw [hdf]
              clear hdf
              have HFN := Lib.hid (HBS7.out.congr (N := prF (eds ts ax (U.take (k + 1))) (stN ts)) (fun i _ c _ => by
                rw [← HNX.out i c, rowF_at, HEP.out.1, if_neg (fun y => hfin y.2)]
                rw [show rowT us (stN ts) ed (prF us (stN ts)) = prF us (stN ts) from HNT.out]))
              clear HBS7 HK7
              go_wp2_with fail
              go_roundw
              case rel => exact ⟨k + 1, by omega, by go_num, HFN.out⟩
              case measure => simp [intOf]; omega
        · have hkd : decide (k < nu) = false := by simpa using hlt
          obtain rfl : k = nu := by omega
          have HTK := Lib.hid (show U.take k = U by rw [← HNU.out, List.take_length])
          rw [HTK.out] at HBSQ
          have HUU := Lib.hid (show eds ts ax U = US ts ax by unfold US; rw [HU.out])
          rw [HUU.out] at HBSQ
          clear hlt
          go_wp2_with fail
          go_ret
          exact ⟨_, _, P, rfl, HBSQ.out.1, HBSQ.out.2.2.2.1⟩
end Go.Proofs.YtnpghhpcloljeabGreatDoor.pg
