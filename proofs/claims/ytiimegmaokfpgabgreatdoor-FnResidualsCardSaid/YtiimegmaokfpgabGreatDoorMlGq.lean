/-
  The number of trees and the adjusted coordinates, by the model.
  How many bits of a number below 512 are set, by the library that the program calls.
  What the program adds to the determinants of greater sets of columns.
  The determinants of all sets of columns, by the program.
  The determinants of all sets of columns are what their expansions along the last row tell (pure mathematics).
  What the program finds in its determinants: the number of trees and the coordinates (pure mathematics).
  Valid axes, AdjustAxis and ResidualOf, by the model.
  Conditions: those that each theorem names.
-/
import Derived.Test.YtiimegmaokfpgabGreatDoorMdG
import Derived.Test.YtiimegmaokfpgabGreatDoorMlE
import Derived.Test.YtiimegmaokfpgabGreatDoorMlF
import Derived.Test.YtiimegmaokfpgabGreatDoorMtD
import Derived.Test.YtiimegmaokfpgabGreatDoorBase
import Derived.Test.YtiimegmaokfpgabGreatDoorMtA
import Derived.StillTailTactics
import Derived.Deep.DeepCutAuto
import Derived.Deep.RegionHeld3
import Derived.Test.YtiimegmaokfpgabGreatDoorPgM
namespace Go.Proofs.YtiimegmaokfpgabGreatDoor.ml
open Go.RowKit
open reads base inn ty lg rowi hs nt mt dt
set_option linter.unusedVariables false
set_option linter.unusedSimpArgs false

theorem sr_step {B R : Nat} {W0 a a' : World} (h : ∀ b o, b < B → b ≠ R → a.cell? ⟨b, o, none⟩ = W0.cell? ⟨b, o, none⟩) (hb : Below B a a') : ∀ b o, b < B → b ≠ R → a'.cell? ⟨b, o, none⟩ = W0.cell? ⟨b, o, none⟩ :=
  fun b o q r => (hb.cell (p := ⟨b, o, none⟩) q).trans (h b o q r)
theorem sr_set {B R : Nat} {W0 a : World} (h : ∀ b o, b < B → b ≠ R → a.cell? ⟨b, o, none⟩ = W0.cell? ⟨b, o, none⟩) (i : Nat) (u : Value) : ∀ b o, b < B → b ≠ R → (a.setCell ⟨R, i, none⟩ u).cell? ⟨b, o, none⟩ = W0.cell? ⟨b, o, none⟩ :=
  fun b o q r => (World.cell?_setCell_other a _ _ _ (fun z => by injection z with z1 _; exact r z1.symm)).trans (h b o q r)
def UQo (xs : List Int) (w : World) (e : Ending) (w' : World) : Prop :=
  ∃ A m c, e = .returned (.slice A m c) ∧ xs.length = m ∧ IO w' w'.heap.size A m xs ∧ (∀ g o, A = some ⟨g, o, none⟩ → w.heap.size ≤ g) ∧ Below w.heap.size w w'
set_option maxHeartbeats 8000000 in
set_option maxRecDepth 100000 in
theorem unk_new (A : Option Addr) (n cap : Nat) (ts : List Lg) (w : World) (hg : Hid (goodLg ts = true)) (hts : Hid (LgAt w w.heap.size A n ts)) :
    Calls Tryz.prog 122 #[.slice A n cap] w (UQo (unk ts) w) := by
  have HL := Lib.hid hts.out.1
  obtain ⟨ps, HPS⟩ : ∃ p, Hid ((net ts).ps = p) := ⟨_, Lib.hid rfl⟩
  have HU := Lib.hid (show unk ts = ps.tail by unfold unk; rw [HPS.out])
  have hm1 : 0 < ps.length := by rw [← HPS.out]; exact List.length_pos_of_mem (ok_net hg.out).2.2.2.2.2.1
  have hm2 : ps.length ≤ 8 := by rw [← HPS.out]; exact (ok_net hg.out).ps_len
  obtain ⟨m2, HM2⟩ : ∃ m, Hid (ps.length = m) := ⟨_, Lib.hid rfl⟩
  rw [HM2.out] at hm1 hm2
  go_enter Tryz.func122, Tryz.ntmps122
  go_wp2_with fail
  refine (place_any A n cap ts _ hg hts).mono ?_
  rintro e w1 ⟨g1, g2, c2, g3, c3, rfl, hN⟩
  rw [HPS.out, HM2.out] at hN ⊢
  have HB1 := Lib.hid hN.1
  have HR := Lib.hid hN.2.2.1
  have hc2 : m2 ≤ c2 := own_cap hN.2.2.1
  clear hN
  have hm0 : 1 ≤ m2 := hm1
  have HLT := Lib.hid (show (unk ts).length = m2 - 1 by rw [HU.out, List.length_tail, HM2.out])
  have HIO := Lib.hid (show ∀ k x, (unk ts)[k]? = some x → w1.cell? ⟨g2, 1 + k, none⟩ = some (.int .i64 x) from fun k x hx => by
    rw [HU.out, List.getElem?_tail] at hx
    obtain ⟨g, e, hc⟩ := (ints.IL.of_own HR.out).2 (k + 1) x (by rw [HPS.out]; exact hx)
    obtain rfl : g2 = g := by injection e with e; injection e
    rw [Nat.add_comm 1 k]; exact hc)
  have hlt2 := (HR.out.lt g2 rfl).2
  have hge2 := (HR.out.lt g2 rfl).1
  by_cases hc1 : c2 = 1
  · obtain rfl : m2 = 1 := by omega
    subst hc1
    go_wp2_with fail
    go_ret
    refine ⟨_, _, _, rfl, HLT.out, ⟨HLT.out, fun k x hx => ?_⟩, fun g o e => (by injection e with e; injection e with e1 _; omega), HB1.out⟩
    have h1 := lt_at hx
    rw [HLT.out] at h1; omega
  · have hm3 : m2 - 1 ≤ c2 - 1 := by omega
    go_wp2_with fail
    go_ret
    exact ⟨_, _, _, rfl, HLT.out, ⟨HLT.out, fun k x hx => ⟨g2, 1, rfl, hlt2, HIO.out k x hx⟩⟩, fun g o e => (by injection e with e; injection e with e1 _; omega), HB1.out⟩
set_option maxHeartbeats 8000000 in
set_option maxRecDepth 100000 in
theorem trees_any (A : Option Addr) (n cap : Nat) (ts : List Lg) (w : World) (hg : Hid (goodLg ts = true)) (hts : Hid (LgAt w w.heap.size A n ts)) :
    Calls Tryz.prog 68 #[.slice A n cap] w (APost (.int .i64 (TC ts)) w) := by
  have HSO := Lib.hid (ps_split hg.out).2
  have HIN := Lib.hid (show ∀ i ∈ plIds ts, ((lgAt ts i).frm ∈ unk ts ∨ (lgAt ts i).frm = 0) ∧ ((lgAt ts i).to_ ∈ unk ts ∨ (lgAt ts i).to_ = 0) from fun i hi => pl_ends hg.out hi)
  have hu7 := unk_len hg.out
  go_enter Tryz.func68, Tryz.ntmps68
  go_wp2_with fail
  refine (unk_any A n cap ts _ hg hts).mono ?_
  rintro e w1 ⟨As, m, cs, rfl, hm, hio, b1⟩
  have HB1 := Lib.hid b1
  have HIO := Lib.hid hio
  have HM := Lib.hid hm
  rw [hm] at hu7
  clear b1 hio hm
  go_wp2_with fail
  refine (matrix_neg A n cap ts As m cs (unk ts) (plIds ts) w1 hg (Lib.hid (hts.out.step HB1.out)) (by omega) HIO HSO (Lib.hid rfl) HIN).mono ?_
  rintro e w2 ⟨A2, c2, P2, rfl, hM, b2⟩
  have HM2 := Lib.hid hM
  have HB2 := Lib.hid (HB1.out.trans (b2.mono HB1.out.size))
  have hs1 := HB1.out.size
  clear hM b2
  have HDV := Lib.hid (show dt ((rv m).map (fun i j => AA (eds ts 0 (plIds ts)) (sAt (unk ts) i) (sAt (unk ts) j))) (rv m) = TC ts by rw [← HM.out]; exact det_DD _ _)
  have HBD := Lib.hid (show Bdd m (fun i j => AA (eds ts 0 (plIds ts)) (sAt (unk ts) i) (sAt (unk ts) j)) 1161216000 by rw [← HM.out]; exact bdd_at (eds_ok hg.out 0 (fun i hi => hi)) (US_len hg.out 0) HSO.out (unk_len hg.out) _ (fun i j hi hj e => sAt_inj HSO.out hi hj e))
  go_wp2_with fail
  refine (det_any w1.heap.size A2 m c2 P2 _ (TC ts) w2 (by omega) HDV HBD HM2).mono ?_
  rintro e w3 ⟨rfl, b3⟩
  have HB3 := Lib.hid (HB2.out.trans (b3.mono hs1))
  clear b3
  go_wp2_with fail
  go_ret
  exact ⟨rfl, HB3.out⟩
/-- TreeCount's answer -/
def ansTc (ts : List Lg) : Value := .tuple #[.int .i64 (if goodLg ts then TC ts else 0), .bool (goodLg ts)]
set_option maxHeartbeats 8000000 in
set_option maxRecDepth 100000 in
theorem treeCount_model (A : Option Addr) (n cap : Nat) (ts : List Lg) (w : World) (hn : n ≤ 2000000) (hts : Hid (LgAt w w.heap.size A n ts)) :
    Calls Tryz.prog 39 #[.slice A n cap] w (APost (ansTc ts) w) := by
  cases hg : goodLg ts
  · have HG := Lib.hid hg
    have HF := Lib.hid (show ansTc ts = .tuple #[.int .i64 0, .bool false] by unfold ansTc; rw [hg]; rfl)
    clear hg
    go_enter Tryz.func39, Tryz.ntmps39
    go_wp2_with fail
    refine (legs_is A n cap ts false _ hn hts HG).mono ?_
    rintro e w1 ⟨rfl, b1⟩
    have HB := Lib.hid b1
    clear b1
    go_wp2_with fail
    go_ret2
    exact ⟨by rw [HF.out]; rfl, HB.out⟩
  · have HG := Lib.hid hg
    obtain ⟨d, HD⟩ : ∃ d, Hid (TC ts = d) := ⟨_, Lib.hid rfl⟩
    have HF := Lib.hid (show ansTc ts = .tuple #[.int .i64 d, .bool true] by unfold ansTc; rw [hg, if_pos rfl, HD.out])
    clear hg
    go_enter Tryz.func39, Tryz.ntmps39
    go_wp2_with fail
    refine (legs_is A n cap ts true _ hn hts HG).mono ?_
    rintro e w1 ⟨rfl, b1⟩
    have HB := Lib.hid b1
    clear b1
    go_wp2_with fail
    refine (trees_any A n cap ts _ HG (Lib.hid (hts.out.step HB.out))).mono ?_
    rintro e w2 ⟨rfl, b2⟩
    rw [HD.out]
    have HB2 := Lib.hid (HB.out.trans (b2.mono HB.out.size))
    clear b2
    go_wp2_with fail
    go_ret2
    exact ⟨by rw [HF.out]; rfl, HB2.out⟩
/-- the adjusted coordinates, times the number of trees -/
def xcN (ts : List Lg) (ax : Int) : List Int := (List.range 8).map (XC ts ax)
theorem xcN_len (ts : List Lg) (ax : Int) : (xcN ts ax).length = 8 := by simp [xcN]
theorem xcN_bd {ts : List Lg} (hg : goodLg ts = true) (ax : Int) : CBd (xcN ts ax) := ⟨xcN_len ts ax, fun c hc => by
  obtain ⟨i, -, e⟩ := List.mem_map.1 hc
  have := XC_le hg ax i
  rw [← e]; omega⟩
set_option maxHeartbeats 16000000 in
set_option maxRecDepth 100000 in
theorem adjust_any (A : Option Addr) (n cap : Nat) (ts : List Lg) (ax : Int) (w : World) (h0 : 0 ≤ ax) (h2 : ax ≤ 2) (hg : Hid (goodLg ts = true)) (hts : Hid (LgAt w w.heap.size A n ts)) :
    Calls Tryz.prog 67 #[.slice A n cap, .int .i64 ax] w (JPo (xcN ts ax) w) := by
  obtain ⟨i0, hi, hz0, hz1, hz2⟩ := info_parts infoI
  have hmk : ∀ W : World, (Instr.makeSlice 27 (.int .i64 8) (.int .i64 8)).run Tryz.prog W = .ok (.slice (some ⟨W.heap.size, 0, none⟩) 8 8) (W.alloc (.cells (cs1 8 (fun _ => 0)) 3)) := fun W => by
    have h := run_make_rowN (P := Tryz.prog) 27 3 i0 _ Tryz.underlying27 hi hz0 .i64 .i64 8 8 (Nat.le_refl _) (by rw [hz2]; omega) (by omega) W
    rw [hz1] at h
    rw [← cs1_zero]
    exact h
  have HSO := Lib.hid (ps_split hg.out).2
  have HIN := Lib.hid (show ∀ i ∈ plIds ts, ((lgAt ts i).frm ∈ unk ts ∨ (lgAt ts i).frm = 0) ∧ ((lgAt ts i).to_ ∈ unk ts ∨ (lgAt ts i).to_ = 0) from fun i hi => pl_ends hg.out hi)
  have hu7 := unk_len hg.out
  obtain ⟨R, HRE⟩ : ∃ q, Hid (w.heap.size = q) := ⟨_, Lib.hid rfl⟩
  have HR0 := Lib.hid (show RwB (w.alloc (.cells (cs1 8 (fun _ => 0)) 3)) R 8 (fun _ => 0) by rw [← HRE.out]; exact Blk.new _ _ _)
  have HB0 := Lib.hid ((Below.refl w.heap.size w).alloc (Nat.le_refl _) (.cells (cs1 8 (fun _ => 0)) 3))
  have HA0 := Lib.hid (hts.out.alloc (.cells (cs1 8 (fun _ => 0)) 3))
  go_enter Tryz.func67, Tryz.ntmps67
  go_wp2_with fail
  refine (unk_new A n cap ts _ hg HA0).mono ?_
  rintro e w1 ⟨As, m, cs9, rfl, hm, hio, hnew, b1⟩
  have HB1 := Lib.hid (HB0.out.trans (b1.mono HB0.out.size))
  have HIO := Lib.hid hio
  have HR1 := Lib.hid (HR0.out.below b1 HR0.out.lt)
  have HM := Lib.hid hm
  have HGR := Lib.hid (show ∀ g o, As = some ⟨g, o, none⟩ → ¬ g = R from fun g o e => by
    have := hnew g o e
    have h3 := HR0.out.lt
    omega)
  rw [hm] at hu7
  clear b1 hio hm hnew HB0 HA0 HR0
  go_wp2_with fail
  simp only [HRE.out]
  go_loopw [7] (fun i wr => ∃ k : Nat, k ≤ m ∧ i = .int .i64 (k : Nat) ∧ RwB wr R 8 (fun s => if s ∈ (stN ts).take k then XC ts ax s else 0) ∧ IO wr wr.heap.size As m (unk ts) ∧ Below w.heap.size w wr) (fun i _ => m - (intOf i).toNat)
  case atStart => exact ⟨0, Nat.zero_le _, rfl, HR1.out.congr (fun j _ => by simp), HIO.out, HB1.out⟩
  case round =>
    obtain ⟨k, hk, rfl, hR, hS, hB⟩ := hrel
    have HRQ := Lib.hid hR
    have HSQ := Lib.hid hS
    have HBQ := Lib.hid hB
    clear hR hS hB HR1 HIO HB1
    have hk0 : (0 : Int) ≤ (k : Int) := by omega
    by_cases hlt : k < m
    · have hki : (k : Int) < (m : Int) := by omega
      have hkd : decide (k < m) = true := by simpa using hlt
      obtain ⟨sx, hsx⟩ := at_lt HM.out hlt
      obtain ⟨s0, s7⟩ := HSO.out.2 sx (List.mem_of_getElem? hsx)
      obtain ⟨s, rfl⟩ : ∃ s : Nat, sx = s := ⟨sx.toNat, by omega⟩
      have hs8 : s < 8 := by omega
      have hs8i : (s : Int) < 8 := by omega
      have hs0i : (0 : Int) ≤ (s : Int) := by omega
      obtain ⟨gS, oS, rfl, hgS, eS⟩ := HSQ.out.2 k _ hsx
      have hgR := HGR.out gS oS rfl
      have HSA := Lib.hid (show sAt (unk ts) k = s from sAt_is hsx)
      have HTK := Lib.hid (show (stN ts).take (k + 1) = (stN ts).take k ++ [s] from take_snoc (by unfold stN; rw [List.getElem?_map, hsx]; rfl))
      clear hsx
      obtain ⟨d, HD⟩ : ∃ d, Hid (XC ts ax s = d) := ⟨_, Lib.hid rfl⟩
      have HDV := Lib.hid (show dt ((rv m).map (fun i j => AA (eds ts ax (plIds ts)) (sAt (unk ts) i) (if j = k then 8 else sAt (unk ts) j))) (rv m) = d by
        rw [← HM.out, det_XX _ HSO.out (by rw [HM.out]; exact hlt), HSA.out]; exact HD.out)
      have HBD := Lib.hid (show Bdd m (fun i j => AA (eds ts ax (plIds ts)) (sAt (unk ts) i) (if j = k then 8 else sAt (unk ts) j)) 1161216000 by
        rw [← HM.out]
        refine bdd_at (eds_ok hg.out ax (fun i hi => hi)) (US_len hg.out ax) HSO.out (unk_len hg.out) (fun j => if j = k then 8 else sAt (unk ts) j) (fun i j hi9 hj9 e => ?_)
        have e : (if i = k then 8 else sAt (unk ts) i) = (if j = k then 8 else sAt (unk ts) j) := e
        by_cases a1 : i = k <;> by_cases a2 : j = k
        · rw [a1, a2]
        · rw [if_pos a1, if_neg a2] at e
          have := sAt_8 HSO.out hj9; omega
        · rw [if_neg a1, if_pos a2] at e
          have := sAt_8 HSO.out hi9; omega
        · rw [if_neg a1, if_neg a2] at e
          exact sAt_inj HSO.out hi9 hj9 e)
      obtain ⟨W0, HW0⟩ : ∃ W, Hid (wr = W) := ⟨_, Lib.hid rfl⟩
      have HLW := Lib.hid (show LgAt W0 W0.heap.size A n ts by rw [← HW0.out]; exact hts.out.step HBQ.out)
      have HSW := Lib.hid (show IO W0 W0.heap.size (some ⟨gS, oS, none⟩) m (unk ts) by rw [← HW0.out]; exact HSQ.out)
      have HRW := Lib.hid (show RwB W0 R 8 (fun s => if s ∈ (stN ts).take k then XC ts ax s else 0) by rw [← HW0.out]; exact HRQ.out)
      have HBW := Lib.hid (show Below w.heap.size w W0 by rw [← HW0.out]; exact HBQ.out)
      obtain ⟨B, HBB⟩ : ∃ B, Hid (W0.heap.size = B) := ⟨_, Lib.hid rfl⟩
      have hRB : R < B := by rw [← HBB.out]; exact HRW.out.lt
      rw [HW0.out, HBB.out] at hgS
      rw [HW0.out] at eS
      go_upto_region 6 with fail
      rw [HW0.out]
      clear HW0 HRQ HSQ HBQ
      refine wp_region_held_drew (S := (fun v => ∀ b o, b < B → b ≠ R → v.cell? ⟨b, o, none⟩ = W0.cell? ⟨b, o, none⟩)) (by kernel_rfl) ?_ (fun hHeld => ?_)
      · exact (fun b o _ _ => rfl)
      refine' wpAnyH_take (i := 0) (v := ?vr1_0) rfl (by kernel_rfl) (by kernel_rfl) (by kernel_rfl) (fun _ _ _ h => h) (Or.inl ⟨by rfl, ?hyr1_0⟩) (by assumption) ?restr1_0
      case hyr1_0 => (intro w hSw; (try dsimp only at hSw); go_simp; try (with_reducible rfl))
      simp only [Act.put, List.getElem_toArray, List.getElem_cons_succ, List.getElem_cons_zero, List.setIfInBounds_toArray, List.set_cons_zero, List.set_cons_succ]
      refine' wpAnyH_take (i := 1) (v := ?vr1_1) rfl (by kernel_rfl) (by kernel_rfl) (by kernel_rfl) (fun _ _ _ h => h) (Or.inl ⟨by rfl, ?hyr1_1⟩) (by assumption) ?restr1_1
      case hyr1_1 => (intro w hSw; (try dsimp only at hSw); go_simp; try (with_reducible rfl))
      simp only [Act.put, List.getElem_toArray, List.getElem_cons_succ, List.getElem_cons_zero, List.setIfInBounds_toArray, List.set_cons_zero, List.set_cons_succ]
      refine' wpAnyH_take (i := 2) (v := ?vr1_2) rfl (by kernel_rfl) (by kernel_rfl) (by kernel_rfl) (fun _ _ _ h => h) (Or.inl ⟨by rfl, ?hyr1_2⟩) (by assumption) ?restr1_2
      case hyr1_2 => (intro w hSw; (try dsimp only at hSw); go_simp; try (with_reducible rfl))
      simp only [Act.put, List.getElem_toArray, List.getElem_cons_succ, List.getElem_cons_zero, List.setIfInBounds_toArray, List.set_cons_zero, List.set_cons_succ]
      refine' wpAnyH_take (i := 3) (v := ?vr1_3) rfl (by kernel_rfl) (by kernel_rfl) (by kernel_rfl) (fun _ _ _ h => h) (Or.inl ⟨by rfl, ?hyr1_3⟩) (by assumption) ?restr1_3
      case hyr1_3 => (intro w hSw; (try dsimp only at hSw); go_simp; try (with_reducible rfl))
      simp only [Act.put, List.getElem_toArray, List.getElem_cons_succ, List.getElem_cons_zero, List.setIfInBounds_toArray, List.set_cons_zero, List.set_cons_succ]
      refine' wpAnyH_take (i := 4) (v := ?vr1_4) rfl (by kernel_rfl) (by kernel_rfl) (by kernel_rfl) (fun _ _ _ h => h) (Or.inl ⟨by rfl, ?hyr1_4⟩) (by assumption) ?restr1_4
      case hyr1_4 => (intro w hSw; (try dsimp only at hSw); go_simp; try (with_reducible rfl))
      simp only [Act.put, List.getElem_toArray, List.getElem_cons_succ, List.getElem_cons_zero, List.setIfInBounds_toArray, List.set_cons_zero, List.set_cons_succ]
      refine' wpAnyH_take (i := 5) (v := ?vr1_5) rfl (by kernel_rfl) (by kernel_rfl) (by kernel_rfl) (fun _ _ _ h => h) (Or.inl ⟨by rfl, ?hyr1_5⟩) (by assumption) ?restr1_5
      case hyr1_5 => (intro w hSw; (try dsimp only at hSw); go_simp; try (with_reducible rfl))
      simp only [Act.put, List.getElem_toArray, List.getElem_cons_succ, List.getElem_cons_zero, List.setIfInBounds_toArray, List.set_cons_zero, List.set_cons_succ]
      refine' wpAnyH_take (i := 6) (v := ?vr1_6) rfl (by kernel_rfl) (by kernel_rfl) (by kernel_rfl) (fun _ _ _ h => h) (Or.inl ⟨by rfl, ?hyr1_6⟩) (by assumption) ?restr1_6
      case hyr1_6 => (intro w hSw; (try dsimp only at hSw); go_simp; try (with_reducible rfl))
      simp only [Act.put, List.getElem_toArray, List.getElem_cons_succ, List.getElem_cons_zero, List.setIfInBounds_toArray, List.set_cons_zero, List.set_cons_succ]
      refine' wpAnyH_take (i := 7) (v := ?vr1_7) rfl (by kernel_rfl) (by kernel_rfl) (by kernel_rfl) (fun _ _ _ h => h) (Or.inl ⟨by rfl, ?hyr1_7⟩) (by assumption) ?restr1_7
      case hyr1_7 => (intro w hSw; (try dsimp only at hSw); go_simp; try (with_reducible rfl))
      simp only [Act.put, List.getElem_toArray, List.getElem_cons_succ, List.getElem_cons_zero, List.setIfInBounds_toArray, List.set_cons_zero, List.set_cons_succ]
      refine' wpAnyH_take (i := 8) (v := ?vr1_8) rfl (by kernel_rfl) (by kernel_rfl) (by kernel_rfl) (fun _ _ _ h => h) (Or.inl ⟨by rfl, ?hyr1_8⟩) (by assumption) ?restr1_8
      case hyr1_8 => (intro w hSw; (try dsimp only at hSw); go_simp; try (with_reducible rfl))
      simp only [Act.put, List.getElem_toArray, List.getElem_cons_succ, List.getElem_cons_zero, List.setIfInBounds_toArray, List.set_cons_zero, List.set_cons_succ]
      refine wpAnyH_ready (rs := [9]) (by kernel_rfl) (by simp) ?_
      refine AllReadyH.cons rfl (fun K hK => ?_) AllReadyH.nil
      go_simp
      refine (matrix_ax A n cap ts (some ⟨gS, oS, none⟩) m cs9 (unk ts) (plIds ts) ax k hlt W0.drew h0 h2 hg (Lib.hid (HLW.out.step (Below.refl _ _).drew)) (by omega) (Lib.hid (HSW.out.step (Below.refl _ _).drew)) HSO (Lib.hid rfl) HIN).mono ?_
      rintro e w1 ⟨A2, c2, P2, rfl, hM, b1⟩
      have HM2 := Lib.hid hM
      have HB2 := Lib.hid b1
      clear hM b1
      refine hK.out _ _ (sr_step hHeld (HB2.out.mono (by rw [← HBB.out]; exact Nat.le_refl _))) (fun hHeld1 => ?_)
      clear hK K hHeld
      have hHeld := hHeld1
      clear hHeld1
      try simp only [Act.put, List.getElem_toArray, List.getElem_cons_succ, List.getElem_cons_zero, List.setIfInBounds_toArray, List.set_cons_zero, List.set_cons_succ]
      refine wpAnyH_ready (rs := [10]) (by kernel_rfl) (by simp) ?_
      refine AllReadyH.cons rfl (fun K hK => ?_) AllReadyH.nil
      go_simp
      refine (det_any B A2 m c2 P2 _ d w1 (by omega) HDV HBD (Lib.hid (by rw [← HBB.out]; exact HM2.out))).mono ?_
      rintro e w2 ⟨rfl, b2⟩
      have HB3 := Lib.hid b2
      clear b2
      refine hK.out _ _ (sr_step hHeld HB3.out) (fun hHeld1 => ?_)
      clear hK K hHeld
      have hHeld := hHeld1
      clear hHeld1
      try simp only [Act.put, List.getElem_toArray, List.getElem_cons_succ, List.getElem_cons_zero, List.setIfInBounds_toArray, List.set_cons_zero, List.set_cons_succ]
      have HR3 := Lib.hid (((HRW.out.below (Below.refl _ _).drew HRW.out.lt).below HB2.out HRW.out.lt).below HB3.out hRB)
      have f3 := HR3.out.fro s
      have l3 := HR3.out.lt
      have d3 := HR3.out.at_ hs8
      refine' wpAnyH_take (i := 11) (v := ?vr1_11) rfl (by kernel_rfl) (by kernel_rfl) (by kernel_rfl) (fun _ _ _ h => h) (Or.inl ⟨by rfl, ?hyr1_11⟩) (by assumption) ?restr1_11
      case hyr1_11 => (intro w hSw; (try dsimp only at hSw); go_simp; try (with_reducible rfl))
      simp only [Act.put, List.getElem_toArray, List.getElem_cons_succ, List.getElem_cons_zero, List.setIfInBounds_toArray, List.set_cons_zero, List.set_cons_succ]
      refine wpAnyH_ready (rs := [12]) (by kernel_rfl) (by simp) ?_
      refine AllReadyH.cons rfl (fun K hK => ?_) AllReadyH.nil
      go_simp
      refine hK.out _ _ (sr_set hHeld _ _) (fun hHeld1 => ?_)
      clear hK K hHeld hHeld1
      try simp only [Act.put, List.getElem_toArray, List.getElem_cons_succ, List.getElem_cons_zero, List.setIfInBounds_toArray, List.set_cons_zero, List.set_cons_succ]
      refine wpAnyH_done (by kernel_rfl) ?_ _
      have HRF := Lib.hid ((HR3.out.set hs8 d).congr (g := fun s => if s ∈ (stN ts).take (k + 1) then XC ts ax s else 0) (fun j _ => by
        show (if j = s then d else if j ∈ (stN ts).take k then XC ts ax j else 0) = if j ∈ (stN ts).take (k + 1) then XC ts ax j else 0
        rw [HTK.out]
        by_cases q : j = s
        · rw [if_pos q, if_pos (List.mem_append_right _ (by rw [q]; simp)), q]; exact HD.out.symm
        · rw [if_neg q]
          by_cases q2 : j ∈ (stN ts).take k
          · rw [if_pos q2, if_pos (List.mem_append_left _ q2)]
          · rw [if_neg q2, if_neg (fun z => by rcases List.mem_append.1 z with y | y; exact q2 y; exact q (by simpa using y))]))
      have hsW := HBW.out.size
      have HBF := Lib.hid ((((HBW.out.trans (Below.refl _ _).drew).trans (HB2.out.mono (by simpa using hsW))).trans (HB3.out.mono (by rw [← HBB.out]; exact hsW))).setCell (p := ⟨R, s, none⟩) (by show w.heap.size ≤ R; rw [HRE.out]; exact Nat.le_refl _) (.int .i64 d))
      have HSF := Lib.hid (show IO (w2.setCell ⟨R, s, none⟩ (.int .i64 d)) (w2.setCell ⟨R, s, none⟩ (.int .i64 d)).heap.size (some ⟨gS, oS, none⟩) m (unk ts) from by
        have h9 := ((HSW.out.below (Below.refl _ _).drew).below HB2.out).below (HB3.out.mono (by rw [HBB.out]; exact Nat.le_refl _))
        have hz : B ≤ w2.heap.size := by
          have z1 := HB2.out.size
          have z2 := HB3.out.size
          have z3 : W0.drew.heap.size = B := HBB.out
          omega
        refine ⟨h9.1, fun q x hx => ?_⟩
        obtain ⟨g, o, e, hg9, hc⟩ := h9.2 q x hx
        refine ⟨g, o, e, ?_, ?_⟩
        · have : (w2.setCell ⟨R, s, none⟩ (.int .i64 d)).heap.size = w2.heap.size := by simp [World.setCell]
          rw [this]; have := HBB.out; omega
        · refine (World.cell?_setCell_other w2 _ _ _ (fun z => ?_)).trans hc
          injection z with z1 _
          injection e with e; injection e with e1 _
          exact hgR (by rw [e1]; exact z1.symm))
      clear HM2 HB2 HB3 HR3
      go_wp2_with fail
      go_roundw
      case rel => exact ⟨k + 1, by omega, by go_num, HRF.out, HSF.out, HBF.out⟩
      case measure => simp [intOf]; omega
    · have hkd : decide (k < m) = false := by simpa using hlt
      obtain rfl : k = m := by omega
      have HTA := Lib.hid (show (stN ts).take k = stN ts from List.take_of_length_le (by unfold stN; rw [List.length_map, HM.out]; exact Nat.le_refl _))
      have HRF := Lib.hid (HRQ.out.congr (g := XC ts ax) (fun j _ => by
        show (if j ∈ (stN ts).take k then XC ts ax j else 0) = XC ts ax j
        rw [HTA.out]
        by_cases q : j ∈ stN ts
        · rw [if_pos q]
        · rw [if_neg q, XC_out q]))
      have HFIN := Lib.hid (show wr.ownsRow w.heap.size 3 1 (.slice (some ⟨R, 0, none⟩) 8 8) (xcN ts ax).length (ints.intsV (xcN ts ax)) from by rw [xcN_len]; exact HRF.out.own (by rw [HRE.out]; exact Nat.le_refl _) (by decide))
      clear hlt
      go_wp2_with fail
      go_ret
      exact ⟨_, rfl, HFIN.out, HBQ.out⟩
end Go.Proofs.YtiimegmaokfpgabGreatDoor.ml

namespace Go.Proofs.YtiimegmaokfpgabGreatDoor.pg
open Go.RowKit
open reads base
set_option linter.unusedVariables false

/-- the columns of a set, the last one first -/
def cols (x : Nat) : List Nat := ((List.range 9).reverse).filter (fun i => x.testBit i)
set_option maxHeartbeats 4000000 in
theorem ones64 (x : Nat) (w : World) (h : x < 512) : Calls Tryz.prog 175 #[.int .u64 (x : Int)] w fun e w' => e = .returned (.int .i64 ((cols x).length : Nat)) ∧ w' = w := by
  go_enter Tryz.func175, Tryz.ntmps175
  go_wp2_with fail
  go_ret
  refine ⟨congrArg (fun z : Int => Ending.returned (Value.int .i64 z)) (?_ : (_ : Int) = _), rfl⟩
  revert h
  clear w
  revert x
  decide +kernel
theorem ones_any (x : Nat) (w : World) (h : x < 512) : Calls Tryz.prog 159 #[.int .u64 (x : Int)] w fun e w' => e = .returned (.int .i64 ((cols x).length : Nat)) ∧ w' = w := by
  go_enter Tryz.func159, Tryz.ntmps159
  go_wp2_with fail
  have x1 : IntKind.u64.wrap (x : Int) = (x : Int) := by
    show (x : Int) % 18446744073709551616 = x
    omega
  first | rw [x1] | skip
  refine (ones64 x _ h).mono ?_
  rintro e w1 ⟨rfl, rfl⟩
  go_wp2_with fail
  go_ret
  exact ⟨rfl, rfl⟩
end Go.Proofs.YtiimegmaokfpgabGreatDoor.pg

namespace Go.Proofs.YtiimegmaokfpgabGreatDoor.pg
open Go.RowKit
open reads base mt
set_option linter.unusedVariables false
set_option linter.unusedSimpArgs false

theorem or_is : ∀ T : Nat, T < 512 → ∀ c : Nat, c < 9 → bits BinOp.or IntKind.u64 (T : Int) (IntKind.u64.wrap (2 ^ c)) = ((T ||| 2 ^ c : Nat) : Int) := by decide +kernel
theorem or_lt : ∀ T : Nat, T < 512 → ∀ c : Nat, c < 9 → T ||| 2 ^ c < 512 := by decide +kernel
theorem or_eq : ∀ T : Nat, T < 512 → ∀ c : Nat, c < 9 → (T ||| 2 ^ c = T ↔ T.testBit c = true) := by decide +kernel
theorem shr_is : ∀ T : Nat, T < 512 → ∀ c : Nat, c < 9 → ((T : Int) / 2 ^ c) = ((T / 2 ^ c : Nat) : Int) := fun T _ c _ => by
  rw [Int.natCast_ediv]; congr 1
/-- the factor with its sign -/
def sgf (T c : Nat) (x : Int) : Int := if (cols (T / 2 ^ c)).length % 2 = 1 then -x else x
/-- one column -/
def em1 (f : Nat → Int) (T c : Nat) (mn : Nat → Int) : Nat → Int :=
  if f c = 0 ∨ T ||| 2 ^ c = T then mn else upd mn (T ||| 2 ^ c) (wrap64 (mn (T ||| 2 ^ c) + wrap64 (sgf T c (f c) * mn T)))
def em (f : Nat → Int) (T : Nat) : Nat → (Nat → Int) → Nat → Int
  | 0, mn => mn
  | c + 1, mn => em1 f T c (em f T c mn)
def EPo (R : Nat) (mn : Nat → Int) (w : World) (e : Ending) (w' : World) : Prop := e = .returned (.tuple #[]) ∧ RwB w' R 512 mn ∧ w.grownBy w' (some R)
theorem grown_refl (w : World) (r : Option Nat) : w.grownBy w r := ⟨rfl, rfl, rfl, Nat.le_refl _, fun _ _ _ => rfl⟩
theorem grown_drew {w v : World} {r : Option Nat} (h : w.grownBy v r) : w.grownBy v.drew r := ⟨h.os, h.tape, h.output, h.size, h.block⟩
set_option maxHeartbeats 8000000 in
set_option maxRecDepth 100000 in
theorem expand_any (p R : Nat) (T : Nat) (f : Nat → Int) (mn : Nat → Int) (w : World) (hT : T < 512) (hf : Hid (∀ c, -10000 ≤ f c ∧ f c ≤ 10000)) (hr : Hid (RwB w p 9 f)) (hm : Hid (RwB w R 512 mn)) (hne : p ≠ R) :
    Calls Tryz.prog 160 #[.slice (some ⟨p, 0, none⟩) 9 9, .int .u64 (T : Int), .slice (some ⟨R, 0, none⟩) 512 512] w (EPo R (em f T 9 mn) w) := by
  go_enter Tryz.func160, Tryz.ntmps160
  go_wp2_with fail
  go_loopw [11] (fun i wr => ∃ c : Nat, c ≤ 9 ∧ i = .int .i64 (c : Nat) ∧ RwB wr R 512 (em f T c mn) ∧ w.grownBy wr (some R)) (fun i _ => 9 - (intOf i).toNat)
  case atStart => exact ⟨0, by omega, rfl, hm.out, grown_refl _ _⟩
  case round =>
    obtain ⟨c, hc, rfl, hM, hG⟩ := hrel
    have HM := Lib.hid hM
    have HG := Lib.hid hG
    have HP := Lib.hid (Blk.grown hr.out hG (by intro e; injection e with e; exact hne e))
    clear hM hG
    have hc0 : (0 : Int) ≤ (c : Int) := by omega
    by_cases hlt : c < 9
    · have hci : (c : Int) < 9 := by omega
      have d1 := RwB.at_ (f := f) HP.out hlt
      have o1 := or_is T hT c hlt
      obtain ⟨L, HL⟩ : ∃ L, Hid (T ||| 2 ^ c = L) := ⟨_, Lib.hid rfl⟩
      rw [HL.out] at o1
      have hL : L < 512 := by rw [← HL.out]; exact or_lt T hT c hlt
      obtain ⟨x, HX⟩ : ∃ x, Hid (f c = x) := ⟨_, Lib.hid rfl⟩
      have hxb := hf.out c
      rw [HX.out] at d1 hxb
      by_cases hz : x = 0
      · have HN := Lib.hid (show em f T (c + 1) mn = em f T c mn from if_pos (.inl (by rw [HX.out]; exact hz)))
        subst hz
        go_wp2_with fail
        go_roundw
        case rel => exact ⟨c + 1, by omega, by go_num, by rw [HN.out]; exact HM.out, HG.out⟩
        case measure => simp [intOf]; omega
      · have hz1 : (x == 0) = false := by simpa using hz
        by_cases hb : L = T
        · have HN := Lib.hid (show em f T (c + 1) mn = em f T c mn from if_pos (.inr (by rw [HL.out]; exact hb)))
          subst hb
          go_wp2_with fail
          go_roundw
          case rel => exact ⟨c + 1, by omega, by go_num, by rw [HN.out]; exact HM.out, HG.out⟩
          case measure => simp [intOf]; omega
        · have hb1 : ((L : Int) == (T : Int)) = false := by simp; omega
          have hb2 : ¬ (L : Int) = (T : Int) := by omega
          obtain ⟨s, HS⟩ : ∃ s, Hid (sgf T c x = s) := ⟨_, Lib.hid rfl⟩
          have HN := Lib.hid (show em f T (c + 1) mn = upd (em f T c mn) L (wrap64 (em f T c mn L + wrap64 (s * em f T c mn T))) by
            show em1 f T c (em f T c mn) = _
            unfold em1
            rw [if_neg (by rw [HX.out, HL.out]; exact fun q => q.elim hz hb), HL.out, HX.out, HS.out])
          have HZ := Lib.hid hz
          have s1 := shr_is T hT c hlt
          obtain ⟨Q, HQ⟩ : ∃ Q, Hid (T / 2 ^ c = Q) := ⟨_, Lib.hid rfl⟩
          rw [HQ.out] at s1
          have hQ : Q < 512 := by rw [← HQ.out]; exact Nat.lt_of_le_of_lt (Nat.div_le_self _ _) hT
          obtain ⟨K, HK⟩ : ∃ K, Hid ((cols Q).length = K) := ⟨_, Lib.hid rfl⟩
          have k1 : (K : Int).tmod 2 = ((K % 2 : Nat) : Int) := rfl
          have k2 : IntKind.i64.wrap ((K % 2 : Nat) : Int) = ((K % 2 : Nat) : Int) := IntWalk.i64_in _ (by omega)
          have m1 := HM.out.at_ hL
          have m2 := HM.out.at_ (j := T) hT
          have f1 := HM.out.fro L
          have lR := HM.out.lt
          have hLi : (L : Int) < 512 := by omega
          have hL0 : (0 : Int) ≤ (L : Int) := by omega
          have hTi : (T : Int) < 512 := by omega
          have hT0 : (0 : Int) ≤ (T : Int) := by omega
          obtain ⟨ml, HML⟩ : ∃ q, Hid (em f T c mn L = q) := ⟨_, Lib.hid rfl⟩
          obtain ⟨mt', HMT⟩ : ∃ q, Hid (em f T c mn T = q) := ⟨_, Lib.hid rfl⟩
          rw [HML.out] at m1
          rw [HMT.out] at m2
          rw [HML.out, HMT.out] at HN
          have HMN := Lib.hid (HM.out.set hL (wrap64 (ml + wrap64 (s * mt'))))
          have HGN := Lib.hid (grown_drew (grown_set HG.out L (.int .i64 (wrap64 (ml + wrap64 (s * mt'))))))
          have xn : IntKind.i64.wrap (-x) = -x := IntWalk.i64_in _ (by omega)
          have HKT := Lib.hid (show (if K % 2 = 1 then -x else x) = s by rw [← HS.out]; unfold sgf; rw [HQ.out, HK.out])
          clear HX HL HQ HS HML HMT
          go_wp2_with fail
          refine (ones_any Q _ hQ).mono ?_
          rintro e w1 ⟨rfl, rfl⟩
          rw [HK.out]
          clear HK
          by_cases hk : K % 2 = 1
          · obtain rfl : s = -x := by rw [← HKT.out, if_pos hk]
            rw [hk] at k1 k2
            clear hk HKT
            go_upto_region 7 with fail
            refine wp_region_still_tail 12 (by kernel_rfl) (by kernel_rfl) ?_
            simp only [List.take_succ_cons, List.take_zero, List.drop_succ_cons, List.drop_zero]
            repeat still_step
            refine wpStill_nil ?_
            change wpList _ _ _ _ _ w1.drew
            go_wp2_with fail
            go_roundw
            case rel => exact ⟨c + 1, by omega, by go_num, by rw [HN.out]; exact Blk.drew HMN.out, HGN.out⟩
            case measure => simp [intOf]; omega
          · obtain rfl : s = x := by rw [← HKT.out, if_neg hk]
            have hk0 : K % 2 = 0 := by omega
            rw [hk0] at k1 k2
            clear hk HKT hk0
            go_upto_region 7 with fail
            refine wp_region_still_tail 12 (by kernel_rfl) (by kernel_rfl) ?_
            simp only [List.take_succ_cons, List.take_zero, List.drop_succ_cons, List.drop_zero]
            repeat still_step
            refine wpStill_nil ?_
            change wpList _ _ _ _ _ w1.drew
            go_wp2_with fail
            go_roundw
            case rel => exact ⟨c + 1, by omega, by go_num, by rw [HN.out]; exact Blk.drew HMN.out, HGN.out⟩
            case measure => simp [intOf]; omega
    · have hcd : ¬ (c : Int) < 9 := by omega
      obtain rfl : c = 9 := by omega
      clear hlt
      go_wp2_with fail
      refine bodyPost_ret (v := .tuple #[]) (by simp [results, Tryz.results160, go_sem]) rfl ⟨rfl, HM.out, HG.out⟩
end Go.Proofs.YtiimegmaokfpgabGreatDoor.pg

namespace Go.Proofs.YtiimegmaokfpgabGreatDoor.pg
open Go.RowKit
open reads base mt rowi
set_option linter.unusedVariables false
set_option linter.unusedSimpArgs false

/-- the determinants behind the first sets -/
def ms (M : Nat → Nat → Int) : Nat → Nat → Int
  | 0 => upd (fun _ => 0) 0 1
  | s + 1 => if ms M s s = 0 ∨ 8 ≤ (cols s).length then ms M s else em (M (cols s).length) s 9 (ms M s)
def FPo (f : Nat → Int) (w : World) (e : Ending) (w' : World) : Prop :=
  ∃ R, e = .returned (.slice (some ⟨R, 0, none⟩) 512 512) ∧ RwB w' R 512 f ∧ w.heap.size ≤ R ∧ Below w.heap.size w w'
theorem mx_grown {w v : World} {b n c m R : Nat} {A : Option Addr} {P : Nat → Nat} {M : Nat → Nat → Int} (h : MxB w b A n c m P M) (hg : w.grownBy v (some R)) (hR : w.heap.size ≤ R ∨ (∀ i, i < n → P i ≠ R) ∧ (Value.slice A n c).ownBlock ≠ some R) : MxB v b A n c m P M := by
  have h2 : (∀ i, i < n → P i ≠ R) ∧ (Value.slice A n c).ownBlock ≠ some R := by
    rcases hR with q | q
    · refine ⟨fun i hi => ?_, fun e => ?_⟩
      · have := (h.2.1 i hi).1.lt; omega
      · have := (h.1.lt R e).2; omega
    · exact q
  exact ⟨h.1.kept hg (.inr h2.2), fun i hi => ⟨Blk.grown (h.2.1 i hi).1 hg (fun e => h2.1 i hi (by injection e)), (h.2.1 i hi).2⟩, h.2.2⟩
set_option maxHeartbeats 8000000 in
set_option maxRecDepth 100000 in
theorem minors_any (b : Nat) (A : Option Addr) (c : Nat) (P : Nat → Nat) (M : Nat → Nat → Int) (w : World) (hb : Hid (∀ i j, -10000 ≤ M i j ∧ M i j ≤ 10000)) (hM : Hid (MxB w b A 8 c 9 P M)) :
    Calls Tryz.prog 134 #[.slice A 8 c] w (FPo (ms M 512) w) := by
  obtain ⟨i0, hi, hz0, hz1, hz2⟩ := info_parts infoI
  have hmk : ∀ W : World, (Instr.makeSlice 27 (.int .i64 512) (.int .i64 512)).run Tryz.prog W = .ok (.slice (some ⟨W.heap.size, 0, none⟩) 512 512) (W.alloc (.cells (cs1 512 (fun _ => 0)) 3)) := fun W => by
    have h := run_make_rowN (P := Tryz.prog) 27 3 i0 _ Tryz.underlying27 hi hz0 .i64 .i64 512 512 (Nat.le_refl _) (by rw [hz2]; omega) (by omega) W
    rw [hz1] at h
    rw [← cs1_zero]
    exact h
  obtain ⟨g, rfl, hgb, hgl, htc, htf⟩ := hM.out.top (show 0 < 8 by omega)
  have t0 := htc 0 (by omega)
  clear htc htf
  obtain ⟨R, HRE⟩ : ∃ q, Hid (w.heap.size = q) := ⟨_, Lib.hid rfl⟩
  have HR0 := Lib.hid (Blk.new w 3 (cs1 512 (fun _ => 0)))
  have HB0 := Lib.hid ((Below.refl w.heap.size w).alloc (Nat.le_refl _) (.cells (cs1 512 (fun _ => 0)) 3))
  have HM0 := Lib.hid (hM.out.step HB0.out)
  have q0 : (w.alloc (.cells (cs1 512 (fun _ => 0)) 3)).frozen? ⟨w.heap.size, 0, none⟩ = false := HR0.out.frozen 0
  have q1 : (w.alloc (.cells (cs1 512 (fun _ => 0)) 3)).cell? ⟨w.heap.size, 0, none⟩ = some (.int .i64 0) := RwB.at_ (f := fun _ => 0) HR0.out (by omega)
  have HR1 := Lib.hid (show RwB (w.alloc (.cells ((cs1 512 (fun _ => 0)).setIfInBounds 0 (.int .i64 1)) 3)) w.heap.size 512 (ms M 0) from by
    have h := Blk.new w 3 ((cs1 512 (fun _ => 0)).setIfInBounds 0 (.int .i64 1))
    rw [cs1_set _ _ (by omega)] at h ⊢
    exact h)
  have HB1 := Lib.hid ((Below.refl w.heap.size w).alloc (Nat.le_refl _) (.cells ((cs1 512 (fun _ => 0)).setIfInBounds 0 (.int .i64 1)) 3))
  have HM1 := Lib.hid (hM.out.step HB1.out)
  have HNE := Lib.hid (show (∀ i, i < 8 → P i ≠ w.heap.size) ∧ (Value.slice (some ⟨g, 0, none⟩) 8 c).ownBlock ≠ some w.heap.size from ⟨fun i hi9 => by have := (hM.out.row hi9).2.2.2; omega, fun e => by have := (hM.out.1.lt _ e).2; omega⟩)
  rw [HRE.out] at HR1 HNE
  clear HR0 HB0 HM0
  go_enter Tryz.func134, Tryz.ntmps134
  go_wp2_with fail
  try simp only [HRE.out]
  go_loopw [16] (fun i wr => ∃ s : Nat, s ≤ 512 ∧ i = .int .i64 (s : Nat) ∧ RwB wr R 512 (ms M s) ∧ MxB wr b (some ⟨g, 0, none⟩) 8 c 9 P M ∧ Below w.heap.size w wr) (fun i _ => 512 - (intOf i).toNat)
  case atStart => exact ⟨0, by omega, rfl, HR1.out, HM1.out, HB1.out⟩
  case round =>
    obtain ⟨s, hs, rfl, hR, hMM, hB⟩ := hrel
    have HR := Lib.hid hR
    have HMM := Lib.hid hMM
    have HB := Lib.hid hB
    clear hR hMM hB HR1 HM1 HB1 t0 q0 q1
    have hs0 : (0 : Int) ≤ (s : Int) := by omega
    by_cases hlt : s < 512
    · have hsi : (s : Int) < 512 := by omega
      have x1 : IntKind.u64.wrap (s : Int) = (s : Int) := by
        show (s : Int) % 18446744073709551616 = s
        omega
      have d1 := HR.out.at_ hlt
      obtain ⟨ml, HML⟩ : ∃ q, Hid (ms M s s = q) := ⟨_, Lib.hid rfl⟩
      obtain ⟨K, HK⟩ : ∃ q, Hid ((cols s).length = q) := ⟨_, Lib.hid rfl⟩
      rw [HML.out] at d1
      go_wp2_with fail
      refine (ones_any s _ hlt).mono ?_
      rintro e w1 ⟨rfl, rfl⟩
      rw [HK.out]
      by_cases hz : ml = 0
      · have HN := Lib.hid (show ms M (s + 1) = ms M s from if_pos (.inl (by rw [HML.out]; exact hz)))
        subst hz
        go_wp2_with fail
        go_roundw
        case rel => exact ⟨s + 1, by omega, by go_num, by rw [HN.out]; exact HR.out, HMM.out, HB.out⟩
        case measure => simp [intOf]; omega
      · have hz1 : (ml == 0) = false := by simpa using hz
        by_cases hk : K < 8
        · have HN := Lib.hid (show ms M (s + 1) = em (M K) s 9 (ms M s) by
            show (if ms M s s = 0 ∨ 8 ≤ (cols s).length then _ else _) = _
            rw [if_neg (by rw [HML.out, HK.out]; exact fun q => q.elim hz (by omega)), HK.out])
          have hki : (K : Int) < 8 := by omega
          have hkd : decide (K < 8) = true := by simpa using hk
          have hk0 : (0 : Int) ≤ (K : Int) := by omega
          obtain ⟨g', eg, -, lg, htc, htf⟩ := HMM.out.top (show 0 < 8 by omega)
          obtain rfl : g = g' := by injection eg with eg; injection eg
          have tk := htc K hk
          have HP := Lib.hid ((HMM.out.2.1 K hk).1)
          clear eg htc htf HML
          go_wp2_with fail
          refine (expand_any (P K) R s (M K) (ms M s) _ hlt (Lib.hid (hb.out K)) HP HR (HNE.out.1 K hk)).mono ?_
          rintro e w2 ⟨rfl, hR2, hG2⟩
          have HR2 := Lib.hid (show RwB w2 R 512 (ms M (s + 1)) by rw [HN.out]; exact hR2)
          have HMM2 := Lib.hid (mx_grown HMM.out hG2 (.inr HNE.out))
          have HB2 := Lib.hid (HB.out.grown hG2 HB.out.size (fun k e => by injection e with e; rw [← e, ← HRE.out]; exact Nat.le_refl _))
          clear hR2 hG2 HR HMM HB HP tk d1 lg
          go_wp2_with fail
          go_roundw
          case rel => exact ⟨s + 1, by omega, by go_num, HR2.out, HMM2.out, HB2.out⟩
          case measure => simp [intOf]; omega
        · have HN := Lib.hid (show ms M (s + 1) = ms M s from if_pos (.inr (by rw [HK.out]; omega)))
          have hki : ¬ (K : Int) < 8 := by omega
          have hkd : decide (K < 8) = false := by simpa using hk
          go_wp2_with fail
          go_roundw
          case rel => exact ⟨s + 1, by omega, by go_num, by rw [HN.out]; exact HR.out, HMM.out, HB.out⟩
          case measure => simp [intOf]; omega
    · have hcd : ¬ (s : Int) < 512 := by omega
      obtain rfl : s = 512 := by omega
      clear hlt
      go_wp2_with fail
      go_ret
      exact ⟨R, rfl, HR.out, by rw [HRE.out]; exact Nat.le_refl _, HB.out⟩
end Go.Proofs.YtiimegmaokfpgabGreatDoor.pg

namespace Go.Proofs.YtiimegmaokfpgabGreatDoor.dt
open Go.RowKit
open pg mt
set_option linter.unusedVariables false

/-! numbers that go round -/
def Cg (a b : Int) : Prop := ∃ k : Int, a = b + k * 18446744073709551616
theorem cg_refl (a : Int) : Cg a a := ⟨0, by omega⟩
theorem Cg.symm {a b : Int} (h : Cg a b) : Cg b a := by
  obtain ⟨k, e⟩ := h
  exact ⟨-k, by omega⟩
theorem Cg.trans {a b c : Int} (h : Cg a b) (g : Cg b c) : Cg a c := by
  obtain ⟨k, e⟩ := h
  obtain ⟨l, f⟩ := g
  exact ⟨k + l, by omega⟩
theorem Cg.add {a b c d : Int} (h : Cg a b) (g : Cg c d) : Cg (a + c) (b + d) := by
  obtain ⟨k, e⟩ := h
  obtain ⟨l, f⟩ := g
  exact ⟨k + l, by omega⟩
theorem Cg.mul {a b : Int} (c : Int) (h : Cg a b) : Cg (c * a) (c * b) := by
  obtain ⟨k, e⟩ := h
  exact ⟨c * k, by rw [e]; grind⟩
theorem cg_wrap (x : Int) : Cg (wrap64 x) x := by
  have h : wrap64 x = (x + 9223372036854775808) % 18446744073709551616 - 9223372036854775808 := by kernel_rfl
  refine ⟨-((x + 9223372036854775808) / 18446744073709551616), ?_⟩
  rw [h]
  have := Int.emod_add_mul_ediv (x + 9223372036854775808) 18446744073709551616
  omega
theorem Cg.eq {a b : Int} (h : Cg a b) (h1 : -9223372036854775808 ≤ a) (h2 : a < 9223372036854775808) (h3 : -9223372036854775808 ≤ b) (h4 : b < 9223372036854775808) : a = b := by
  obtain ⟨k, e⟩ := h
  have : k = 0 := by omega
  rw [this] at e; omega

/-! an expansion as a sum over the columns -/
theorem ex_sum (r : Rw) : ∀ (cs : List Nat) (f : List Nat → Int), cs.Nodup → ex r f cs = (cs.map (fun c => sg (cs.idxOf c) * r c * f (cs.erase c))).sum
  | [], f, h => rfl
  | a :: cs, f, h => by
    have hn := List.nodup_cons.1 h
    simp only [ex, List.map_cons, List.sum_cons]
    rw [ex_sum r cs _ hn.2]
    have e : (cs.map (fun c => sg ((a :: cs).idxOf c) * r c * f ((a :: cs).erase c))).sum = (cs.map (fun c => (-1) * (sg (cs.idxOf c) * r c * f (a :: cs.erase c)))).sum := sum_congr (fun c hc => by
      have hac : ¬ a = c := fun q => hn.1 (by rw [q]; exact hc)
      have hb : (a == c) = false := by simpa using hac
      rw [List.idxOf_cons, List.erase_cons]
      simp only [hb, cond_false, if_false, Bool.false_eq_true]
      rw [sg_succ]; grind)
    rw [e, sum_mul, List.idxOf_cons_self, List.erase_cons_head, sg_zero, Int.one_mul]; omega

/-! sets of columns as numbers -/
/-- a set without a column -/
def wo (S c : Nat) : Nat := S ^^^ 2 ^ c
theorem wo_facts : ∀ S : Nat, S < 512 → ∀ c ∈ cols S, wo S c < S ∧ cols (wo S c) = (cols S).erase c ∧ wo S c ||| 2 ^ c = S ∧ (cols (wo S c / 2 ^ c)).length = (cols S).idxOf c ∧ (cols (wo S c)).length + 1 = (cols S).length ∧ c < 9 := by decide +kernel
theorem put_facts : ∀ T : Nat, T < 512 → ∀ c : Nat, c < 9 → T ||| 2 ^ c = T ∨ (wo (T ||| 2 ^ c) c = T ∧ c ∈ cols (T ||| 2 ^ c) ∧ T ||| 2 ^ c < 512 ∧ T < T ||| 2 ^ c) := by decide +kernel
theorem same_facts : ∀ S : Nat, S < 512 → ∀ c ∈ cols S, wo S c ||| 2 ^ c ≠ wo S c := by decide +kernel
theorem cols_nodup : ∀ S : Nat, S < 512 → (cols S).Nodup := by decide +kernel
theorem cols_full : ∀ S : Nat, S < 512 → ((cols S).length ≤ 8 ∨ S = 511) ∧ ((cols S).length = 0 ↔ S = 0) := by decide +kernel
/-- the determinant of a set of columns -/
def VV (R : Nat → Rw) (S : Nat) : Int := dt ((rv (cols S).length).map R) (cols S)
/-- one part of it -/
def tm (R : Nat → Rw) (S c : Nat) : Int := sg ((cols S).idxOf c) * R ((cols S).length - 1) c * VV R (wo S c)
/-- the parts that come from sets ahead of s, or from s and columns ahead of c -/
def Pt (R : Nat → Rw) (S s c0 : Nat) : Int := ((cols S).map (fun c => if wo S c < s ∨ wo S c = s ∧ c < c0 then tm R S c else 0)).sum
theorem pt_all {R : Nat → Rw} {S s : Nat} (hS : S < 512) (h0 : S ≠ 0) (hs : S ≤ s) : Pt R S s 0 = VV R S := by
  unfold Pt VV
  have hl : 0 < (cols S).length := Nat.pos_of_ne_zero (fun e => h0 ((cols_full S hS).2.1 e))
  obtain ⟨k, hk⟩ : ∃ k, (cols S).length = k + 1 := ⟨(cols S).length - 1, by omega⟩
  rw [hk, rv_succ, List.map_cons, dt_cons, ex_sum _ _ _ (cols_nodup S hS)]
  refine sum_congr (fun c hc => ?_)
  obtain ⟨h1, h2, -, -, h5, -⟩ := wo_facts S hS c hc
  rw [if_pos (.inl (by omega))]
  unfold tm VV
  rw [h2, hk, show (cols S).erase c = cols (wo S c) from h2.symm]
  have e : (cols (wo S c)).length = k := by omega
  rw [e]; rfl
theorem pt_next {R : Nat → Rw} {S s : Nat} (hS : S < 512) : Pt R S s 9 = Pt R S (s + 1) 0 := by
  unfold Pt
  refine sum_congr (fun c hc => ?_)
  have h9 := (wo_facts S hS c hc).2.2.2.2.2
  by_cases q : wo S c < s ∨ wo S c = s ∧ c < 9
  · rw [if_pos q, if_pos (.inl (by omega))]
  · rw [if_neg q, if_neg (by omega)]
theorem pt_other {R : Nat → Rw} {S s c0 : Nat} (hS : S < 512) (h : ∀ c ∈ cols S, ¬ (wo S c = s ∧ c = c0)) : Pt R S s (c0 + 1) = Pt R S s c0 := by
  unfold Pt
  refine sum_congr (fun c hc => ?_)
  have := h c hc
  by_cases q : wo S c < s ∨ wo S c = s ∧ c < c0
  · rw [if_pos q, if_pos (by omega)]
  · rw [if_neg q, if_neg (by omega)]
theorem pt_this {R : Nat → Rw} {S s c0 : Nat} (hS : S < 512) (hc0 : c0 ∈ cols S) (h : wo S c0 = s) : Pt R S s (c0 + 1) = Pt R S s c0 + tm R S c0 := by
  unfold Pt
  have hn := cols_nodup S hS
  obtain ⟨u, v, e⟩ := List.append_of_mem hc0
  have same : ∀ l : List Nat, c0 ∉ l → (∀ c ∈ l, c ∈ cols S) → (l.map (fun c => if wo S c < s ∨ wo S c = s ∧ c < c0 + 1 then tm R S c else 0)).sum = (l.map (fun c => if wo S c < s ∨ wo S c = s ∧ c < c0 then tm R S c else 0)).sum := fun l hl _ => sum_congr (fun c hc => by
    have : c ≠ c0 := fun q => hl (by rw [← q]; exact hc)
    by_cases q : wo S c < s ∨ wo S c = s ∧ c < c0
    · rw [if_pos q, if_pos (by omega)]
    · rw [if_neg q, if_neg (by omega)])
  rw [e] at hn
  have n1 := List.nodup_append.1 hn
  have hu : c0 ∉ u := fun q => n1.2.2 c0 q c0 (List.mem_cons_self ..) rfl
  have hv : c0 ∉ v := (List.nodup_cons.1 n1.2.1).1
  have e1 : ((cols S).map (fun c => if wo S c < s ∨ wo S c = s ∧ c < c0 + 1 then tm R S c else 0)).sum = (u.map (fun c => if wo S c < s ∨ wo S c = s ∧ c < c0 + 1 then tm R S c else 0)).sum + (tm R S c0 + (v.map (fun c => if wo S c < s ∨ wo S c = s ∧ c < c0 + 1 then tm R S c else 0)).sum) := by
    rw [e, List.map_append, List.sum_append, List.map_cons, List.sum_cons, if_pos (.inr ⟨h, by omega⟩)]
  have e2 : ((cols S).map (fun c => if wo S c < s ∨ wo S c = s ∧ c < c0 then tm R S c else 0)).sum = (u.map (fun c => if wo S c < s ∨ wo S c = s ∧ c < c0 then tm R S c else 0)).sum + (0 + (v.map (fun c => if wo S c < s ∨ wo S c = s ∧ c < c0 then tm R S c else 0)).sum) := by
    rw [e, List.map_append, List.sum_append, List.map_cons, List.sum_cons, if_neg (by omega)]
  rw [e1, e2, same u hu (fun c hc => by rw [e]; exact List.mem_append_left _ hc), same v hv (fun c hc => by rw [e]; exact List.mem_append_right _ (List.mem_cons_of_mem _ hc))]
  omega
/-- what the array holds -/
def MI (R : Nat → Rw) (s c0 : Nat) (mn : Nat → Int) : Prop := mn 0 = 1 ∧ ∀ S, S < 511 → S ≠ 0 → Cg (mn S) (Pt R S s c0)
theorem mi_em {R : Nat → Rw} {s : Nat} {mn : Nat → Int} (hs : s < 512) (hv : Cg (mn s) (VV R s)) (h : MI R s 0 mn) : ∀ c0, c0 ≤ 9 → MI R s c0 (em (R (cols s).length) s c0 mn) ∧ (em (R (cols s).length) s c0 mn) s = mn s
  | 0, _ => ⟨h, rfl⟩
  | c0 + 1, hc => by
    obtain ⟨⟨i0, ih⟩, is⟩ := mi_em hs hv h c0 (by omega)
    have e : em (R (cols s).length) s (c0 + 1) mn = em1 (R (cols s).length) s c0 (em (R (cols s).length) s c0 mn) := rfl
    obtain ⟨m, hm⟩ : ∃ m, m = em (R (cols s).length) s c0 mn := ⟨_, rfl⟩
    rw [← hm] at i0 ih is e
    rw [e]
    unfold em1
    rcases put_facts s hs c0 (by omega) with hb | ⟨p1, p2, p3, p4⟩
    · rw [if_pos (.inr hb)]
      refine ⟨⟨i0, fun S h1 h2 => ?_⟩, is⟩
      rw [pt_other (by omega) (fun c hc9 q => same_facts S (by omega) c hc9 (by rw [q.1, q.2]; exact hb))]
      exact ih S h1 h2
    · obtain ⟨L, hL⟩ : ∃ L, L = s ||| 2 ^ c0 := ⟨_, rfl⟩
      rw [← hL] at p1 p2 p3 p4 ⊢
      have only : ∀ S, S < 512 → S ≠ L → ∀ c ∈ cols S, ¬ (wo S c = s ∧ c = c0) := fun S h1 h2 c hc9 q => h2 (by
        have := (wo_facts S h1 c hc9).2.2.1
        rw [q.1, q.2] at this
        rw [hL]; exact this.symm)
      obtain ⟨-, -, -, w4, w5, -⟩ := wo_facts L p3 c0 p2
      have ht : tm R L c0 = sgf s c0 (R (cols s).length c0) * VV R s := by
        unfold tm sgf
        rw [p1] at w4 w5 ⊢
        rw [show (cols L).length - 1 = (cols s).length by omega, ← w4]
        unfold sg
        split <;> simp
      by_cases hf : R (cols s).length c0 = 0
      · rw [if_pos (.inl hf)]
        refine ⟨⟨i0, fun S h1 h2 => ?_⟩, is⟩
        by_cases q : S = L
        · rw [q, pt_this p3 p2 p1, ht, hf, ← q]
          have : sgf s c0 0 = 0 := by unfold sgf; split <;> rfl
          rw [this, Int.zero_mul, Int.add_zero]
          exact ih S h1 h2
        · rw [pt_other (by omega) (only S (by omega) q)]; exact ih S h1 h2
      · rw [if_neg (fun q => q.elim hf (fun z => by omega))]
        refine ⟨⟨?_, fun S h1 h2 => ?_⟩, ?_⟩
        · show upd m L _ 0 = 1
          unfold upd; rw [if_neg (by omega)]; exact i0
        · by_cases q : S = L
          · rw [q, pt_this p3 p2 p1, ht]
            show Cg (upd m L _ L) _
            unfold upd; rw [if_pos rfl]
            refine (cg_wrap _).trans (Cg.add (by rw [← q]; exact ih S h1 h2) ((cg_wrap _).trans (Cg.mul _ ?_)))
            rw [is]; exact hv
          · rw [pt_other (by omega) (only S (by omega) q)]
            show Cg (upd m L _ S) _
            unfold upd; rw [if_neg q]; exact ih S h1 h2
        · show upd m L _ s = mn s
          unfold upd; rw [if_neg (by omega)]; exact is
theorem mi_ms (R : Nat → Rw) : ∀ s, s ≤ 511 → MI R s 0 (ms R s)
  | 0, _ => by
    refine ⟨rfl, fun S h1 h2 => ?_⟩
    have e : Pt R S 0 0 = 0 := by
      unfold Pt
      have : ((cols S).map (fun c => if wo S c < 0 ∨ wo S c = 0 ∧ c < 0 then tm R S c else 0)).sum = ((cols S).map (fun c => 0 * (0 : Int))).sum := sum_congr (fun c _ => by rw [if_neg (by omega)]; rfl)
      rw [this, sum_mul]; omega
    rw [e]
    show Cg (upd (fun _ => 0) 0 1 S) 0
    unfold upd; rw [if_neg h2]; exact cg_refl 0
  | s + 1, hs => by
    have ih := mi_ms R s (by omega)
    have hv : Cg (ms R s s) (VV R s) := by
      by_cases q : s = 0
      · rw [q] at ih ⊢
        rw [ih.1]
        have : VV R 0 = 1 := by
          have e0 : cols 0 = [] := by decide
          unfold VV; rw [e0]; rfl
        rw [this]; exact cg_refl 1
      · have := ih.2 s (by omega) q
        rw [pt_all (by omega) q (Nat.le_refl _)] at this; exact this
    show MI R (s + 1) 0 (if ms R s s = 0 ∨ 8 ≤ (cols s).length then _ else _)
    by_cases hz : ms R s s = 0 ∨ 8 ≤ (cols s).length
    · rw [if_pos hz]
      refine ⟨ih.1, fun S h1 h2 => ?_⟩
      rw [← pt_next (by omega)]
      -- all parts that come from s are nothing, or there are none
      have key : ∀ c0, c0 ≤ 9 → Cg (Pt R S s 0) (Pt R S s c0) := by
        intro c0
        induction c0 with
        | zero => intro _; exact cg_refl _
        | succ c0 ih9 =>
          intro hc
          have i9 := ih9 (by omega)
          by_cases q : c0 ∈ cols S ∧ wo S c0 = s
          · rw [pt_this (by omega) q.1 q.2]
            have hv0 : ms R s s = 0 := by
              rcases hz with z | z
              · exact z
              · have w5 := (wo_facts S (by omega) c0 q.1).2.2.2.2.1
                rw [q.2] at w5
                rcases (cols_full S (by omega)).1 with y | y <;> omega
            rw [hv0] at hv
            have ht : Cg 0 (tm R S c0) := by
              unfold tm
              rw [q.2]
              have := Cg.mul (sg ((cols S).idxOf c0) * R ((cols S).length - 1) c0) hv
              rwa [Int.mul_zero] at this
            have := i9.add ht
            rwa [Int.add_zero] at this
          · rw [pt_other (by omega) (fun c hc9 z => q ⟨by rw [← z.2]; exact hc9, by rw [← z.2]; exact z.1⟩)]
            exact i9
      exact (ih.2 S h1 h2).trans (key 9 (by omega))
    · rw [if_neg hz]
      have := (mi_em (by omega) hv ih 9 (by omega)).1
      refine ⟨this.1, fun S h1 h2 => ?_⟩
      rw [← pt_next (by omega)]
      exact this.2 S h1 h2
/-- THE ARRAY's ENTRIES ARE THE DETERMINANTS -/
theorem ms_VV (R : Nat → Rw) {S : Nat} (hS : S < 511) (h0 : S ≠ 0) : Cg (ms R 512 S) (VV R S) := by
  have h := (mi_ms R 511 (by omega)).2 S hS h0
  rw [pt_all (by omega) h0 (by omega)] at h
  have e : ms R 512 = ms R 511 := if_pos (.inr (by decide))
  rw [e]; exact h
end Go.Proofs.YtiimegmaokfpgabGreatDoor.dt

namespace Go.Proofs.YtiimegmaokfpgabGreatDoor.dt
open Go.RowKit
open pg mt lg
set_option linter.unusedVariables false

theorem wrap_in (x : Int) : -9223372036854775808 ≤ wrap64 x ∧ wrap64 x < 9223372036854775808 := by unfold wrap64; omega
theorem em_in {f : Nat → Int} {T : Nat} {mn : Nat → Int} (h : ∀ S, -9223372036854775808 ≤ mn S ∧ mn S < 9223372036854775808) : ∀ c S, -9223372036854775808 ≤ em f T c mn S ∧ em f T c mn S < 9223372036854775808
  | 0, S => h S
  | c + 1, S => by
    show _ ≤ em1 f T c (em f T c mn) S ∧ em1 f T c (em f T c mn) S < _
    unfold em1
    by_cases q : f c = 0 ∨ T ||| 2 ^ c = T
    · rw [if_pos q]; exact em_in h c S
    · rw [if_neg q]
      unfold upd
      by_cases z : S = T ||| 2 ^ c
      · rw [if_pos z]; exact wrap_in _
      · rw [if_neg z]; exact em_in h c S
theorem ms_in (M : Nat → Nat → Int) : ∀ s S, -9223372036854775808 ≤ ms M s S ∧ ms M s S < 9223372036854775808
  | 0, S => by
    show _ ≤ upd (fun _ => 0) 0 1 S ∧ upd (fun _ => 0) 0 1 S < _
    unfold upd
    by_cases z : S = 0
    · rw [if_pos z]; omega
    · rw [if_neg z]; show -9223372036854775808 ≤ (0 : Int) ∧ (0 : Int) < 9223372036854775808; omega
  | s + 1, S => by
    show _ ≤ (if ms M s s = 0 ∨ 8 ≤ (cols s).length then ms M s else em (M (cols s).length) s 9 (ms M s)) S ∧ (if ms M s s = 0 ∨ 8 ≤ (cols s).length then ms M s else em (M (cols s).length) s 9 (ms M s)) S < _
    by_cases q : ms M s s = 0 ∨ 8 ≤ (cols s).length
    · rw [if_pos q]; exact ms_in M s S
    · rw [if_neg q]; exact em_in (ms_in M s) 9 S
theorem cols_255 : cols 255 = rv 8 := by decide
theorem cols_x : ∀ s : Nat, s < 8 → cols (511 - 2 ^ s) = 8 :: (rv 8).filter (fun x => x != s) ∧ 511 - 2 ^ s < 511 ∧ 511 - 2 ^ s ≠ 0 := by decide
theorem ms_TC {ts : List ty.Lg} (hg : goodLg ts = true) (ax : Int) : ms (prF (US ts ax) (stN ts)) 512 255 = TC ts := by
  have h := nw_net hg ax
  have c := ms_VV (prF (US ts ax) (stN ts)) (S := 255) (by omega) (by omega)
  have e : VV (prF (US ts ax) (stN ts)) 255 = TC ts := by
    unfold VV
    rw [cols_255, rv_length, ← DD_ax hg ax, ← PR_DD h.hn h.h8]; rfl
  rw [e] at c
  have b := ms_in (prF (US ts ax) (stN ts)) 512 255
  have b2 := TC_le hg
  have b3 := TC_pos hg
  exact c.eq b.1 b.2 (by omega) (by omega)
theorem ms_XC {ts : List ty.Lg} (hg : goodLg ts = true) (ax : Int) {s : Nat} (hs : s < 8) : ms (prF (US ts ax) (stN ts)) 512 (511 - 2 ^ s) = if (7 - s) % 2 = 1 then -(XC ts ax s) else XC ts ax s := by
  have h := nw_net hg ax
  obtain ⟨k1, k2, k3⟩ := cols_x s hs
  have c := ms_VV (prF (US ts ax) (stN ts)) k2 k3
  have e : XC ts ax s = sg (7 - s) * VV (prF (US ts ax) (stN ts)) (511 - 2 ^ s) := by
    unfold VV
    have l8 : (cols (511 - 2 ^ s)).length = 8 := by
      have : ∀ s : Nat, s < 8 → (cols (511 - 2 ^ s)).length = 8 := by decide
      exact this s hs
    rw [l8, k1]
    unfold XC
    rw [← PR_XX h.hn h.h8 hs, dt_place hs]; rfl
  have e2 : VV (prF (US ts ax) (stN ts)) (511 - 2 ^ s) = if (7 - s) % 2 = 1 then -(XC ts ax s) else XC ts ax s := by
    rw [e]
    unfold sg
    split <;> omega
  rw [e2] at c
  have b := ms_in (prF (US ts ax) (stN ts)) 512 (511 - 2 ^ s)
  have b2 := XC_le hg ax s
  refine c.eq b.1 b.2 ?_ ?_ <;> (split <;> omega)
theorem ix_is : ∀ s : Nat, s < 8 → bits BinOp.or IntKind.u64 (bits BinOp.andNot IntKind.u64 255 (IntKind.u64.wrap (2 ^ s))) 256 = ((511 - 2 ^ s : Nat) : Int) := by decide +kernel
theorem ix_lt : ∀ s : Nat, s < 8 → 511 - 2 ^ s < 512 := by decide
end Go.Proofs.YtiimegmaokfpgabGreatDoor.dt

namespace Go.Proofs.YtiimegmaokfpgabGreatDoor.ml
open Go.RowKit
open reads base inn ty lg rowi hs nt mt dt
set_option linter.unusedVariables false
set_option linter.unusedSimpArgs false

/-- whether legs and an axis are valid -/
def axOk (ts : List Lg) (ax : Int) : Bool := goodLg ts && btw 0 ax 2
set_option maxHeartbeats 4000000 in
set_option maxRecDepth 100000 in
theorem axis_is (A : Option Addr) (n cap : Nat) (ts : List Lg) (ax : Int) (t : Bool) (w : World) (hn : n ≤ 2000000) (hts : Hid (LgAt w w.heap.size A n ts)) (ht : Hid (axOk ts ax = t)) :
    Calls Tryz.prog 66 #[.slice A n cap, .int .i64 ax] w (BPost t w) := by
  obtain ⟨g, HG⟩ : ∃ g, Hid (goodLg ts = g) := ⟨_, Lib.hid rfl⟩
  obtain ⟨p, HP⟩ : ∃ g, Hid (btw 0 ax 2 = g) := ⟨_, Lib.hid rfl⟩
  have HT := Lib.hid (show (g && p) = t by rw [← HG.out, ← HP.out]; exact ht.out)
  go_enter Tryz.func66, Tryz.ntmps66
  go_wp2_with fail
  refine (legs_is A n cap ts g _ hn hts HG).mono ?_
  rintro e w1 ⟨rfl, b1⟩
  have HB := Lib.hid b1
  clear b1
  cases g
  · obtain rfl : t = false := HT.out.symm
    go_wp2_with fail
    go_ret
    exact ⟨rfl, HB.out⟩
  · obtain rfl : p = t := by simpa using HT.out
    go_wp2_with fail
    refine (in_is ax 0 2 p HP _).mono ?_
    rintro e w9 ⟨rfl, rfl⟩
    go_wp2_with fail
    go_ret
    exact ⟨rfl, HB.out⟩
/-- AdjustAxis's answer -/
def axL (ts : List Lg) (ax : Int) : List Int := if axOk ts ax then xcN ts ax else []
def axD (ts : List Lg) (ax : Int) : Int := if axOk ts ax then TC ts else 0
def A3Post (xs : List Int) (d : Int) (t : Bool) (w : World) (e : Ending) (w' : World) : Prop :=
  ∃ v, e = .returned (.tuple #[v, .int .i64 d, .bool t]) ∧ w'.ownsRow w.heap.size 3 1 v xs.length (ints.intsV xs) ∧ Below w.heap.size w w'
theorem axL_len (ts : List Lg) (ax : Int) : (axL ts ax).length ≤ 8 := by
  unfold axL; split
  · rw [xcN_len]; exact Nat.le_refl _
  · simp
set_option maxHeartbeats 8000000 in
set_option maxRecDepth 100000 in
theorem adjustAxis_model (A : Option Addr) (n cap : Nat) (ts : List Lg) (ax : Int) (w : World) (hn : n ≤ 2000000) (hts : Hid (LgAt w w.heap.size A n ts)) :
    Calls Tryz.prog 10 #[.slice A n cap, .int .i64 ax] w (A3Post (axL ts ax) (axD ts ax) (axOk ts ax) w) := by
  obtain ⟨t, HT⟩ : ∃ t, Hid (axOk ts ax = t) := ⟨_, Lib.hid rfl⟩
  cases t
  · have HF := Lib.hid (show axL ts ax = [] ∧ axD ts ax = 0 by unfold axL axD; rw [HT.out]; exact ⟨rfl, rfl⟩)
    rw [HF.out.1, HF.out.2, HT.out]
    go_enter Tryz.func10, Tryz.ntmps10
    go_wp2_with fail
    refine (axis_is A n cap ts ax false _ hn hts HT).mono ?_
    rintro e w1 ⟨rfl, b1⟩
    have HB := Lib.hid b1
    have HR := Lib.hid (show (w1.alloc (.cells #[] 3)).ownsRow w.heap.size 3 1 (.slice (some ⟨w1.heap.size, 0, none⟩) 0 0) 0 [] from World.ownsRow_made w1 #[] 0 b1.size (by decide) (by simp))
    clear b1
    go_wp2_with fail
    go_ret3
    exact ⟨_, rfl, HR.out, HB.out.alloc HB.out.size _⟩
  · have HGA := Lib.hid (show goodLg ts = true ∧ btw 0 ax 2 = true by have := HT.out; unfold axOk at this; rwa [Bool.and_eq_true] at this)
    have HG := Lib.hid HGA.out.1
    have hax := btw_yes HGA.out.2
    obtain ⟨d, HD⟩ : ∃ d, Hid (TC ts = d) := ⟨_, Lib.hid rfl⟩
    have HF := Lib.hid (show axL ts ax = xcN ts ax ∧ axD ts ax = d by unfold axL axD; rw [HT.out]; exact ⟨rfl, HD.out⟩)
    rw [HF.out.1, HF.out.2, HT.out]
    go_enter Tryz.func10, Tryz.ntmps10
    go_wp2_with fail
    refine (axis_is A n cap ts ax true _ hn hts HT).mono ?_
    rintro e w1 ⟨rfl, b1⟩
    have HB := Lib.hid b1
    clear b1
    go_wp2_with fail
    refine (adjust_any A n cap ts ax _ hax.1 hax.2 HG (Lib.hid (hts.out.step HB.out))).mono ?_
    rintro e w2 ⟨v2, rfl, hO, b2⟩
    have HO := Lib.hid (own_mono hO HB.out.size)
    have HB2 := Lib.hid (HB.out.trans (b2.mono HB.out.size))
    obtain ⟨A2, c2, rfl⟩ := row_slice hO
    clear hO b2
    go_wp2_with fail
    refine (trees_any A n cap ts _ HG (Lib.hid (hts.out.step HB2.out))).mono ?_
    rintro e w3 ⟨rfl, b3⟩
    rw [HD.out]
    have HO3 := Lib.hid (row_below HO.out b3)
    have HB3 := Lib.hid (HB2.out.trans (b3.mono HB2.out.size))
    clear b3
    go_wp2_with fail
    go_ret3
    exact ⟨_, rfl, HO3.out, HB3.out⟩
end Go.Proofs.YtiimegmaokfpgabGreatDoor.ml
