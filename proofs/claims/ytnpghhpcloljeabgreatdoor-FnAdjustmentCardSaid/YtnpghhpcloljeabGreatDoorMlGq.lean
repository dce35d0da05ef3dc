/-
  The number of trees and the adjusted coordinates, by the model.
  Valid axes, AdjustAxis and ResidualOf, by the model.
  Conditions: those that each theorem names.
-/
import Derived.Test.YtnpghhpcloljeabGreatDoorMlAq
import Derived.Test.YtnpghhpcloljeabGreatDoorMlE
import Derived.Test.YtnpghhpcloljeabGreatDoorMlF
import Derived.Test.YtnpghhpcloljeabGreatDoorMtD
namespace Go.Proofs.YtnpghhpcloljeabGreatDoor.ml
open Go.RowKit
open reads base inn ty lg rowi hs nt mt dt
set_option linter.unusedVariables false
set_option linter.unusedSimpArgs false

theorem sr_step {B R : Nat} {W0 a a' : World} (h : ∀ b o, b < B → b ≠ R → a.cell? ⟨b, o, none⟩ = W0.cell? ⟨b, o, none⟩) (hb : Below B a a') : ∀ b o, b < B → b ≠ R → a'.cell? ⟨b, o, none⟩ = W0.cell? ⟨b, o, none⟩ :=
  fun b o q r => (hb.cell (p := ⟨b, o, none⟩) q).trans (h b o q r)
theorem sr_set {B R : Nat} {W0 a : World} (h : ∀ b o, b < B → b ≠ R → a.cell? ⟨b, o, none⟩ = W0.cell? ⟨b, o, none⟩) (i : Nat) (u : Value) : ∀ b o, b < B → b ≠ R → (a.setCell ⟨R, i, none⟩ u).cell? ⟨b, o, none⟩ = W0.cell? ⟨b, o, none⟩ :=
  fun b o q r => (World.cell?_setCell_other a _ _ _ (fun z => by injection z with z1 _; exact r z1.symm)).trans (h b o q r)
def UQo (xs : List Int) (w : World) (e : Ending) (w' : World) : Prop :=
  ∃ A m c, e = .returned (.slice A m c) ∧ xs.length = m ∧ IO w' w'.heap.size A m xs ∧ (∀ g o, A = some ⟨g, o, none⟩ → w.heap.size ≤ g) ∧ Below w.heap.size w w'
set_option maxHeartbeats 8000000 in
set_option maxRecDepth 100000 in
theorem unk_new (A : Option Addr) (n cap : Nat) (ts : List Lg) (w : World) (hg : Hid (goodLg ts = true)) (hts : Hid (LgAt w w.heap.size A n ts)) :
    Calls Tryz.prog 122 #[.slice A n cap] w (UQo (unk ts) w) := by
  have HL := Lib.hid hts.out.1
  obtain ⟨ps, HPS⟩ : ∃ p, Hid ((net ts).ps = p) := ⟨_, Lib.hid rfl⟩
  have HU := Lib.hid (show unk ts = ps.tail by unfold unk; rw [HPS.out])
  have hm1 : 0 < ps.length := by rw [← HPS.out]; exact List.length_pos_of_mem (ok_net hg.out).2.2.2.2.2.1
  have hm2 : ps.length ≤ 8 := by rw [← HPS.out]; exact (ok_net hg.out).ps_len
  obtain ⟨m2, HM2⟩ : ∃ m, Hid (ps.length = m) := ⟨_, Lib.hid rfl⟩
  rw [HM2.out] at hm1 hm2
  go_enter Tryz.func122, Tryz.ntmps122
  go_wp2_with fail
  refine (place_any A n cap ts _ hg hts).mono ?_
  rintro e w1 ⟨g1, g2, c2, g3, c3, rfl, hN⟩
  rw [HPS.out, HM2.out] at hN ⊢
  have HB1 := Lib.hid hN.1
  have HR := Lib.hid hN.2.2.1
  have hc2 : m2 ≤ c2 := own_cap hN.2.2.1
  clear hN
  have hm0 : 1 ≤ m2 := hm1
  have HLT := Lib.hid (show (unk ts).length = m2 - 1 by rw [HU.out, List.length_tail, HM2.out])
  have HIO := Lib.hid (show ∀ k x, (unk ts)[k]? = some x → w1.cell? ⟨g2, 1 + k, none⟩ = some (.int .i64 x) from fun k x hx => by
    rw [HU.out, List.getElem?_tail] at hx
    obtain ⟨g, e, hc⟩ := (ints.IL.of_own HR.out).2 (k + 1) x (by rw [HPS.out]; exact hx)
    obtain rfl : g2 = g := by injection e with e; injection e
    rw [Nat.add_comm 1 k]; exact hc)
  have hlt2 := (HR.out.lt g2 rfl).2
  have hge2 := (HR.out.lt g2 rfl).1
  by_cases hc1 : c2 = 1
  · obtain rfl : m2 = 1 := by omega
    subst hc1
    go_wp2_with fail
    go_ret
    refine ⟨_, _, _, rfl, HLT.out, ⟨HLT.out, fun k x hx => ?_⟩, fun g o e => (by injection e with e; injection e with e1 _; omega), HB1.out⟩
    have h1 := lt_at hx
    rw [HLT.out] at h1; omega
  · have hm3 : m2 - 1 ≤ c2 - 1 := by omega
    go_wp2_with fail
    go_ret
    exact ⟨_, _, _, rfl, HLT.out, ⟨HLT.out, fun k x hx => ⟨g2, 1, rfl, hlt2, HIO.out k x hx⟩⟩, fun g o e => (by injection e with e; injection e with e1 _; omega), HB1.out⟩
set_option maxHeartbeats 8000000 in
set_option maxRecDepth 100000 in
theorem trees_any (A : Option Addr) (n cap : Nat) (ts : List Lg) (w : World) (hg : Hid (goodLg ts = true)) (hts : Hid (LgAt w w.heap.size A n ts)) :
    Calls Tryz.prog 68 #[.slice A n cap] w (APost (.int .i64 (TC ts)) w) := by
  have HSO := Lib.hid (ps_split hg.out).2
  have HIN := Lib.hid (show ∀ i ∈ plIds ts, ((lgAt ts i).frm ∈ unk ts ∨ (lgAt ts i).frm = 0) ∧ ((lgAt ts i).to_ ∈ unk ts ∨ (lgAt ts i).to_ = 0) from fun i hi => pl_ends hg.out hi)
  have hu7 := unk_len hg.out
  go_enter Tryz.func68, Tryz.ntmps68
  go_wp2_with fail
  refine (unk_any A n cap ts _ hg hts).mono ?_
  rintro e w1 ⟨As, m, cs, rfl, hm, hio, b1⟩
  have HB1 := Lib.hid b1
  have HIO := Lib.hid hio
  have HM := Lib.hid hm
  rw [hm] at hu7
  clear b1 hio hm
  go_wp2_with fail
  refine (matrix_neg A n cap ts As m cs (unk ts) (plIds ts) w1 hg (Lib.hid (hts.out.step HB1.out)) (by omega) HIO HSO (Lib.hid rfl) HIN).mono ?_
  rintro e w2 ⟨A2, c2, P2, rfl, hM, b2⟩
  have HM2 := Lib.hid hM
  have HB2 := Lib.hid (HB1.out.trans (b2.mono HB1.out.size))
  have hs1 := HB1.out.size
  clear hM b2
  have HDV := Lib.hid (show dt ((rv m).map (fun i j => AA (eds ts 0 (plIds ts)) (sAt (unk ts) i) (sAt (unk ts) j))) (rv m) = TC ts by rw [← HM.out]; exact det_DD _ _)
  have HBD := Lib.hid (show Bdd m (fun i j => AA (eds ts 0 (plIds ts)) (sAt (unk ts) i) (sAt (unk ts) j)) 1161216000 by rw [← HM.out]; exact bdd_at (eds_ok hg.out 0 (fun i hi => hi)) (US_len hg.out 0) HSO.out (unk_len hg.out) _ (fun i j hi hj e => sAt_inj HSO.out hi hj e))
  go_wp2_with fail
  refine (det_any w1.heap.size A2 m c2 P2 _ (TC ts) w2 (by omega) HDV HBD HM2).mono ?_
  rintro e w3 ⟨rfl, b3⟩
  have HB3 := Lib.hid (HB2.out.trans (b3.mono hs1))
  clear b3
  go_wp2_with fail
  go_ret
  exact ⟨rfl, HB3.out⟩
/-- TreeCount's answer -/
def ansTc (ts : List Lg) : Value := .tuple #[.int .i64 (if goodLg ts then TC ts else 0), .bool (goodLg ts)]
set_option maxHeartbeats 8000000 in
set_option maxRecDepth 100000 in
theorem treeCount_model (A : Option Addr) (n cap : Nat) (ts : List Lg) (w : World) (hn : n ≤ 2000000) (hts : Hid (LgAt w w.heap.size A n ts)) :
    Calls Tryz.prog 39 #[.slice A n cap] w (APost (ansTc ts) w) := by
  cases hg : goodLg ts
  · have HG := Lib.hid hg
    have HF := Lib.hid (show ansTc ts = .tuple #[.int .i64 0, .bool false] by unfold ansTc; rw [hg]; rfl)
    clear hg
    go_enter Tryz.func39, Tryz.ntmps39
    go_wp2_with fail
    refine (legs_is A n cap ts false _ hn hts HG).mono ?_
    rintro e w1 ⟨rfl, b1⟩
    have HB := Lib.hid b1
    clear b1
    go_wp2_with fail
    go_ret2
    exact ⟨by rw [HF.out]; rfl, HB.out⟩
  · have HG := Lib.hid hg
    obtain ⟨d, HD⟩ : ∃ d, Hid (TC ts = d) := ⟨_, Lib.hid rfl⟩
    have HF := Lib.hid (show ansTc ts = .tuple #[.int .i64 d, .bool true] by unfold ansTc; rw [hg, if_pos rfl, HD.out])
    clear hg
    go_enter Tryz.func39, Tryz.ntmps39
    go_wp2_with fail
    refine (legs_is A n cap ts true _ hn hts HG).mono ?_
    rintro e w1 ⟨rfl, b1⟩
    have HB := Lib.hid b1
    clear b1
    go_wp2_with fail
    refine (trees_any A n cap ts _ HG (Lib.hid (hts.out.step HB.out))).mono ?_
    rintro e w2 ⟨rfl, b2⟩
    rw [HD.out]
    have HB2 := Lib.hid (HB.out.trans (b2.mono HB.out.size))
    clear b2
    go_wp2_with fail
    go_ret2
    exact ⟨by rw [HF.out]; rfl, HB2.out⟩
/-- the adjusted coordinates, times the number of trees -/
def xcN (ts : List Lg) (ax : Int) : List Int := (List.range 8).map (XC ts ax)
theorem xcN_len (ts : List Lg) (ax : Int) : (xcN ts ax).length = 8 := by simp [xcN]
theorem xcN_bd {ts : List Lg} (hg : goodLg ts = true) (ax : Int) : CBd (xcN ts ax) := ⟨xcN_len ts ax, fun c hc => by
  obtain ⟨i, -, e⟩ := List.mem_map.1 hc
  have := XC_le hg ax i
  rw [← e]; omega⟩
set_option maxHeartbeats 16000000 in
set_option maxRecDepth 100000 in
theorem adjust_any (A : Option Addr) (n cap : Nat) (ts : List Lg) (ax : Int) (w : World) (h0 : 0 ≤ ax) (h2 : ax ≤ 2) (hg : Hid (goodLg ts = true)) (hts : Hid (LgAt w w.heap.size A n ts)) :
    Calls Tryz.prog 67 #[.slice A n cap, .int .i64 ax] w (JPo (xcN ts ax) w) := by
  obtain ⟨i0, hi, hz0, hz1, hz2⟩ := info_parts infoI
  have hmk : ∀ W : World, (Instr.makeSlice 27 (.int .i64 8) (.int .i64 8)).run Tryz.prog W = .ok (.slice (some ⟨W.heap.size, 0, none⟩) 8 8) (W.alloc (.cells (cs1 8 (fun _ => 0)) 3)) := fun W => by
    have h := run_make_rowN (P := Tryz.prog) 27 3 i0 _ Tryz.underlying27 hi hz0 .i64 .i64 8 8 (Nat.le_refl _) (by rw [hz2]; omega) (by omega) W
    rw [hz1] at h
    rw [← cs1_zero]
    exact h
  have HSO := Lib.hid (ps_split hg.out).2
  have HIN := Lib.hid (show ∀ i ∈ plIds ts, ((lgAt ts i).frm ∈ unk ts ∨ (lgAt ts i).frm = 0) ∧ ((lgAt ts i).to_ ∈ unk ts ∨ (lgAt ts i).to_ = 0) from fun i hi => pl_ends hg.out hi)
  have hu7 := unk_len hg.out
  obtain ⟨R, HRE⟩ : ∃ q, Hid (w.heap.size = q) := ⟨_, Lib.hid rfl⟩
  have HR0 := Lib.hid (show RwB (w.alloc (.cells (cs1 8 (fun _ => 0)) 3)) R 8 (fun _ => 0) by rw [← HRE.out]; exact Blk.new _ _ _)
  have HB0 := Lib.hid ((Below.refl w.heap.size w).alloc (Nat.le_refl _) (.cells (cs1 8 (fun _ => 0)) 3))
  have HA0 := Lib.hid (hts.out.alloc (.cells (cs1 8 (fun _ => 0)) 3))
  go_enter Tryz.func67, Tryz.ntmps67
  go_wp2_with fail
  refine (unk_new A n cap ts _ hg HA0).mono ?_
  rintro e w1 ⟨As, m, cs9, rfl, hm, hio, hnew, b1⟩
  have HB1 := Lib.hid (HB0.out.trans (b1.mono HB0.out.size))
  have HIO := Lib.hid hio
  have HR1 := Lib.hid (HR0.out.below b1 HR0.out.lt)
  have HM := Lib.hid hm
  have HGR := Lib.hid (show ∀ g o, As = some ⟨g, o, none⟩ → ¬ g = R from fun g o e => by
    have := hnew g o e
    have h3 := HR0.out.lt
    omega)
  rw [hm] at hu7
  clear b1 hio hm hnew HB0 HA0 HR0
  go_wp2_with fail
  simp only [HRE.out]
  go_loopw [7] (fun i wr => ∃ k : Nat, k ≤ m ∧ i = .int .i64 (k : Nat) ∧ RwB wr R 8 (fun s => if s ∈ (stN ts).take k then XC ts ax s else 0) ∧ IO wr wr.heap.size As m (unk ts) ∧ Below w.heap.size w wr) (fun i _ => m - (intOf i).toNat)
  case atStart => exact ⟨0, Nat.zero_le _, rfl, HR1.out.congr (fun j _ => by simp), HIO.out, HB1.out⟩
  case round =>
    obtain ⟨k, hk, rfl, hR, hS, hB⟩ := hrel
    have HRQ := Lib.hid hR
    have HSQ := Lib.hid hS
    have HBQ := Lib.hid hB
    clear hR hS hB HR1 HIO HB1
    have hk0 : (0 : Int) ≤ (k : Int) := by omega
    by_cases hlt : k < m
    · have hki : (k : Int) < (m : Int) := by omega
      have hkd : decide (k < m) = true := by simpa using hlt
      obtain ⟨sx, hsx⟩ := at_lt HM.out hlt
      obtain ⟨s0, s7⟩ := HSO.out.2 sx (List.mem_of_getElem? hsx)
      obtain ⟨s, rfl⟩ : ∃ s : Nat, sx = s := ⟨sx.toNat, by omega⟩
      have hs8 : s < 8 := by omega
      have hs8i : (s : Int) < 8 := by omega
      have hs0i : (0 : Int) ≤ (s : Int) := by omega
      obtain ⟨gS, oS, rfl, hgS, eS⟩ := HSQ.out.2 k _ hsx
      have hgR := HGR.out gS oS rfl
      have HSA := Lib.hid (show sAt (unk ts) k = s from sAt_is hsx)
      have HTK := Lib.hid (show (stN ts).take (k + 1) = (stN ts).take k ++ [s] from take_snoc (by unfold stN; rw [List.getElem?_map, hsx]; rfl))
      clear hsx
      obtain ⟨d, HD⟩ : ∃ d, Hid (XC ts ax s = d) := ⟨_, Lib.hid rfl⟩
      have HDV := Lib.hid (show dt ((rv m).map (fun i j => AA (eds ts ax (plIds ts)) (sAt (unk ts) i) (if j = k then 8 else sAt (unk ts) j))) (rv m) = d by
        rw [← HM.out, det_XX _ HSO.out (by rw [HM.out]; exact hlt), HSA.out]; exact HD.out)
      have HBD := Lib.hid (show Bdd m (fun i j => AA (eds ts ax (plIds ts)) (sAt (unk ts) i) (if j = k then 8 else sAt (unk ts) j)) 1161216000 by
        rw [← HM.out]
        refine bdd_at (eds_ok hg.out ax (fun i hi => hi)) (US_len hg.out ax) HSO.out (unk_len hg.out) (fun j => if j = k then 8 else sAt (unk ts) j) (fun i j hi9 hj9 e => ?_)
        have e : (if i = k then 8 else sAt (unk ts) i) = (if j = k then 8 else sAt (unk ts) j) := e
        by_cases a1 : i = k <;> by_cases a2 : j = k
        · rw [a1, a2]
        · rw [if_pos a1, if_neg a2] at e
          have := sAt_8 HSO.out hj9; omega
        · rw [if_neg a1, if_pos a2] at e
          have := sAt_8 HSO.out hi9; omega
        · rw [if_neg a1, if_neg a2] at e
          exact sAt_inj HSO.out hi9 hj9 e)
      obtain ⟨W0, HW0⟩ : ∃ W, Hid (wr = W) := ⟨_, Lib.hid rfl⟩
      have HLW := Lib.hid (show LgAt W0 W0.heap.size A n ts by rw [← HW0.out]; exact hts.out.step HBQ.out)
      have HSW := Lib.hid (show IO W0 W0.heap.size (some ⟨gS, oS, none⟩) m (unk ts) by rw [← HW0.out]; exact HSQ.out)
      have HRW := Lib.hid (show RwB W0 R 8 (fun s => if s ∈ (stN ts).take k then XC ts ax s else 0) by rw [← HW0.out]; exact HRQ.out)
      have HBW := Lib.hid (show Below w.heap.size w W0 by rw [← HW0.out]; exact HBQ.out)
      obtain ⟨B, HBB⟩ : ∃ B, Hid (W0.heap.size = B) := ⟨_, Lib.hid rfl⟩
      have hRB : R < B := by rw [← HBB.out]; exact HRW.out.lt
      rw [HW0.out, HBB.out] at hgS
      rw [HW0.out] at eS
      go_upto_region 6 with fail
      rw [HW0.out]
      clear HW0 HRQ HSQ HBQ
      refine wp_region_held_drew (S := (fun v => ∀ b o, b < B → b ≠ R → v.cell? ⟨b, o, none⟩ = W0.cell? ⟨b, o, none⟩)) (by kernel_rfl) ?_ (fun hHeld => ?_)
      · exact (fun b o _ _ => rfl)
      refine' wpAnyH_take (i := 0) (v := ?vr1_0) rfl (by kernel_rfl) (by kernel_rfl) (by kernel_rfl) (fun _ _ _ h => h) (Or.inl ⟨by rfl, ?hyr1_0⟩) (by assumption) ?restr1_0
      case hyr1_0 => (intro w hSw; (try dsimp only at hSw); go_simp; try (with_reducible rfl))
      simp only [Act.put, List.getElem_toArray, List.getElem_cons_succ, List.getElem_cons_zero, List.setIfInBounds_toArray, List.set_cons_zero, List.set_cons_succ]
      refine' wpAnyH_take (i := 1) (v := ?vr1_1) rfl (by kernel_rfl) (by kernel_rfl) (by kernel_rfl) (fun _ _ _ h => h) (Or.inl ⟨by rfl, ?hyr1_1⟩) (by assumption) ?restr1_1
      case hyr1_1 => (intro w hSw; (try dsimp only at hSw); go_simp; try (with_reducible rfl))
      simp only [Act.put, List.getElem_toArray, List.getElem_cons_succ, List.getElem_cons_zero, List.setIfInBounds_toArray, List.set_cons_zero, List.set_cons_succ]
      refine' wpAnyH_take (i := 2) (v := ?vr1_2) rfl (by kernel_rfl) (by kernel_rfl) (by kernel_rfl) (fun _ _ _ h => h) (Or.inl ⟨by rfl, ?hyr1_2⟩) (by assumption) ?restr1_2
      case hyr1_2 => (intro w hSw; (try dsimp only at hSw); go_simp; try (with_reducible rfl))
      simp only [Act.put, List.getElem_toArray, List.getElem_cons_succ, List.getElem_cons_zero, List.setIfInBounds_toArray, List.set_cons_zero, List.set_cons_succ]
      refine' wpAnyH_take (i := 3) (v := ?vr1_3) rfl (by kernel_rfl) (by kernel_rfl) (by kernel_rfl) (fun _ _ _ h => h) (Or.inl ⟨by rfl, ?hyr1_3⟩) (by assumption) ?restr1_3
      case hyr1_3 => (intro w hSw; (try dsimp only at hSw); go_simp; try (with_reducible rfl))
      simp only [Act.put, List.getElem_toArray, List.getElem_cons_succ, List.getElem_cons_zero, List.setIfInBounds_toArray, List.set_cons_zero, List.set_cons_succ]
      refine' wpAnyH_take (i := 4) (v := ?vr1_4) rfl (by kernel_rfl) (by kernel_rfl) (by kernel_rfl) (fun _ _ _ h => h) (Or.inl ⟨by rfl, ?hyr1_4⟩) (by assumption) ?restr1_4
      case hyr1_4 => (intro w hSw; (try dsimp only at hSw); go_simp; try (with_reducible rfl))
      simp only [Act.put, List.getElem_toArray, List.getElem_cons_succ, List.getElem_cons_zero, List.setIfInBounds_toArray, List.set_cons_zero, List.set_cons_succ]
      refine' wpAnyH_take (i := 5) (v := ?vr1_5) rfl (by kernel_rfl) (by kernel_rfl) (by kernel_rfl) (fun _ _ _ h => h) (Or.inl ⟨by rfl, ?hyr1_5⟩) (by assumption) ?restr1_5
      case hyr1_5 => (intro w hSw; (try dsimp only at hSw); go_simp; try (with_reducible rfl))
      simp only [Act.put, List.getElem_toArray, List.getElem_cons_succ, List.getElem_cons_zero, List.setIfInBounds_toArray, List.set_cons_zero, List.set_cons_succ]
      refine' wpAnyH_take (i := 6) (v := ?vr1_6) rfl (by kernel_rfl) (by kernel_rfl) (by kernel_rfl) (fun _ _ _ h => h) (Or.inl ⟨by rfl, ?hyr1_6⟩) (by assumption) ?restr1_6
      case hyr1_6 => (intro w hSw; (try dsimp only at hSw); go_simp; try (with_reducible rfl))
      simp only [Act.put, List.getElem_toArray, List.getElem_cons_succ, List.getElem_cons_zero, List.setIfInBounds_toArray, List.set_cons_zero, List.set_cons_succ]
      refine' wpAnyH_take (i := 7) (v := ?vr1_7) rfl (by kernel_rfl) (by kernel_rfl) (by kernel_rfl) (fun _ _ _ h => h) (Or.inl ⟨by rfl, ?hyr1_7⟩) (by assumption) ?restr1_7
      case hyr1_7 => (intro w hSw; (try dsimp only at hSw); go_simp; try (with_reducible rfl))
      simp only [Act.put, List.getElem_toArray, List.getElem_cons_succ, List.getElem_cons_zero, List.setIfInBounds_toArray, List.set_cons_zero, List.set_cons_succ]
      refine' wpAnyH_take (i := 8) (v := ?vr1_8) rfl (by kernel_rfl) (by kernel_rfl) (by kernel_rfl) (fun _ _ _ h => h) (Or.inl ⟨by rfl, ?hyr1_8⟩) (by assumption) ?restr1_8
      case hyr1_8 => (intro w hSw; (try dsimp only at hSw); go_simp; try (with_reducible rfl))
      simp only [Act.put, List.getElem_toArray, List.getElem_cons_succ, List.getElem_cons_zero, List.setIfInBounds_toArray, List.set_cons_zero, List.set_cons_succ]
      refine wpAnyH_ready (rs := [9]) (by kernel_rfl) (by simp) ?_
      refine AllReadyH.cons rfl (fun K hK => ?_) AllReadyH.nil
      go_simp
      refine (matrix_ax A n cap ts (some ⟨gS, oS, none⟩) m cs9 (unk ts) (plIds ts) ax k hlt W0.drew h0 h2 hg (Lib.hid (HLW.out.step (Below.refl _ _).drew)) (by omega) (Lib.hid (HSW.out.step (Below.refl _ _).drew)) HSO (Lib.hid rfl) HIN).mono ?_
      rintro e w1 ⟨A2, c2, P2, rfl, hM, b1⟩
      have HM2 := Lib.hid hM
      have HB2 := Lib.hid b1
      clear hM b1
      refine hK.out _ _ (sr_step hHeld (HB2.out.mono (by rw [← HBB.out]; exact Nat.le_refl _))) (fun hHeld1 => ?_)
      clear hK K hHeld
      have hHeld := hHeld1
      clear hHeld1
      try simp only [Act.put, List.getElem_toArray, List.getElem_cons_succ, List.getElem_cons_zero, List.setIfInBounds_toArray, List.set_cons_zero, List.set_cons_succ]
      refine wpAnyH_ready (rs := [10]) (by kernel_rfl) (by simp) ?_
      refine AllReadyH.cons rfl (fun K hK => ?_) AllReadyH.nil
      go_simp
      refine (det_any B A2 m c2 P2 _ d w1 (by omega) HDV HBD (Lib.hid (by rw [← HBB.out]; exact HM2.out))).mono ?_
      rintro e w2 ⟨rfl, b2⟩
      have HB3 := Lib.hid b2
      clear b2
      refine hK.out _ _ (sr_step hHeld HB3.out) (fun hHeld1 => ?_)
      clear hK K hHeld
      have hHeld := hHeld1
      clear hHeld1
      try simp only [Act.put, List.getElem_toArray, List.getElem_cons_succ, List.getElem_cons_zero, List.setIfInBounds_toArray, List.set_cons_zero, List.set_cons_succ]
      have HR3 := Lib.hid (((HRW.out.below (Below.refl _ _).drew HRW.out.lt).below HB2.out HRW.out.lt).below HB3.out hRB)
      have f3 := HR3.out.fro s
      have l3 := HR3.out.lt
      have d3 := HR3.out.at_ hs8
      refine' wpAnyH_take (i := 11) (v := ?vr1_11) rfl (by kernel_rfl) (by kernel_rfl) (by kernel_rfl) (fun _ _ _ h => h) (Or.inl ⟨by rfl, ?hyr1_11⟩) (by assumption) ?restr1_11
      case hyr1_11 => (intro w hSw; (try dsimp only at hSw); go_simp; try (with_reducible rfl))
      simp only [Act.put, List.getElem_toArray, List.getElem_cons_succ, List.getElem_cons_zero, List.setIfInBounds_toArray, List.set_cons_zero, List.set_cons_succ]
      refine wpAnyH_ready (rs := [12]) (by kernel_rfl) (by simp) ?_
      refine AllReadyH.cons rfl (fun K hK => ?_) AllReadyH.nil
      go_simp
      refine hK.out _ _ (sr_set hHeld _ _) (fun hHeld1 => ?_)
      clear hK K hHeld hHeld1
      try simp only [Act.put, List.getElem_toArray, List.getElem_cons_succ, List.getElem_cons_zero, List.setIfInBounds_toArray, List.set_cons_zero, List.set_cons_succ]
      refine wpAnyH_done (by kernel_rfl) ?_ _
      have HRF := Lib.hid ((HR3.out.set hs8 d).congr (g := fun s => if s ∈ (stN ts).take (k + 1) then XC ts ax s else 0) (fun j _ => by
        show (if j = s then d else if j ∈ (stN ts).take k then XC ts ax j else 0) = if j ∈ (stN ts).take (k + 1) then XC ts ax j else 0
        rw [HTK.out]
        by_cases q : j = s
        · rw [if_pos q, if_pos (List.mem_append_right _ (by rw [q]; simp)), q]; exact HD.out.symm
        · rw [if_neg q]
          by_cases q2 : j ∈ (stN ts).take k
          · rw [if_pos q2, if_pos (List.mem_append_left _ q2)]
          · rw [if_neg q2, if_neg (fun z => by rcases List.mem_append.1 z with y | y; exact q2 y; exact q (by simpa using y))]))
      have hsW := HBW.out.size
      have HBF := Lib.hid ((((HBW.out.trans (Below.refl _ _).drew).trans (HB2.out.mono (by simpa using hsW))).trans (HB3.out.mono (by rw [← HBB.out]; exact hsW))).setCell (p := ⟨R, s, none⟩) (by show w.heap.size ≤ R; rw [HRE.out]; exact Nat.le_refl _) (.int .i64 d))
      have HSF := Lib.hid (show IO (w2.setCell ⟨R, s, none⟩ (.int .i64 d)) (w2.setCell ⟨R, s, none⟩ (.int .i64 d)).heap.size (some ⟨gS, oS, none⟩) m (unk ts) from by
        have h9 := ((HSW.out.below (Below.refl _ _).drew).below HB2.out).below (HB3.out.mono (by rw [HBB.out]; exact Nat.le_refl _))
        have hz : B ≤ w2.heap.size := by
          have z1 := HB2.out.size
          have z2 := HB3.out.size
          have z3 : W0.drew.heap.size = B := HBB.out
          omega
        refine ⟨h9.1, fun q x hx => ?_⟩
        obtain ⟨g, o, e, hg9, hc⟩ := h9.2 q x hx
        refine ⟨g, o, e, ?_, ?_⟩
        · have : (w2.setCell ⟨R, s, none⟩ (.int .i64 d)).heap.size = w2.heap.size := by simp [World.setCell]
          rw [this]; have := HBB.out; omega
        · refine (World.cell?_setCell_other w2 _ _ _ (fun z => ?_)).trans hc
          injection z with z1 _
          injection e with e; injection e with e1 _
          exact hgR (by rw [e1]; exact z1.symm))
      clear HM2 HB2 HB3 HR3
      go_wp2_with fail
      go_roundw
      case rel => exact ⟨k + 1, by omega, by go_num, HRF.out, HSF.out, HBF.out⟩
      case measure => simp [intOf]; omega
    · have hkd : decide (k < m) = false := by simpa using hlt
      obtain rfl : k = m := by omega
      have HTA := Lib.hid (show (stN ts).take k = stN ts from List.take_of_length_le (by unfold stN; rw [List.length_map, HM.out]; exact Nat.le_refl _))
      have HRF := Lib.hid (HRQ.out.congr (g := XC ts ax) (fun j _ => by
        show (if j ∈ (stN ts).take k then XC ts ax j else 0) = XC ts ax j
        rw [HTA.out]
        by_cases q : j ∈ stN ts
        · rw [if_pos q]
        · rw [if_neg q, XC_out q]))
      have HFIN := Lib.hid (show wr.ownsRow w.heap.size 3 1 (.slice (some ⟨R, 0, none⟩) 8 8) (xcN ts ax).length (ints.intsV (xcN ts ax)) from by rw [xcN_len]; exact HRF.out.own (by rw [HRE.out]; exact Nat.le_refl _) (by decide))
      clear hlt
      go_wp2_with fail
      go_ret
      exact ⟨_, rfl, HFIN.out, HBQ.out⟩
end Go.Proofs.YtnpghhpcloljeabGreatDoor.ml

namespace Go.Proofs.YtnpghhpcloljeabGreatDoor.ml
open Go.RowKit
open reads base inn ty lg rowi hs nt mt dt
set_option linter.unusedVariables false
set_option linter.unusedSimpArgs false

/-- whether legs and an axis are valid -/
def axOk (ts : List Lg) (ax : Int) : Bool := goodLg ts && btw 0 ax 2
set_option maxHeartbeats 4000000 in
set_option maxRecDepth 100000 in
theorem axis_is (A : Option Addr) (n cap : Nat) (ts : List Lg) (ax : Int) (t : Bool) (w : World) (hn : n ≤ 2000000) (hts : Hid (LgAt w w.heap.size A n ts)) (ht : Hid (axOk ts ax = t)) :
    Calls Tryz.prog 66 #[.slice A n cap, .int .i64 ax] w (BPost t w) := by
  obtain ⟨g, HG⟩ : ∃ g, Hid (goodLg ts = g) := ⟨_, Lib.hid rfl⟩
  obtain ⟨p, HP⟩ : ∃ g, Hid (btw 0 ax 2 = g) := ⟨_, Lib.hid rfl⟩
  have HT := Lib.hid (show (g && p) = t by rw [← HG.out, ← HP.out]; exact ht.out)
  go_enter Tryz.func66, Tryz.ntmps66
  go_wp2_with fail
  refine (legs_is A n cap ts g _ hn hts HG).mono ?_
  rintro e w1 ⟨rfl, b1⟩
  have HB := Lib.hid b1
  clear b1
  cases g
  · obtain rfl : t = false := HT.out.symm
    go_wp2_with fail
    go_ret
    exact ⟨rfl, HB.out⟩
  · obtain rfl : p = t := by simpa using HT.out
    go_wp2_with fail
    refine (in_is ax 0 2 p HP _).mono ?_
    rintro e w9 ⟨rfl, rfl⟩
    go_wp2_with fail
    go_ret
    exact ⟨rfl, HB.out⟩
/-- AdjustAxis's answer -/
def axL (ts : List Lg) (ax : Int) : List Int := if axOk ts ax then xcN ts ax else []
def axD (ts : List Lg) (ax : Int) : Int := if axOk ts ax then TC ts else 0
def A3Post (xs : List Int) (d : Int) (t : Bool) (w : World) (e : Ending) (w' : World) : Prop :=
  ∃ v, e = .returned (.tuple #[v, .int .i64 d, .bool t]) ∧ w'.ownsRow w.heap.size 3 1 v xs.length (ints.intsV xs) ∧ Below w.heap.size w w'
theorem axL_len (ts : List Lg) (ax : Int) : (axL ts ax).length ≤ 8 := by
  unfold axL; split
  · rw [xcN_len]; exact Nat.le_refl _
  · simp
set_option maxHeartbeats 8000000 in
set_option maxRecDepth 100000 in
theorem adjustAxis_model (A : Option Addr) (n cap : Nat) (ts : List Lg) (ax : Int) (w : World) (hn : n ≤ 2000000) (hts : Hid (LgAt w w.heap.size A n ts)) :
    Calls Tryz.prog 10 #[.slice A n cap, .int .i64 ax] w (A3Post (axL ts ax) (axD ts ax) (axOk ts ax) w) := by
  obtain ⟨t, HT⟩ : ∃ t, Hid (axOk ts ax = t) := ⟨_, Lib.hid rfl⟩
  cases t
  · have HF := Lib.hid (show axL ts ax = [] ∧ axD ts ax = 0 by unfold axL axD; rw [HT.out]; exact ⟨rfl, rfl⟩)
    rw [HF.out.1, HF.out.2, HT.out]
    go_enter Tryz.func10, Tryz.ntmps10
    go_wp2_with fail
    refine (axis_is A n cap ts ax false _ hn hts HT).mono ?_
    rintro e w1 ⟨rfl, b1⟩
    have HB := Lib.hid b1
    have HR := Lib.hid (show (w1.alloc (.cells #[] 3)).ownsRow w.heap.size 3 1 (.slice (some ⟨w1.heap.size, 0, none⟩) 0 0) 0 [] from World.ownsRow_made w1 #[] 0 b1.size (by decide) (by simp))
    clear b1
    go_wp2_with fail
    go_ret3
    exact ⟨_, rfl, HR.out, HB.out.alloc HB.out.size _⟩
  · have HGA := Lib.hid (show goodLg ts = true ∧ btw 0 ax 2 = true by have := HT.out; unfold axOk at this; rwa [Bool.and_eq_true] at this)
    have HG := Lib.hid HGA.out.1
    have hax := btw_yes HGA.out.2
    obtain ⟨d, HD⟩ : ∃ d, Hid (TC ts = d) := ⟨_, Lib.hid rfl⟩
    have HF := Lib.hid (show axL ts ax = xcN ts ax ∧ axD ts ax = d by unfold axL axD; rw [HT.out]; exact ⟨rfl, HD.out⟩)
    rw [HF.out.1, HF.out.2, HT.out]
    go_enter Tryz.func10, Tryz.ntmps10
    go_wp2_with fail
    refine (axis_is A n cap ts ax true _ hn hts HT).mono ?_
    rintro e w1 ⟨rfl, b1⟩
    have HB := Lib.hid b1
    clear b1
    go_wp2_with fail
    refine (adjust_any A n cap ts ax _ hax.1 hax.2 HG (Lib.hid (hts.out.step HB.out))).mono ?_
    rintro e w2 ⟨v2, rfl, hO, b2⟩
    have HO := Lib.hid (own_mono hO HB.out.size)
    have HB2 := Lib.hid (HB.out.trans (b2.mono HB.out.size))
    obtain ⟨A2, c2, rfl⟩ := row_slice hO
    clear hO b2
    go_wp2_with fail
    refine (trees_any A n cap ts _ HG (Lib.hid (hts.out.step HB2.out))).mono ?_
    rintro e w3 ⟨rfl, b3⟩
    rw [HD.out]
    have HO3 := Lib.hid (row_below HO.out b3)
    have HB3 := Lib.hid (HB2.out.trans (b3.mono HB2.out.size))
    clear b3
    go_wp2_with fail
    go_ret3
    exact ⟨_, rfl, HO3.out, HB3.out⟩
end Go.Proofs.YtnpghhpcloljeabGreatDoor.ml
