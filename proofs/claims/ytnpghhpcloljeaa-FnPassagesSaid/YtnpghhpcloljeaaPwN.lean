/-
  The program of merged passages.
  Conditions: the passages lie in one block, at most 2000000 of them.
-/
import Derived.Test.YtnpghhpcloljeaaPwN1
import Derived.Test.YtnpghhpcloljeaaPwN0
import Derived.Test.YtnpghhpcloljeaaPwI
import Derived.BigQuiet
import Derived.Deep.QuietTactic
import Derived.Deep.Cut
import Derived.Deep.DeepCutAuto
import Derived.RegionTactic
import Derived.Deep.RegionWith
import Derived.OwnWalk
import Derived.Deep.RegionHeld3
namespace Go.Proofs.Ytnpghhpcloljeaa.pw
open Go.RowKit
open reads base ty rowi win lg lgi
set_option linter.unusedVariables false
set_option linter.unusedSimpArgs false

theorem bx_mk {v : World} {X : Nat} {y : Pg} (h : Blk v X 53 #[.int .i64 y.st, .int .i64 y.lf, .int .i64 y.rt, .int .i64 y.ab, .int .i64 y.be]) : v.cell? ⟨X, 0, none⟩ = some (.int .i64 y.st) ∧ v.cell? ⟨X, 1, none⟩ = some (.int .i64 y.lf) ∧ v.cell? ⟨X, 2, none⟩ = some (.int .i64 y.rt) ∧ v.cell? ⟨X, 3, none⟩ = some (.int .i64 y.ab) ∧ v.cell? ⟨X, 4, none⟩ = some (.int .i64 y.be) ∧ X < v.heap.size ∧ Blk v X 53 #[.int .i64 y.st, .int .i64 y.lf, .int .i64 y.rt, .int .i64 y.ab, .int .i64 y.be] := ⟨h.cell 0, h.cell 1, h.cell 2, h.cell 3, h.cell 4, h.lt, h⟩
set_option maxHeartbeats 16000000 in
set_option maxRecDepth 100000 in
theorem merge_impl (A1 : Option Addr) (n1 cap1 : Nat) (as1 : List Pg) (A : Option Addr) (n cap : Nat) (bs : List Pg) (w : World) (hn1 : n1 ≤ 2000000) (h1 : Hid (PgAt w w.heap.size A1 n1 as1)) (hn : n ≤ 2000000) (h2 : Hid (PgAt w w.heap.size A n bs)) :
    Calls Try.prog 33 #[.slice A1 n1 cap1, .slice A n cap] w (GPost (mgV as1 bs) (mgOk as1 bs) w) := by
  obtain ⟨i0, hi, hz0, hz1, hz2⟩ := info_parts infoPg
  have HL1 := Lib.hid h1.out.1
  have HL2 := Lib.hid h2.out.1
  obtain ⟨G1, HG1⟩ : ∃ G, Hid (goodPg as1 = G) := ⟨_, Lib.hid rfl⟩
  obtain ⟨G2, HG2⟩ : ∃ G, Hid (goodPg bs = G) := ⟨_, Lib.hid rfl⟩
  have HA := Lib.hid (show mgOk as1 bs = (G1 && G2) by unfold mgOk; rw [HG1.out, HG2.out])
  go_enter Try.func33, Try.ntmps33
  go_wp2_with fail
  refine (arePassages_is A1 n1 cap1 as1 G1 HG1 _ hn1 h1).mono ?_
  rintro e w1 ⟨rfl, b1⟩
  have HB1 := Lib.hid b1
  clear b1
  cases G1
  · have HX := Lib.hid (show mgV as1 bs = [] by unfold mgV; rw [HA.out]; rfl)
    go_wp2_with fail
    go_ret2
    exact ⟨_, by rw [HA.out]; rfl, by rw [HX.out]; exact made1 w w1 HB1.out.size 53 5, HB1.out.alloc HB1.out.size _⟩
  go_wp2_with fail
  refine (arePassages_is A n cap bs G2 HG2 _ hn (Lib.hid (h2.out.step HB1.out))).mono ?_
  rintro e w2 ⟨rfl, b2⟩
  have HB2 := Lib.hid (HB1.out.trans (b2.mono HB1.out.size))
  clear b2 HB1
  cases G2
  · have HX := Lib.hid (show mgV as1 bs = [] by unfold mgV; rw [HA.out]; rfl)
    go_wp2_with fail
    go_ret2
    exact ⟨_, by rw [HA.out]; rfl, by rw [HX.out]; exact made1 w w2 HB2.out.size 53 5, HB2.out.alloc HB2.out.size _⟩
  have HX := Lib.hid (show mgV as1 bs = mgK as1 bs 8 by unfold mgV; rw [HA.out]; rfl)
  have HU1 := Lib.hid (up_of HG1.out)
  have HU2 := Lib.hid (up_of HG2.out)
  have hn18 : n1 ≤ 8 := by rw [← HL1.out]; exact good_len HG1.out
  have hn8 : n ≤ 8 := by rw [← HL2.out]; exact good_len HG2.out
  obtain ⟨C, hC⟩ : ∃ C, n1 + n = C := ⟨_, rfl⟩
  have hCi : (n1 : Int) + (n : Int) = (C : Int) := by omega
  obtain ⟨cs0, hcs⟩ : ∃ cs, madeCells (.agg #[.int .i64 0, .int .i64 0, .int .i64 0, .int .i64 0, .int .i64 0] : Value).cells (C * i0.size) = cs := ⟨_, rfl⟩
  have hcsz : cs0.size = C * 5 := by rw [← hcs, hz1]; simp [madeCells, Value.cells]
  have hmk : ∀ W : World, (Instr.makeSlice 25 (.int .i64 (n1 : Int)) (.int .i64 (C : Int))).run Try.prog W = .ok (.slice (some ⟨W.heap.size, 0, none⟩) n1 C) (W.alloc (.cells cs0 53)) := fun W => by
    have h := run_make_rowN (P := Try.prog) 25 53 i0 _ Try.underlying25 hi hz0 .i64 .i64 n1 C (by omega) (by rw [hz2]; omega) (by omega) W
    rw [hcs] at h
    exact h
  have hL0 : cs0.toList.length = C * 5 := by simpa using hcsz
  have HL0 := Lib.hid hL0
  have hw0 : IntKind.i64.wrap ((n1 : Int) + (n : Int)) = (C : Int) := by rw [IntWalk.i64_in _ (by omega)]; exact hCi
  have hCC : C ≤ 100 := by omega
  have hn1C : n1 ≤ C := by omega
  clear hcs hcsz hL0
  go_upto_region 4 with fail
  obtain ⟨M, HM⟩ : ∃ M, Hid (w2.heap.size = M) := ⟨_, Lib.hid rfl⟩
  obtain ⟨W0, HW0⟩ : ∃ W, Hid (w2.alloc (.cells cs0 53) = W) := ⟨_, Lib.hid rfl⟩
  have HBW := Lib.hid (show Below w.heap.size w W0 by rw [← HW0.out]; exact HB2.out.alloc HB2.out.size _)
  have HBM := Lib.hid (show Blk W0 M 53 cs0.toList.toArray by rw [← HW0.out, ← HM.out, Array.toArray_toList]; exact Blk.new _ _ _)
  have HMM := Lib.hid (show w.heap.size ≤ M by rw [← HM.out]; exact HB2.out.size)
  rw [HW0.out]
  try simp only [HM.out]
  clear HW0 HM HB2 hmk
  obtain ⟨W1, hR1, hcp⟩ := copy_made (cap1 := cap1) HL1.out HBW.out HMM.out hn1C hCC HBM.out HL0.out (h1.out.below HBW.out)
  have HR1 := Lib.hid hR1
  have HCP := Lib.hid hcp
  clear hR1 hcp HBM HBW HL0
  go_wp2_with fail
  rw [HCP.out]
  clear HCP
  go_wp2_with fail
  go_loopw [6, 33] (fun v i wr => ∃ (k L : Nat) (ms : List Pg), k ≤ n ∧ i = .int .i64 (k : Nat) ∧ v = .slice (some ⟨M, 0, none⟩) L C ∧ Hid (ms.length = L) ∧ L ≤ n1 + k ∧ Hid (Mg as1 (bs.take k) ms) ∧ RM w M C ms wr) (fun _ i _ => n - (intOf i).toNat)
  case atStart => exact ⟨0, n1, as1, Nat.zero_le _, rfl, rfl, HL1, Nat.le_refl _, Lib.hid (by rw [List.take_zero]; exact mg_start HU1.out), HR1.out⟩
  case round =>
    clear HR1
    obtain ⟨k, L, ms, hk, rfl, rfl, HL, hLk, HMG, hR⟩ := hrel
    have HR := Lib.hid hR
    clear hR
    have hk0 : (0 : Int) ≤ (k : Int) := by omega
    by_cases hlt : k < n
    · have hki : (k : Int) < (n : Int) := by omega
      have hkd : decide (k < n) = true := by simpa using hlt
      obtain ⟨y, hy⟩ := at_lt HL2.out hlt
      obtain ⟨g, rfl, hg, y0, y1, y2, y3, y4⟩ := (h2.out.below HR.out.1).2 k y hy
      have HY := Lib.hid hy
      have HOY := Lib.hid (HU2.out.1 k y hy)
      have hL8 : L ≤ 8 := by rw [← HL.out]; exact HMG.out.1.len
      have hLC : L + 1 ≤ C := by omega
      have HUM := Lib.hid HMG.out.1
      obtain ⟨p, HP⟩ : ∃ p, Hid (pos ms y.st = p) := ⟨_, Lib.hid rfl⟩
      obtain ⟨b, HBB⟩ : ∃ b, Hid (onSt ms y.st = b) := ⟨_, Lib.hid rfl⟩
      have hpL : p ≤ L := by rw [← HP.out, ← HL.out]; exact (pos_lim ms y.st).1
      clear hy
      go_upto_region 8 with fail
      obtain ⟨X, HXX⟩ : ∃ X, Hid (wr.heap.size = X) := ⟨_, Lib.hid rfl⟩
      obtain ⟨V, HVV⟩ : ∃ W, Hid (wr.alloc (.cells #[.int .i64 y.st, .int .i64 y.lf, .int .i64 y.rt, .int .i64 y.ab, .int .i64 y.be] 53) = W) := ⟨_, Lib.hid rfl⟩
      have HS1 := Lib.hid (show RM w M C ms V ∧ Blk V X 53 #[.int .i64 y.st, .int .i64 y.lf, .int .i64 y.rt, .int .i64 y.ab, .int .i64 y.be] ∧ M ≠ X by rw [← HVV.out, ← HXX.out]; exact ⟨HR.out.step ((Below.refl _ _).alloc (Nat.le_refl _) _), Blk.new _ _ _, by have := HR.out.lt; omega⟩)
      rw [HVV.out]
      try simp only [HXX.out]
      clear HVV HXX HR y0 y1 y2 y3 y4
      have x0 := HS1.out.2.1.cell 0
      simp at x0
      have HAT := Lib.hid (show PgAt V V.heap.size (some ⟨M, 0, none⟩) L ms by have q := HS1.out.1.at_; rwa [HL.out] at q)
      go_wp2_with fail
      refine (place_any (some ⟨M, 0, none⟩) L C ms y.st p b _ hL8 HAT HUM HP HBB).mono ?_
      rintro e w4 ⟨rfl, b4⟩
      have HS4 := Lib.hid (show RM w M C ms w4 ∧ Blk w4 X 53 #[.int .i64 y.st, .int .i64 y.lf, .int .i64 y.rt, .int .i64 y.ab, .int .i64 y.be] ∧ M ≠ X from ⟨HS1.out.1.step b4, HS1.out.2.1.below b4 HS1.out.2.1.lt, HS1.out.2.2⟩)
      clear b4 HS1 HAT x0
      have x0 := HS4.out.2.1.cell 0
      have x1 := HS4.out.2.1.cell 1
      have x2 := HS4.out.2.1.cell 2
      have x3 := HS4.out.2.1.cell 3
      have x4 := HS4.out.2.1.cell 4
      have hXl := HS4.out.2.1.lt
      simp at x0 x1 x2 x3 x4
      cases b
      · obtain ⟨n0, n1', n2'⟩ := on_no HUM.out HBB.out
        rw [HP.out] at n1' n2'
        have HI := Lib.hid (up_ins HUM.out (k := p) (p := y) (by rw [HL.out]; exact hpL) HOY.out n1' n2')
        have HMG2 := Lib.hid (mg_step HU2.out HY.out HMG.out HI.out.1 (r := y) (by rw [n0]; rfl) HI.out.2)
        have HLI := Lib.hid (show (insPg ms p y).length = L + 1 by rw [ins_len (by rw [HL.out]; exact hpL), HL.out])
        clear n0 n1' n2'
        have HS5 := Lib.hid (show RM w M C ms (w4.alloc (.cells #[.int .i64 y.st, .int .i64 y.lf, .int .i64 y.rt, .int .i64 y.ab, .int .i64 y.be] 53)) ∧ Blk (w4.alloc (.cells #[.int .i64 y.st, .int .i64 y.lf, .int .i64 y.rt, .int .i64 y.ab, .int .i64 y.be] 53)) w4.heap.size 53 (flatPg [y]).toArray ∧ w4.heap.size ≠ M from ⟨HS4.out.1.step ((Below.refl _ _).alloc (Nat.le_refl _) _), Blk.new _ _ _, by have := HS4.out.1.lt; omega⟩)
        go_wp2_with fail
        refine (insert_any w _ M C p w4.heap.size L ms y (Lib.hid HS5.out.1) HL hpL hLC hCC (Lib.hid HS5.out.2.1) HS5.out.2.2).mono ?_
        rintro e w5 ⟨rfl, hR5⟩
        have HR5 := Lib.hid hR5
        clear hR5 HS5 HS4 x0 x1 x2 x3 x4 hXl
        go_wp2_with fail
        go_roundw
        case rel => exact ⟨k + 1, L + 1, insPg ms p y, by omega, by go_num, rfl, HLI, by omega, HMG2, HR5.out⟩
        case measure => simp [intOf]; omega
      · obtain ⟨q, hq, hqs, hpq⟩ := on_yes HBB.out
        rw [HP.out] at hq
        have hpl : p < L := by rw [← HL.out]; exact lt_at hq
        have hpi : (p : Int) < (L : Int) := by omega
        have hp0 : (0 : Int) ≤ (p : Int) := by omega
        have HOQ := Lib.hid (HUM.out.1 p q hq)
        have HST := Lib.hid (up_set HUM.out hq (r := both q y) rfl (both_ok HOQ.out HOY.out))
        have HMG2 := Lib.hid (mg_step HU2.out HY.out HMG.out HST.out.1 (r := both q y) (by rw [hpq]; rfl) (fun s => by rw [HST.out.2 s]; show (if s = q.st then _ else _) = _; rw [hqs]))
        have HLI := Lib.hid (show (ms.set p (both q y)).length = L by rw [List.length_set, HL.out])
        obtain ⟨g9, e9, -, c0, c1, c2, c3, c4⟩ := HS4.out.1.at_.2 p q hq
        obtain rfl : M = g9 := congrArg Addr.block (Option.some.inj e9)
        have hMl := HS4.out.1.lt
        have HQ := Lib.hid hq
        clear hq hqs hpq e9
        go_upto_region 10 with fail
        refine wp_region_held_drew (S := (fun v : World => v.cell? ⟨X, 0, none⟩ = some (.int .i64 y.st) ∧ v.cell? ⟨X, 1, none⟩ = some (.int .i64 y.lf) ∧ v.cell? ⟨X, 2, none⟩ = some (.int .i64 y.rt) ∧ v.cell? ⟨X, 3, none⟩ = some (.int .i64 y.ab) ∧ v.cell? ⟨X, 4, none⟩ = some (.int .i64 y.be) ∧ X < v.heap.size ∧ Blk v X 53 #[.int .i64 y.st, .int .i64 y.lf, .int .i64 y.rt, .int .i64 y.ab, .int .i64 y.be])) (by kernel_rfl) ?_ (fun hHeld => ?_)
        · exact bx_mk (HS4.out.2.1.drew)
        refine' wpAnyH_take (i := 0) (v := ?vr2_0) rfl (by kernel_rfl) (by kernel_rfl) (by kernel_rfl) (fun _ _ _ h => h) (Or.inl ⟨by rfl, ?hyr2_0⟩) (by assumption) ?restr2_0
        case hyr2_0 => (intro w hSw; (try dsimp only at hSw); go_simp; try (with_reducible rfl))
        simp only [Act.put, List.getElem_toArray, List.getElem_cons_succ, List.getElem_cons_zero, List.setIfInBounds_toArray, List.set_cons_zero, List.set_cons_succ]
        refine' wpAnyH_take (i := 1) (v := ?vr2_1) rfl (by kernel_rfl) (by kernel_rfl) (by kernel_rfl) (fun _ _ _ h => h) (Or.inl ⟨by rfl, ?hyr2_1⟩) (by assumption) ?restr2_1
        case hyr2_1 => (intro w hSw; (try dsimp only at hSw); go_simp; try (with_reducible rfl))
        simp only [Act.put, List.getElem_toArray, List.getElem_cons_succ, List.getElem_cons_zero, List.setIfInBounds_toArray, List.set_cons_zero, List.set_cons_succ]
        refine' wpAnyH_take (i := 2) (v := ?vr2_2) rfl (by kernel_rfl) (by kernel_rfl) (by kernel_rfl) (fun _ _ _ h => h) (Or.inl ⟨by rfl, ?hyr2_2⟩) (by assumption) ?restr2_2
        case hyr2_2 => (intro w hSw; (try dsimp only at hSw); go_simp; try (with_reducible rfl))
        simp only [Act.put, List.getElem_toArray, List.getElem_cons_succ, List.getElem_cons_zero, List.setIfInBounds_toArray, List.set_cons_zero, List.set_cons_succ]
        refine' wpAnyH_take (i := 3) (v := ?vr2_3) rfl (by kernel_rfl) (by kernel_rfl) (by kernel_rfl) (fun _ _ _ h => h) (Or.inl ⟨by rfl, ?hyr2_3⟩) (by assumption) ?restr2_3
        case hyr2_3 => (intro w hSw; (try dsimp only at hSw); go_simp; try (with_reducible rfl))
        simp only [Act.put, List.getElem_toArray, List.getElem_cons_succ, List.getElem_cons_zero, List.setIfInBounds_toArray, List.set_cons_zero, List.set_cons_succ]
        refine' wpAnyH_take (i := 4) (v := ?vr2_4) rfl (by kernel_rfl) (by kernel_rfl) (by kernel_rfl) (fun _ _ _ h => h) (Or.inl ⟨by rfl, ?hyr2_4⟩) (by assumption) ?restr2_4
        case hyr2_4 => (intro w hSw; (try dsimp only at hSw); go_simp; try (with_reducible rfl))
        simp only [Act.put, List.getElem_toArray, List.getElem_cons_succ, List.getElem_cons_zero, List.setIfInBounds_toArray, List.set_cons_zero, List.set_cons_succ]
        refine' wpAnyH_take (i := 6) (v := ?vr2_6) rfl (by kernel_rfl) (by kernel_rfl) (by kernel_rfl) (fun _ _ _ h => h) (Or.inl ⟨by rfl, ?hyr2_6⟩) (by assumption) ?restr2_6
        case hyr2_6 => (intro w hSw; (try dsimp only at hSw); go_simp; try (with_reducible rfl))
        simp only [Act.put, List.getElem_toArray, List.getElem_cons_succ, List.getElem_cons_zero, List.setIfInBounds_toArray, List.set_cons_zero, List.set_cons_succ]
        have HR0 := Lib.hid (show RM w M C ms w4.drew from HS4.out.1.step (drewN_below _ 1))
        refine wpAnyH_ready (rs := [5]) (by kernel_rfl) (by simp) ?_
        refine AllReadyH.cons rfl (fun K hK => ?_) AllReadyH.nil
        go_simp
        refine hK.out _ _ hHeld (fun hHeld1 => ?_)
        clear hK K hHeld
        have hHeld := hHeld1
        clear hHeld1
        try simp only [Act.put, List.getElem_toArray, List.getElem_cons_succ, List.getElem_cons_zero, List.setIfInBounds_toArray, List.set_cons_zero, List.set_cons_succ]
        refine wpAnyH_ready (rs := [7]) (by kernel_rfl) (by simp) ?_
        refine AllReadyH.cons rfl (fun K hK => ?_) AllReadyH.nil
        go_simp
        refine (narrow_any q y _).mono ?_
        rintro e w7 ⟨rfl, b7⟩
        have HRB := Lib.hid b7
        refine hK.out _ _ (bx_mk (hHeld.2.2.2.2.2.2.below b7 hHeld.2.2.2.2.2.2.lt)) (fun hHeld1 => ?_)
        clear hK K hHeld
        have hHeld := hHeld1
        clear hHeld1
        try simp only [Act.put, List.getElem_toArray, List.getElem_cons_succ, List.getElem_cons_zero, List.setIfInBounds_toArray, List.set_cons_zero, List.set_cons_succ]
        refine' wpAnyH_take (i := 8) (v := ?vr2_8) rfl (by kernel_rfl) (by kernel_rfl) (by kernel_rfl) (fun _ _ _ h => h) (Or.inl ⟨by rfl, ?hyr2_8⟩) (by assumption) ?restr2_8
        case hyr2_8 => (intro w hSw; (try dsimp only at hSw); go_simp; try (with_reducible rfl))
        simp only [Act.put, List.getElem_toArray, List.getElem_cons_succ, List.getElem_cons_zero, List.setIfInBounds_toArray, List.set_cons_zero, List.set_cons_succ]
        have HR7 := Lib.hid (show RM w M C ms w7 from HR0.out.step HRB.out)
        have z := HR7.out.at_.2 p q HQ.out
        obtain ⟨g9, e9, -, d0, d1, d2, d3, d4⟩ := z
        obtain rfl : M = g9 := congrArg Addr.block (Option.some.inj e9)
        have f0 := HR7.out.fro (p * 5)
        have f1 := HR7.out.fro (p * 5 + 1)
        have f2 := HR7.out.fro (p * 5 + 2)
        have f3 := HR7.out.fro (p * 5 + 3)
        have f4 := HR7.out.fro (p * 5 + 4)
        have hMl7 := HR7.out.lt
        refine wpAnyH_ready (rs := [9]) (by kernel_rfl) (by simp) ?_
        refine AllReadyH.cons rfl (fun K hK => ?_) AllReadyH.nil
        go_simp
        refine hK.out _ _ (bx_mk (Blk.far (Blk.far (Blk.far (Blk.far (Blk.far hHeld.2.2.2.2.2.2 (p := (⟨M, p * 5, none⟩ : Addr)) (Ne.symm HS4.out.2.2) _) (p := (⟨M, p * 5 + 1, none⟩ : Addr)) (Ne.symm HS4.out.2.2) _) (p := (⟨M, p * 5 + 2, none⟩ : Addr)) (Ne.symm HS4.out.2.2) _) (p := (⟨M, p * 5 + 3, none⟩ : Addr)) (Ne.symm HS4.out.2.2) _) (p := (⟨M, p * 5 + 4, none⟩ : Addr)) (Ne.symm HS4.out.2.2) _)) (fun hHeld1 => ?_)
        clear hK K hHeld
        have hHeld := hHeld1
        clear hHeld1
        try simp only [Act.put, List.getElem_toArray, List.getElem_cons_succ, List.getElem_cons_zero, List.setIfInBounds_toArray, List.set_cons_zero, List.set_cons_succ]
        refine wpAnyH_done (by kernel_rfl) ?_ _
        have HR9 := Lib.hid (HR7.out.put (by rw [HL.out]; exact hpl) (both q y))
        have HR10 := Lib.hid (HR9.out)
        go_wp2_with fail
        go_roundw
        case rel => exact ⟨k + 1, L, ms.set p (both q y), by omega, by go_num, rfl, HLI, by omega, HMG2, HR10.out⟩
        case measure => simp [intOf]; omega
    · have hkd : decide (k < n) = false := by simpa using hlt
      obtain rfl : k = n := by omega
      have HE := Lib.hid (show mgV as1 bs = ms by
        rw [HX.out]
        have q := HMG.out
        rw [List.take_of_length_le (by rw [HL2.out]; exact Nat.le_refl _)] at q
        exact (mg_end HU1.out HU2.out q).symm)
      go_wp2_with fail
      go_ret2
      exact ⟨_, by rw [HA.out]; rfl, by rw [HE.out]; have q := HR.out.own; rw [HL.out] at q ⊢; exact q, HR.out.1⟩
end Go.Proofs.Ytnpghhpcloljeaa.pw
