/-
  The program's line of an entry.
  Conditions: the table of the powers of ten is laid.
-/
import Derived.Test.YtnlljdepcldibaaGreatDoorEtA
import Derived.Test.YtnlljdepcldibaaGreatDoorEiT
import Derived.Test.YtnlljdepcldibaaGreatDoorJoinC
import Derived.Deep.RegionHeld3
namespace Go.Proofs.YtnlljdepcldibaaGreatDoor.ent
open Go.RowKit
open reads base ty lg en eni pow txt strmath iterc ntx joinc
set_option linter.unusedVariables false
set_option linter.unusedSimpArgs false

set_option maxHeartbeats 4000000 in
set_option maxRecDepth 100000 in
theorem met_is (t : Int) (s : ByteArray) (h : Hid (met t = s)) (w : World) (h0 : 0 ≤ t) (h1 : t ≤ 500) (hT : Hid (TabP w)) : Calls Tryz.prog 21 #[.int .i64 t] w (APost (.string s) w) := by
  obtain ⟨tq, htq⟩ : ∃ q, t / 10 = q := ⟨_, rfl⟩
  obtain ⟨tr, htr⟩ : ∃ q, t % 10 = q := ⟨_, rfl⟩
  have tq0 : 0 ≤ tq ∧ tq ≤ 50 := by omega
  have tr0 : 0 ≤ tr ∧ tr ≤ 9 := by omega
  obtain ⟨tq0, tq1⟩ := tq0
  obtain ⟨tr0, tr1⟩ := tr0
  have hdq : t.tdiv 10 = tq := by rw [Int.tdiv_eq_ediv_of_nonneg (by omega)]; exact htq
  have hdr : t.tmod 10 = tr := by rw [Int.tmod_eq_emod_of_nonneg (by omega)]; exact htr
  obtain ⟨n0, hn0⟩ : ∃ q, num tq = q := ⟨_, rfl⟩
  obtain ⟨n1, hn1⟩ : ∃ q, num tr = q := ⟨_, rfl⟩
  obtain ⟨p0, hp0⟩ : ∃ q, n0 ++ (⟨#[46]⟩ : ByteArray) = q := ⟨_, rfl⟩
  have hs : p0 ++ n1 = s := by rw [← h.out, met, ← hp0, ← hn0, ← hn1, htq, htr]
  have s0 : n0.size ≤ 7 := by rw [← hn0]; exact num_size _ (by omega) (by omega)
  have s1 : n1.size ≤ 7 := by rw [← hn1]; exact num_size _ (by omega) (by omega)
  have z0 := add_size hp0
  have e0 : (⟨#[46]⟩ : ByteArray).size = 1 := rfl
  have hw0 : ∀ W : World, (Op.stringOp .add n0 (⟨#[46]⟩ : ByteArray)).run Tryz.prog W = .ok (.string p0) W := fun W => add_run hp0 100 (by omega) (by decide) W
  have HW1 := Lib.hid (show ∀ W : World, (Op.stringOp .add p0 n1).run Tryz.prog W = .ok (.string s) W from fun W => add_run hs 100 (by omega) (by decide) W)
  have N0 := Lib.hid hn0
  have N1 := Lib.hid hn1
  clear htq htr hn0 hn1 hp0 hs s0 s1 z0 e0
  go_enter Tryz.func21, Tryz.ntmps21
  go_wp2_with fail
  refine (itoa_is tq n0 N0 _ (by omega) (by omega) hT).mono ?_
  rintro e w1 ⟨rfl, b1⟩
  have HB1 := Lib.hid b1
  have HT1 := Lib.hid (hT.out.below b1)
  clear b1
  go_wp2_with fail
  refine (itoa_is tr n1 N1 _ (by omega) (by omega) HT1).mono ?_
  rintro e w2 ⟨rfl, b2⟩
  have HB2 := Lib.hid (HB1.out.trans (b2.mono HB1.out.size))
  have hw1 := HW1.out
  clear b2
  go_wp2_with fail
  go_ret
  exact ⟨rfl, HB2.out⟩
set_option maxHeartbeats 4000000 in
set_option maxRecDepth 100000 in
theorem slo_is (t : Int) (s : ByteArray) (h : Hid (slo t = s)) (w : World) (h0 : -90 ≤ t) (h1 : t ≤ 90) (hT : Hid (TabP w)) : Calls Tryz.prog 22 #[.int .i64 t] w (APost (.string s) w) := by
  obtain ⟨n0, hn0⟩ : ∃ q, num t = q := ⟨_, rfl⟩
  have s0 : n0.size ≤ 7 := by rw [← hn0]; exact num_size _ (by omega) (by omega)
  have N0 := Lib.hid hn0
  by_cases c : 0 < t
  · have d : decide (0 < t) = true := by simpa using c
    have hs : (⟨#[43]⟩ : ByteArray) ++ n0 = s := by rw [← h.out, slo, if_pos c, hn0]
    have HW1 := Lib.hid (show ∀ W : World, (Op.stringOp .add (⟨#[43]⟩ : ByteArray) n0).run Tryz.prog W = .ok (.string s) W from fun W => add_run hs 100 (by have : (⟨#[43]⟩ : ByteArray).size = 1 := rfl; omega) (by decide) W)
    clear hs hn0
    go_enter Tryz.func22, Tryz.ntmps22
    go_wp2_with fail
    refine (itoa_is t n0 N0 _ (by omega) (by omega) hT).mono ?_
    rintro e w1 ⟨rfl, b1⟩
    have HB1 := Lib.hid b1
    have hw1 := HW1.out
    clear b1
    go_wp2_with fail
    go_ret
    exact ⟨rfl, HB1.out⟩
  · have d : decide (0 < t) = false := by simpa using c
    obtain rfl : n0 = s := by rw [← h.out, slo, if_neg c, hn0]
    clear hn0
    go_enter Tryz.func22, Tryz.ntmps22
    go_wp2_with fail
    refine (itoa_is t n0 N0 _ (by omega) (by omega) hT).mono ?_
    rintro e w1 ⟨rfl, b1⟩
    have HB1 := Lib.hid b1
    clear b1
    go_wp2_with fail
    go_ret
    exact ⟨rfl, HB1.out⟩
theorem infoS : (Tryz.prog.info? 9).map (fun i => (i.zero, i.size, i.bytes)) = some (some (.string ⟨#[]⟩), 1, 16) := by kernel_rfl
/-- the joined words -/
theorem join_words (x : En) (hx : okEn x = true) (A : Option Addr) (n cp : Nat) (s : ByteArray) (w : World) (hs : Hid (etx x = s)) (hr : Hid (Reads w w.heap.size 1 A n (strs (ew x)))) (hn : n = (ew x).length) :
    Calls Tryz.prog 23 #[.slice A n cp, .string ⟨#[32]⟩] w (APost (.tuple #[.string s, .bool true]) w) := by
  have hl := etx_len hx
  have hlen : 0 < n ∧ n ≤ 6 := by rw [hn]; unfold ew; cases x.back <;> simp
  refine (join_any A n cp 32 (ew x) w hr.out hlen.1 (by omega) ?_).mono ?_
  · intro p hp
    have h := pcs_mem 32 (etx x) p (by rw [etx_words hx]; exact hp)
    have := etx_size hx
    omega
  · rintro e w' ⟨h, hb⟩
    refine ⟨?_, hb⟩
    rcases h with ⟨-, -, rfl⟩ | ⟨h, -⟩
    · rw [← hs.out]; rfl
    · rcases h with h | h
      · rw [ew_clean hx] at h; cases h
      · omega
set_option maxHeartbeats 4000000 in
set_option maxRecDepth 100000 in
theorem entryLine_impl (x : En) (w : World) (hT : Hid (TabP w)) : Calls Tryz.prog 6 #[.agg #[.int .i64 x.frm, .int .i64 x.to_, .int .i64 x.tape, .int .i64 x.comp, .int .i64 x.slope, .bool x.back]] w (APost (ansLn x) w) := by
  have HS0 := Lib.hid (TE.start w x)
  obtain ⟨i0, hi, hz0, hz1, hz2⟩ := info_parts infoS
  cases hx : okEn x
  · have HA := Lib.hid (show ansLn x = .tuple #[.string ⟨#[]⟩, .bool false] by unfold ansLn; rw [hx]; rfl)
    have HX := Lib.hid hx
    clear hx
    rw [HA.out]
    go_enter Tryz.func6, Tryz.ntmps6
    go_wp2_with fail
    refine (isEntry_is x false HX _).mono ?_
    rintro e w1 ⟨rfl, b1⟩
    have HB := Lib.hid (HS0.out.step b1)
    clear b1
    go_wp2_with fail
    go_ret2
    exact ⟨rfl, HB.out.2⟩
  · obtain ⟨s, hs⟩ : ∃ s, etx x = s := ⟨_, rfl⟩
    have HA := Lib.hid (show ansLn x = .tuple #[.string s, .bool true] by unfold ansLn; rw [hx, hs]; rfl)
    have HX := Lib.hid hx
    have HS := Lib.hid hs
    obtain ⟨⟨a0, a1⟩, ⟨a2, a3⟩, -, ⟨a4, a5⟩, ⟨a6, a7⟩, a8, a9⟩ := okEn_lim hx
    obtain ⟨n0, Hn0⟩ : ∃ q, Hid (num x.frm = q) := ⟨_, Lib.hid rfl⟩
    obtain ⟨n1, Hn1⟩ : ∃ q, Hid (num x.to_ = q) := ⟨_, Lib.hid rfl⟩
    obtain ⟨n2, Hn2⟩ : ∃ q, Hid (met x.tape = q) := ⟨_, Lib.hid rfl⟩
    obtain ⟨n3, Hn3⟩ : ∃ q, Hid (num x.comp = q) := ⟨_, Lib.hid rfl⟩
    obtain ⟨n4, Hn4⟩ : ∃ q, Hid (slo x.slope = q) := ⟨_, Lib.hid rfl⟩
    clear hx hs
    rw [HA.out]
    go_enter Tryz.func6, Tryz.ntmps6
    go_wp2_with fail
    refine (isEntry_is x true HX _).mono ?_
    rintro e w1 ⟨rfl, b1⟩
    have HS1 := Lib.hid (HS0.out.step b1)
    clear b1
    obtain ⟨y0, y1, y2, y3, y4, y5, yl⟩ := HS1.out.cs
    go_wp2_with fail
    refine wp_region_held_drew (S := (fun v => v.cell? ⟨w.heap.size, 0, none⟩ = some (.int .i64 x.frm) ∧ v.cell? ⟨w.heap.size, 1, none⟩ = some (.int .i64 x.to_) ∧ v.cell? ⟨w.heap.size, 2, none⟩ = some (.int .i64 x.tape) ∧ v.cell? ⟨w.heap.size, 3, none⟩ = some (.int .i64 x.comp) ∧ v.cell? ⟨w.heap.size, 4, none⟩ = some (.int .i64 x.slope) ∧ v.cell? ⟨w.heap.size, 5, none⟩ = some (.bool x.back) ∧ TE w x v)) (by kernel_rfl) ?_ (fun hHeld => ?_)
    · exact te_mk (HS1.out.step (drewN_below _ 1))
    refine' wpAnyH_take (i := 0) (v := ?vr4_0) rfl (by kernel_rfl) (by kernel_rfl) (by kernel_rfl) (fun _ _ _ h => h) (Or.inl ⟨by rfl, ?hyr4_0⟩) (by assumption) ?restr4_0
    case hyr4_0 => (intro w hSw; (try dsimp only at hSw); go_simp; try (with_reducible rfl))
    simp only [Act.put, List.getElem_toArray, List.getElem_cons_succ, List.getElem_cons_zero, List.setIfInBounds_toArray, List.set_cons_zero, List.set_cons_succ]
    refine' wpAnyH_take (i := 1) (v := ?vr4_1) rfl (by kernel_rfl) (by kernel_rfl) (by kernel_rfl) (fun _ _ _ h => h) (Or.inl ⟨by rfl, ?hyr4_1⟩) (by assumption) ?restr4_1
    case hyr4_1 => (intro w hSw; (try dsimp only at hSw); go_simp; try (with_reducible rfl))
    simp only [Act.put, List.getElem_toArray, List.getElem_cons_succ, List.getElem_cons_zero, List.setIfInBounds_toArray, List.set_cons_zero, List.set_cons_succ]
    refine' wpAnyH_take (i := 3) (v := ?vr4_3) rfl (by kernel_rfl) (by kernel_rfl) (by kernel_rfl) (fun _ _ _ h => h) (Or.inl ⟨by rfl, ?hyr4_3⟩) (by assumption) ?restr4_3
    case hyr4_3 => (intro w hSw; (try dsimp only at hSw); go_simp; try (with_reducible rfl))
    simp only [Act.put, List.getElem_toArray, List.getElem_cons_succ, List.getElem_cons_zero, List.setIfInBounds_toArray, List.set_cons_zero, List.set_cons_succ]
    refine' wpAnyH_take (i := 4) (v := ?vr4_4) rfl (by kernel_rfl) (by kernel_rfl) (by kernel_rfl) (fun _ _ _ h => h) (Or.inl ⟨by rfl, ?hyr4_4⟩) (by assumption) ?restr4_4
    case hyr4_4 => (intro w hSw; (try dsimp only at hSw); go_simp; try (with_reducible rfl))
    simp only [Act.put, List.getElem_toArray, List.getElem_cons_succ, List.getElem_cons_zero, List.setIfInBounds_toArray, List.set_cons_zero, List.set_cons_succ]
    refine' wpAnyH_take (i := 6) (v := ?vr4_6) rfl (by kernel_rfl) (by kernel_rfl) (by kernel_rfl) (fun _ _ _ h => h) (Or.inl ⟨by rfl, ?hyr4_6⟩) (by assumption) ?restr4_6
    case hyr4_6 => (intro w hSw; (try dsimp only at hSw); go_simp; try (with_reducible rfl))
    simp only [Act.put, List.getElem_toArray, List.getElem_cons_succ, List.getElem_cons_zero, List.setIfInBounds_toArray, List.set_cons_zero, List.set_cons_succ]
    refine' wpAnyH_take (i := 7) (v := ?vr4_7) rfl (by kernel_rfl) (by kernel_rfl) (by kernel_rfl) (fun _ _ _ h => h) (Or.inl ⟨by rfl, ?hyr4_7⟩) (by assumption) ?restr4_7
    case hyr4_7 => (intro w hSw; (try dsimp only at hSw); go_simp; try (with_reducible rfl))
    simp only [Act.put, List.getElem_toArray, List.getElem_cons_succ, List.getElem_cons_zero, List.setIfInBounds_toArray, List.set_cons_zero, List.set_cons_succ]
    refine' wpAnyH_take (i := 9) (v := ?vr4_9) rfl (by kernel_rfl) (by kernel_rfl) (by kernel_rfl) (fun _ _ _ h => h) (Or.inl ⟨by rfl, ?hyr4_9⟩) (by assumption) ?restr4_9
    case hyr4_9 => (intro w hSw; (try dsimp only at hSw); go_simp; try (with_reducible rfl))
    simp only [Act.put, List.getElem_toArray, List.getElem_cons_succ, List.getElem_cons_zero, List.setIfInBounds_toArray, List.set_cons_zero, List.set_cons_succ]
    refine' wpAnyH_take (i := 10) (v := ?vr4_10) rfl (by kernel_rfl) (by kernel_rfl) (by kernel_rfl) (fun _ _ _ h => h) (Or.inl ⟨by rfl, ?hyr4_10⟩) (by assumption) ?restr4_10
    case hyr4_10 => (intro w hSw; (try dsimp only at hSw); go_simp; try (with_reducible rfl))
    simp only [Act.put, List.getElem_toArray, List.getElem_cons_succ, List.getElem_cons_zero, List.setIfInBounds_toArray, List.set_cons_zero, List.set_cons_succ]
    refine' wpAnyH_take (i := 12) (v := ?vr4_12) rfl (by kernel_rfl) (by kernel_rfl) (by kernel_rfl) (fun _ _ _ h => h) (Or.inl ⟨by rfl, ?hyr4_12⟩) (by assumption) ?restr4_12
    case hyr4_12 => (intro w hSw; (try dsimp only at hSw); go_simp; try (with_reducible rfl))
    simp only [Act.put, List.getElem_toArray, List.getElem_cons_succ, List.getElem_cons_zero, List.setIfInBounds_toArray, List.set_cons_zero, List.set_cons_succ]
    refine' wpAnyH_take (i := 13) (v := ?vr4_13) rfl (by kernel_rfl) (by kernel_rfl) (by kernel_rfl) (fun _ _ _ h => h) (Or.inl ⟨by rfl, ?hyr4_13⟩) (by assumption) ?restr4_13
    case hyr4_13 => (intro w hSw; (try dsimp only at hSw); go_simp; try (with_reducible rfl))
    simp only [Act.put, List.getElem_toArray, List.getElem_cons_succ, List.getElem_cons_zero, List.setIfInBounds_toArray, List.set_cons_zero, List.set_cons_succ]
    refine wpAnyH_ready (rs := [2]) (by kernel_rfl) (by simp) ?_
    refine AllReadyH.cons rfl (fun K hK => ?_) AllReadyH.nil
    go_simp
    refine (itoa_is x.frm n0 Hn0 _ (by omega) (by omega) (Lib.hid (hT.out.below hHeld.2.2.2.2.2.2.2))).mono ?_
    rintro e v0 ⟨rfl, bb⟩
    refine hK.out _ _ (te_mk (hHeld.2.2.2.2.2.2.step bb)) (fun hHeld1 => ?_)
    clear hK K hHeld
    have hHeld := hHeld1
    clear hHeld1
    try simp only [Act.put, List.getElem_toArray, List.getElem_cons_succ, List.getElem_cons_zero, List.setIfInBounds_toArray, List.set_cons_zero, List.set_cons_succ]
    refine wpAnyH_ready (rs := [5]) (by kernel_rfl) (by simp) ?_
    refine AllReadyH.cons rfl (fun K hK => ?_) AllReadyH.nil
    go_simp
    refine (itoa_is x.to_ n1 Hn1 _ (by omega) (by omega) (Lib.hid (hT.out.below hHeld.2.2.2.2.2.2.2))).mono ?_
    rintro e v1 ⟨rfl, bb⟩
    refine hK.out _ _ (te_mk (hHeld.2.2.2.2.2.2.step bb)) (fun hHeld1 => ?_)
    clear hK K hHeld
    have hHeld := hHeld1
    clear hHeld1
    try simp only [Act.put, List.getElem_toArray, List.getElem_cons_succ, List.getElem_cons_zero, List.setIfInBounds_toArray, List.set_cons_zero, List.set_cons_succ]
    refine wpAnyH_ready (rs := [8]) (by kernel_rfl) (by simp) ?_
    refine AllReadyH.cons rfl (fun K hK => ?_) AllReadyH.nil
    go_simp
    refine (met_is x.tape n2 Hn2 _ (by omega) (by omega) (Lib.hid (hT.out.below hHeld.2.2.2.2.2.2.2))).mono ?_
    rintro e v2 ⟨rfl, bb⟩
    refine hK.out _ _ (te_mk (hHeld.2.2.2.2.2.2.step bb)) (fun hHeld1 => ?_)
    clear hK K hHeld
    have hHeld := hHeld1
    clear hHeld1
    try simp only [Act.put, List.getElem_toArray, List.getElem_cons_succ, List.getElem_cons_zero, List.setIfInBounds_toArray, List.set_cons_zero, List.set_cons_succ]
    refine wpAnyH_ready (rs := [11]) (by kernel_rfl) (by simp) ?_
    refine AllReadyH.cons rfl (fun K hK => ?_) AllReadyH.nil
    go_simp
    refine (itoa_is x.comp n3 Hn3 _ (by omega) (by omega) (Lib.hid (hT.out.below hHeld.2.2.2.2.2.2.2))).mono ?_
    rintro e v3 ⟨rfl, bb⟩
    refine hK.out _ _ (te_mk (hHeld.2.2.2.2.2.2.step bb)) (fun hHeld1 => ?_)
    clear hK K hHeld
    have hHeld := hHeld1
    clear hHeld1
    try simp only [Act.put, List.getElem_toArray, List.getElem_cons_succ, List.getElem_cons_zero, List.setIfInBounds_toArray, List.set_cons_zero, List.set_cons_succ]
    refine wpAnyH_ready (rs := [14]) (by kernel_rfl) (by simp) ?_
    refine AllReadyH.cons rfl (fun K hK => ?_) AllReadyH.nil
    go_simp
    refine (slo_is x.slope n4 Hn4 _ (by omega) (by omega) (Lib.hid (hT.out.below hHeld.2.2.2.2.2.2.2))).mono ?_
    rintro e v4 ⟨rfl, bb⟩
    refine hK.out _ _ (te_mk (hHeld.2.2.2.2.2.2.step bb)) (fun hHeld1 => ?_)
    clear hK K hHeld
    have hHeld := hHeld1
    clear hHeld1
    try simp only [Act.put, List.getElem_toArray, List.getElem_cons_succ, List.getElem_cons_zero, List.setIfInBounds_toArray, List.set_cons_zero, List.set_cons_succ]
    refine wpAnyH_ready (rs := [15]) (by kernel_rfl) (by simp) ?_
    refine AllReadyH.cons rfl (fun K hK => ?_) AllReadyH.nil
    go_simp
    refine hK.out _ _ (te_mk (hHeld.2.2.2.2.2.2.step ((Below.refl _ _).alloc (Nat.le_refl _) _))) (fun hHeld1 => ?_)
    clear hK K hHeld
    have hHeld := hHeld1
    clear hHeld1
    try simp only [Act.put, List.getElem_toArray, List.getElem_cons_succ, List.getElem_cons_zero, List.setIfInBounds_toArray, List.set_cons_zero, List.set_cons_succ]
    refine' wpAnyH_take (i := 16) (v := ?vr4_16) rfl (by kernel_rfl) (by kernel_rfl) (by kernel_rfl) (fun _ _ _ h => h) (Or.inl ⟨by rfl, ?hyr4_16⟩) (by assumption) ?restr4_16
    case hyr4_16 => (intro w hSw; (try dsimp only at hSw); go_simp; try (with_reducible rfl))
    simp only [Act.put, List.getElem_toArray, List.getElem_cons_succ, List.getElem_cons_zero, List.setIfInBounds_toArray, List.set_cons_zero, List.set_cons_succ]
    refine wpAnyH_done (by kernel_rfl) ?_ _
    have HS2 := Lib.hid (hHeld.2.2.2.2.2.2)
    clear hHeld HS1 y0 y1 y2 y3 y4 y5 yl
    obtain ⟨G, HG⟩ : ∃ G, Hid (v4.heap.size = G) := ⟨_, Lib.hid rfl⟩
    obtain ⟨W2, HW2⟩ : ∃ W, Hid (v4.alloc (.cells #[.string n0, .string n1, .string n2, .string n3, .string n4] 9) = W) := ⟨_, Lib.hid rfl⟩
    have HK := Lib.hid (show Blk W2 G 9 #[.string n0, .string n1, .string n2, .string n3, .string n4] by rw [← HW2.out, ← HG.out]; exact Blk.new _ _ _)
    have HS3 := Lib.hid (show TE w x W2 by rw [← HW2.out]; exact HS2.out)
    have hGw : w.heap.size ≤ G := by rw [← HG.out]; have h := HS2.out.1.lt; simp at h; omega
    rw [HW2.out, HG.out]
    clear HW2 HG HS2
    obtain ⟨y0, y1, y2, y3, y4, y5, yl⟩ := HS3.out.cs
    have hKl := HK.out.lt
    obtain hb | hb : x.back = false ∨ x.back = true := by cases x.back <;> simp
    · have HEW := Lib.hid (show ew x = [n0, n1, n2, n3, n4] by unfold ew; rw [hb, Hn0.out, Hn1.out, Hn2.out, Hn3.out, Hn4.out]; rfl)
      have HR := Lib.hid (show Reads W2 W2.heap.size 1 (some ⟨G, 0, none⟩) 5 (strs (ew x)) by rw [HEW.out]; exact HK.out.reads)
      have HN := Lib.hid (show 5 = (ew x).length by rw [HEW.out]; rfl)
      go_wp2_with fail
      refine (join_words x HX.out (some ⟨G, 0, none⟩) 5 _ s _ HS HR HN.out).mono ?_
      rintro e w3 ⟨rfl, b3⟩
      have HB := Lib.hid (HS3.out.2.trans (b3.mono HS3.out.2.size))
      clear b3
      go_wp2_with fail
      go_ret2
      exact ⟨rfl, HB.out⟩
    · have HEW := Lib.hid (show ew x = [n0, n1, n2, n3, n4, ⟨#[98]⟩] by unfold ew; rw [hb, Hn0.out, Hn1.out, Hn2.out, Hn3.out, Hn4.out]; rfl)
      have HO := Lib.hid (show W2.ownsRow w.heap.size 9 1 (.slice (some ⟨G, 0, none⟩) 5 5) 5 (strs [n0, n1, n2, n3, n4]) from row_blk (n := 5) HK.out hGw (by decide) rfl)
      have hBs := HS3.out.2.size
      go_wp2_with (at_builtin; refine wpList_append_own _ rfl _ _ 40 rfl w.heap.size 9 i0 (.string ⟨#[]⟩) 1 16 Tryz.underlying40 hi hz0 hz1 hz2 rfl (by decide) _ _ _ rfl (HO.out.alloc _) ⟨W2.heap.size, 0, none⟩ 1 1 [.string ⟨#[98]⟩] rfl rfl (World.news_of_block (alloc_at rfl)) (by simp [Value.oneCell']) (by unfold maxLen; omega) (by omega) (by simp; omega) ?_; intro v' w9 hown' hgrow _; obtain ⟨A9, c9, rfl⟩ := row_slice hown')
      have HB9 := Lib.hid ((HS3.out.2.alloc hBs _).grown hgrow (by simp; omega) (fun j ej => (HO.out.lt j ej).1))
      have HR := Lib.hid (show Reads w9 w9.heap.size 1 A9 (5 + 1) (strs (ew x)) by rw [HEW.out]; exact Reads.of_own hown')
      have HN := Lib.hid (show 5 + 1 = (ew x).length by rw [HEW.out]; rfl)
      clear hown' hgrow
      refine (join_words x HX.out A9 (5 + 1) c9 s _ HS HR HN.out).mono ?_
      rintro e w3 ⟨rfl, b3⟩
      have HB := Lib.hid (HB9.out.trans (b3.mono HB9.out.size))
      clear b3
      go_wp2_with fail
      go_ret2
      exact ⟨rfl, HB.out⟩
end Go.Proofs.YtnlljdepcldibaaGreatDoor.ent
