/-
  slices.Insert of one passage where there is room.
  Conditions: the passages lie in one block, at most 2000000 of them.
-/
import Derived.Test.YtnpghhpcloljeaaPwV
import Derived.BigQuiet
import Derived.Deep.QuietTactic
import Derived.Deep.Cut
import Derived.Deep.DeepCutAuto
import Derived.RegionTactic
import Derived.Deep.RegionWith
import Derived.OwnWalk
import Derived.Deep.RegionHeld3
import Derived.Laws.Externs
import Derived.Lib.Overlaps
import Derived.Shelf.RegionOpenPlain
import Derived.Lib.Walk
namespace Go.Proofs.Ytnpghhpcloljeaa.pw
open Go.RowKit
open reads base ty rowi win lg
set_option linter.unusedVariables false
set_option linter.unusedSimpArgs false

set_option maxHeartbeats 8000000 in
set_option maxRecDepth 100000 in
theorem insert_any (w u : World) (M C i Q L : Nat) (ms : List Pg) (x : Pg) (h : Hid (RM w M C ms u)) (hL : Hid (ms.length = L)) (hi : i ≤ L) (hC : L + 1 ≤ C) (hC1 : C ≤ 100) (hq : Hid (Blk u Q 53 (flatPg [x]).toArray)) (hne : Q ≠ M) :
    Calls Try.prog 72 #[.slice (some ⟨M, 0, none⟩) L C, .int .i64 (i : Nat), .slice (some ⟨Q, 0, none⟩) 1 1] u fun e u' => e = .returned (.slice (some ⟨M, 0, none⟩) (L + 1) C) ∧ RM w M C (insPg ms i x) u' := by
  have h1 : (1 : Int) ≤ (C : Int) := by omega
  have hiC : (i : Int) ≤ (C : Int) := by omega
  have hil : (i : Int) ≤ (L : Int) := by omega
  have hi0 : (0 : Int) ≤ (i : Int) := by omega
  have hLC : (L : Int) ≤ (C : Int) := by omega
  have hl1 : (L : Int) + 1 ≤ (C : Int) := by omega
  by_cases he : i = L
  · subst he
    have HE := Lib.hid (show insPg ms i x = ms ++ [x] by unfold insPg; rw [List.take_of_length_le (by rw [hL.out]; exact Nat.le_refl _), List.drop_of_length_le (by rw [hL.out]; exact Nat.le_refl _)])
    rw [HE.out]
    by_cases hCi : C = i
    · omega
    have hCi2 : ¬ (C : Int) = (i : Int) := by omega
    go_enter Try.func72, Try.ntmps72
    go_wp2_with (at_builtin; refine wpList_app_room rfl _ _ rfl rfl rfl hL.out hC h.out hq.out ?_; intro u' hu'; have HU := Lib.hid hu'; clear hu')
    go_ret
    exact ⟨rfl, HU.out⟩
  · have hlt : i < L := by omega
    obtain ⟨hb, hM, hc, hc1, rs, hr, hB⟩ := h.out
    rw [hL.out] at hr hc
    have HB := Lib.hid hB
    have HBL := Lib.hid hb
    have HR := Lib.hid hr
    have hfl : (flatPg ms ++ rs).length = C * 5 := by rw [List.length_append, flatPg_len, hL.out, hr]; omega
    have HFL := Lib.hid hfl
    have hdl : (flatPg (ms.drop i)).length = (L - i) * 5 := by rw [flatPg_len, List.length_drop, hL.out]
    have hsz : (Try.prog.info? 53).map (·.size) = some 5 := by kernel_rfl
    obtain ⟨W1, HW1⟩ : ∃ W, Hid (u.drew.setRow M (putL (flatPg ms ++ rs) ((i + 1) * 5) (flatPg (ms.drop i))).toArray = W) := ⟨_, Lib.hid rfl⟩
    have hB1 : Blk W1 M 53 (putL (flatPg ms ++ rs) ((i + 1) * 5) (flatPg (ms.drop i))).toArray := by rw [← HW1.out]; exact blk_setRow (HB.out.drew) _
    have hl2 : (putL (flatPg ms ++ rs) ((i + 1) * 5) (flatPg (ms.drop i))).length = C * 5 := by rw [putL_len (by rw [hdl, hfl]; omega), hfl]
    have hQ1 : Blk W1 Q 53 (flatPg [x]).toArray := by
      rw [← HW1.out]
      exact (setRow_other u.drew M Q _ hne).trans hq.out
    have hG1 : u.grownBy W1 (some M) := by rw [← HW1.out]; exact grown_setRow (show u.grownBy u.drew (some M) from ⟨rfl, rfl, rfl, Nat.le_refl _, fun _ _ _ => rfl⟩) _
    have HCP1 := Lib.hid (show ∀ ty dc sc, (Builtin.copy_ #[25, 25] ty #[.slice (some ⟨M, (i + 1) * 5, none⟩) (L - i) dc, .slice (some ⟨M, i * 5, none⟩) (L + 1 - i) sc]).run Try.prog u.drew = .ok (goInt ((L - i : Nat) : Int)) W1 from fun ty dc sc => by
      rw [← HW1.out]
      exact run_copy_rowN u.drew _ _ ty 53 M ((i + 1) * 5) (L - i) dc ⟨M, i * 5, none⟩ (L + 1 - i) sc (L - i) 5 (flatPg ms ++ rs) (flatPg (ms.drop i)) 53 Try.underlying25 hsz HB.out.drew (by simp only [Nat.min_def]; split <;> omega) hdl
        (fun j v hj => by
          have e : (⟨M, i * 5, none⟩ : Addr).add j = ⟨M, i * 5 + j, none⟩ := by unfold Addr.add; by_cases hj0 : j = 0 <;> simp [hj0]
          have hjl := lt_at hj
          rw [e, HB.out.drew.cell, List.getElem?_toArray, List.getElem?_append_left (by rw [flatPg_len, hL.out]; omega), ← flatPg_take_drop ms i, List.getElem?_append_right (by rw [flatPg_len, List.length_take, hL.out]; omega), show i * 5 + j - (flatPg (ms.take i)).length = j by rw [flatPg_len, List.length_take, hL.out]; omega]
          exact hj)
        (by rw [hdl, hfl]; omega) (flatPg_one _))
    have HCP2 := Lib.hid (show ∀ ty dc, (Builtin.copy_ #[25, 25] ty #[.slice (some ⟨M, i * 5, none⟩) (L + 1 - i) dc, .slice (some ⟨Q, 0, none⟩) 1 1]).run Try.prog W1 = .ok (goInt 1) (W1.setRow M (putL (putL (flatPg ms ++ rs) ((i + 1) * 5) (flatPg (ms.drop i))) (i * 5) (flatPg [x])).toArray) from fun ty dc =>
      run_copy_rowN W1 _ _ ty 53 M (i * 5) (L + 1 - i) dc ⟨Q, 0, none⟩ 1 1 1 5 _ (flatPg [x]) 53 Try.underlying25 hsz hB1 (by simp only [Nat.min_def]; split <;> omega) rfl (World.news_of_block hQ1) (by rw [hl2]; show i * 5 + 5 ≤ _; omega) (flatPg_one _))
    have HFIN := Lib.hid (show RM w M C (insPg ms i x) (W1.setRow M (putL (putL (flatPg ms ++ rs) ((i + 1) * 5) (flatPg (ms.drop i))) (i * 5) (flatPg [x])).toArray) from
      ⟨hb.grown (grown_setRow hG1 _) hb.size (fun g e => by injection e with e; omega), hM, by rw [ins_len (by rw [hL.out]; exact hi), hL.out]; exact hC, hC1, rs.drop 5, by rw [List.length_drop, hr, ins_len (by rw [hL.out]; exact hi), hL.out]; omega, by
        have k := blk_setRow hB1 (putL (putL (flatPg ms ++ rs) ((i + 1) * 5) (flatPg (ms.drop i))) (i * 5) (flatPg [x])).toArray
        rw [row_ins ms rs x i (by rw [hL.out]; exact hi) (by rw [hr]; omega)] at k
        rw [row_ins ms rs x i (by rw [hL.out]; exact hi) (by rw [hr]; omega)]
        exact k⟩)
    have hz5 : ∀ v : World, (Go.sizeOf 53).run Try.prog v = .ok 5 v := fun v => by
      obtain ⟨i0, hi9, hz0, hz1, hz2⟩ := info_parts infoPg
      simp [sizeOf, typeInfo, hi9, hz1]
    have hov : ∀ lb cb, (callFunc 89 #[.slice (some ⟨Q, 0, none⟩) 1 1, .slice (some ⟨M, (i + 1) * 5, none⟩) lb cb]).run Try.prog u = .ok (.value (.bool false)) u := fun lb cb => by
      have s1 : u.shape? Q = some (53, 5) := by have k := hq.out; unfold Blk at k; simp [World.shape?, k]; rfl
      have s2 : u.shape? M = some (53, C * 5) := by have k := HB.out; unfold Blk at k; simp [World.shape?, k]; rw [← hfl, List.length_append]
      rw [run_callFunc_extern Try.func89 (by kernel_rfl) (by kernel_rfl) (by kernel_rfl) (e := Extern.SlicesOverlaps.overlaps #[25, 25] #[4]) (by kernel_rfl),
        Lib.run_overlaps_apart u 25 4 53 Try.underlying25 5 hz5 ⟨Q, 0, none⟩ ⟨M, (i + 1) * 5, none⟩ 1 1 lb cb hne _ _ _ _ s1 s2 (by omega) (hq.out.frozen 0) (hq.out.frozen 5)]
      rfl
    have hie : ¬ (i : Int) = (L : Int) := by omega
    have hie2 : ((i : Int) == (L : Int)) = false := by simp; omega
    have hie3 : (i == L) = false := by simp; omega
    have hgt : ¬ (C : Int) < (L : Int) + 1 := by omega
    have hgtd : decide ((C : Int) < (L : Int) + 1) = false := by simp; omega
    have hb1 : (0 : Int) ≤ (i : Int) + 1 := by omega
    have htn : ((i : Int) + 1).toNat = i + 1 := by omega
    have htl : ((L : Int) + 1).toNat = L + 1 := by omega
    have hb2 : ¬ (C = i + 1) := by omega
    have hb3 : (i : Int) + 1 ≤ (L : Int) + 1 := by omega
    have hb3' : (i : Int) ≤ (L : Int) + 1 := by omega
    have hb4 : ¬ (C = i) := by omega
    have hb5 : ¬ (C : Int) = (i : Int) := by omega
    have hb6 : ¬ (C : Int) = (i : Int) + 1 := by omega
    have hw1 : IntKind.i64.wrap ((i : Int) + 1) = (i : Int) + 1 := IntWalk.i64_in _ (by omega)
    have mixed : Try.prog.follows Departure.mixedOrders = true := by kernel_rfl
    clear hb hM hc hc1 hr hB hfl hdl hB1 hl2 hQ1 hG1 hsz hz5
    go_enter Try.func72, Try.ntmps72
    go_wp2_with (simp only [hov])
    refine wp_region_held_drew (S := (fun _ => True)) (by kernel_rfl) ?_ (fun hHeld => ?_)
    · exact trivial
    refine' wpAnyH_take (i := 0) (v := ?vr1_0) rfl (by kernel_rfl) (by kernel_rfl) (by kernel_rfl) (fun _ _ _ h => h) (Or.inl ⟨by rfl, ?hyr1_0⟩) (by assumption) ?restr1_0
    case hyr1_0 => (intro w hSw; (try dsimp only at hSw); go_simp; try (with_reducible rfl))
    simp only [Act.put, List.getElem_toArray, List.getElem_cons_succ, List.getElem_cons_zero, List.setIfInBounds_toArray, List.set_cons_zero, List.set_cons_succ]
    refine' wpAnyH_take (i := 1) (v := ?vr1_1) rfl (by kernel_rfl) (by kernel_rfl) (by kernel_rfl) (fun _ _ _ h => h) (Or.inl ⟨by rfl, ?hyr1_1⟩) (by assumption) ?restr1_1
    case hyr1_1 => (intro w hSw; (try dsimp only at hSw); go_simp; try (with_reducible rfl))
    simp only [Act.put, List.getElem_toArray, List.getElem_cons_succ, List.getElem_cons_zero, List.setIfInBounds_toArray, List.set_cons_zero, List.set_cons_succ]
    refine' wpAnyH_take (i := 2) (v := ?vr1_2) rfl (by kernel_rfl) (by kernel_rfl) (by kernel_rfl) (fun _ _ _ h => h) (Or.inl ⟨by rfl, ?hyr1_2⟩) (by assumption) ?restr1_2
    case hyr1_2 => (intro w hSw; (try dsimp only at hSw); go_simp; try (with_reducible rfl))
    simp only [Act.put, List.getElem_toArray, List.getElem_cons_succ, List.getElem_cons_zero, List.setIfInBounds_toArray, List.set_cons_zero, List.set_cons_succ]
    refine' wpAnyH_take (i := 3) (v := ?vr1_3) rfl (by kernel_rfl) (by kernel_rfl) (by kernel_rfl) (fun _ _ _ h => h) (Or.inl ⟨by rfl, ?hyr1_3⟩) (by assumption) ?restr1_3
    case hyr1_3 => (intro w hSw; (try dsimp only at hSw); go_simp; try (with_reducible rfl))
    simp only [Act.put, List.getElem_toArray, List.getElem_cons_succ, List.getElem_cons_zero, List.setIfInBounds_toArray, List.set_cons_zero, List.set_cons_succ]
    refine' wpAnyH_take (i := 4) (v := ?vr1_4) rfl (by kernel_rfl) (by kernel_rfl) (by kernel_rfl) (fun _ _ _ h => h) (Or.inl ⟨by rfl, ?hyr1_4⟩) (by assumption) ?restr1_4
    case hyr1_4 => (intro w hSw; (try dsimp only at hSw); go_simp; try (with_reducible rfl))
    simp only [Act.put, List.getElem_toArray, List.getElem_cons_succ, List.getElem_cons_zero, List.setIfInBounds_toArray, List.set_cons_zero, List.set_cons_succ]
    refine' wpAnyH_take (i := 5) (v := ?vr1_5) rfl (by kernel_rfl) (by kernel_rfl) (by kernel_rfl) (fun _ _ _ h => h) (Or.inl ⟨by rfl, ?hyr1_5⟩) (by assumption) ?restr1_5
    case hyr1_5 => (intro w hSw; (try dsimp only at hSw); go_simp; try (with_reducible rfl))
    simp only [Act.put, List.getElem_toArray, List.getElem_cons_succ, List.getElem_cons_zero, List.setIfInBounds_toArray, List.set_cons_zero, List.set_cons_succ]
    refine' wpAnyH_take (i := 6) (v := ?vr1_6) rfl (by kernel_rfl) (by kernel_rfl) (by kernel_rfl) (fun _ _ _ h => h) (Or.inl ⟨by rfl, ?hyr1_6⟩) (by assumption) ?restr1_6
    case hyr1_6 => (intro w hSw; (try dsimp only at hSw); go_simp; try (with_reducible rfl))
    simp only [Act.put, List.getElem_toArray, List.getElem_cons_succ, List.getElem_cons_zero, List.setIfInBounds_toArray, List.set_cons_zero, List.set_cons_succ]
    refine' wpAnyH_take (i := 7) (v := ?vr1_7) rfl (by kernel_rfl) (by kernel_rfl) (by kernel_rfl) (fun _ _ _ h => h) (Or.inl ⟨by rfl, ?hyr1_7⟩) (by assumption) ?restr1_7
    case hyr1_7 => (intro w hSw; (try dsimp only at hSw); go_simp; try (with_reducible rfl))
    simp only [Act.put, List.getElem_toArray, List.getElem_cons_succ, List.getElem_cons_zero, List.setIfInBounds_toArray, List.set_cons_zero, List.set_cons_succ]
    refine wpAnyH_ready (rs := [8]) (by kernel_rfl) (by simp) ?_
    refine AllReadyH.cons rfl (fun K hK => ?_) AllReadyH.nil
    refine step_copy_runI rfl _ _ 25 25 rfl _ _ rfl rfl (HCP1.out _ _ _) ?_
    refine hK.out _ _ trivial (fun hHeld1 => ?_)
    clear hK K hHeld
    have hHeld := hHeld1
    clear hHeld1
    try simp only [Act.put, List.getElem_toArray, List.getElem_cons_succ, List.getElem_cons_zero, List.setIfInBounds_toArray, List.set_cons_zero, List.set_cons_succ]
    refine wpAnyH_done (by kernel_rfl) ?_ _
    go_wp2_with fail
    rw [HCP2.out]
    go_wp2_with fail
    go_ret
    exact ⟨rfl, HFIN.out⟩
end Go.Proofs.Ytnpghhpcloljeaa.pw
