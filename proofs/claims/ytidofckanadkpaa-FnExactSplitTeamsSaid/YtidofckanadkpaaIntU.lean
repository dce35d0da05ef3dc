/-
  The exact laws' helpers at lists of lists of ints: equality, marks, marks that are held.
  Conditions: none but those that a theorem names.
-/
import Derived.Test.YtidofckanadkpaaIntT
import Derived.Test.YtidofckanadkpaaEnd
import Derived.Deep.RegionHeld3
namespace Go.Proofs.Ytidofckanadkpaa.intt
open Go.RowKit
open reads base tab ints
set_option linter.unusedVariables false
set_option linter.unusedSimpArgs false

set_option maxHeartbeats 4000000 in
theorem eq_tab (A A' : Option Addr) (n c c' b b' : Nat) (vs vs' : List Value) (L : List (List Int)) (w : World) (hn : n ≤ 2000000) (hl : Hid (off L ≤ 2000000)) (hL : Hid (L.length = n)) (ho : Hid (w.ownsRow b 27 1 (.slice A n c) n vs)) (ht : Hid (TabV 3 1 intsV w b vs L)) (ho' : Hid (w.ownsRow b' 27 1 (.slice A' n c') n vs')) (ht' : Hid (TabV 3 1 intsV w b' vs' L)) :
    Calls Try.prog 52 #[.slice A n c, .slice A' n c'] w (BPost true w) := by
  obtain ⟨B, HBB⟩ : ∃ B, Hid (w.heap.size = B) := ⟨_, Lib.hid rfl⟩
  obtain ⟨W0, HW0⟩ : ∃ W0, Hid (w = W0) := ⟨_, Lib.hid rfl⟩
  have HO := Lib.hid (show W0.ownsRow b 27 1 (.slice A n c) n vs by rw [← HW0.out]; exact ho.out)
  have HO' := Lib.hid (show W0.ownsRow b' 27 1 (.slice A' n c') n vs' by rw [← HW0.out]; exact ho'.out)
  have HT := Lib.hid (show TabV 3 1 intsV W0 b vs L by rw [← HW0.out]; exact ht.out)
  have HT' := Lib.hid (show TabV 3 1 intsV W0 b' vs' L by rw [← HW0.out]; exact ht'.out)
  have HWB := Lib.hid (show B = W0.heap.size by rw [← HW0.out, ← HBB.out])
  have HB1 := Lib.hid (show ∀ v, Below B W0 v → Below w.heap.size w v from fun v hv => by rw [HBB.out, HW0.out]; exact hv)
  clear ho ho' ht ht'
  go_enter Try.func52, Try.ntmps52
  go_wp2_with fail
  go_loopw [5] (fun i wr => ∃ k : Nat, k ≤ n ∧ i = .int .i64 k ∧ Below B W0 wr) (fun i _ => n - (intOf i).toNat)
  case atStart => exact ⟨0, Nat.zero_le _, rfl, by rw [HW0.out]; exact Below.refl _ _⟩
  case round =>
    obtain ⟨k, hk, rfl, hBr⟩ := hrel
    have HR := Lib.hid hBr
    clear hBr
    by_cases hlt : k < n
    · obtain ⟨x, hx⟩ : ∃ x, L[k]? = some x := ⟨_, List.getElem?_eq_getElem (by rw [hL.out]; exact hlt)⟩
      have HX := Lib.hid hx
      have hxl : x.length ≤ 2000000 := Nat.le_trans (off_le (List.mem_of_getElem? hx)) hl.out
      obtain ⟨X, cx, hv, hrow⟩ := row_at (n := n) HT.out hx
      obtain ⟨X', cx', hv', hrow'⟩ := row_at (n := n) HT'.out hx
      obtain ⟨g, cap, hg1, -, -⟩ := HO.out.form (by omega)
      obtain ⟨g', cap', hg2, -, -⟩ := HO'.out.form (by omega)
      injection hg1 with hA _ hc
      injection hg2 with hA' _ hc'
      subst hA hA' hc hc'
      have hgB : g < B := by rw [HWB.out]; exact (HO.out.lt g rfl).2
      have hgB' : g' < B := by rw [HWB.out]; exact (HO'.out.lt g' rfl).2
      have h0 : W0.cell? ⟨g, k, none⟩ = some (.slice X x.length cx) := (HO.out.cellAt k (by omega)).trans hv
      have h0' : W0.cell? ⟨g', k, none⟩ = some (.slice X' x.length cx') := (HO'.out.cellAt k (by omega)).trans hv'
      have HRW := Lib.hid hrow
      have HRW' := Lib.hid hrow'
      clear hx hv hv' hrow hrow'
      have hki : (k : Int) < (n : Int) := by omega
      have hk0 : 0 ≤ (k : Int) := by omega
      have hkd : decide (k < n) = true := by simpa using hlt
      have HEQ := Lib.hid (show ∀ v : World, Below B W0 v → Calls Try.prog 47 #[.slice X x.length cx, .slice X' x.length cx'] v (BPost true v) from fun v hb => (eq_any X X' x.length cx cx' x v hxl (Lib.hid (IL.of_own (row_below HRW.out (by rw [← HWB.out]; exact hb)))) (Lib.hid (IL.of_own (row_below HRW'.out (by rw [← HWB.out]; exact hb))))).mono (by rintro e w' ⟨rfl, m, rfl⟩; exact ⟨rfl, ends.below_drewN (Below.refl _ _) m⟩))
      have HWB' := Lib.hid (show B ≤ W0.heap.size by rw [HWB.out]; exact Nat.le_refl _)
      obtain ⟨xl, hxl2⟩ : ∃ xl, Hid (x.length = xl) := ⟨_, Lib.hid rfl⟩
      rw [hxl2.out] at h0 h0' HEQ
      go_wp2_with fail
      refine wp_region_held_drew (S := (fun w' => (∀ b o, b < B → w'.cell? ⟨b, o, none⟩ = W0.cell? ⟨b, o, none⟩) ∧ Below B W0 w')) (by kernel_rfl) ?_ (fun hHeld => ?_)
      · exact sb_start HR.out
      refine' wpAnyH_take (i := 0) (v := ?vr1_0) rfl (by kernel_rfl) (by kernel_rfl) (by kernel_rfl) (fun _ _ _ h => h) (Or.inl ⟨by rfl, ?hyr1_0⟩) (by assumption) ?restr1_0
      case hyr1_0 => (intro w hSw; (try dsimp only at hSw); go_simp; try (with_reducible rfl))
      simp only [Act.put, List.getElem_toArray, List.getElem_cons_succ, List.getElem_cons_zero, List.setIfInBounds_toArray, List.set_cons_zero, List.set_cons_succ]
      refine' wpAnyH_take (i := 1) (v := ?vr1_1) rfl (by kernel_rfl) (by kernel_rfl) (by kernel_rfl) (fun _ _ _ h => h) (Or.inl ⟨by rfl, ?hyr1_1⟩) (by assumption) ?restr1_1
      case hyr1_1 => (intro w hSw; (try dsimp only at hSw); go_simp; try (with_reducible rfl))
      simp only [Act.put, List.getElem_toArray, List.getElem_cons_succ, List.getElem_cons_zero, List.setIfInBounds_toArray, List.set_cons_zero, List.set_cons_succ]
      refine' wpAnyH_take (i := 2) (v := ?vr1_2) rfl (by kernel_rfl) (by kernel_rfl) (by kernel_rfl) (fun _ _ _ h => h) (Or.inl ⟨by rfl, ?hyr1_2⟩) (by assumption) ?restr1_2
      case hyr1_2 => (intro w hSw; (try dsimp only at hSw); go_simp; try (with_reducible rfl))
      simp only [Act.put, List.getElem_toArray, List.getElem_cons_succ, List.getElem_cons_zero, List.setIfInBounds_toArray, List.set_cons_zero, List.set_cons_succ]
      refine' wpAnyH_take (i := 3) (v := ?vr1_3) rfl (by kernel_rfl) (by kernel_rfl) (by kernel_rfl) (fun _ _ _ h => h) (Or.inl ⟨by rfl, ?hyr1_3⟩) (by assumption) ?restr1_3
      case hyr1_3 => (intro w hSw; (try dsimp only at hSw); go_simp; try (with_reducible rfl))
      simp only [Act.put, List.getElem_toArray, List.getElem_cons_succ, List.getElem_cons_zero, List.setIfInBounds_toArray, List.set_cons_zero, List.set_cons_succ]
      refine' wpAnyH_take (i := 4) (v := ?vr1_4) rfl (by kernel_rfl) (by kernel_rfl) (by kernel_rfl) (fun _ _ _ h => h) (Or.inl ⟨by rfl, ?hyr1_4⟩) (by assumption) ?restr1_4
      case hyr1_4 => (intro w hSw; (try dsimp only at hSw); go_simp; try (with_reducible rfl))
      simp only [Act.put, List.getElem_toArray, List.getElem_cons_succ, List.getElem_cons_zero, List.setIfInBounds_toArray, List.set_cons_zero, List.set_cons_succ]
      refine' wpAnyH_take (i := 5) (v := ?vr1_5) rfl (by kernel_rfl) (by kernel_rfl) (by kernel_rfl) (fun _ _ _ h => h) (Or.inl ⟨by rfl, ?hyr1_5⟩) (by assumption) ?restr1_5
      case hyr1_5 => (intro w hSw; (try dsimp only at hSw); go_simp; try (with_reducible rfl))
      simp only [Act.put, List.getElem_toArray, List.getElem_cons_succ, List.getElem_cons_zero, List.setIfInBounds_toArray, List.set_cons_zero, List.set_cons_succ]
      refine' wpAnyH_take (i := 6) (v := ?vr1_6) rfl (by kernel_rfl) (by kernel_rfl) (by kernel_rfl) (fun _ _ _ h => h) (Or.inl ⟨by rfl, ?hyr1_6⟩) (by assumption) ?restr1_6
      case hyr1_6 => (intro w hSw; (try dsimp only at hSw); go_simp; try (with_reducible rfl))
      simp only [Act.put, List.getElem_toArray, List.getElem_cons_succ, List.getElem_cons_zero, List.setIfInBounds_toArray, List.set_cons_zero, List.set_cons_succ]
      refine' wpAnyH_take (i := 7) (v := ?vr1_7) rfl (by kernel_rfl) (by kernel_rfl) (by kernel_rfl) (fun _ _ _ h => h) (Or.inl ⟨by rfl, ?hyr1_7⟩) (by assumption) ?restr1_7
      case hyr1_7 => (intro w hSw; (try dsimp only at hSw); go_simp; try (with_reducible rfl))
      simp only [Act.put, List.getElem_toArray, List.getElem_cons_succ, List.getElem_cons_zero, List.setIfInBounds_toArray, List.set_cons_zero, List.set_cons_succ]
      refine wpAnyH_ready (rs := [8]) (by kernel_rfl) (by simp) ?_
      refine AllReadyH.cons rfl (fun K hK => ?_) AllReadyH.nil
      go_simp
      refine (HEQ.out _ hHeld.2).mono ?_
      rintro e w1 ⟨rfl, b1⟩
      refine hK.out _ _ (sb_step hHeld HWB'.out b1) (fun hHeld1 => ?_)
      clear hK K hHeld
      have hHeld := hHeld1
      clear hHeld1
      try simp only [Act.put, List.getElem_toArray, List.getElem_cons_succ, List.getElem_cons_zero, List.setIfInBounds_toArray, List.set_cons_zero, List.set_cons_succ]
      refine' wpAnyH_take (i := 9) (v := ?vr1_9) rfl (by kernel_rfl) (by kernel_rfl) (by kernel_rfl) (fun _ _ _ h => h) (Or.inl ⟨by rfl, ?hyr1_9⟩) (by assumption) ?restr1_9
      case hyr1_9 => (intro w hSw; (try dsimp only at hSw); go_simp; try (with_reducible rfl))
      simp only [Act.put, List.getElem_toArray, List.getElem_cons_succ, List.getElem_cons_zero, List.setIfInBounds_toArray, List.set_cons_zero, List.set_cons_succ]
      refine wpAnyH_done (by kernel_rfl) ?_ _
      have HR2 := Lib.hid hHeld.2
      clear hHeld
      go_wp2_with fail
      go_roundw
      case rel => exact ⟨k + 1, by omega, by go_num, HR2.out⟩
      case measure => simp [intOf]; omega
    · have hkd : decide (k < n) = false := by simpa using hlt
      go_wp2_with fail
      go_ret
      exact ⟨rfl, HB1.out _ HR.out⟩
set_option maxHeartbeats 4000000 in
theorem mark_tab (b n : Nat) (v : Value) (vs : List Value) (L : List (List Int)) (k : Int) (w : World) (hn : n ≤ 2000000) (k0 : 0 ≤ k) (k1 : k ≤ 1000000) (hl : Hid (off L ≤ 2000000)) (hL : Hid (L.length = n)) (hd : Hid (Disj vs)) (ho : Hid (w.ownsRow b 27 1 v n vs)) (ht : Hid (TabV 3 1 intsV w b vs L)) (hb : Hid (b ≤ w.heap.size)) :
    Calls Try.prog 53 #[v, .int .i64 k] w fun e w' => e = .returned (.int .i64 (k + (off L : Int))) ∧ w'.ownsRow b 27 1 v n vs ∧ TabV 3 1 intsV w' b vs (mt k L) ∧ Below b w w' := by
  obtain ⟨A, c, rfl⟩ := row_slice ho.out
  go_enter Try.func53, Try.ntmps53
  go_wp2_with fail
  go_loopw [1, 5] (fun q i wr => ∃ j o : Nat, j ≤ n ∧ i = .int .i64 j ∧ q = .int .i64 (k + (o : Int)) ∧ o ≤ 2000000 ∧ Hid (off (L.take j) = o) ∧ Hid (wr.ownsRow b 27 1 (.slice A n c) n vs) ∧ Hid (TabV 3 1 intsV wr b vs (mt k (L.take j) ++ L.drop j)) ∧ Below b w wr) (fun _ i _ => n - (intOf i).toNat)
  case atStart => exact ⟨0, 0, Nat.zero_le _, rfl, by go_num, by omega, Lib.hid rfl, ho, Lib.hid (by simpa [mt] using ht.out), Below.refl _ _⟩
  case round =>
    obtain ⟨j, o, hj, rfl, rfl, ho2, HF, HO, HT, hB⟩ := hrel
    have HB := Lib.hid hB
    clear hB
    by_cases hlt : j < n
    · obtain ⟨x, hx⟩ : ∃ x, L[j]? = some x := ⟨_, List.getElem?_eq_getElem (by rw [hL.out]; exact hlt)⟩
      have hx2 : (mt k (L.take j) ++ L.drop j)[j]? = some x := by
        have hl1 : (mt k (L.take j)).length = j := by rw [mt_len, List.length_take, hL.out]; omega
        rw [List.getElem?_append_right (by omega), hl1, Nat.sub_self, List.getElem?_drop, Nat.add_zero]; exact hx
      have hxl : x.length ≤ 2000000 := Nat.le_trans (off_le (List.mem_of_getElem? hx)) hl.out
      have HNX := Lib.hid (show off (L.take (j + 1)) = o + x.length by rw [off_next hx, HF.out])
      have hox : o + x.length ≤ 2000000 := by rw [← HNX.out]; exact Nat.le_trans (off_take L (j + 1)) hl.out
      have HST := Lib.hid (show (mt k (L.take j) ++ L.drop j).set j (marks (k + (o : Int)) x.length) = mt k (L.take (j + 1)) ++ L.drop (j + 1) by rw [← HF.out]; exact mt_set hx)
      obtain ⟨X, cx, hv, hrow⟩ := row_at (n := n) HT.out hx2
      obtain ⟨g, cap, hg1, -, -⟩ := HO.out.form (by omega)
      injection hg1 with hA _ hc
      subst hA hc
      have h0 : wr.cell? ⟨g, j, none⟩ = some (.slice X x.length cx) := (HO.out.cellAt j (by omega)).trans hv
      have HRW := Lib.hid hrow
      have HV := Lib.hid hv
      obtain ⟨xl, hxl2⟩ : ∃ xl, Hid (x.length = xl) := ⟨_, Lib.hid rfl⟩
      rw [hxl2.out] at h0 hxl hox
      have HMK := Lib.hid (show Calls Try.prog 49 #[.slice X xl cx, .int .i64 (k + (o : Int))] wr (fun e w' => e = .returned (.int .i64 (k + (o : Int) + (xl : Int))) ∧ w'.ownsRow b 3 1 (.slice X xl cx) xl (intsV (marks (k + (o : Int)) xl)) ∧ wr.grownBy w' (Value.slice X xl cx).ownBlock) by
        have h := mark_any b x.length (.slice X x.length cx) x (k + (o : Int)) wr (by rw [hxl2.out]; exact hxl) (by omega) (by omega) HRW
        rw [hxl2.out] at h
        exact h)
      clear hx hx2 hv hrow
      have hji : (j : Int) < (n : Int) := by omega
      have hj0 : 0 ≤ (j : Int) := by omega
      have hjd : decide (j < n) = true := by simpa using hlt
      go_wp2_with fail
      refine HMK.out.mono ?_
      rintro e w1 ⟨rfl, hrow, hgr⟩
      have HG := Lib.hid hgr
      have HO1 := Lib.hid (HO.out.kept hgr (own_ne HO.out (show wr.ownsRow b 3 1 (.slice X xl cx) xl (intsV x) by have h := HRW.out; rw [hxl2.out] at h; exact h) (by decide)))
      have HT1 := Lib.hid (show TabV 3 1 intsV w1 b vs (mt k (L.take (j + 1)) ++ L.drop (j + 1)) by
        rw [← HST.out, hxl2.out]
        exact tab_set HT.out hd.out (by rw [← hxl2.out]; exact HV.out) hgr (by rw [marks_len]; exact hrow))
      have HB1 := Lib.hid (HB.out.grown hgr (Nat.le_trans hb.out HB.out.size) (fun q e => (HRW.out.lt q (by rw [hxl2.out]; exact e)).1))
      clear hrow hgr HO HT HB HMK
      go_wp2_with fail
      go_roundw
      case rel => exact ⟨j + 1, o + xl, by omega, by go_num, by go_num, by omega, Lib.hid (by rw [HNX.out, hxl2.out]), HO1, HT1, HB1.out⟩
      case measure => simp [intOf]; omega
    · have hjd : decide (j < n) = false := by simpa using hlt
      obtain rfl : j = n := by omega
      have HF2 := Lib.hid (show off L = o by have := HF.out; rwa [List.take_of_length_le (by rw [hL.out]; omega)] at this)
      have HT2 := Lib.hid (show TabV 3 1 intsV wr b vs (mt k L) by have := HT.out; rwa [List.take_of_length_le (by rw [hL.out]; omega), List.drop_of_length_le (by rw [hL.out]; omega), List.append_nil] at this)
      clear hlt
      go_wp2_with fail
      go_ret
      exact ⟨by rw [HF2.out]; rfl, HO.out, HT2.out, HB.out⟩
set_option maxHeartbeats 4000000 in
theorem held_tab (A : Option Addr) (b n c : Nat) (vs : List Value) (L : List (List Int)) (k : Int) (w : World) (hn : n ≤ 2000000) (k0 : 0 ≤ k) (k1 : k ≤ 1000000) (hl : Hid (off L ≤ 2000000)) (hL : Hid (L.length = n)) (ho : Hid (w.ownsRow b 27 1 (.slice A n c) n vs)) (ht : Hid (TabV 3 1 intsV w b vs (mt k L))) :
    Calls Try.prog 54 #[.slice A n c, .int .i64 k] w fun e w' => e = .returned (.int .i64 (k + (off L : Int))) ∧ w = w' := by
  go_enter Try.func54, Try.ntmps54
  go_wp2_with fail
  go_loop [1, 5] (fun q i => ∃ j o : Nat, j ≤ n ∧ i = .int .i64 j ∧ q = .int .i64 (k + (o : Int)) ∧ o ≤ 2000000 ∧ Hid (off (L.take j) = o)) (fun _ i => n - (intOf i).toNat)
  case atStart => exact ⟨0, 0, Nat.zero_le _, rfl, by go_num, by omega, Lib.hid rfl⟩
  case round =>
    obtain ⟨j, o, hj, rfl, rfl, ho2, HF⟩ := hrel
    by_cases hlt : j < n
    · obtain ⟨x, hx⟩ : ∃ x, L[j]? = some x := ⟨_, List.getElem?_eq_getElem (by rw [hL.out]; exact hlt)⟩
      have hx2 : (mt k L)[j]? = some (marks (k + (o : Int)) x.length) := by rw [mt_at hx, HF.out]
      have hxl : x.length ≤ 2000000 := Nat.le_trans (off_le (List.mem_of_getElem? hx)) hl.out
      have HNX := Lib.hid (show off (L.take (j + 1)) = o + x.length by rw [off_next hx, HF.out])
      have hox : o + x.length ≤ 2000000 := by rw [← HNX.out]; exact Nat.le_trans (off_take L (j + 1)) hl.out
      obtain ⟨X, cx, hv, hrow⟩ := row_at (n := n) ht.out hx2
      rw [marks_len] at hv hrow
      obtain ⟨g, cap, hg1, -, -⟩ := ho.out.form (by omega)
      injection hg1 with hA _ hc
      subst hA hc
      have h0 : w.cell? ⟨g, j, none⟩ = some (.slice X x.length cx) := (ho.out.cellAt j (by omega)).trans hv
      have HHD := Lib.hid (held_any X x.length cx (k + (o : Int)) w hxl (by omega) (by omega) (Lib.hid (IL.of_own hrow)))
      obtain ⟨xl, hxl2⟩ : ∃ xl, Hid (x.length = xl) := ⟨_, Lib.hid rfl⟩
      rw [hxl2.out] at h0 hxl hox HNX HHD
      clear hx hx2 hv hrow
      have hji : (j : Int) < (n : Int) := by omega
      have hj0 : 0 ≤ (j : Int) := by omega
      have hjd : decide (j < n) = true := by simpa using hlt
      obtain ⟨z, HZ⟩ : ∃ z, Hid (k + (o : Int) + (xl : Int) = z) := ⟨_, Lib.hid rfl⟩
      have hz0 : 0 ≤ z := by rw [← HZ.out]; omega
      have hneg : decide (z < 0) = false := by simp; omega
      rw [HZ.out] at HHD
      go_wp2_with fail
      refine HHD.out.mono ?_
      rintro e w1 ⟨rfl, rfl⟩
      go_wp2_with fail
      go_round
      case rel => exact ⟨j + 1, o + xl, by omega, by go_num, by rw [← HZ.out]; go_num, by omega, HNX⟩
      case measure => simp [intOf]; omega
    · have hjd : decide (j < n) = false := by simpa using hlt
      obtain rfl : j = n := by omega
      have HF2 := Lib.hid (show off L = o by have := HF.out; rwa [List.take_of_length_le (by rw [hL.out]; omega)] at this)
      clear hlt
      go_wp2_with fail
      go_ret
      exact ⟨by rw [HF2.out]; rfl, rfl⟩
#print axioms eq_tab
#print axioms mark_tab
#print axioms held_tab
end Go.Proofs.Ytidofckanadkpaa.intt
