/-
  The exact laws' helpers at passages: copies, comparisons, sizes, marks, arguments opened.
  Conditions: none but those that a theorem names.
-/
import Derived.Test.YtnpghhpcloljeaaTyPg
import Derived.ProofKit
import Derived.OpenShut
import Derived.Deep.Slices
import Derived.Deep.Fields
namespace Go.Proofs.Ytnpghhpcloljeaa.ty
open Go.ChangeShapes Go.WideShapes Go.RowKit Go.Deep
open reads base
set_option linter.unusedVariables false
set_option linter.unusedSimpArgs false
set_option maxRecDepth 100000
/-- what a mark lays at cell i -/
def mkvPg (k : Int) (i : Nat) : Value := .int .i64 (k + (i : Int))
set_option maxHeartbeats 4000000 in
set_option maxRecDepth 100000 in
theorem mark_passageS (base n : Nat) (v : Value) (xs : List Value) (k : Int) (w : World) (hn : n ≤ 2000000) (k0 : 0 ≤ k) (k1 : k ≤ 100000000) (h : Hid (w.ownsRow base 53 5 v n xs)) :
    Calls Try.prog 29 #[v, .int .i64 k] w fun e w' => e = .returned (.int .i64 (k + 5 * (n : Int))) ∧ w'.ownsRow base 53 5 v n ((List.range (n * 5)).map (mkvPg k)) ∧ w.grownBy w' v.ownBlock := by
  have HL := Lib.hid (show xs.length = n * 5 from h.out.1)
  obtain ⟨A, c, rfl⟩ := row_slice h.out
  go_enter Try.func29, Try.ntmps29
  go_wp2_with fail
  go_loopw [1, 5] (fun q i wr => ∃ j : Nat, j ≤ n ∧ i = .int .i64 j ∧ q = .int .i64 (k + 5 * (j : Int)) ∧ Hid (wr.ownsRow base 53 5 (.slice A n c) n (over (mkvPg k) (j * 5) xs)) ∧ Hid (w.grownBy wr (Value.slice A n c).ownBlock)) (fun _ i _ => n - (intOf i).toNat)
  case atStart => exact ⟨0, Nat.zero_le _, rfl, by go_num, Lib.hid (by rw [Nat.zero_mul, over_zero]; exact h.out), Lib.hid (World.grownBy.refl w _)⟩
  case round =>
    obtain ⟨j, hj, rfl, rfl, HO, HG⟩ := hrel
    by_cases hlt : j < n
    · obtain ⟨g, cap, hv, -, -⟩ := HO.out.form (by omega)
      injection hv with hA _ hc
      subst hA hc
      obtain ⟨u0, q0⟩ : ∃ u, wr.cell? ⟨g, j * 5, none⟩ = some u := ⟨_, (HO.out.cellAt (j * 5) (by omega)).trans (List.getElem?_eq_getElem (by rw [over_len _ _ _ (by rw [HL.out]; omega), HL.out]; omega))⟩
      have f0 := HO.out.frozenAt (j * 5)
      obtain ⟨u1, q1⟩ : ∃ u, wr.cell? ⟨g, j * 5 + 1, none⟩ = some u := ⟨_, (HO.out.cellAt (j * 5 + 1) (by omega)).trans (List.getElem?_eq_getElem (by rw [over_len _ _ _ (by rw [HL.out]; omega), HL.out]; omega))⟩
      have f1 := HO.out.frozenAt (j * 5 + 1)
      obtain ⟨u2, q2⟩ : ∃ u, wr.cell? ⟨g, j * 5 + 2, none⟩ = some u := ⟨_, (HO.out.cellAt (j * 5 + 2) (by omega)).trans (List.getElem?_eq_getElem (by rw [over_len _ _ _ (by rw [HL.out]; omega), HL.out]; omega))⟩
      have f2 := HO.out.frozenAt (j * 5 + 2)
      obtain ⟨u3, q3⟩ : ∃ u, wr.cell? ⟨g, j * 5 + 3, none⟩ = some u := ⟨_, (HO.out.cellAt (j * 5 + 3) (by omega)).trans (List.getElem?_eq_getElem (by rw [over_len _ _ _ (by rw [HL.out]; omega), HL.out]; omega))⟩
      have f3 := HO.out.frozenAt (j * 5 + 3)
      obtain ⟨u4, q4⟩ : ∃ u, wr.cell? ⟨g, j * 5 + 4, none⟩ = some u := ⟨_, (HO.out.cellAt (j * 5 + 4) (by omega)).trans (List.getElem?_eq_getElem (by rw [over_len _ _ _ (by rw [HL.out]; omega), HL.out]; omega))⟩
      have f4 := HO.out.frozenAt (j * 5 + 4)
      have HO2 := (((((HO.out.stored (j * 5) (.int .i64 (k + 5 * (j : Int)))).1.stored (j * 5 + 1) (.int .i64 (k + 5 * (j : Int) + 1))).1.stored (j * 5 + 2) (.int .i64 (k + 5 * (j : Int) + 1 + 1))).1.stored (j * 5 + 3) (.int .i64 (k + 5 * (j : Int) + 1 + 1 + 1))).1.stored (j * 5 + 4) (.int .i64 (k + 5 * (j : Int) + 1 + 1 + 1 + 1))).1
      have e0 := over_set (mkvPg k) (j * 5) xs (by rw [HL.out]; omega)
      have e1 := over_set (mkvPg k) (j * 5 + 1) xs (by rw [HL.out]; omega)
      have e2 := over_set (mkvPg k) (j * 5 + 2) xs (by rw [HL.out]; omega)
      have e3 := over_set (mkvPg k) (j * 5 + 3) xs (by rw [HL.out]; omega)
      have e4 := over_set (mkvPg k) (j * 5 + 4) xs (by rw [HL.out]; omega)
      have hl : (((((over (mkvPg k) (j * 5) xs).set (j * 5) (.int .i64 (k + 5 * (j : Int)))).set (j * 5 + 1) (.int .i64 (k + 5 * (j : Int) + 1))).set (j * 5 + 2) (.int .i64 (k + 5 * (j : Int) + 1 + 1))).set (j * 5 + 3) (.int .i64 (k + 5 * (j : Int) + 1 + 1 + 1))).set (j * 5 + 4) (.int .i64 (k + 5 * (j : Int) + 1 + 1 + 1 + 1)) = over (mkvPg k) ((j + 1) * 5) xs := by
        rw [show Value.int .i64 (k + 5 * (j : Int)) = mkvPg k (j * 5) by unfold mkvPg; congr 1; push_cast; omega, e0]
        rw [show Value.int .i64 (k + 5 * (j : Int) + 1) = mkvPg k (j * 5 + 1) by unfold mkvPg; congr 1; push_cast; omega, e1]
        rw [show Value.int .i64 (k + 5 * (j : Int) + 1 + 1) = mkvPg k (j * 5 + 2) by unfold mkvPg; congr 1; push_cast; omega, e2]
        rw [show Value.int .i64 (k + 5 * (j : Int) + 1 + 1 + 1) = mkvPg k (j * 5 + 3) by unfold mkvPg; congr 1; push_cast; omega, e3]
        rw [show Value.int .i64 (k + 5 * (j : Int) + 1 + 1 + 1 + 1) = mkvPg k (j * 5 + 4) by unfold mkvPg; congr 1; push_cast; omega, e4]
        rw [show (j + 1) * 5 = j * 5 + 5 by omega]
      rw [hl] at HO2
      have HO3 := Lib.hid HO2
      clear HO2 hl e0 e1 e2 e3 e4
      have hji : (j : Int) < (n : Int) := by omega
      have hj0 : 0 ≤ (j : Int) := by omega
      have hjd : decide (j < n) = true := by simpa using hlt
      go_wp2_with fail
      go_roundw
      case rel => exact ⟨j + 1, by omega, by go_num, by go_num, HO3, Lib.hid (grown_set (grown_set (grown_set (grown_set (grown_set (HG.out) _ _) _ _) _ _) _ _) _ _)⟩
      case measure => simp [intOf]; omega
    · have hjd : decide (j < n) = false := by simpa using hlt
      obtain rfl : j = n := by omega
      have HO2 := Lib.hid (show wr.ownsRow base 53 5 (.slice A j c) j ((List.range (j * 5)).map (mkvPg k)) by have := HO.out; rwa [over_all _ _ _ HL.out] at this)
      clear hlt
      go_wp2_with fail
      go_ret
      exact ⟨rfl, HO2.out, HG.out⟩

set_option maxHeartbeats 4000000 in
set_option maxRecDepth 100000 in
theorem held_passageS (base : Nat) (A : Option Addr) (n c : Nat) (k : Int) (w : World) (hn : n ≤ 2000000) (k0 : 0 ≤ k) (k1 : k ≤ 100000000) (h : Hid (w.ownsRow base 53 5 (.slice A n c) n ((List.range (n * 5)).map (mkvPg k)))) :
    Calls Try.prog 34 #[.slice A n c, .int .i64 k] w fun e w' => e = .returned (.int .i64 (k + 5 * (n : Int))) ∧ w = w' := by
  go_enter Try.func34, Try.ntmps34
  go_wp2_with fail
  go_loop [1, 5] (fun q i => ∃ j : Nat, j ≤ n ∧ i = .int .i64 j ∧ q = .int .i64 (k + 5 * (j : Int))) (fun _ i => n - (intOf i).toNat)
  case atStart => exact ⟨0, Nat.zero_le _, rfl, by go_num⟩
  case round =>
    obtain ⟨j, hj, rfl, rfl⟩ := hrel
    by_cases hlt : j < n
    · obtain ⟨g, cap, hv, -, -⟩ := h.out.form (by omega)
      injection hv with hA _ hc
      subst hA hc
      have c0 : w.cell? ⟨g, j * 5, none⟩ = some (.int .i64 (k + 5 * (j : Int))) := by
        rw [h.out.cellAt (j * 5) (by omega), List.getElem?_map, List.getElem?_range (by omega)]
        show some (mkvPg k _) = _
        unfold mkvPg
        congr 2; push_cast; omega
      have c1 : w.cell? ⟨g, j * 5 + 1, none⟩ = some (.int .i64 (k + 5 * (j : Int) + 1)) := by
        rw [h.out.cellAt (j * 5 + 1) (by omega), List.getElem?_map, List.getElem?_range (by omega)]
        show some (mkvPg k _) = _
        unfold mkvPg
        congr 2; push_cast; omega
      have c2 : w.cell? ⟨g, j * 5 + 2, none⟩ = some (.int .i64 (k + 5 * (j : Int) + 1 + 1)) := by
        rw [h.out.cellAt (j * 5 + 2) (by omega), List.getElem?_map, List.getElem?_range (by omega)]
        show some (mkvPg k _) = _
        unfold mkvPg
        congr 2; push_cast; omega
      have c3 : w.cell? ⟨g, j * 5 + 3, none⟩ = some (.int .i64 (k + 5 * (j : Int) + 1 + 1 + 1)) := by
        rw [h.out.cellAt (j * 5 + 3) (by omega), List.getElem?_map, List.getElem?_range (by omega)]
        show some (mkvPg k _) = _
        unfold mkvPg
        congr 2; push_cast; omega
      have c4 : w.cell? ⟨g, j * 5 + 4, none⟩ = some (.int .i64 (k + 5 * (j : Int) + 1 + 1 + 1 + 1)) := by
        rw [h.out.cellAt (j * 5 + 4) (by omega), List.getElem?_map, List.getElem?_range (by omega)]
        show some (mkvPg k _) = _
        unfold mkvPg
        congr 2; push_cast; omega
      have hji : (j : Int) < (n : Int) := by omega
      have hj0 : 0 ≤ (j : Int) := by omega
      have hjd : decide (j < n) = true := by simpa using hlt
      go_wp2_with fail
      go_round
      case rel => exact ⟨j + 1, by omega, by go_num, by go_num⟩
      case measure => simp [intOf]; omega
    · have hjd : decide (j < n) = false := by simpa using hlt
      obtain rfl : j = n := by omega
      clear hlt
      go_wp2_with fail
      go_ret
      exact ⟨rfl, rfl⟩
end Go.Proofs.Ytnpghhpcloljeaa.ty
