/-
  The exact laws' helpers at lists of ints: equality, marks, marks that are held.
  The exact laws' helpers at legs: copies, comparisons, sizes, marks, arguments opened.
  Conditions: those that each theorem names.
-/
import Derived.Test.YtgfopehceojahaaDoorProg
import Derived.Test.YtgfopehceojahaaDoorReads
import Derived.Test.YtgfopehceojahaaDoorIntV
import Derived.WalkKit
import Derived.Lib.Hide
import Derived.Deep.QuietTactic
import Derived.BigQuiet
import Derived.LoopTactic
import Derived.Test.YtgfopehceojahaaDoorTyLeg
import Derived.ProofKit
import Derived.OpenShut
import Derived.Deep.Slices
import Derived.Deep.Fields
namespace Go.Proofs.YtgfopehceojahaaDoor.ints
open Go.RowKit
open reads
set_option linter.unusedVariables false

/-- what the equality says of two lists that are the same -/
def EqPost (w : World) (e : Ending) (w' : World) : Prop := e = .returned (.bool true) ∧ ∃ m, w' = w.drewN m
set_option maxHeartbeats 1000000 in
theorem eq_any (A A' : Option Addr) (n c c' : Nat) (xs : List Int) (w : World) (hn : n ≤ 2000000) (h : Hid (IL w A n xs)) (h' : Hid (IL w A' n xs)) :
    Calls Tryd.prog 18 #[.slice A n c, .slice A' n c'] w (EqPost w) := by
  go_enter Tryd.func18, Tryd.ntmps18
  go_wp2_with fail
  go_loopw [5] (fun i wr => ∃ k m : Nat, k ≤ n ∧ i = .int .i64 k ∧ wr = w.drewN m) (fun i _ => n - (intOf i).toNat)
  case atStart => exact ⟨0, 0, Nat.zero_le _, rfl, rfl⟩
  case round =>
    obtain ⟨k, m, hk, rfl, rfl⟩ := hrel
    by_cases hlt : k < n
    · obtain ⟨x, hx⟩ : ∃ x, xs[k]? = some x := ⟨_, List.getElem?_eq_getElem (by rw [h.out.1]; exact hlt)⟩
      obtain ⟨g, rfl, e0⟩ := h.out.2 k x hx
      obtain ⟨g', rfl, e1⟩ := h'.out.2 k x hx
      clear hx
      have hki : (k : Int) < (n : Int) := by omega
      have hk0 : 0 ≤ (k : Int) := by omega
      have hkd : decide (k < n) = true := by simpa using hlt
      go_wp2_with fail
      go_quiet (fail)
      go_wp2_with fail
      go_roundw
      case rel => exact ⟨k + 1, _, by omega, by go_num, rfl⟩
      case measure => simp [intOf]; omega
    · have hkd : decide (k < n) = false := by simpa using hlt
      go_wp2_with fail
      go_ret
      exact ⟨rfl, m, rfl⟩

/-- marks from k on -/
def marks (k : Int) (n : Nat) : List Int := (List.range n).map fun i : Nat => k + (i : Int)
theorem marks_len (k : Int) (n : Nat) : (marks k n).length = n := by simp [marks]
theorem marks_at (k : Int) (n i : Nat) (h : i < n) : (marks k n)[i]? = some (k + (i : Int)) := by simp [marks, h]
theorem marks_set (k : Int) (xs : List Int) (j n : Nat) (hj : j < n) (hn : xs.length = n) : (intsV (marks k j ++ xs.drop j)).set j (.int .i64 (k + (j : Int))) = intsV (marks k (j + 1) ++ xs.drop (j + 1)) := by
  have h1 : marks k (j + 1) = marks k j ++ [k + (j : Int)] := by unfold marks; rw [List.range_succ, List.map_append]; rfl
  have h2 : xs.drop j = xs[j]'(by omega) :: xs.drop (j + 1) := List.drop_eq_getElem_cons (by omega)
  have h3 : (intsV (marks k j)).length = j := by rw [intsV_len, marks_len]
  have h4 : intsV (marks k j ++ xs.drop j) = intsV (marks k j) ++ (.int .i64 (xs[j]'(by omega)) :: intsV (xs.drop (j + 1))) := by rw [h2]; unfold intsV; rw [List.map_append]; rfl
  have h5 : intsV (marks k (j + 1) ++ xs.drop (j + 1)) = intsV (marks k j) ++ (.int .i64 (k + (j : Int)) :: intsV (xs.drop (j + 1))) := by rw [h1]; unfold intsV; rw [List.map_append, List.map_append, List.append_assoc]; rfl
  rw [h4, h5, List.set_append_right _ _ (by omega), h3, Nat.sub_self]
  rfl
set_option maxHeartbeats 2000000 in
theorem mark_any (base n : Nat) (v : Value) (xs : List Int) (k : Int) (w : World) (hn : n ≤ 2000000) (k0 : 0 ≤ k) (k1 : k ≤ 100000000) (h : Hid (w.ownsRow base 3 1 v n (intsV xs))) :
    Calls Tryd.prog 20 #[v, .int .i64 k] w fun e w' => e = .returned (.int .i64 (k + (n : Int))) ∧ w'.ownsRow base 3 1 v n (intsV (marks k n)) ∧ w.grownBy w' v.ownBlock := by
  have hl : xs.length = n := by have := h.out.1; rw [intsV_len] at this; omega
  obtain ⟨A, c, rfl⟩ := own_slice h.out
  have HL := Lib.hid hl
  clear hl
  go_enter Tryd.func20, Tryd.ntmps20
  go_wp2_with fail
  go_loopw [1, 5] (fun q i wr => ∃ j : Nat, j ≤ n ∧ i = .int .i64 j ∧ q = .int .i64 (k + (j : Int)) ∧ Hid (wr.ownsRow base 3 1 (.slice A n c) n (intsV (marks k j ++ xs.drop j))) ∧ Hid (w.grownBy wr (Value.slice A n c).ownBlock)) (fun _ i _ => n - (intOf i).toNat)
  case atStart => exact ⟨0, Nat.zero_le _, rfl, by go_num, Lib.hid (by simpa [marks] using h.out), Lib.hid (World.grownBy.refl w _)⟩
  case round =>
    obtain ⟨j, hj, rfl, rfl, HO, HG⟩ := hrel
    by_cases hlt : j < n
    · obtain ⟨g, cap, hv, -, -⟩ := HO.out.form (by omega)
      injection hv with hA _ hc
      subst hA hc
      have ec : ∃ u, wr.cell? ⟨g, j, none⟩ = some u := by
        rw [HO.out.cellAt j (by omega)]
        exact ⟨_, List.getElem?_eq_getElem (by rw [intsV_len, List.length_append, marks_len, List.length_drop, HL.out]; omega)⟩
      obtain ⟨u, ec⟩ := ec
      have ef := HO.out.frozenAt j
      have HO2 := Lib.hid (HO.out.stored j (.int .i64 (k + (j : Int)))).1
      rw [marks_set k xs j n hlt HL.out] at HO2
      have hji : (j : Int) < (n : Int) := by omega
      have hj0 : 0 ≤ (j : Int) := by omega
      have hjd : decide (j < n) = true := by simpa using hlt
      go_wp2_with fail
      go_roundw
      case rel => exact ⟨j + 1, by omega, by go_num, by go_num, HO2, Lib.hid ⟨HG.out.os, HG.out.tape, HG.out.output, by simpa [World.setCell] using HG.out.size, fun i hi hne => (Below.heap_setCell wr ⟨g, j, none⟩ _ i (by rintro rfl; exact hne rfl)).trans (HG.out.block i hi hne)⟩⟩
      case measure => simp [intOf]; omega
    · have hjd : decide (j < n) = false := by simpa using hlt
      obtain rfl : j = n := by omega
      have HO2 := Lib.hid (show wr.ownsRow base 3 1 (.slice A j c) j (intsV (marks k j)) by have := HO.out; rwa [List.drop_of_length_le (by rw [HL.out]; omega), List.append_nil] at this)
      clear hlt
      go_wp2_with fail
      go_ret
      exact ⟨rfl, HO2.out, HG.out⟩
theorem held_any (A : Option Addr) (n c : Nat) (k : Int) (w : World) (hn : n ≤ 2000000) (k0 : 0 ≤ k) (k1 : k ≤ 100000000) (h : Hid (IL w A n (marks k n))) :
    Calls Tryd.prog 21 #[.slice A n c, .int .i64 k] w fun e w' => e = .returned (.int .i64 (k + (n : Int))) ∧ w = w' := by
  go_enter Tryd.func21, Tryd.ntmps21
  go_wp2_with fail
  go_loop [1, 5] (fun q i => ∃ j : Nat, j ≤ n ∧ i = .int .i64 j ∧ q = .int .i64 (k + (j : Int))) (fun _ i => n - (intOf i).toNat)
  case atStart => exact ⟨0, Nat.zero_le _, rfl, by go_num⟩
  case round =>
    obtain ⟨j, hj, rfl, rfl⟩ := hrel
    by_cases hlt : j < n
    · obtain ⟨g, rfl, ec⟩ := h.out.2 j _ (marks_at k n j hlt)
      have hji : (j : Int) < (n : Int) := by omega
      have hj0 : 0 ≤ (j : Int) := by omega
      have hjd : decide (j < n) = true := by simpa using hlt
      go_wp2_with fail
      go_round
      case rel => exact ⟨j + 1, by omega, by go_num, by go_num⟩
      case measure => simp [intOf]; omega
    · have hjd : decide (j < n) = false := by simpa using hlt
      obtain rfl : j = n := by omega
      go_wp2_with fail
      go_ret
      exact ⟨rfl, rfl⟩
end Go.Proofs.YtgfopehceojahaaDoor.ints

namespace Go.Proofs.YtgfopehceojahaaDoor.ty
open Go.ChangeShapes Go.WideShapes Go.RowKit Go.Deep
open reads base
set_option linter.unusedVariables false
set_option linter.unusedSimpArgs false

/-- what a mark lays at cell i -/
def mkvLg (k : Int) (i : Nat) : Value := .int .i64 (k + (i : Int))
set_option maxHeartbeats 4000000 in
set_option maxRecDepth 100000 in
theorem mark_legS (base n : Nat) (v : Value) (xs : List Value) (k : Int) (w : World) (hn : n ≤ 2000000) (k0 : 0 ≤ k) (k1 : k ≤ 100000000) (h : Hid (w.ownsRow base 52 5 v n xs)) :
    Calls Tryd.prog 19 #[v, .int .i64 k] w fun e w' => e = .returned (.int .i64 (k + 5 * (n : Int))) ∧ w'.ownsRow base 52 5 v n ((List.range (n * 5)).map (mkvLg k)) ∧ w.grownBy w' v.ownBlock := by
  have HL := Lib.hid (show xs.length = n * 5 from h.out.1)
  obtain ⟨A, c, rfl⟩ := row_slice h.out
  go_enter Tryd.func19, Tryd.ntmps19
  go_wp2_with fail
  go_loopw [1, 5] (fun q i wr => ∃ j : Nat, j ≤ n ∧ i = .int .i64 j ∧ q = .int .i64 (k + 5 * (j : Int)) ∧ Hid (wr.ownsRow base 52 5 (.slice A n c) n (over (mkvLg k) (j * 5) xs)) ∧ Hid (w.grownBy wr (Value.slice A n c).ownBlock)) (fun _ i _ => n - (intOf i).toNat)
  case atStart => exact ⟨0, Nat.zero_le _, rfl, by go_num, Lib.hid (by rw [Nat.zero_mul, over_zero]; exact h.out), Lib.hid (World.grownBy.refl w _)⟩
  case round =>
    obtain ⟨j, hj, rfl, rfl, HO, HG⟩ := hrel
    by_cases hlt : j < n
    · obtain ⟨g, cap, hv, -, -⟩ := HO.out.form (by omega)
      injection hv with hA _ hc
      subst hA hc
      obtain ⟨u0, q0⟩ : ∃ u, wr.cell? ⟨g, j * 5, none⟩ = some u := ⟨_, (HO.out.cellAt (j * 5) (by omega)).trans (List.getElem?_eq_getElem (by rw [over_len _ _ _ (by rw [HL.out]; omega), HL.out]; omega))⟩
      have f0 := HO.out.frozenAt (j * 5)
      obtain ⟨u1, q1⟩ : ∃ u, wr.cell? ⟨g, j * 5 + 1, none⟩ = some u := ⟨_, (HO.out.cellAt (j * 5 + 1) (by omega)).trans (List.getElem?_eq_getElem (by rw [over_len _ _ _ (by rw [HL.out]; omega), HL.out]; omega))⟩
      have f1 := HO.out.frozenAt (j * 5 + 1)
      obtain ⟨u2, q2⟩ : ∃ u, wr.cell? ⟨g, j * 5 + 2, none⟩ = some u := ⟨_, (HO.out.cellAt (j * 5 + 2) (by omega)).trans (List.getElem?_eq_getElem (by rw [over_len _ _ _ (by rw [HL.out]; omega), HL.out]; omega))⟩
      have f2 := HO.out.frozenAt (j * 5 + 2)
      obtain ⟨u3, q3⟩ : ∃ u, wr.cell? ⟨g, j * 5 + 3, none⟩ = some u := ⟨_, (HO.out.cellAt (j * 5 + 3) (by omega)).trans (List.getElem?_eq_getElem (by rw [over_len _ _ _ (by rw [HL.out]; omega), HL.out]; omega))⟩
      have f3 := HO.out.frozenAt (j * 5 + 3)
      obtain ⟨u4, q4⟩ : ∃ u, wr.cell? ⟨g, j * 5 + 4, none⟩ = some u := ⟨_, (HO.out.cellAt (j * 5 + 4) (by omega)).trans (List.getElem?_eq_getElem (by rw [over_len _ _ _ (by rw [HL.out]; omega), HL.out]; omega))⟩
      have f4 := HO.out.frozenAt (j * 5 + 4)
      have HO2 := (((((HO.out.stored (j * 5) (.int .i64 (k + 5 * (j : Int)))).1.stored (j * 5 + 1) (.int .i64 (k + 5 * (j : Int) + 1))).1.stored (j * 5 + 2) (.int .i64 (k + 5 * (j : Int) + 1 + 1))).1.stored (j * 5 + 3) (.int .i64 (k + 5 * (j : Int) + 1 + 1 + 1))).1.stored (j * 5 + 4) (.int .i64 (k + 5 * (j : Int) + 1 + 1 + 1 + 1))).1
      have e0 := over_set (mkvLg k) (j * 5) xs (by rw [HL.out]; omega)
      have e1 := over_set (mkvLg k) (j * 5 + 1) xs (by rw [HL.out]; omega)
      have e2 := over_set (mkvLg k) (j * 5 + 2) xs (by rw [HL.out]; omega)
      have e3 := over_set (mkvLg k) (j * 5 + 3) xs (by rw [HL.out]; omega)
      have e4 := over_set (mkvLg k) (j * 5 + 4) xs (by rw [HL.out]; omega)
      have hl : (((((over (mkvLg k) (j * 5) xs).set (j * 5) (.int .i64 (k + 5 * (j : Int)))).set (j * 5 + 1) (.int .i64 (k + 5 * (j : Int) + 1))).set (j * 5 + 2) (.int .i64 (k + 5 * (j : Int) + 1 + 1))).set (j * 5 + 3) (.int .i64 (k + 5 * (j : Int) + 1 + 1 + 1))).set (j * 5 + 4) (.int .i64 (k + 5 * (j : Int) + 1 + 1 + 1 + 1)) = over (mkvLg k) ((j + 1) * 5) xs := by
        rw [show Value.int .i64 (k + 5 * (j : Int)) = mkvLg k (j * 5) by unfold mkvLg; congr 1; push_cast; omega, e0]
        rw [show Value.int .i64 (k + 5 * (j : Int) + 1) = mkvLg k (j * 5 + 1) by unfold mkvLg; congr 1; push_cast; omega, e1]
        rw [show Value.int .i64 (k + 5 * (j : Int) + 1 + 1) = mkvLg k (j * 5 + 2) by unfold mkvLg; congr 1; push_cast; omega, e2]
        rw [show Value.int .i64 (k + 5 * (j : Int) + 1 + 1 + 1) = mkvLg k (j * 5 + 3) by unfold mkvLg; congr 1; push_cast; omega, e3]
        rw [show Value.int .i64 (k + 5 * (j : Int) + 1 + 1 + 1 + 1) = mkvLg k (j * 5 + 4) by unfold mkvLg; congr 1; push_cast; omega, e4]
        rw [show (j + 1) * 5 = j * 5 + 5 by omega]
      rw [hl] at HO2
      have HO3 := Lib.hid HO2
      clear HO2 hl e0 e1 e2 e3 e4
      have hji : (j : Int) < (n : Int) := by omega
      have hj0 : 0 ≤ (j : Int) := by omega
      have hjd : decide (j < n) = true := by simpa using hlt
      go_wp2_with fail
      go_roundw
      case rel => exact ⟨j + 1, by omega, by go_num, by go_num, HO3, Lib.hid (grown_set (grown_set (grown_set (grown_set (grown_set (HG.out) _ _) _ _) _ _) _ _) _ _)⟩
      case measure => simp [intOf]; omega
    · have hjd : decide (j < n) = false := by simpa using hlt
      obtain rfl : j = n := by omega
      have HO2 := Lib.hid (show wr.ownsRow base 52 5 (.slice A j c) j ((List.range (j * 5)).map (mkvLg k)) by have := HO.out; rwa [over_all _ _ _ HL.out] at this)
      clear hlt
      go_wp2_with fail
      go_ret
      exact ⟨rfl, HO2.out, HG.out⟩

end Go.Proofs.YtgfopehceojahaaDoor.ty
