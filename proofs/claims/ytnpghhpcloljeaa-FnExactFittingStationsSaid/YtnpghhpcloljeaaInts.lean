/-
  The exact laws' helpers at lists of ints: equality, marks, marks that are held.
  Conditions: none but those that a theorem names.
-/
import Derived.Test.YtnpghhpcloljeaaProg
import Derived.Test.YtnpghhpcloljeaaReads
import Derived.Test.YtnpghhpcloljeaaIntV
import Derived.WalkKit
import Derived.Lib.Hide
import Derived.Deep.QuietTactic
import Derived.BigQuiet
import Derived.LoopTactic
namespace Go.Proofs.Ytnpghhpcloljeaa.ints
open Go.RowKit
open reads
set_option linter.unusedVariables false

/-- what the equality says of two lists that are the same -/
def EqPost (w : World) (e : Ending) (w' : World) : Prop := e = .returned (.bool true) ∧ ∃ m, w' = w.drewN m
set_option maxHeartbeats 1000000 in
theorem eq_any (A A' : Option Addr) (n c c' : Nat) (xs : List Int) (w : World) (hn : n ≤ 2000000) (h : Hid (IL w A n xs)) (h' : Hid (IL w A' n xs)) :
    Calls Try.prog 28 #[.slice A n c, .slice A' n c'] w (EqPost w) := by
  go_enter Try.func28, Try.ntmps28
  go_wp2_with fail
  go_loopw [5] (fun i wr => ∃ k m : Nat, k ≤ n ∧ i = .int .i64 k ∧ wr = w.drewN m) (fun i _ => n - (intOf i).toNat)
  case atStart => exact ⟨0, 0, Nat.zero_le _, rfl, rfl⟩
  case round =>
    obtain ⟨k, m, hk, rfl, rfl⟩ := hrel
    by_cases hlt : k < n
    · obtain ⟨x, hx⟩ : ∃ x, xs[k]? = some x := ⟨_, List.getElem?_eq_getElem (by rw [h.out.1]; exact hlt)⟩
      obtain ⟨g, rfl, e0⟩ := h.out.2 k x hx
      obtain ⟨g', rfl, e1⟩ := h'.out.2 k x hx
      clear hx
      have hki : (k : Int) < (n : Int) := by omega
      have hk0 : 0 ≤ (k : Int) := by omega
      have hkd : decide (k < n) = true := by simpa using hlt
      go_wp2_with fail
      go_quiet (fail)
      go_wp2_with fail
      go_roundw
      case rel => exact ⟨k + 1, _, by omega, by go_num, rfl⟩
      case measure => simp [intOf]; omega
    · have hkd : decide (k < n) = false := by simpa using hlt
      go_wp2_with fail
      go_ret
      exact ⟨rfl, m, rfl⟩

/-- marks from k on -/
def marks (k : Int) (n : Nat) : List Int := (List.range n).map fun i : Nat => k + (i : Int)
theorem marks_len (k : Int) (n : Nat) : (marks k n).length = n := by simp [marks]
theorem marks_at (k : Int) (n i : Nat) (h : i < n) : (marks k n)[i]? = some (k + (i : Int)) := by simp [marks, h]
theorem marks_set (k : Int) (xs : List Int) (j n : Nat) (hj : j < n) (hn : xs.length = n) : (intsV (marks k j ++ xs.drop j)).set j (.int .i64 (k + (j : Int))) = intsV (marks k (j + 1) ++ xs.drop (j + 1)) := by
  have h1 : marks k (j + 1) = marks k j ++ [k + (j : Int)] := by unfold marks; rw [List.range_succ, List.map_append]; rfl
  have h2 : xs.drop j = xs[j]'(by omega) :: xs.drop (j + 1) := List.drop_eq_getElem_cons (by omega)
  have h3 : (intsV (marks k j)).length = j := by rw [intsV_len, marks_len]
  have h4 : intsV (marks k j ++ xs.drop j) = intsV (marks k j) ++ (.int .i64 (xs[j]'(by omega)) :: intsV (xs.drop (j + 1))) := by rw [h2]; unfold intsV; rw [List.map_append]; rfl
  have h5 : intsV (marks k (j + 1) ++ xs.drop (j + 1)) = intsV (marks k j) ++ (.int .i64 (k + (j : Int)) :: intsV (xs.drop (j + 1))) := by rw [h1]; unfold intsV; rw [List.map_append, List.map_append, List.append_assoc]; rfl
  rw [h4, h5, List.set_append_right _ _ (by omega), h3, Nat.sub_self]
  rfl
set_option maxHeartbeats 2000000 in
theorem mark_any (base n : Nat) (v : Value) (xs : List Int) (k : Int) (w : World) (hn : n ≤ 2000000) (k0 : 0 ≤ k) (k1 : k ≤ 100000000) (h : Hid (w.ownsRow base 3 1 v n (intsV xs))) :
    Calls Try.prog 30 #[v, .int .i64 k] w fun e w' => e = .returned (.int .i64 (k + (n : Int))) ∧ w'.ownsRow base 3 1 v n (intsV (marks k n)) ∧ w.grownBy w' v.ownBlock := by
  have hl : xs.length = n := by have := h.out.1; rw [intsV_len] at this; omega
  obtain ⟨A, c, rfl⟩ := own_slice h.out
  have HL := Lib.hid hl
  clear hl
  go_enter Try.func30, Try.ntmps30
  go_wp2_with fail
  go_loopw [1, 5] (fun q i wr => ∃ j : Nat, j ≤ n ∧ i = .int .i64 j ∧ q = .int .i64 (k + (j : Int)) ∧ Hid (wr.ownsRow base 3 1 (.slice A n c) n (intsV (marks k j ++ xs.drop j))) ∧ Hid (w.grownBy wr (Value.slice A n c).ownBlock)) (fun _ i _ => n - (intOf i).toNat)
  case atStart => exact ⟨0, Nat.zero_le _, rfl, by go_num, Lib.hid (by simpa [marks] using h.out), Lib.hid (World.grownBy.refl w _)⟩
  case round =>
    obtain ⟨j, hj, rfl, rfl, HO, HG⟩ := hrel
    by_cases hlt : j < n
    · obtain ⟨g, cap, hv, -, -⟩ := HO.out.form (by omega)
      injection hv with hA _ hc
      subst hA hc
      have ec : ∃ u, wr.cell? ⟨g, j, none⟩ = some u := by
        rw [HO.out.cellAt j (by omega)]
        exact ⟨_, List.getElem?_eq_getElem (by rw [intsV_len, List.length_append, marks_len, List.length_drop, HL.out]; omega)⟩
      obtain ⟨u, ec⟩ := ec
      have ef := HO.out.frozenAt j
      have HO2 := Lib.hid (HO.out.stored j (.int .i64 (k + (j : Int)))).1
      rw [marks_set k xs j n hlt HL.out] at HO2
      have hji : (j : Int) < (n : Int) := by omega
      have hj0 : 0 ≤ (j : Int) := by omega
      have hjd : decide (j < n) = true := by simpa using hlt
      go_wp2_with fail
      go_roundw
      case rel => exact ⟨j + 1, by omega, by go_num, by go_num, HO2, Lib.hid ⟨HG.out.os, HG.out.tape, HG.out.output, by simpa [World.setCell] using HG.out.size, fun i hi hne => (Below.heap_setCell wr ⟨g, j, none⟩ _ i (by rintro rfl; exact hne rfl)).trans (HG.out.block i hi hne)⟩⟩
      case measure => simp [intOf]; omega
    · have hjd : decide (j < n) = false := by simpa using hlt
      obtain rfl : j = n := by omega
      have HO2 := Lib.hid (show wr.ownsRow base 3 1 (.slice A j c) j (intsV (marks k j)) by have := HO.out; rwa [List.drop_of_length_le (by rw [HL.out]; omega), List.append_nil] at this)
      clear hlt
      go_wp2_with fail
      go_ret
      exact ⟨rfl, HO2.out, HG.out⟩
theorem held_any (A : Option Addr) (n c : Nat) (k : Int) (w : World) (hn : n ≤ 2000000) (k0 : 0 ≤ k) (k1 : k ≤ 100000000) (h : Hid (IL w A n (marks k n))) :
    Calls Try.prog 31 #[.slice A n c, .int .i64 k] w fun e w' => e = .returned (.int .i64 (k + (n : Int))) ∧ w = w' := by
  go_enter Try.func31, Try.ntmps31
  go_wp2_with fail
  go_loop [1, 5] (fun q i => ∃ j : Nat, j ≤ n ∧ i = .int .i64 j ∧ q = .int .i64 (k + (j : Int))) (fun _ i => n - (intOf i).toNat)
  case atStart => exact ⟨0, Nat.zero_le _, rfl, by go_num⟩
  case round =>
    obtain ⟨j, hj, rfl, rfl⟩ := hrel
    by_cases hlt : j < n
    · obtain ⟨g, rfl, ec⟩ := h.out.2 j _ (marks_at k n j hlt)
      have hji : (j : Int) < (n : Int) := by omega
      have hj0 : 0 ≤ (j : Int) := by omega
      have hjd : decide (j < n) = true := by simpa using hlt
      go_wp2_with fail
      go_round
      case rel => exact ⟨j + 1, by omega, by go_num, by go_num⟩
      case measure => simp [intOf]; omega
    · have hjd : decide (j < n) = false := by simpa using hlt
      obtain rfl : j = n := by omega
      go_wp2_with fail
      go_ret
      exact ⟨rfl, rfl⟩
end Go.Proofs.Ytnpghhpcloljeaa.ints
