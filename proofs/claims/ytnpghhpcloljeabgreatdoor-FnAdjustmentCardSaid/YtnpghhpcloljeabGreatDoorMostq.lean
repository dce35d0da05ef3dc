/-
  The greater of two numbers, of the model.
  The program's test whether numbers lie within two others.
  The program's tests whether numbers are bearings.
  Conditions: those that each theorem names.
-/
import Derived.Test.YtnpghhpcloljeabGreatDoorReadsq
namespace Go.Proofs.YtnpghhpcloljeabGreatDoor.mst
open Go.RowKit
open reads base
set_option linter.unusedVariables false
def mx (a b : Int) : Int := if b < a then a else b
theorem mx_abs (a b : Int) : 0 ≤ mx (a - b) (b - a) ∧ a - b ≤ mx (a - b) (b - a) ∧ b - a ≤ mx (a - b) (b - a) ∧ (mx (a - b) (b - a) = a - b ∨ mx (a - b) (b - a) = b - a) := by unfold mx; split <;> omega
theorem most_is (a b v : Int) (h : Hid (mx a b = v)) (w : World) : Calls Tryz.prog 89 #[.int .i64 a, .int .i64 b] w fun e w' => e = .returned (.int .i64 v) ∧ w = w' := by
  have hh := h.out
  clear h
  by_cases c : b < a
  · obtain rfl : v = a := by rw [← hh]; exact if_pos c
    clear hh
    go_enter Tryz.func89, Tryz.ntmps89
    go_wp2_with fail
    go_ret
    exact ⟨rfl, rfl⟩
  · obtain rfl : v = b := by rw [← hh]; exact if_neg c
    have hd : decide (v < a) = false := by simpa using c
    clear hh c
    go_enter Tryz.func89, Tryz.ntmps89
    go_wp2_with fail
    go_ret
    exact ⟨rfl, rfl⟩
end Go.Proofs.YtnpghhpcloljeabGreatDoor.mst

namespace Go.Proofs.YtnpghhpcloljeabGreatDoor.win
open Go.RowKit
open reads base
set_option linter.unusedVariables false
set_option linter.unusedSimpArgs false

/-- all numbers of a list lie within two others -/
def allIn (lo hi : Int) (xs : List Int) : Bool := xs.all fun x => btw lo x hi
theorem one_in {lo hi a : Int} {t : Bool} (h : btw lo a hi = t) : allIn lo hi [a] = t := by simpa [allIn] using h
theorem two_in {lo hi a b : Int} {s t : Bool} (h : btw lo a hi = s) (k : btw lo b hi = t) : allIn lo hi [a, b] = (s && t) := by simp [allIn, h, k]
/-- a list of numbers lies in a block -/
def IntsAt (w : World) (g : Nat) (xs : List Int) : Prop := ∀ k x, xs[k]? = some x → w.cell? ⟨g, k, none⟩ = some (.int .i64 x)
theorem allIn_take (lo hi : Int) (xs : List Int) (k : Nat) (x : Int) (hx : xs[k]? = some x) (h : allIn lo hi (xs.take k) = true) (h0 : lo ≤ x) (h1 : x ≤ hi) : allIn lo hi (xs.take (k + 1)) = true := by
  obtain ⟨hk, rfl⟩ := List.getElem?_eq_some_iff.1 hx
  unfold allIn at h ⊢
  rw [List.take_succ_eq_append_getElem hk, List.all_append, h]
  simp [btw, h0, h1]
theorem allIn_out (lo hi : Int) (xs : List Int) (k : Nat) (x : Int) (hx : xs[k]? = some x) (h : x < lo ∨ hi < x) : allIn lo hi xs = false := by
  unfold allIn
  rw [List.all_eq_false]
  refine ⟨x, List.mem_of_getElem? hx, ?_⟩
  simp [btw]
  omega
set_option maxHeartbeats 1000000 in
set_option maxRecDepth 100000 in
theorem within_any (lo hi : Int) (g n c : Nat) (xs : List Int) (w : World) (hn : Hid (xs.length = n)) (hn8 : n ≤ 8) (hc : Hid (IntsAt w g xs)) :
    Calls Tryz.prog 73 #[.int .i64 lo, .int .i64 hi, .slice (some ⟨g, 0, none⟩) n c] w fun e w' => e = .returned (.bool (allIn lo hi xs)) ∧ w = w' := by
  go_enter Tryz.func73, Tryz.ntmps73
  go_wp2_with fail
  go_loop [11] (fun i => ∃ k : Nat, k ≤ n ∧ i = .int .i64 k ∧ Hid (allIn lo hi (xs.take k) = true)) (fun i => n - (intOf i).toNat)
  case atStart => exact ⟨0, Nat.zero_le _, rfl, Lib.hid (by simp [allIn])⟩
  case round =>
    obtain ⟨k, hk, rfl, HI⟩ := hrel
    by_cases hlt : k < n
    · obtain ⟨x, hx⟩ : ∃ x, xs[k]? = some x := ⟨_, List.getElem?_eq_getElem (by rw [hn.out]; exact hlt)⟩
      have hcell := hc.out k x hx
      have HX := Lib.hid hx
      clear hx
      by_cases h0 : lo ≤ x
      · have d0 : decide (x < lo) = false := by simpa using h0
        by_cases h1 : x ≤ hi
        · have d1 : decide (hi < x) = false := by simpa using h1
          go_wp2_with fail
          go_round
          case rel => exact ⟨k + 1, by omega, by go_num, Lib.hid (allIn_take lo hi xs k x HX.out HI.out h0 h1)⟩
          case measure => simp [intOf]; omega
        · have d1 : decide (hi < x) = true := by simpa using h1
          have HF := Lib.hid (allIn_out lo hi xs k x HX.out (by omega))
          go_wp2_with fail
          go_ret
          exact ⟨ret_bool HF.out.symm, rfl⟩
      · have d0 : decide (x < lo) = true := by simpa using h0
        have HF := Lib.hid (allIn_out lo hi xs k x HX.out (by omega))
        go_wp2_with fail
        go_ret
        exact ⟨ret_bool HF.out.symm, rfl⟩
    · have HF := Lib.hid (show allIn lo hi xs = true by have := HI.out; rwa [List.take_of_length_le (by rw [hn.out]; omega)] at this)
      go_wp2_with fail
      go_ret
      exact ⟨ret_bool HF.out.symm, rfl⟩
/-- a list of numbers that the call has made -/
theorem ints_new (w : World) (t : TypeId) (xs : List Int) : IntsAt (w.alloc (.cells (xs.map (Value.int .i64)).toArray t)) w.heap.size xs := by
  intro k x hx
  rw [(Blk.new w t _).cell k]
  simp [hx]
theorem within_new (lo hi : Int) (c : Nat) (xs : List Int) (n : Nat) (t : TypeId) (cs : Array Value) (b : Bool) (w : World) (g : Nat) (hg : w.heap.size = g) (hn : xs.length = n) (hn8 : n ≤ 8) (hcs : cs = (xs.map (Value.int .i64)).toArray) (hb : allIn lo hi xs = b) :
    Calls Tryz.prog 73 #[.int .i64 lo, .int .i64 hi, .slice (some ⟨g, 0, none⟩) n c] (w.alloc (.cells cs t)) fun e w' => e = .returned (.bool b) ∧ w.alloc (.cells cs t) = w' := by
  subst hcs hg
  rw [← hb]
  exact within_any lo hi w.heap.size n c xs _ (Lib.hid hn) hn8 (Lib.hid (ints_new w t xs))
end Go.Proofs.YtnpghhpcloljeabGreatDoor.win

namespace Go.Proofs.YtnpghhpcloljeabGreatDoor.win
open Go.RowKit
open reads base
set_option linter.unusedVariables false
set_option linter.unusedSimpArgs false

set_option maxHeartbeats 1000000 in
theorem bearings_any (g n c : Nat) (xs : List Int) (b : Bool) (w : World) (hn : Hid (xs.length = n)) (hn8 : n ≤ 8) (hc : Hid (IntsAt w g xs)) (hb : Hid (allIn 0 359 xs = b)) :
    Calls Tryz.prog 166 #[.slice (some ⟨g, 0, none⟩) n c] w fun e w' => e = .returned (.bool b) ∧ w = w' := by
  go_enter Tryz.func166, Tryz.ntmps166
  go_wp2_with fail
  refine (within_any _ _ g n c xs w hn hn8 hc).mono ?_
  rintro e w' ⟨rfl, rfl⟩
  rw [hb.out]
  go_wp2_with fail
  go_ret
  exact ⟨rfl, rfl⟩
theorem bearings_new (c : Nat) (xs : List Int) (n : Nat) (t : TypeId) (cs : Array Value) (b : Bool) (w : World) (g : Nat) (hg : w.heap.size = g) (hn : xs.length = n) (hn8 : n ≤ 8) (hcs : cs = (xs.map (Value.int .i64)).toArray) (hb : allIn 0 359 xs = b) :
    Calls Tryz.prog 166 #[.slice (some ⟨g, 0, none⟩) n c] (w.alloc (.cells cs t)) fun e w' => e = .returned (.bool b) ∧ w.alloc (.cells cs t) = w' := by
  subst hcs hg
  exact bearings_any w.heap.size n c xs b _ (Lib.hid hn) hn8 (Lib.hid (ints_new w t xs)) (Lib.hid hb)
end Go.Proofs.YtnpghhpcloljeabGreatDoor.win
