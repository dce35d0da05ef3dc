/-
  The turn between two bearings, of the model.
  Conditions: the numbers keep within the limits that each theorem names.
-/
import Derived.Test.YtiojgmojnnbpiaaDoorBase
namespace Go.Proofs.YtiojgmojnnbpiaaDoor.tn
open Go.RowKit
open reads base
set_option linter.unusedVariables false

theorem in_yes (x a b : Int) (w : World) (h0 : a ≤ x) (h1 : x ≤ b) :
    Calls Tryd.prog 80 #[.int .i64 x, .int .i64 a, .int .i64 b] w fun e w' => e = .returned (.bool true) ∧ w = w' := by
  go_enter Tryd.func80, Tryd.ntmps80
  go_wp2_with fail
  go_ret
  exact ⟨rfl, rfl⟩
theorem in_no (x a b : Int) (w : World) (h : x < a ∨ b < x) :
    Calls Tryd.prog 80 #[.int .i64 x, .int .i64 a, .int .i64 b] w fun e w' => e = .returned (.bool false) ∧ w = w' := by
  by_cases hx : x < a
  · go_enter Tryd.func80, Tryd.ntmps80
    go_wp2_with fail
    go_ret
    exact ⟨rfl, rfl⟩
  · have hy : b < x := by omega
    have hz : a ≤ x := by omega
    have hd : decide (x ≤ b) = false := by simpa using hy
    clear h hx
    go_enter Tryd.func80, Tryd.ntmps80
    go_wp2_with fail
    go_ret
    exact ⟨rfl, rfl⟩
theorem in_any (x a b : Int) (w : World) :
    Calls Tryd.prog 80 #[.int .i64 x, .int .i64 a, .int .i64 b] w fun e w' => e = .returned (.bool (decide (a ≤ x) && decide (x ≤ b))) ∧ w = w' := by
  by_cases h : a ≤ x ∧ x ≤ b
  · rw [decide_eq_true h.1, decide_eq_true h.2]; exact in_yes x a b w h.1 h.2
  · rw [show (decide (a ≤ x) && decide (x ≤ b)) = false by simp; omega]; exact in_no x a b w (by omega)
theorem bearing_any (x : Int) (w : World) :
    Calls Tryd.prog 81 #[.int .i64 x] w fun e w' => e = .returned (.bool (decide (0 ≤ x) && decide (x ≤ 359))) ∧ w = w' := by
  go_enter Tryd.func81, Tryd.ntmps81
  go_wp2_with fail
  refine (in_any _ _ _ _).mono ?_
  rintro e w' ⟨rfl, rfl⟩
  go_wp2_with fail
  go_ret
  exact ⟨rfl, rfl⟩
theorem bearing_is (x : Int) (t : Bool) (h : (decide (0 ≤ x) && decide (x ≤ 359)) = t) (w : World) :
    Calls Tryd.prog 81 #[.int .i64 x] w fun e w' => e = .returned (.bool t) ∧ w = w' := by rw [← h]; exact bearing_any x w
theorem band {a x b : Int} (h0 : a ≤ x) (h1 : x ≤ b) : (decide (a ≤ x) && decide (x ≤ b)) = true := by simp [h0, h1]
theorem bout {a x b : Int} (h : ¬ (a ≤ x ∧ x ≤ b)) : (decide (a ≤ x) && decide (x ≤ b)) = false := by simp; omega
def turn (a b : Int) : Int := if (a - b) % 360 ≤ 360 - (a - b) % 360 then (a - b) % 360 else 360 - (a - b) % 360
def ansTurn (a b : Int) : Value := if (0 ≤ a ∧ a ≤ 359) ∧ (0 ≤ b ∧ b ≤ 359) then .tuple #[.int .i64 (turn a b), .bool true] else .tuple #[.int .i64 0, .bool false]
theorem least_any (a b : Int) (w : World) : Calls Tryd.prog 89 #[.int .i64 a, .int .i64 b] w fun e w' => e = .returned (.int .i64 (if a ≤ b then a else b)) ∧ w = w' := by
  by_cases h : a ≤ b
  · rw [if_pos h]
    by_cases k : a < b
    · go_enter Tryd.func89, Tryd.ntmps89
      go_wp2_with fail
      go_ret
      exact ⟨rfl, rfl⟩
    · obtain rfl : a = b := by omega
      go_enter Tryd.func89, Tryd.ntmps89
      go_wp2_with fail
      go_ret
      exact ⟨rfl, rfl⟩
  · rw [if_neg h]
    go_enter Tryd.func89, Tryd.ntmps89
    go_wp2_with fail
    go_ret
    exact ⟨rfl, rfl⟩
theorem least_is (a b v : Int) (h : (if a ≤ b then a else b) = v) (w : World) : Calls Tryd.prog 89 #[.int .i64 a, .int .i64 b] w fun e w' => e = .returned (.int .i64 v) ∧ w = w' := by rw [← h]; exact least_any a b w
theorem turn_model (a b : Int) (w : World) : Calls Tryd.prog 74 #[.int .i64 a, .int .i64 b] w (APost (ansTurn a b) w) := by
  by_cases h : 0 ≤ a ∧ a ≤ 359
  · by_cases k : 0 ≤ b ∧ b ≤ 359
    · have HA := Lib.hid (show ansTurn a b = .tuple #[.int .i64 (turn a b), .bool true] from if_pos ⟨h, k⟩)
      have H1 := Lib.hid (band h.1 h.2)
      have H2 := Lib.hid (band k.1 k.2)
      obtain ⟨h0, h1⟩ := h
      obtain ⟨k0, k1⟩ := k
      have m0 : 0 ≤ (a - b + 360) % 360 := by omega
      have m1 : (a - b + 360) % 360 < 360 := by omega
      go_enter Tryd.func74, Tryd.ntmps74
      go_wp2_with fail
      refine (bearing_is _ true H1.out _).mono ?_
      rintro e w' ⟨rfl, rfl⟩
      go_wp2_with fail
      refine (bearing_is _ true H2.out _).mono ?_
      rintro e w' ⟨rfl, rfl⟩
      go_wp2_with fail
      refine (least_is _ _ (turn a b) rfl _).mono ?_
      rintro e w' ⟨rfl, rfl⟩
      go_wp2_with fail
      go_ret2
      exact ⟨by rw [HA.out]; rfl, Below.refl _ _⟩
    · have HA := Lib.hid (show ansTurn a b = .tuple #[.int .i64 0, .bool false] from if_neg (fun c => k c.2))
      have H1 := Lib.hid (band h.1 h.2)
      have H2 := Lib.hid (bout k)
      clear h k
      go_enter Tryd.func74, Tryd.ntmps74
      go_wp2_with fail
      refine (bearing_is _ true H1.out _).mono ?_
      rintro e w' ⟨rfl, rfl⟩
      go_wp2_with fail
      refine (bearing_is _ false H2.out _).mono ?_
      rintro e w' ⟨rfl, rfl⟩
      go_wp2_with fail
      go_ret2
      exact ⟨by rw [HA.out]; rfl, Below.refl _ _⟩
  · have HA := Lib.hid (show ansTurn a b = .tuple #[.int .i64 0, .bool false] from if_neg (fun c => h c.1))
    have H1 := Lib.hid (bout h)
    clear h
    go_enter Tryd.func74, Tryd.ntmps74
    go_wp2_with fail
    refine (bearing_is _ false H1.out _).mono ?_
    rintro e w' ⟨rfl, rfl⟩
    go_wp2_with fail
    go_ret2
    exact ⟨by rw [HA.out]; rfl, Below.refl _ _⟩
end Go.Proofs.YtiojgmojnnbpiaaDoor.tn
