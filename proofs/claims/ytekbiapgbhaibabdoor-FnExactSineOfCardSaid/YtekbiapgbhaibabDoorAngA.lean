/-
  The model of the angles that reads no sine: limits, rounded division, turns, back bearings.
  Conditions: none but those that a theorem names.
-/
import Derived.Test.YtekbiapgbhaibabDoorProg
import Derived.Test.YtekbiapgbhaibabDoorReads
import Derived.WalkKit
import Derived.Lib.Hide
import Derived.IntWalk
import Derived.Below
import Derived.LoopTactic
namespace Go.Proofs.YtekbiapgbhaibabDoor.ang
open Go.RowKit
open reads
set_option linter.unusedVariables false

/-- a number within two others -/
theorem in_yes (x a b : Int) (w : World) (h0 : a ≤ x) (h1 : x ≤ b) :
    Calls Tryd.prog 49 #[.int .i64 x, .int .i64 a, .int .i64 b] w fun e w' => e = .returned (.bool true) ∧ w = w' := by
  go_enter Tryd.func49, Tryd.ntmps49
  go_wp2_with fail
  go_ret
  exact ⟨rfl, rfl⟩
theorem in_no (x a b : Int) (w : World) (h : x < a ∨ b < x) :
    Calls Tryd.prog 49 #[.int .i64 x, .int .i64 a, .int .i64 b] w fun e w' => e = .returned (.bool false) ∧ w = w' := by
  by_cases hx : x < a
  · go_enter Tryd.func49, Tryd.ntmps49
    go_wp2_with fail
    go_ret
    exact ⟨rfl, rfl⟩
  · have hy : b < x := by omega
    have hz : a ≤ x := by omega
    have hd : decide (x ≤ b) = false := by simpa using hy
    clear h hx
    go_enter Tryd.func49, Tryd.ntmps49
    go_wp2_with fail
    go_ret
    exact ⟨rfl, rfl⟩
theorem in_any (x a b : Int) (w : World) :
    Calls Tryd.prog 49 #[.int .i64 x, .int .i64 a, .int .i64 b] w fun e w' => e = .returned (.bool (decide (a ≤ x) && decide (x ≤ b))) ∧ w = w' := by
  by_cases h : a ≤ x ∧ x ≤ b
  · rw [decide_eq_true h.1, decide_eq_true h.2]; exact in_yes x a b w h.1 h.2
  · rw [show (decide (a ≤ x) && decide (x ≤ b)) = false by simp; omega]; exact in_no x a b w (by omega)
theorem bearing_any (x : Int) (w : World) :
    Calls Tryd.prog 56 #[.int .i64 x] w fun e w' => e = .returned (.bool (decide (0 ≤ x) && decide (x ≤ 359))) ∧ w = w' := by
  go_enter Tryd.func56, Tryd.ntmps56
  go_wp2_with fail
  refine (in_any _ _ _ _).mono ?_
  rintro e w' ⟨rfl, rfl⟩
  go_wp2_with fail
  go_ret
  exact ⟨rfl, rfl⟩
theorem long_any (x : Int) (w : World) :
    Calls Tryd.prog 53 #[.int .i64 x] w fun e w' => e = .returned (.bool (decide (-100000 ≤ x) && decide (x ≤ 100000))) ∧ w = w' := by
  go_enter Tryd.func53, Tryd.ntmps53
  go_wp2_with fail
  refine (in_any _ _ _ _).mono ?_
  rintro e w' ⟨rfl, rfl⟩
  go_wp2_with fail
  go_ret
  exact ⟨rfl, rfl⟩

/-- an answer, memory left to the caller -/
def APost (v : Value) (w : World) (e : Ending) (w' : World) : Prop := e = .returned v ∧ Below w.heap.size w w'
theorem apost {P : Program} {f : FuncId} {args : Array Value} {w : World} {v : Value} (h : Calls P f args w fun e w' => e = .returned v ∧ w = w') : Calls P f args w (APost v w) :=
  h.mono fun e w' hh => ⟨hh.1, by rw [← hh.2]; exact Below.refl _ _⟩

theorem bearing_is (x : Int) (t : Bool) (h : (decide (0 ≤ x) && decide (x ≤ 359)) = t) (w : World) :
    Calls Tryd.prog 56 #[.int .i64 x] w fun e w' => e = .returned (.bool t) ∧ w = w' := by rw [← h]; exact bearing_any x w
theorem long_is (x : Int) (t : Bool) (h : (decide (-100000 ≤ x) && decide (x ≤ 100000)) = t) (w : World) :
    Calls Tryd.prog 53 #[.int .i64 x] w fun e w' => e = .returned (.bool t) ∧ w = w' := by rw [← h]; exact long_any x w
theorem in_is (x a b : Int) (t : Bool) (h : (decide (a ≤ x) && decide (x ≤ b)) = t) (w : World) :
    Calls Tryd.prog 49 #[.int .i64 x, .int .i64 a, .int .i64 b] w fun e w' => e = .returned (.bool t) ∧ w = w' := by rw [← h]; exact in_any x a b w
theorem band {a x b : Int} (h0 : a ≤ x) (h1 : x ≤ b) : (decide (a ≤ x) && decide (x ≤ b)) = true := by simp [h0, h1]
theorem bout {a x b : Int} (h : ¬ (a ≤ x ∧ x ≤ b)) : (decide (a ≤ x) && decide (x ≤ b)) = false := by simp; omega

theorem prod_bd (a s : Int) (a0 : -100000 ≤ a) (a1 : a ≤ 100000) (s0 : -1000 ≤ s) (s1 : s ≤ 1000) : -100000000 ≤ a * s ∧ a * s ≤ 100000000 := by
  have h : (a * s).natAbs ≤ 100000 * 1000 := by rw [Int.natAbs_mul]; exact Nat.mul_le_mul (by omega) (by omega)
  omega

/-- a rounded division -/
def rdiv (a b : Int) : Int := if a < 0 then -((-2 * a + b) / (2 * b)) else (2 * a + b) / (2 * b)
theorem div_any (a b : Int) (w : World) (a0 : -1000000000 ≤ a) (a1 : a ≤ 1000000000) (b0 : 1 ≤ b) (b1 : b ≤ 1000000) :
    Calls Tryd.prog 50 #[.int .i64 a, .int .i64 b] w fun e w' => e = .returned (.int .i64 (rdiv a b)) ∧ w = w' := by
  by_cases h : a < 0
  · have HA := Lib.hid (show rdiv a b = -((-2 * a + b) / (2 * b)) from if_pos h)
    have q0 : 0 ≤ (-2 * a + b) / (2 * b) := Int.ediv_nonneg (by omega) (by omega)
    have q1 : (-2 * a + b) / (2 * b) ≤ 3000000000 := Int.le_trans (Int.ediv_le_self _ (by omega)) (by omega)
    have hb2 : ¬ 2 * b = 0 := by omega
    go_enter Tryd.func50, Tryd.ntmps50
    go_wp2_with fail
    go_ret
    exact ⟨by rw [HA.out]; rfl, rfl⟩
  · have HA := Lib.hid (show rdiv a b = (2 * a + b) / (2 * b) from if_neg h)
    have q0 : 0 ≤ (2 * a + b) / (2 * b) := Int.ediv_nonneg (by omega) (by omega)
    have q1 : (2 * a + b) / (2 * b) ≤ 3000000000 := Int.le_trans (Int.ediv_le_self _ (by omega)) (by omega)
    have hb2 : ¬ 2 * b = 0 := by omega
    go_enter Tryd.func50, Tryd.ntmps50
    go_wp2_with fail
    go_ret
    exact ⟨by rw [HA.out]; rfl, rfl⟩
/-- what RoundedDiv answers -/
def ansDiv (a b : Int) : Value := if (-1000000000 ≤ a ∧ a ≤ 1000000000) ∧ (1 ≤ b ∧ b ≤ 1000000) then .tuple #[.int .i64 (rdiv a b), .bool true] else .tuple #[.int .i64 0, .bool false]
theorem roundedDiv_model (a b : Int) (w : World) : Calls Tryd.prog 18 #[.int .i64 a, .int .i64 b] w (APost (ansDiv a b) w) := by
  by_cases h : -1000000000 ≤ a ∧ a ≤ 1000000000
  · by_cases k : 1 ≤ b ∧ b ≤ 1000000
    · have HA := Lib.hid (show ansDiv a b = .tuple #[.int .i64 (rdiv a b), .bool true] from if_pos ⟨h, k⟩)
      have H1 := Lib.hid (band h.1 h.2)
      have H2 := Lib.hid (band k.1 k.2)
      have H3 := Lib.hid (fun W => div_any a b W h.1 h.2 k.1 k.2)
      clear h k
      go_enter Tryd.func18, Tryd.ntmps18
      go_wp2_with fail
      refine (in_is _ _ _ true H1.out _).mono ?_
      rintro e w' ⟨rfl, rfl⟩
      go_wp2_with fail
      refine (in_is _ _ _ true H2.out _).mono ?_
      rintro e w' ⟨rfl, rfl⟩
      go_wp2_with fail
      refine (H3.out _).mono ?_
      rintro e w' ⟨rfl, rfl⟩
      go_wp2_with fail
      go_ret2
      exact ⟨by rw [HA.out]; rfl, Below.refl _ _⟩
    · have HA := Lib.hid (show ansDiv a b = .tuple #[.int .i64 0, .bool false] from if_neg (fun c => k c.2))
      have H1 := Lib.hid (band h.1 h.2)
      have H2 := Lib.hid (bout k)
      clear h k
      go_enter Tryd.func18, Tryd.ntmps18
      go_wp2_with fail
      refine (in_is _ _ _ true H1.out _).mono ?_
      rintro e w' ⟨rfl, rfl⟩
      go_wp2_with fail
      refine (in_is _ _ _ false H2.out _).mono ?_
      rintro e w' ⟨rfl, rfl⟩
      go_wp2_with fail
      go_ret2
      exact ⟨by rw [HA.out]; rfl, Below.refl _ _⟩
  · have HA := Lib.hid (show ansDiv a b = .tuple #[.int .i64 0, .bool false] from if_neg (fun c => h c.1))
    have H1 := Lib.hid (bout h)
    clear h
    go_enter Tryd.func18, Tryd.ntmps18
    go_wp2_with fail
    refine (in_is _ _ _ false H1.out _).mono ?_
    rintro e w' ⟨rfl, rfl⟩
    go_wp2_with fail
    go_ret2
    exact ⟨by rw [HA.out]; rfl, Below.refl _ _⟩

/-- what TurnBetween answers -/
def turn (a b : Int) : Int := if (a - b) % 360 ≤ 360 - (a - b) % 360 then (a - b) % 360 else 360 - (a - b) % 360
def ansTurn (a b : Int) : Value := if (0 ≤ a ∧ a ≤ 359) ∧ (0 ≤ b ∧ b ≤ 359) then .tuple #[.int .i64 (turn a b), .bool true] else .tuple #[.int .i64 0, .bool false]
theorem least_any (a b : Int) (w : World) : Calls Tryd.prog 57 #[.int .i64 a, .int .i64 b] w fun e w' => e = .returned (.int .i64 (if a ≤ b then a else b)) ∧ w = w' := by
  by_cases h : a ≤ b
  · rw [if_pos h]
    by_cases k : a < b
    · go_enter Tryd.func57, Tryd.ntmps57
      go_wp2_with fail
      go_ret
      exact ⟨rfl, rfl⟩
    · obtain rfl : a = b := by omega
      go_enter Tryd.func57, Tryd.ntmps57
      go_wp2_with fail
      go_ret
      exact ⟨rfl, rfl⟩
  · rw [if_neg h]
    go_enter Tryd.func57, Tryd.ntmps57
    go_wp2_with fail
    go_ret
    exact ⟨rfl, rfl⟩
theorem least_is (a b v : Int) (h : (if a ≤ b then a else b) = v) (w : World) : Calls Tryd.prog 57 #[.int .i64 a, .int .i64 b] w fun e w' => e = .returned (.int .i64 v) ∧ w = w' := by rw [← h]; exact least_any a b w
theorem turn_model (a b : Int) (w : World) : Calls Tryd.prog 25 #[.int .i64 a, .int .i64 b] w (APost (ansTurn a b) w) := by
  by_cases h : 0 ≤ a ∧ a ≤ 359
  · by_cases k : 0 ≤ b ∧ b ≤ 359
    · have HA := Lib.hid (show ansTurn a b = .tuple #[.int .i64 (turn a b), .bool true] from if_pos ⟨h, k⟩)
      have H1 := Lib.hid (band h.1 h.2)
      have H2 := Lib.hid (band k.1 k.2)
      obtain ⟨h0, h1⟩ := h
      obtain ⟨k0, k1⟩ := k
      have m0 : 0 ≤ (a - b + 360) % 360 := by omega
      have m1 : (a - b + 360) % 360 < 360 := by omega
      go_enter Tryd.func25, Tryd.ntmps25
      go_wp2_with fail
      refine (bearing_is _ true H1.out _).mono ?_
      rintro e w' ⟨rfl, rfl⟩
      go_wp2_with fail
      refine (bearing_is _ true H2.out _).mono ?_
      rintro e w' ⟨rfl, rfl⟩
      go_wp2_with fail
      refine (least_is _ _ (turn a b) rfl _).mono ?_
      rintro e w' ⟨rfl, rfl⟩
      go_wp2_with fail
      go_ret2
      exact ⟨by rw [HA.out]; rfl, Below.refl _ _⟩
    · have HA := Lib.hid (show ansTurn a b = .tuple #[.int .i64 0, .bool false] from if_neg (fun c => k c.2))
      have H1 := Lib.hid (band h.1 h.2)
      have H2 := Lib.hid (bout k)
      clear h k
      go_enter Tryd.func25, Tryd.ntmps25
      go_wp2_with fail
      refine (bearing_is _ true H1.out _).mono ?_
      rintro e w' ⟨rfl, rfl⟩
      go_wp2_with fail
      refine (bearing_is _ false H2.out _).mono ?_
      rintro e w' ⟨rfl, rfl⟩
      go_wp2_with fail
      go_ret2
      exact ⟨by rw [HA.out]; rfl, Below.refl _ _⟩
  · have HA := Lib.hid (show ansTurn a b = .tuple #[.int .i64 0, .bool false] from if_neg (fun c => h c.1))
    have H1 := Lib.hid (bout h)
    clear h
    go_enter Tryd.func25, Tryd.ntmps25
    go_wp2_with fail
    refine (bearing_is _ false H1.out _).mono ?_
    rintro e w' ⟨rfl, rfl⟩
    go_wp2_with fail
    go_ret2
    exact ⟨by rw [HA.out]; rfl, Below.refl _ _⟩

/-- what BackBearing answers -/
def ansBack (a : Int) : Value := if 0 ≤ a ∧ a ≤ 359 then .tuple #[.int .i64 ((a + 180) % 360), .bool true] else .tuple #[.int .i64 0, .bool false]
theorem back_model (a : Int) (w : World) : Calls Tryd.prog 28 #[.int .i64 a] w (APost (ansBack a) w) := by
  by_cases h : 0 ≤ a ∧ a ≤ 359
  · have HA := Lib.hid (show ansBack a = .tuple #[.int .i64 ((a + 180) % 360), .bool true] from if_pos h)
    have H1 := Lib.hid (band h.1 h.2)
    obtain ⟨h0, h1⟩ := h
    go_enter Tryd.func28, Tryd.ntmps28
    go_wp2_with fail
    refine (bearing_is _ true H1.out _).mono ?_
    rintro e w' ⟨rfl, rfl⟩
    go_wp2_with fail
    go_ret2
    exact ⟨by rw [HA.out]; rfl, Below.refl _ _⟩
  · have HA := Lib.hid (show ansBack a = .tuple #[.int .i64 0, .bool false] from if_neg h)
    have H1 := Lib.hid (bout h)
    clear h
    go_enter Tryd.func28, Tryd.ntmps28
    go_wp2_with fail
    refine (bearing_is _ false H1.out _).mono ?_
    rintro e w' ⟨rfl, rfl⟩
    go_wp2_with fail
    go_ret2
    exact ⟨by rw [HA.out]; rfl, Below.refl _ _⟩
end Go.Proofs.YtekbiapgbhaibabDoor.ang
