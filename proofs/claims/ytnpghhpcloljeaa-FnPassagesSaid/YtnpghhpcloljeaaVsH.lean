/-
  Small helpers of the laws: whether a list of ints has one, whether all of a list lie in another.
  Conditions: the lists have at most 2000000 elements.
-/
import Derived.Test.YtnpghhpcloljeaaHas
import Derived.LoopTactic
namespace Go.Proofs.Ytnpghhpcloljeaa.vsh
open Go.RowKit
open reads base rowi hs
set_option linter.unusedVariables false
set_option linter.unusedSimpArgs false

set_option maxHeartbeats 4000000 in
theorem vhas_any (A : Option Addr) (n cap : Nat) (xs : List Int) (a : Int) (w : World) (hn : n ≤ 2000000) (hx : Hid (ints.IL w A n xs)) :
    Calls Try.prog 77 #[.slice A n cap, .int .i64 a] w fun e w' => e = .returned (.bool (mem xs a)) ∧ w = w' := by
  have hL : Hid (xs.length = n) := Lib.hid hx.out.1
  go_enter Try.func77, Try.ntmps77
  go_wp2_with fail
  go_loop [5] (fun i => ∃ k : Nat, k ≤ n ∧ i = .int .i64 k ∧ Hid ((xs.take k).all (fun x => !(x == a)) = true)) (fun i => n - (intOf i).toNat)
  case atStart => exact ⟨0, Nat.zero_le _, rfl, Lib.hid (by simp)⟩
  case round =>
    obtain ⟨k, hk, rfl, HI⟩ := hrel
    have hk0 : 0 ≤ (k : Int) := by omega
    by_cases h1 : k < n
    · have hki : (k : Int) < (n : Int) := by omega
      have hkd : decide (k < n) = true := by simpa using h1
      obtain ⟨x, hxk⟩ := at_lt hL.out h1
      obtain ⟨g, rfl, e0⟩ := hx.out.2 k x hxk
      have HK := Lib.hid hxk
      clear hxk
      by_cases he : x = a
      · have HF := Lib.hid (show mem xs a = true from mem_yes HK.out he)
        have hd2 : (x == a) = true := by simpa using he
        subst he
        go_wp2_with fail
        go_ret
        exact ⟨ret_bool HF.out.symm, rfl⟩
      · have HN := Lib.hid (all_take (p := fun x => !(x == a)) HK.out HI.out (by simpa using he))
        have hd2 : (x == a) = false := by simpa using he
        have hd3 : decide (x = a) = false := by simpa using he
        clear he
        go_wp2_with fail
        go_round
        case rel => exact ⟨k + 1, by omega, by go_num, HN⟩
        case measure => simp [intOf]; omega
    · have hkd : decide (k < n) = false := by simpa using h1
      obtain rfl : k = n := by omega
      have HF := Lib.hid (show mem xs a = false from mem_no (by rw [hL.out]; exact HI.out))
      clear h1
      go_wp2_with fail
      go_ret
      exact ⟨ret_bool HF.out.symm, rfl⟩
theorem vhas_is (A : Option Addr) (n cap : Nat) (xs : List Int) (a : Int) (t : Bool) (h : Hid (mem xs a = t)) (w : World) (hn : n ≤ 2000000) (hx : Hid (ints.IL w A n xs)) :
    Calls Try.prog 77 #[.slice A n cap, .int .i64 a] w fun e w' => e = .returned (.bool t) ∧ w = w' := by rw [← h.out]; exact vhas_any A n cap xs a w hn hx
set_option maxHeartbeats 4000000 in
theorem within_yes (A A' : Option Addr) (n c m c' : Nat) (xs ys : List Int) (w : World) (hn : n ≤ 2000000) (hm : m ≤ 2000000) (hx : Hid (ints.IL w A n xs)) (hy : Hid (ints.IL w A' m ys)) (hs : Hid (∀ x ∈ xs, mem ys x = true)) :
    Calls Try.prog 47 #[.slice A n c, .slice A' m c'] w fun e w' => e = .returned (.bool true) ∧ w = w' := by
  have hL : Hid (xs.length = n) := Lib.hid hx.out.1
  go_enter Try.func47, Try.ntmps47
  go_wp2_with fail
  go_loop [5] (fun i => ∃ k : Nat, k ≤ n ∧ i = .int .i64 k) (fun i => n - (intOf i).toNat)
  case atStart => exact ⟨0, Nat.zero_le _, rfl⟩
  case round =>
    obtain ⟨k, hk, rfl⟩ := hrel
    have hk0 : 0 ≤ (k : Int) := by omega
    by_cases h1 : k < n
    · have hki : (k : Int) < (n : Int) := by omega
      have hkd : decide (k < n) = true := by simpa using h1
      obtain ⟨x, hxk⟩ := at_lt hL.out h1
      obtain ⟨g, rfl, e0⟩ := hx.out.2 k x hxk
      have HM := Lib.hid (hs.out x (List.mem_of_getElem? hxk))
      clear hxk
      go_wp2_with fail
      refine (vhas_is A' m c' ys x true HM _ hm hy).mono ?_
      rintro e w' ⟨rfl, rfl⟩
      go_wp2_with fail
      go_round
      case rel => exact ⟨k + 1, by omega, by go_num⟩
      case measure => simp [intOf]; omega
    · have hkd : decide (k < n) = false := by simpa using h1
      go_wp2_with fail
      go_ret
      exact ⟨rfl, rfl⟩
end Go.Proofs.Ytnpghhpcloljeaa.vsh
