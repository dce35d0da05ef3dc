/-
  Lists of Ids compared, a number among others, by the model.
  Conditions: the lists have at most 2000000 elements and lie in one block each.
-/
import Derived.Test.YtidofckanadkpaaPqA
import Derived.Deep.QuietTactic
import Derived.BigQuiet
namespace Go.Proofs.Ytidofckanadkpaa.pq
open Go.RowKit
open reads base inn ty rowi psn pso
set_option linter.unusedVariables false
set_option linter.unusedSimpArgs false

theorem less_step {xs ys : List Int} {k : Nat} {x y : Int} (hx : xs[k]? = some x) (hy : ys[k]? = some y) : pt.less (xs.drop k) (ys.drop k) = if x = y then pt.less (xs.drop (k + 1)) (ys.drop (k + 1)) else decide (x < y) := by
  obtain ⟨h1, rfl⟩ := List.getElem?_eq_some_iff.1 hx
  obtain ⟨h2, rfl⟩ := List.getElem?_eq_some_iff.1 hy
  rw [List.drop_eq_getElem_cons h1, List.drop_eq_getElem_cons h2, pt.less]
theorem less_end {xs ys : List Int} {k : Nat} (h : xs.length ≤ k ∨ ys.length ≤ k) (hk : k ≤ xs.length ∧ k ≤ ys.length) : pt.less (xs.drop k) (ys.drop k) = decide (xs.length < ys.length) := by
  rcases h with h | h
  · rw [List.drop_eq_nil_of_le h]
    rcases Nat.lt_or_ge k ys.length with q | q
    · rw [List.drop_eq_getElem_cons q, pt.less]; symm; rw [decide_eq_true_eq]; omega
    · rw [List.drop_eq_nil_of_le q, pt.less]; symm; rw [decide_eq_false_iff_not]; omega
  · rw [List.drop_eq_nil_of_le h]
    rcases Nat.lt_or_ge k xs.length with q | q
    · rw [List.drop_eq_getElem_cons q, pt.less]; symm; rw [decide_eq_false_iff_not]; omega
    · rw [List.drop_eq_nil_of_le q, pt.less]; symm; rw [decide_eq_false_iff_not]; omega
set_option maxHeartbeats 4000000 in
set_option maxRecDepth 100000 in
theorem less_any (A A' : Option Addr) (n n' cap cap' : Nat) (xs ys : List Int) (w : World) (hn : n ≤ 2000000) (hn' : n' ≤ 2000000) (hx : Hid (ints.IL w A n xs)) (hy : Hid (ints.IL w A' n' ys)) :
    Calls Try.prog 66 #[.slice A n cap, .slice A' n' cap'] w (BPost (pt.less xs ys) w) := by
  have hL : Hid (xs.length = n) := Lib.hid hx.out.1
  have hL' : Hid (ys.length = n') := Lib.hid hy.out.1
  go_enter Try.func66, Try.ntmps66
  go_wp2_with fail
  go_loopw [5] (fun i wr => ∃ k m : Nat, k ≤ n ∧ k ≤ n' ∧ i = .int .i64 k ∧ wr = w.drewN m ∧ Hid (pt.less (xs.drop k) (ys.drop k) = pt.less xs ys)) (fun i _ => n - (intOf i).toNat)
  case atStart => exact ⟨0, 0, Nat.zero_le _, Nat.zero_le _, rfl, rfl, Lib.hid rfl⟩
  case round =>
    obtain ⟨k, m, hk, hk', rfl, rfl, HI⟩ := hrel
    have hk0 : 0 ≤ (k : Int) := by omega
    by_cases h1 : k < n
    · have hki : (k : Int) < (n : Int) := by omega
      have hkd : decide (k < n) = true := by simpa using h1
      by_cases h2 : k < n'
      · have hki' : (k : Int) < (n' : Int) := by omega
        have hkd' : decide (k < n') = true := by simpa using h2
        obtain ⟨x, hxk⟩ := at_lt hL.out h1
        obtain ⟨y, hyk⟩ := at_lt hL'.out h2
        have HS := Lib.hid (less_step hxk hyk)
        obtain ⟨g, rfl, e0⟩ := hx.out.2 k x hxk
        obtain ⟨g', rfl, e1⟩ := hy.out.2 k y hyk
        clear hxk hyk
        by_cases he : x = y
        · have HN := Lib.hid (show pt.less (xs.drop (k + 1)) (ys.drop (k + 1)) = pt.less xs ys by rw [← HI.out, HS.out, if_pos he])
          have hd : (x != y) = false := by simpa using he
          have hd2 : (x == y) = true := by simpa using he
          subst he
          go_wp2_with fail
          go_quiet (fail)
          go_wp2_with fail
          go_roundw
          case rel => exact ⟨k + 1, _, by omega, by omega, by go_num, rfl, HN⟩
          case measure => simp [intOf]; omega
        · have HF := Lib.hid (show pt.less xs ys = decide (x < y) by rw [← HI.out, HS.out, if_neg he])
          have hd : (x != y) = true := by simpa using he
          have hd2 : (x == y) = false := by simpa using he
          have hd3 : decide (x = y) = false := by simpa using he
          clear he
          go_wp2_with fail
          go_quiet (fail)
          go_wp2_with fail
          go_quiet (fail)
          go_wp2_with fail
          go_ret
          exact ⟨ret_bool HF.out.symm, ⟨rfl, rfl, rfl, Nat.le_refl _, fun _ _ => rfl⟩⟩
      · have hkd' : decide (k < n') = false := by simpa using h2
        have HF := Lib.hid (show pt.less xs ys = decide (n < n') by rw [← HI.out, less_end (.inr (by rw [hL'.out]; omega)) ⟨by rw [hL.out]; omega, by rw [hL'.out]; omega⟩, hL.out, hL'.out])
        clear h2
        go_wp2_with fail
        go_ret
        exact ⟨ret_bool HF.out.symm, drewN_below w _⟩
    · have hkd : decide (k < n) = false := by simpa using h1
      have HF := Lib.hid (show pt.less xs ys = decide (n < n') by rw [← HI.out, less_end (.inl (by rw [hL.out]; omega)) ⟨by rw [hL.out]; omega, by rw [hL'.out]; omega⟩, hL.out, hL'.out])
      clear h1
      go_wp2_with fail
      go_ret
      exact ⟨ret_bool HF.out.symm, drewN_below w _⟩
theorem less_is (A A' : Option Addr) (n n' cap cap' : Nat) (xs ys : List Int) (t : Bool) (h : Hid (pt.less xs ys = t)) (w : World) (hn : n ≤ 2000000) (hn' : n' ≤ 2000000) (hx : Hid (ints.IL w A n xs)) (hy : Hid (ints.IL w A' n' ys)) :
    Calls Try.prog 66 #[.slice A n cap, .slice A' n' cap'] w (BPost t w) := by rw [← h.out]; exact less_any A A' n n' cap cap' xs ys w hn hn' hx hy
/-- a number is among others -/
def mem (xs : List Int) (a : Int) : Bool := xs.any fun x => x == a
theorem mem_iff {xs : List Int} {a : Int} : mem xs a = true ↔ a ∈ xs := by
  unfold mem; rw [List.any_eq_true]
  constructor
  · rintro ⟨x, hx, e⟩; rw [← (by simpa using e : x = a)]; exact hx
  · intro h; exact ⟨a, h, by simp⟩
theorem mem_no {xs : List Int} {a : Int} (h : (xs.take xs.length).all (fun x => !(x == a)) = true) : mem xs a = false := by
  rw [List.take_length, List.all_eq_true] at h
  unfold mem; rw [List.any_eq_false]; intro x hx; have := h x hx; simpa using this
theorem mem_yes {xs : List Int} {a x : Int} {k : Nat} (h : xs[k]? = some x) (e : x = a) : mem xs a = true := mem_iff.2 (by rw [← e]; exact List.mem_of_getElem? h)
set_option maxHeartbeats 4000000 in
theorem has_any (A : Option Addr) (n cap : Nat) (xs : List Int) (a : Int) (w : World) (hn : n ≤ 2000000) (hx : Hid (ints.IL w A n xs)) :
    Calls Try.prog 74 #[.slice A n cap, .int .i64 a] w fun e w' => e = .returned (.bool (mem xs a)) ∧ w = w' := by
  have hL : Hid (xs.length = n) := Lib.hid hx.out.1
  go_enter Try.func74, Try.ntmps74
  go_wp2_with fail
  go_loop [5] (fun i => ∃ k : Nat, k ≤ n ∧ i = .int .i64 k ∧ Hid ((xs.take k).all (fun x => !(x == a)) = true)) (fun i => n - (intOf i).toNat)
  case atStart => exact ⟨0, Nat.zero_le _, rfl, Lib.hid (by simp)⟩
  case round =>
    obtain ⟨k, hk, rfl, HI⟩ := hrel
    have hk0 : 0 ≤ (k : Int) := by omega
    by_cases h1 : k < n
    · have hki : (k : Int) < (n : Int) := by omega
      have hkd : decide (k < n) = true := by simpa using h1
      obtain ⟨x, hxk⟩ := at_lt hL.out h1
      obtain ⟨g, rfl, e0⟩ := hx.out.2 k x hxk
      have HK := Lib.hid hxk
      clear hxk
      by_cases he : x = a
      · have HF := Lib.hid (show mem xs a = true from mem_yes HK.out he)
        have hd2 : (x == a) = true := by simpa using he
        subst he
        go_wp2_with fail
        go_ret
        exact ⟨ret_bool HF.out.symm, rfl⟩
      · have HN := Lib.hid (all_take (p := fun x => !(x == a)) HK.out HI.out (by simpa using he))
        have hd2 : (x == a) = false := by simpa using he
        have hd3 : decide (x = a) = false := by simpa using he
        clear he
        go_wp2_with fail
        go_round
        case rel => exact ⟨k + 1, by omega, by go_num, HN⟩
        case measure => simp [intOf]; omega
    · have hkd : decide (k < n) = false := by simpa using h1
      obtain rfl : k = n := by omega
      have HF := Lib.hid (show mem xs a = false from mem_no (by rw [hL.out]; exact HI.out))
      clear h1
      go_wp2_with fail
      go_ret
      exact ⟨ret_bool HF.out.symm, rfl⟩
theorem has_is (A : Option Addr) (n cap : Nat) (xs : List Int) (a : Int) (t : Bool) (h : Hid (mem xs a = t)) (w : World) (hn : n ≤ 2000000) (hx : Hid (ints.IL w A n xs)) :
    Calls Try.prog 74 #[.slice A n cap, .int .i64 a] w fun e w' => e = .returned (.bool t) ∧ w = w' := by rw [← h.out]; exact has_any A n cap xs a w hn hx
#print axioms has_is
#print axioms less_is
end Go.Proofs.Ytidofckanadkpaa.pq
