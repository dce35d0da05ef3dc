/-
  The text of a number: the model's l1Num gives the decimal digits, as strconv.Itoa does.
  Conditions: numbers from -999999 to 999999.
-/
import Derived.Test.YtnlljdepcldibaaGreatDoorRows
import Derived.WalkKit
import Derived.ProofKit
import Derived.Deep.QuietTactic
import Derived.BigQuiet
import Derived.Lib.ItoaNum
import Derived.Lib.ItoaMem
import Derived.Lib.Hide
import Derived.IntWalk
namespace Go.Proofs.YtnlljdepcldibaaGreatDoor.nums
open Go.RowKit
set_option linter.unusedVariables false

theorem digit_at (x : Int) (h0 : 0 ≤ x) (h9 : x < 10) : (⟨#[48, 49, 50, 51, 52, 53, 54, 55, 56, 57]⟩ : ByteArray).extract x.toNat (x + 1).toNat = ⟨#[UInt8.ofNat (48 + x.toNat)]⟩ := by
  obtain ⟨n, rfl⟩ := Int.eq_ofNat_of_zero_le h0
  have hn : n < 10 := by omega
  have key : ∀ m : Fin 10, (⟨#[48, 49, 50, 51, 52, 53, 54, 55, 56, 57]⟩ : ByteArray).extract m.val (m.val + 1) = ⟨#[UInt8.ofNat (48 + m.val)]⟩ := by decide
  have := key ⟨n, hn⟩
  simpa using this

theorem dec_le (n : Nat) : (Lib.decDigits n).length ≤ n + 1 := by
  induction n using Nat.strongRecOn with
  | ind n ih =>
    rw [Lib.decDigits]
    by_cases h : n < 10
    · rw [dif_pos h]; simp
    · rw [dif_neg h]; have := ih (n / 10) (by omega); simp; omega
theorem dec_step (x : Int) (h0 : 0 ≤ x) (h9 : ¬ x < 10) : Lib.decDigits x.toNat = Lib.decDigits (x / 10).toNat ++ [UInt8.ofNat (48 + (x % 10).toNat)] := by
  rw [Lib.decDigits, dif_neg (by omega)]
  rw [show (x / 10).toNat = x.toNat / 10 by omega, show (x % 10).toNat = x.toNat % 10 by omega]
theorem size_mk (l : List UInt8) : (⟨l.toArray⟩ : ByteArray).size = l.length := by show l.toArray.size = _; simp

theorem add_dig (x : Int) (h0 : 0 ≤ x) (h9 : ¬ x < 10) (h2 : x ≤ 999999) (w : World) :
    (Op.stringOp .add ⟨(Lib.decDigits (x / 10).toNat).toArray⟩ ((⟨#[48, 49, 50, 51, 52, 53, 54, 55, 56, 57]⟩ : ByteArray).extract (x % 10).toNat (x % 10 + 1).toNat)).run Tryz.prog w = .ok (.string ⟨(Lib.decDigits x.toNat).toArray⟩) w := by
  rw [digit_at (x % 10) (by omega) (by omega)]
  have hl := dec_le (x / 10).toNat
  rw [run_string_add_sum w _ _ (by rw [size_mk]; show _ + 1 ≤ _; omega), dec_step x h0 h9]
  rw [show (⟨#[UInt8.ofNat (48 + (x % 10).toNat)]⟩ : ByteArray) = ⟨[UInt8.ofNat (48 + (x % 10).toNat)].toArray⟩ from rfl, ByteArray.mk_append_mk]

set_option maxRecDepth 100000 in
theorem num_pos (k : Nat) : ∀ (x : Int) (w : World), 0 ≤ x → x < k → x ≤ 999999 →
    Calls Tryz.prog 48 #[.int .i64 x] w fun e w' => e = .returned (.string ⟨(Lib.decDigits x.toNat).toArray⟩) ∧ ∃ m, w' = w.drewN m := by
  induction k with
  | zero => intro x w h0 h1; omega
  | succ k ih =>
    intro x w h0 h1 h2
    by_cases h9 : x < 10
    · have hd := Lib.hid (digit_at x h0 h9)
      have i1 : 0 ≤ x + 1 := by omega
      have i2 : x + 1 ≤ 10 := by omega
      have i3 : x ≤ x + 1 := by omega
      have i4 : x ≤ 9 := by omega
      go_enter Tryz.func48, Tryz.ntmps48
      go_wp2_with fail
      go_ret
      refine ⟨?_, 0, rfl⟩
      rw [hd.out, Lib.decDigits_one (by omega)]
      rfl
    · have HA := add_dig x h0 h9 h2
      have q0 : 0 ≤ x / 10 := by omega
      have q1 : x / 10 < k := by omega
      have q2 : x / 10 ≤ 999999 := by omega
      have r0 : 0 ≤ x % 10 := by omega
      have r1 : x % 10 < 10 := by omega
      have i1 : 0 ≤ x % 10 + 1 := by omega
      have i2 : x % 10 + 1 ≤ 10 := by omega
      have i3 : x % 10 ≤ x % 10 + 1 := by omega
      have w1 : IntKind.i64.wrap (x % 10 + 1) = x % 10 + 1 := IntWalk.i64_in _ (by omega)
      have w2 : IntKind.i64.wrap (x / 10) = x / 10 := IntWalk.i64_in _ (by omega)
      have w3 : IntKind.i64.wrap (x % 10) = x % 10 := IntWalk.i64_in _ (by omega)
      have d1 : x.tdiv 10 = x / 10 := Int.tdiv_eq_ediv_of_nonneg h0
      have d2 : x.tmod 10 = x % 10 := Int.tmod_eq_emod_of_nonneg h0
      go_enter Tryz.func48, Tryz.ntmps48
      go_wp2_with fail
      go_quiet ((go_at_call 48; exact Calls.quiet_of (ih _ _ q0 q1 q2)))
      go_wp2_with fail
      go_ret
      exact ⟨rfl, _, rfl⟩

theorem add_minus (x : Int) (h0 : 0 < x) (h2 : x ≤ 999999) (w : World) :
    (Op.stringOp .add ⟨#[45]⟩ ⟨(Lib.decDigits x.toNat).toArray⟩).run Tryz.prog w = .ok (.string ⟨(Lib.itoa (-x)).toArray⟩) w := by
  have hl := dec_le x.toNat
  rw [run_string_add_sum w _ _ (by rw [size_mk (Lib.decDigits x.toNat)]; show 1 + _ ≤ _; omega)]
  rw [show (⟨#[45]⟩ : ByteArray) = ⟨[(45 : UInt8)].toArray⟩ from rfl, ByteArray.mk_append_mk]
  congr 3
  unfold Lib.itoa
  rw [if_pos (by omega), show (-x).natAbs = x.toNat by omega]; rfl

/-- the model's text of a number is its decimal numeral -/
theorem num_any (x : Int) (w : World) (h0 : -999999 ≤ x) (h1 : x ≤ 999999) :
    Calls Tryz.prog 48 #[.int .i64 x] w fun e w' => e = .returned (.string ⟨(Lib.itoa x).toArray⟩) ∧ ∃ m, w' = w.drewN m := by
  by_cases hx : 0 ≤ x
  · refine (num_pos 1000000 x w hx (by omega) h1).mono ?_
    rintro e w' ⟨rfl, hw⟩
    refine ⟨?_, hw⟩
    unfold Lib.itoa
    rw [if_neg (by omega)]
  · have HA := add_minus (-x) (by omega) (by omega)
    rw [Int.neg_neg] at HA
    have c := num_pos 1000000 (-x) w (by omega) (by omega) (by omega)
    have C := Lib.hid c
    clear c
    go_enter Tryz.func48, Tryz.ntmps48
    go_wp2_with (go_at_call 48; refine C.out.mono ?_; rintro e w' ⟨rfl, m, rfl⟩)
    go_ret
    exact ⟨rfl, _, rfl⟩
end Go.Proofs.YtnlljdepcldibaaGreatDoor.nums
