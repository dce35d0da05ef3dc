/-
  Texts of numbers: the model's, their sizes, and texts put together.
  Conditions: numbers from -999999 to 999999.
-/
import Derived.Test.YtnlljdepcldibaaGreatDoorPow
import Derived.Test.YtnlljdepcldibaaGreatDoorNum
import Derived.Test.YtnlljdepcldibaaGreatDoorNumMath
namespace Go.Proofs.YtnlljdepcldibaaGreatDoor.txt
open Go.RowKit
open base pow
set_option linter.unusedVariables false

theorem num_is (n : Int) (s : ByteArray) (h : Hid (num n = s)) (w : World) (h0 : -999999 ≤ n) (h1 : n ≤ 999999) : Calls Tryz.prog 48 #[.int .i64 n] w (APost (.string s) w) := by
  refine (nums.num_any n w h0 h1).mono ?_
  rintro e w' ⟨rfl, m, rfl⟩
  exact ⟨by rw [← h.out]; rfl, drewN_below w m⟩
theorem num_size (n : Int) (h0 : -999999 ≤ n) (h1 : n ≤ 999999) : (num n).size ≤ 7 := by
  have h := nummath.dec_len 5 n.natAbs (by omega)
  have k := nummath.dec_len 5 n.toNat (by omega)
  show (Lib.itoa n).toArray.size ≤ 7
  unfold Lib.itoa
  split
  · simp; omega
  · simp; omega
theorem num_neg (n : Int) (h : n < 0) : num n = (⟨#[45]⟩ : ByteArray) ++ num (-n) := by
  rw [show (⟨#[45]⟩ : ByteArray) = ⟨[(45 : UInt8)].toArray⟩ from rfl]
  unfold num
  rw [ByteArray.mk_append_mk]
  congr 2
  unfold Lib.itoa
  rw [if_pos h, if_neg (by omega), show n.natAbs = (-n).toNat by omega]
  rfl
theorem add_run {a b c : ByteArray} (h : a ++ b = c) (k : Nat) (hk : a.size + b.size ≤ k) (hm : k ≤ 1000000000) (W : World) : (Op.stringOp .add a b).run Tryz.prog W = .ok (.string c) W := by
  rw [run_string_add_sum W _ _ (by omega), h]
theorem add_size {a b c : ByteArray} (h : a ++ b = c) : c.size = a.size + b.size := by rw [← h, ByteArray.size_append]
end Go.Proofs.YtnlljdepcldibaaGreatDoor.txt
