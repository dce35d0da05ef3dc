/-
  The checksum as a plain function on lists of bytes, and its bounds.
  Conditions: none.
-/
import Derived.WalkKit
namespace Go.Proofs.YthpmgapgjfabgaaDoor.Sums

/-- one step of the checksum -/
def step (h : Int) (c : UInt8) : Int := (41 * h + (c.toNat : Int) + 1) % 999979

/-- the checksum of a list of bytes -/
def ck (l : List UInt8) : Int := l.foldl step 7

theorem step_bd (h : Int) (c : UInt8) : 0 ≤ step h c ∧ step h c < 999979 := by
  unfold step; omega

theorem ck_snoc (l : List UInt8) (c : UInt8) : ck (l ++ [c]) = step (ck l) c := by
  simp [ck, List.foldl_append]

theorem ck_bd (l : List UInt8) : 0 ≤ ck l ∧ ck l < 999979 := by
  rcases List.eq_nil_or_concat l with rfl | ⟨r, c, rfl⟩
  · simp [ck]
  · rw [List.concat_eq_append, ck_snoc]; exact step_bd _ _

theorem take_snoc (s : ByteArray) (k : Nat) (h : k < s.size) : s.data.toList.take (k + 1) = s.data.toList.take k ++ [s[k]] := by
  rw [List.take_succ_eq_append_getElem (by simpa using h)]; rfl

theorem ck_take (s : ByteArray) (k : Nat) (h : k < s.size) : ck (s.data.toList.take (k + 1)) = (41 * ck (s.data.toList.take k) + (s[k].toNat : Int) + 1) % 999979 := by
  rw [take_snoc s k h, ck_snoc]; rfl

theorem ret_two {a b : Int} {x : Bool} (h : a = b) : Ending.returned (.tuple #[.int .i64 a, .bool x]) = .returned (.tuple #[.int .i64 b, .bool x]) := by rw [h]
theorem ret_int {k : IntKind} {a b : Int} (h : a = b) : Ending.returned (.int k a) = .returned (.int k b) := by rw [h]
end Go.Proofs.YthpmgapgjfabgaaDoor.Sums
