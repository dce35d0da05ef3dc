/-
  Whether a byte stands in a text: the model's helper.
  Conditions: none.
-/
import Derived.Test.YthpmgapgjfabgaaDoorProg
import Derived.Test.YthpmgapgjfabgaaDoorChecked
import Derived.Test.YthpmgapgjfabgaaDoorStrMath
import Derived.WalkKit
import Derived.Lib.Hide
namespace Go.Proofs.YthpmgapgjfabgaaDoor.standc
open Go.RowKit
open strmath
set_option linter.unusedVariables false

theorem has_take (s : ByteArray) (c : UInt8) (k : Nat) (h : k < s.size) : has (s.data.toList.take (k + 1)) c = (has (s.data.toList.take k) c || s[k] == c) := by
  rw [List.take_succ_eq_append_getElem (by simpa using h)]
  have e : s.data.toList[k]'(by simpa using h) = s[k] := rfl
  rw [e]
  simp only [has, List.contains_eq_mem, List.mem_append, List.mem_singleton]
  by_cases h1 : c ∈ s.data.toList.take k <;> by_cases h2 : s[k] = c
  · simp [h1]
  · simp [h1]
  · simp [h2]
  · have h3 : ¬ c = s[k] := fun e => h2 e.symm
    simp [h1, h3, h2]

theorem has_mono (l : List UInt8) (c : UInt8) (k : Nat) (h : has (l.take k) c = true) : has l c = true := by
  rw [has_iff] at h ⊢
  exact List.mem_of_mem_take h

/-- what it answers -/
def StPost (s : ByteArray) (c : UInt8) (w : World) (e : Ending) (w' : World) : Prop := e = .returned (.bool (has s.data.toList c)) ∧ w = w'

set_option maxHeartbeats 400000 in
theorem stands_any (s : ByteArray) (c : UInt8) (w : World) (hs : s.size ≤ maxLen) :
    Calls Tryd.prog 33 #[.string s, .int .u8 c.toNat] w (StPost s c w) := by
  unfold maxLen at hs
  go_enter Tryd.func33, Tryd.ntmps33
  go_wp2_with fail
  go_loop [5] (fun i => ∃ k : Nat, k ≤ s.size ∧ i = .int .i64 k ∧ Hid (has (s.data.toList.take k) c = false)) (fun i => s.size - (intOf i).toNat)
  case atStart => exact ⟨0, Nat.zero_le _, rfl, by show _ = _; simp [has]⟩
  case round =>
    obtain ⟨k, hk, rfl, HN⟩ := hrel
    by_cases hlt : k < s.size
    · have HT := Lib.hid (has_take s c k hlt)
      by_cases he : s[k] = c
      · have b1 : (s[k].toNat == c.toNat) = true := by rw [he]; simp
        have b2 : ((s[k].toNat : Int) == (c.toNat : Int)) = true := by rw [he]; simp
        have HE := Lib.hid he
        clear he
        go_wp2_with fail
        go_ret
        refine ⟨?_, rfl⟩
        have h := HT.out
        rw [HN.out, HE.out] at h
        rw [has_mono _ c (k + 1) (by rw [h]; simp)]
        rfl
      · have hne : s[k].toNat ≠ c.toNat := fun e => he (UInt8.toNat_inj.1 e)
        have b1 : (s[k].toNat == c.toNat) = false := by simpa using hne
        have b2 : ((s[k].toNat : Int) == (c.toNat : Int)) = false := by simp; omega
        have HE := Lib.hid he
        clear he hne
        go_wp2_with fail
        go_round
        case rel =>
          refine ⟨k + 1, by omega, by go_num, ?_⟩
          show _ = _
          rw [HT.out, HN.out]
          have := HE.out
          simp [this]
        case measure => simp [intOf]; omega
    · go_wp2_with fail
      go_ret
      refine ⟨?_, rfl⟩
      have h := HN.out
      rw [List.take_of_length_le (by rw [len_size]; omega)] at h
      rw [h]
      rfl
end Go.Proofs.YthpmgapgjfabgaaDoor.standc
