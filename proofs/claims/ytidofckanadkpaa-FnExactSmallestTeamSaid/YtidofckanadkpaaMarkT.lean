/-
  The exact laws' marks that are texts: the letter m and a number's digits.
  Conditions: numbers from 1 to 10000000.
-/
import Derived.Test.YtidofckanadkpaaBase
import Derived.Lib.ItoaNum
import Derived.Laws.IdiomStrings
import Derived.Laws.Concat
import Derived.IntWalk
namespace Go.Proofs.Ytidofckanadkpaa.mkt
open Go.RowKit
open reads base
set_option linter.unusedVariables false
set_option maxRecDepth 100000

/-- the text of a mark -/
def mk (k : Nat) : ByteArray := ⟨#[109]⟩ ++ ⟨(Lib.decDigits k).toArray⟩

/-- a digit -/
def dgt (n : Nat) : UInt8 := UInt8.ofNat (48 + n)

/-- what has been written when the number has come down to j -/
def Dig (k j : Nat) (o : ByteArray) : Prop := (0 < j → Lib.decDigits k = Lib.decDigits j ++ o.data.toList) ∧ (j = 0 → Lib.decDigits k = o.data.toList)
theorem dig_start (k : Nat) (h : 0 < k) : Dig k k ⟨#[]⟩ := ⟨fun _ => by simp, fun e => by omega⟩
theorem dig_step (k j : Nat) (o : ByteArray) (hj : 0 < j) (h : Dig k j o) : Dig k (j / 10) ((⟨#[dgt (j % 10)]⟩ : ByteArray) ++ o) := by
  have h1 := h.1 hj
  have e : ((⟨#[dgt (j % 10)]⟩ : ByteArray) ++ o).data.toList = dgt (j % 10) :: o.data.toList := by
    rw [ByteArray.data_append]; simp
  by_cases h10 : j < 10
  · have e0 : j / 10 = 0 := by omega
    refine ⟨fun h => by omega, fun _ => ?_⟩
    rw [h1, e, Lib.decDigits_one h10, Nat.mod_eq_of_lt h10, dgt]; rfl
  · refine ⟨fun _ => ?_, fun h => by omega⟩
    rw [h1, e, Lib.decDigits, dif_neg h10, dgt]
    simp only [List.append_assoc, List.singleton_append]
theorem dig_len (k : Nat) : (Lib.decDigits k).length ≤ k + 1 := by
  induction k using Nat.strongRecOn with
  | ind n ih =>
    rw [Lib.decDigits]
    by_cases h : n < 10
    · rw [dif_pos h]; simp
    · rw [dif_neg h]; have := ih (n / 10) (by omega); simp; omega
theorem dig_size (k j : Nat) (o : ByteArray) (h : Dig k j o) : o.size ≤ k + 1 := by
  have hl : o.data.toList.length = o.size := rfl
  have hd := dig_len k
  by_cases hj : 0 < j
  · have := congrArg List.length (h.1 hj)
    rw [List.length_append] at this
    omega
  · have := congrArg List.length (h.2 (by omega))
    omega

theorem conv (j : Nat) (w : World) : (convert 22 9 (.slice (some ⟨w.heap.size, 0, none⟩) 1 1)).run Try.prog (w.alloc (.cells #[.int .u8 (48 + (j : Int) % 10)] 5)) = .ok (.string ⟨#[dgt (j % 10)]⟩) (w.alloc (.cells #[.int .u8 (48 + (j : Int) % 10)] 5)) := by
  have h : j % 10 < 10 := Nat.mod_lt _ (by decide)
  refine run_convert_bytes_back _ 22 9 5 ⟨w.heap.size, 0, none⟩ 1 [dgt (j % 10)] Try.underlying22 Try.underlying5 Try.underlying9 ?_
  intro i hi
  have e : i = 0 := by simpa using hi
  subst e
  have e2 : ((dgt (j % 10)).toNat : Int) = 48 + (j : Int) % 10 := by
    rw [dgt, UInt8.toNat_ofNat_of_lt' (by show 48 + j % 10 < 256; omega)]
    omega
  have e3 : ([dgt (j % 10)] : List UInt8)[0] = dgt (j % 10) := rfl
  rw [e3, e2]
  simp [Addr.add]

set_option maxRecDepth 100000 in
set_option maxHeartbeats 1000000 in
theorem mark_any (k : Nat) (w : World) (h0 : 0 < k) (hk : k ≤ 10000000) :
    Calls Try.prog 88 #[.int .i64 k] w fun e w' => e = .returned (.string (mk k)) ∧ Below w.heap.size w w' := by
  go_enter Try.func88, Try.ntmps88
  go_wp2_with fail
  go_loopw [0, 3] (fun n v wr => ∃ (j : Nat) (o : ByteArray), n = .int .i64 j ∧ v = .string o ∧ j ≤ 10000000 ∧ o.size ≤ 10000001 ∧ Hid (Dig k j o) ∧ Below w.heap.size w wr) (fun n _ _ => (intOf n).toNat)
  case atStart => exact ⟨k, ⟨#[]⟩, rfl, rfl, hk, by decide, Lib.hid (dig_start k h0), Below.refl _ _⟩
  case round =>
    obtain ⟨j, o, rfl, rfl, hj, ho, HD, hB⟩ := hrel
    by_cases hj0 : 0 < j
    · have hconv := conv j wr
      go_wp2_with fail
      go_roundw
      case rel =>
        refine ⟨j / 10, _, by go_num, rfl, by omega, ?_, Lib.hid (dig_step k j o hj0 HD.out), hB.alloc hB.size _⟩
        have := dig_size k _ _ (dig_step k j o hj0 HD.out)
        omega
      case measure => simp [intOf]; omega
    · have HZ := Lib.hid (show j = 0 by omega)
      go_wp2_with fail
      go_ret
      refine ⟨?_, hB⟩
      have h := HD.out.2 HZ.out
      have e : mk k = ⟨#[109]⟩ ++ o := by rw [mk, h]
      rw [e]; rfl

#print axioms mark_any
end Go.Proofs.Ytidofckanadkpaa.mkt
