/-
  Words: texts of one to ten small letters, by the model.
  Conditions: the text has at most 1048576 bytes.
-/
import Derived.Test.YtidofckanadkpaaBase
import Derived.Test.YtidofckanadkpaaIn
namespace Go.Proofs.Ytidofckanadkpaa.wrd
open Go.RowKit
open reads base inn
set_option linter.unusedVariables false
set_option linter.unusedSimpArgs false

def okC (b : UInt8) : Bool := decide (97 ≤ b.toNat) && decide (b.toNat ≤ 122)
/-- a word -/
def okW (s : ByteArray) : Bool := s.data.toList.all okC && btw 1 s.size 10
theorem at_list (s : ByteArray) (k : Nat) (h : k < s.size) : s.data.toList[k]? = some s[k] := by
  rw [List.getElem?_eq_getElem (show k < s.data.toList.length from h)]; rfl
set_option maxHeartbeats 4000000 in
set_option maxRecDepth 100000 in
theorem word_any (s : ByteArray) (w : World) (hs : s.size ≤ 1048576) : Calls Try.prog 92 #[.string s] w fun e w' => e = .returned (.bool (okW s)) ∧ w = w' := by
  go_enter Try.func92, Try.ntmps92
  go_wp2_with fail
  go_loop [3] (fun i => ∃ k : Nat, k ≤ s.size ∧ i = .int .i64 k ∧ Hid ((s.data.toList.take k).all okC = true)) (fun i => s.size - (intOf i).toNat)
  case atStart => exact ⟨0, Nat.zero_le _, rfl, Lib.hid (by simp)⟩
  case round =>
    obtain ⟨k, hk, rfl, HI⟩ := hrel
    by_cases hlt : k < s.size
    · have hki : (k : Int) < (s.size : Int) := by omega
      have hk0 : 0 ≤ (k : Int) := by omega
      have hkd : decide (k < s.size) = true := by simpa using hlt
      have HA := Lib.hid (at_list s k hlt)
      cases hc : okC s[k]
      · have HF := Lib.hid (show okW s = false by unfold okW; rw [all_no HA.out hc]; rfl)
        by_cases h1 : s[k].toNat < 97
        · have d1 : decide (s[k].toNat < 97) = true := by simpa using h1
          have d1' : decide ((s[k].toNat : Int) < 97) = true := by simp; omega
          clear hc
          go_wp2_with fail
          go_ret
          exact ⟨ret_bool HF.out.symm, rfl⟩
        · have h2 : 122 < s[k].toNat := by simp [okC] at hc; omega
          have d1 : decide (s[k].toNat < 97) = false := by simpa using h1
          have d1' : decide ((s[k].toNat : Int) < 97) = false := by simp; omega
          have d2 : decide (122 < s[k].toNat) = true := by simpa using h2
          have d2' : decide ((122 : Int) < (s[k].toNat : Int)) = true := by simp; omega
          clear hc
          go_wp2_with fail
          go_ret
          exact ⟨ret_bool HF.out.symm, rfl⟩
      · have HN := Lib.hid (all_take HA.out HI.out hc)
        have h3 : 97 ≤ s[k].toNat ∧ s[k].toNat ≤ 122 := by simpa [okC] using hc
        obtain ⟨h1, h2⟩ := h3
        have d1 : decide (s[k].toNat < 97) = false := by simp; omega
        have d1' : decide ((s[k].toNat : Int) < 97) = false := by simp; omega
        have d2 : decide (122 < s[k].toNat) = false := by simp; omega
        have d2' : decide ((122 : Int) < (s[k].toNat : Int)) = false := by simp; omega
        clear hc
        go_wp2_with fail
        go_round
        case rel => exact ⟨k + 1, by omega, by go_num, HN⟩
        case measure => simp [intOf]; omega
    · have hkd : decide (k < s.size) = false := by simpa using hlt
      obtain rfl : k = s.size := by omega
      obtain ⟨t, ht⟩ : ∃ t, btw 1 s.size 10 = t := ⟨_, rfl⟩
      have HT := Lib.hid ht
      have HF := Lib.hid (show okW s = t by
        have h := HI.out
        rw [List.take_of_length_le (show s.data.toList.length ≤ s.size from Nat.le_refl _)] at h
        unfold okW; rw [h, ht]; rfl)
      clear hlt ht
      go_wp2_with fail
      refine (in_is _ _ _ t HT _).mono ?_
      rintro e w' ⟨rfl, rfl⟩
      go_wp2_with fail
      go_ret
      exact ⟨ret_bool HF.out.symm, rfl⟩
theorem word_is (s : ByteArray) (t : Bool) (h : Hid (okW s = t)) (w : World) (hs : s.size ≤ 1048576) : Calls Try.prog 92 #[.string s] w fun e w' => e = .returned (.bool t) ∧ w = w' := by rw [← h.out]; exact word_any s w hs
end Go.Proofs.Ytidofckanadkpaa.wrd
