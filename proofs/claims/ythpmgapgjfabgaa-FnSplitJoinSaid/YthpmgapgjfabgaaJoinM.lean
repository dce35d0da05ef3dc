/-
  JoinStrings of the model: what it answers, at every list of texts in memory.
  Conditions: the texts lie below the call's own blocks.
-/
import Derived.Test.YthpmgapgjfabgaaStandC
import Derived.Test.YthpmgapgjfabgaaReads
import Derived.Test.YthpmgapgjfabgaaQuiet
import Derived.Deep.QuietTactic
import Derived.BigQuiet
namespace Go.Proofs.Ythpmgapgjfabgaa.joinm
open Go.RowKit
open reads strmath standc
set_option linter.unusedVariables false

theorem stands_yes (s : ByteArray) (c : UInt8) (w : World) (hs : s.size ≤ maxLen) (h : has s.data.toList c = true) :
    Calls Try.prog 35 #[.string s, .int .u8 c.toNat] w fun e w' => e = .returned (.bool true) ∧ w' = w :=
  (stands_any s c w hs).mono fun _ _ hh => ⟨by rw [hh.1, h], hh.2.symm⟩
theorem stands_no (s : ByteArray) (c : UInt8) (w : World) (hs : s.size ≤ maxLen) (h : has s.data.toList c = false) :
    Calls Try.prog 35 #[.string s, .int .u8 c.toNat] w fun e w' => e = .returned (.bool false) ∧ w' = w :=
  (stands_any s c w hs).mono fun _ _ hh => ⟨by rw [hh.1, h], hh.2.symm⟩

/-- what it answers -/
def MPost (c : UInt8) (ps : List ByteArray) (w : World) (e : Ending) (w' : World) : Prop :=
  ((clean c ps = true ∧ (joinL c ps).length ≤ 4000 ∧ e = .returned (.tuple #[.string ⟨(joinL c ps).toArray⟩, .bool true])) ∨
    ((clean c ps = false ∨ 4000 < (joinL c ps).length) ∧ e = .returned (.tuple #[.string ⟨#[]⟩, .bool false]))) ∧ ∃ m, w' = w.drewN m

theorem app_sep (o : ByteArray) (l : List UInt8) (c : UInt8) (p : ByteArray) (h : o = ⟨l.toArray⟩) : o ++ (⟨#[c]⟩ : ByteArray) ++ p = ⟨(l ++ (c :: p.data.toList)).toArray⟩ := by
  subst h
  apply ByteArray.ext
  simp [ByteArray.data_append]
theorem app_first (p : ByteArray) : (⟨#[]⟩ : ByteArray) ++ p = ⟨p.data.toList.toArray⟩ := by
  apply ByteArray.ext
  simp [ByteArray.data_append]

set_option maxHeartbeats 1000000 in
set_option maxRecDepth 100000 in
theorem join_any (A : Option Addr) (n cp : Nat) (c : UInt8) (ps : List ByteArray) (w : World) (hr : Reads w w.heap.size 1 A n (strs ps)) (hn0 : 0 < n) (hn : n ≤ 2000000) (hl : ∀ p ∈ ps, p.size ≤ 2000000) :
    Calls Try.prog 13 #[.slice A n cp, .string ⟨#[c]⟩] w (MPost c ps w) := by
  have hz : ((n : Int) == 0) = false := by simp; omega
  have HP := Lib.hid (show ps.length = n by have := hr.1; rw [strs_len] at this; omega)
  have HL := Lib.hid hl
  have HR := Lib.hid hr
  clear hl hr
  go_enter Try.func13, Try.ntmps13
  go_wp2_with fail
  go_loopw [6, 7] (fun v i wr => ∃ k : Nat, k ≤ n ∧ i = .int .i64 k ∧ (∃ o : ByteArray, v = .string o ∧ Hid (o = ⟨(joinL c (ps.take k)).toArray⟩) ∧ o.size ≤ 4000) ∧ Hid (clean c (ps.take k) = true) ∧ ∃ m, wr = w.drewN m) (fun _ i _ => n - (intOf i).toNat)
  case atStart => exact ⟨0, Nat.zero_le _, rfl, ⟨⟨#[]⟩, rfl, by show _ = _; simp [joinL], by decide⟩, by show _ = _; simp [clean], 0, rfl⟩
  case round =>
    obtain ⟨k, hk, rfl, ⟨o, rfl, HO, ho⟩, HC, m, rfl⟩ := hrel
    by_cases hlt : k < n
    · obtain ⟨ad, u, rfl, hbk, hx, hc⟩ := HR.out.at_ hlt
      obtain ⟨p, hp, rfl⟩ := strs_at hx
      have hpl : p.size ≤ 2000000 := HL.out p (List.mem_of_getElem? hp)
      have hpm : p.size ≤ maxLen := by unfold maxLen; omega
      have HX := Lib.hid hp
      have hki : (k : Int) < (n : Int) := by omega
      have hk0 : 0 ≤ (k : Int) := by omega
      clear hx hp
      by_cases hh : has p.data.toList c = true
      · have HH := Lib.hid hh
        clear hh
        go_wp2_with fail
        go_quiet ((go_at_call 35; exact quiets.quiet_add_same (stands_yes _ _ _ hpm HH.out)))
        go_wp2_with fail
        go_ret2
        exact ⟨.inr ⟨.inl (clean_of_has c ps k p HX.out HH.out), rfl⟩, _, World.drewN_drewN _ _ _⟩
      · have HH := Lib.hid (show has p.data.toList c = false by simpa using hh)
        clear hh
        have hsz : Hid (o.size = (joinL c (ps.take k)).length) := by show _ = _; rw [HO.out, ← len_size]
        by_cases hk1 : 0 < k
        · have hkd : decide (0 < k) = true := by simpa using hk1
          have HS := Lib.hid (joinL_take c ps k p HX.out hk1)
          have hq2 : Hid ((joinL c (ps.take (k + 1))).length = o.size + 1 + p.size) := by
            show _ = _
            rw [HS.out, List.length_append, List.length_cons, len_size p, hsz.out]; omega
          by_cases hlong : 4000 < o.size + 1 + p.size
          · go_wp2_with fail
            go_quiet ((go_at_call 35; exact quiets.quiet_add_same (stands_no _ _ _ hpm HH.out)))
            go_wp2_with fail
            go_ret2
            have := joinL_take_le c ps (k + 1)
            exact ⟨.inr ⟨.inr (by have := hq2.out; omega), rfl⟩, _, rfl⟩
          · have hlong' : o.size + 1 + p.size ≤ 4000 := by omega
            clear hlong
            go_wp2_with fail
            go_quiet ((go_at_call 35; exact quiets.quiet_add_same (stands_no _ _ _ hpm HH.out)))
            go_wp2_with fail
            go_roundw
            case rel =>
              refine ⟨k + 1, by omega, by go_num, ⟨_, rfl, ?_, ?_⟩, ?_, _, rfl⟩
              · show _ = _
                rw [HS.out]; exact app_sep o _ c p HO.out
              · rw [ByteArray.size_append', ByteArray.size_append']; exact hlong'
              · show _ = _
                rw [take_snoc ps k p HX.out, clean_snoc, HC.out, HH.out]; rfl
            case measure => simp [intOf]; omega
        · have hkd : decide (0 < k) = false := by simpa using hk1
          have HK := Lib.hid (show k = 0 by omega)
          have HS := Lib.hid (show joinL c (ps.take (k + 1)) = p.data.toList by have h := HX.out; rw [HK.out] at h ⊢; exact joinL_first c ps p h)
          have HE := Lib.hid (show o = ⟨#[]⟩ by rw [HO.out, HK.out]; simp [joinL])
          have ho0 : o.size ≤ 0 := by rw [HE.out]; exact Nat.le_refl _
          have hq2 : Hid ((joinL c (ps.take (k + 1))).length = o.size + p.size) := by
            show _ = _
            rw [HS.out, len_size p]; omega
          by_cases hlong : 4000 < o.size + p.size
          · go_wp2_with fail
            go_quiet ((go_at_call 35; exact quiets.quiet_add_same (stands_no _ _ _ hpm HH.out)))
            go_wp2_with fail
            go_ret2
            have := joinL_take_le c ps (k + 1)
            exact ⟨.inr ⟨.inr (by have := hq2.out; omega), rfl⟩, _, rfl⟩
          · have hlong' : o.size + p.size ≤ 4000 := by omega
            clear hlong
            go_wp2_with fail
            go_quiet ((go_at_call 35; exact quiets.quiet_add_same (stands_no _ _ _ hpm HH.out)))
            go_wp2_with fail
            go_roundw
            case rel =>
              refine ⟨k + 1, by omega, by go_num, ⟨_, rfl, ?_, ?_⟩, ?_, _, rfl⟩
              · show _ = _
                rw [HS.out, HE.out]; exact app_first p
              · rw [ByteArray.size_append']; exact hlong'
              · show _ = _
                rw [take_snoc ps k p HX.out, clean_snoc, HC.out, HH.out]; rfl
            case measure => simp [intOf]; omega
    · have e0 : ps.take k = ps := List.take_of_length_le (by have := HP.out; omega)
      have HO' := HO.out
      have HC' := HC.out
      rw [e0] at HO' HC'
      have HO2 := Lib.hid HO'
      have HC2 := Lib.hid HC'
      clear HO' HC' e0 HO HC
      go_wp2_with fail
      go_ret2
      refine ⟨.inl ⟨HC2.out, ?_, ?_⟩, _, rfl⟩
      · have h := HO2.out
        rw [h, ← len_size] at ho
        exact ho
      · rw [← HO2.out]; rfl

theorem join_none (A : Option Addr) (cp : Nat) (sep : ByteArray) (w : World) (hs : sep.size ≤ 2000000) :
    Calls Try.prog 13 #[.slice A 0 cp, .string sep] w fun e w' => e = .returned (.tuple #[.string ⟨#[]⟩, .bool false]) ∧ w = w' := by
  by_cases h1 : sep.size = 1
  · have b1 : ((sep.size : Int) != 1) = false := by simp; omega
    clear h1
    go_enter Try.func13, Try.ntmps13
    go_wp2_with fail
    go_ret2
    exact ⟨rfl, rfl⟩
  · have b1 : ((sep.size : Int) != 1) = true := by simp; omega
    clear h1
    go_enter Try.func13, Try.ntmps13
    go_wp2_with fail
    go_ret2
    exact ⟨rfl, rfl⟩

theorem join_sep (A : Option Addr) (n cp : Nat) (sep : ByteArray) (w : World) (hs : sep.size ≠ 1) (hs2 : sep.size ≤ 2000000) :
    Calls Try.prog 13 #[.slice A n cp, .string sep] w fun e w' => e = .returned (.tuple #[.string ⟨#[]⟩, .bool false]) ∧ w = w' := by
  have h1 : ((sep.size : Int) != 1) = true := by simp; omega
  clear hs
  go_enter Try.func13, Try.ntmps13
  go_wp2_with fail
  go_ret2
  exact ⟨rfl, rfl⟩
end Go.Proofs.Ythpmgapgjfabgaa.joinm
