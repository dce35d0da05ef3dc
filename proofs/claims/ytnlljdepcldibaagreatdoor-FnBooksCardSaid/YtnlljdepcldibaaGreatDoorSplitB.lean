/-
  The model's pieces of a text: what it answers, at every text of at most 1048576 bytes.
  Conditions: none.
-/
import Derived.Test.YtnlljdepcldibaaGreatDoorSplitC
namespace Go.Proofs.YtnlljdepcldibaaGreatDoor.splitb
open Go.RowKit
open strmath iterc reads splitc
set_option linter.unusedVariables false

set_option maxRecDepth 100000 in
set_option maxHeartbeats 2000000 in
theorem l1Split_any (s : ByteArray) (c : UInt8) (hs : s.size ≤ 1048576) (w : World) :
    Calls Tryz.prog 41 #[.string s, .int .u8 c.toNat] w fun e W' => ∃ v, e = .returned v ∧ W'.ownsRow w.heap.size 9 1 v (pcs c s.data.toList).length (strs (pcs c s.data.toList)) ∧ Below w.heap.size w W' := by
  obtain ⟨i0, hi, hz0, hz1, hz2⟩ := info_parts infoString
  have hlen : (pcs c s.data.toList).length ≤ 1048577 := by
    have := pieces_len c s.data.toList
    have hl : s.data.toList.length = s.size := rfl
    rw [pcs, List.length_map]; omega
  have hrow0 : (w.alloc (.cells #[] 9)).ownsRow w.heap.size 9 1 (.slice (some ⟨w.heap.size, 0, none⟩) 0 0) 0 [] := World.ownsRow_made w #[] 0 (Nat.le_refl _) (by decide) (by simp)
  go_enter Tryz.func41, Tryz.ntmps41
  go_wp2_with fail
  go_loopw [5, 6, 7] (fun v f i wr => ∃ (k st : Nat) (pre : List ByteArray), i = .int .i64 k ∧ f = .int .i64 st ∧ st ≤ k ∧ k ≤ s.size ∧ Hid (pcs c s.data.toList = pre ++ pcs c (s.data.toList.drop st) ∧ c ∉ (s.data.toList.drop st).take (k - st)) ∧
      Hid (wr.ownsRow w.heap.size 9 1 v pre.length (strs pre)) ∧ Below w.heap.size w wr) (fun _ _ i _ => s.size - (intOf i).toNat)
  case atStart => exact ⟨0, 0, [], rfl, rfl, Nat.le_refl _, Nat.zero_le _, Lib.hid ⟨by simp, by simp⟩, Lib.hid hrow0, (Below.refl _ _).alloc (Nat.le_refl _) _⟩
  case round =>
    obtain ⟨k, st, pre, rfl, rfl, h1, h2, HE, HO, hB⟩ := hrel
    clear hrow0
    have hpre : pre.length < 1048577 := by
      have h := HE.out.1
      have := pcs_ne c (s.data.toList.drop st)
      have hl := congrArg List.length h
      rw [List.length_append] at hl
      omega
    have hBs := hB.size
    have hst0 : 0 ≤ (st : Int) := by omega
    have hsk : (st : Int) ≤ (k : Int) := by omega
    by_cases hlt : k < s.size
    · have hki : (k : Int) ≤ (s.size : Int) := by omega
      by_cases hc : s[k] = c
      · have b1 : (s[k].toNat == c.toNat) = true := by rw [hc]; simp
        have b2 : ((s[k].toNat : Int) == (c.toNat : Int)) = true := by rw [hc]; simp
        have HP := Lib.hid (pcs_hit s c st k h1 hlt HE.out.2 hc)
        clear hc
        go_wp2_with (at_builtin; refine wpList_append_own _ rfl _ _ 40 rfl w.heap.size 9 i0 (.string ⟨#[]⟩) 1 16 Tryz.underlying40 hi hz0 hz1 hz2 rfl (by decide) _ _ _ rfl (HO.out.alloc _) ⟨wr.heap.size, 0, none⟩ 1 1 [.string (s.extract st k)] rfl rfl (cell_one_new _ _ _) (by simp [Value.oneCell']) (by unfold maxLen; omega) (by omega) (by simp; omega) ?_; intro v' w1 hown' hgrow _)
        go_roundw
        case rel =>
          refine ⟨k + 1, k + 1, pre ++ [s.extract st k], by go_num, by go_num, Nat.le_refl _, by omega, Lib.hid ⟨?_, by simp⟩, Lib.hid ?_, ?_⟩
          · rw [HE.out.1, HP.out]; simp
          · rw [List.length_append, List.length_singleton]
            have e : strs (pre ++ [s.extract st k]) = strs pre ++ [.string (s.extract st k)] := by simp [strs]
            rw [e]; exact hown'
          · exact (hB.alloc hB.size _).grown hgrow (by simp; omega) (fun j ej => (HO.out.lt j ej).1)
        case measure => simp [intOf]; omega
      · have hne : s[k].toNat ≠ c.toNat := fun h => hc (UInt8.toNat_inj.1 h)
        have b1 : (s[k].toNat == c.toNat) = false := by simpa using hne
        have b2 : ((s[k].toNat : Int) == (c.toNat : Int)) = false := by simp; omega
        have HN := Lib.hid (no_step s c st k h1 hlt HE.out.2 hc)
        clear hc hne
        go_wp2_with fail
        go_roundw
        case rel => exact ⟨k + 1, st, pre, by go_num, rfl, by omega, by omega, Lib.hid ⟨HE.out.1, HN.out⟩, HO, hB⟩
        case measure => simp [intOf]; omega
    · have hsn : (st : Int) ≤ (s.size : Int) := by omega
      have HP := Lib.hid (pcs_last s c st (no_all s c st k (by omega) HE.out.2))
      go_wp2_with (at_builtin; refine wpList_append_own _ rfl _ _ 40 rfl w.heap.size 9 i0 (.string ⟨#[]⟩) 1 16 Tryz.underlying40 hi hz0 hz1 hz2 rfl (by decide) _ _ _ rfl (HO.out.alloc _) ⟨wr.heap.size, 0, none⟩ 1 1 [.string (s.extract st s.size)] rfl rfl (cell_one_new _ _ _) (by simp [Value.oneCell']) (by unfold maxLen; omega) (by omega) (by simp; omega) ?_; intro v' w1 hown' hgrow _)
      go_ret
      refine ⟨v', rfl, ?_, (hB.alloc hB.size _).grown hgrow (by simp; omega) (fun j ej => (HO.out.lt j ej).1)⟩
      rw [HE.out.1, HP.out, List.length_append, List.length_singleton]
      have e : strs (pre ++ [s.extract st s.size]) = strs pre ++ [.string (s.extract st s.size)] := by simp [strs]
      rw [e]; exact hown'
end Go.Proofs.YtnlljdepcldibaaGreatDoor.splitb
