/-
  The model of the days with a declination.
  Conditions: the points lie in one block, at most 2000000 of them.
-/
import Derived.Test.YtiimegmaokfpgaaVaC
import Derived.BigQuiet
import Derived.Deep.QuietTactic
import Derived.Deep.Cut
import Derived.Deep.DeepCutAuto
import Derived.RegionTactic
import Derived.Deep.RegionWith
import Derived.OwnWalk
namespace Go.Proofs.Ytiimegmaokfpgaa.va
open Go.RowKit
open reads base ty rowi inn
set_option linter.unusedVariables false
set_option linter.unusedSimpArgs false

set_option maxHeartbeats 4000000 in
set_option maxRecDepth 100000 in
theorem daysWith_model (A : Option Addr) (n cap : Nat) (ts : List Dp) (s : Int) (w : World) (hn : n ≤ 2000000) (hts : Hid (DpAt w w.heap.size A n ts)) :
    Calls Try.prog 29 #[.slice A n cap, .int .i64 s] w (APost (ansDw ts s) w) := by
  obtain ⟨G, HG⟩ : ∃ G, Hid (goodDp ts = G) := ⟨_, Lib.hid rfl⟩
  obtain ⟨t0, H0⟩ : ∃ t, Hid (btw (-900) s 900 = t) := ⟨_, Lib.hid rfl⟩
  obtain ⟨f, HF⟩ : ∃ f, Hid (fsD ts s 1000 = f) := ⟨_, Lib.hid rfl⟩
  obtain ⟨l, HL⟩ : ∃ f, Hid (lsD ts s 1000 = f) := ⟨_, Lib.hid rfl⟩
  have HA := Lib.hid (show ansDw ts s = if (G && t0 && decide (0 ≤ f)) = true then .tuple #[.int .i64 f, .int .i64 l, .bool true] else .tuple #[.int .i64 0, .int .i64 0, .bool false] by unfold ansDw dwOk; rw [HG.out, H0.out, HF.out, HL.out])
  go_enter Try.func29, Try.ntmps29
  go_wp2_with fail
  refine (good_is A n cap ts G HG _ hn hts).mono ?_
  rintro e w1 ⟨rfl, b1⟩
  have HB2 := Lib.hid b1
  clear b1
  cases G
  · go_wp2_with fail
    go_ret3
    exact ⟨by rw [HA.out]; rfl, HB2.out⟩
  go_wp2_with fail
  refine (tenths_is s t0 H0 _).mono ?_
  rintro e w3 ⟨rfl, rfl⟩
  cases t0
  · go_wp2_with fail
    go_ret3
    exact ⟨by rw [HA.out]; rfl, HB2.out⟩
  go_wp2_with fail
  go_loopw [7, 8, 9] (fun f1 l1 i wr => ∃ k : Nat, k ≤ 1000 ∧ i = .int .i64 (k : Nat) ∧ f1 = .int .i64 (fsD ts s k) ∧ l1 = .int .i64 (lsD ts s k) ∧ Below w.heap.size w wr) (fun _ _ i _ => 1000 - (intOf i).toNat)
  case atStart => exact ⟨0, Nat.zero_le _, rfl, rfl, rfl, HB2.out⟩
  case round =>
    obtain ⟨k, hk, rfl, rfl, rfl, hB⟩ := hrel
    have HB := Lib.hid hB
    clear hB
    have hk0 : (0 : Int) ≤ (k : Int) := by omega
    have hlim := fsD_lim ts s k
    obtain ⟨a, HAA⟩ : ∃ f, Hid (fsD ts s k = f) := ⟨_, Lib.hid rfl⟩
    obtain ⟨c, HCC⟩ : ∃ f, Hid (lsD ts s k = f) := ⟨_, Lib.hid rfl⟩
    rw [HAA.out, HCC.out] at hlim
    rw [HAA.out, HCC.out]
    obtain ⟨l1, l2, l3, l4, l5⟩ := hlim
    by_cases hlt : k < 1000
    · have hki : (k : Int) ≤ 999 := by omega
      have hkd : decide ((k : Int) ≤ 999) = true := by simp; omega
      obtain ⟨r, HR⟩ : ∃ r, Hid (dec ts (k : Int) = r) := ⟨_, Lib.hid rfl⟩
      have HNF := Lib.hid (show fsD ts s (k + 1) = if r = s ∧ a < 0 then (k : Int) else a by rw [← HR.out, ← HAA.out]; rfl)
      have HNL := Lib.hid (show lsD ts s (k + 1) = if r = s then (k : Int) else c by rw [← HR.out, ← HCC.out]; rfl)
      clear l5
      go_wp2_with fail
      refine (on_any A n cap ts (k : Int) r _ hn (Lib.hid (hts.out.step HB.out)) HG HR (by omega) (by omega)).mono ?_
      rintro e u1 ⟨rfl, b1⟩
      have HB1 := Lib.hid (HB.out.trans (b1.mono HB.out.size))
      clear b1 HB
      cases hq : (r == s)
      · have HN1 := Lib.hid (show fsD ts s (k + 1) = a by rw [HNF.out, if_neg (fun q => by simp [q.1] at hq)])
        have HN2 := Lib.hid (show lsD ts s (k + 1) = c by rw [HNL.out, if_neg (fun q => by simp [q] at hq)])
        go_wp2_with fail
        go_roundw
        case rel => exact ⟨k + 1, by omega, by go_num, by rw [HN1.out], by rw [HN2.out], HB1.out⟩
        case measure => simp [intOf]; omega
      · have HN2 := Lib.hid (show lsD ts s (k + 1) = (k : Int) by rw [HNL.out, if_pos (by simpa using hq)])
        by_cases ha : a < 0
        · have had : decide (a < 0) = true := by simpa using ha
          have HN1 := Lib.hid (show fsD ts s (k + 1) = (k : Int) by rw [HNF.out, if_pos ⟨by simpa using hq, ha⟩])
          go_wp2_with fail
          go_roundw
          case rel => exact ⟨k + 1, by omega, by go_num, by rw [HN1.out], by rw [HN2.out], HB1.out⟩
          case measure => simp [intOf]; omega
        · have had : decide (a < 0) = false := by simpa using ha
          have HN1 := Lib.hid (show fsD ts s (k + 1) = a by rw [HNF.out, if_neg (fun q => ha q.2)])
          go_wp2_with fail
          go_roundw
          case rel => exact ⟨k + 1, by omega, by go_num, by rw [HN1.out], by rw [HN2.out], HB1.out⟩
          case measure => simp [intOf]; omega
    · obtain rfl : k = 1000 := by omega
      have hkd : decide (((1000 : Nat) : Int) ≤ 999) = false := by decide
      have e1 : a = f := by rw [← HAA.out]; exact HF.out
      have e2 : c = l := by rw [← HCC.out]; exact HL.out
      subst e1 e2
      by_cases ha : a < 0
      · have had : decide (a < 0) = true := by simpa using ha
        have hz : decide (0 ≤ a) = false := by simp; omega
        go_wp2_with fail
        go_ret3
        exact ⟨by rw [HA.out, hz]; rfl, HB.out⟩
      · have had : decide (a < 0) = false := by simpa using ha
        have hz : decide (0 ≤ a) = true := by simp; omega
        go_wp2_with fail
        go_ret3
        exact ⟨by rw [HA.out, hz]; rfl, HB.out⟩
end Go.Proofs.Ytiimegmaokfpgaa.va
