/-
  The model of the tools: FitZero and FitScale, what they answer.
  Conditions: the checks lie in one block below the call's own.
-/
import Derived.Test.YtekbiapgbhaibaaTlH
namespace Go.Proofs.Ytekbiapgbhaibaa.tl
open Go.RowKit
open reads
set_option linter.unusedVariables false
set_option linter.unusedSimpArgs false

theorem fitZero_model (x : Tl) (A : Option Addr) (n cap : Nat) (cs : List Ck) (w : World) (hn : n ≤ 2000000) (hcs : Hid (CksAt w w.heap.size A n cs)) :
    Calls Try.prog 23 #[.agg #[.int .i64 x.id, .int .i64 x.kind, .int .i64 x.zero, .int .i64 x.scale], .slice A n cap] w (TPost (fitZ x cs) w) := by
  cases hc : cksOk x cs
  · rw [show fitZ x cs = (⟨0, 0, 0, 0⟩, false) by unfold fitZ; rw [hc]; rfl]
    exact fitZero_bad x A n cap cs w hn hcs (Lib.hid hc)
  · rw [show fitZ x cs = _ from if_pos hc]
    exact fitZero_go x A n cap cs w hn hcs (Lib.hid hc)
set_option maxHeartbeats 4000000 in
set_option maxRecDepth 100000 in
theorem fitScale_bad (x : Tl) (A : Option Addr) (n cap : Nat) (cs : List Ck) (w : World) (hn : n ≤ 2000000) (hcs : Hid (CksAt w w.heap.size A n cs)) (hc : Hid (cksOk x cs = false)) :
    Calls Try.prog 31 #[.agg #[.int .i64 x.id, .int .i64 x.kind, .int .i64 x.zero, .int .i64 x.scale], .slice A n cap] w (TPost (⟨0, 0, 0, 0⟩, false) w) := by
  have H0 := Lib.hid (cks_alloc (cks_alloc (cks_alloc hcs.out (.cells #[.int .i64 x.id, .int .i64 x.kind, .int .i64 x.zero, .int .i64 x.scale] 25)) (.cells #[.int .i64 0, .int .i64 0, .int .i64 0, .int .i64 0] 25)) (.cells #[.int .i64 0, .int .i64 0, .int .i64 0, .int .i64 0] 25))
  go_enter Try.func31, Try.ntmps31
  go_wp2_with fail
  refine (checks_is x A n cap cs false _ hn H0 hc).mono ?_
  rintro e w1 ⟨rfl, b1⟩
  obtain ⟨hc1, hf1⟩ := bcell b1
  have hz : w.heap.size + 3 ≤ w1.heap.size := by have := b1.size; simp at this; omega
  have HB := Lib.hid (((((Below.refl w.heap.size w).alloc (Nat.le_refl _) _).alloc (by simp) _).alloc (by simp; omega) _).trans (b1.mono (by simp; omega)))
  clear b1
  go_wp2_with fail
  refine bodyPost_ret (v := .tuple #[.agg #[.int .i64 0, .int .i64 0, .int .i64 0, .int .i64 0], .bool false]) (by simp [results, Try.results31, go_sem, hc1]) rfl ⟨rfl, ?_⟩
  exact (((HB.out.setCell (by simp) _).setCell (by simp) _).setCell (by simp) _).setCell (by simp) _
set_option maxHeartbeats 4000000 in
set_option maxRecDepth 100000 in
theorem fitScale_kind (x : Tl) (A : Option Addr) (n cap : Nat) (cs : List Ck) (w : World) (hn : n ≤ 2000000) (hcs : Hid (CksAt w w.heap.size A n cs)) (hc : Hid (cksOk x cs = true)) (hk : Hid (¬ x.kind = 0)) :
    Calls Try.prog 31 #[.agg #[.int .i64 x.id, .int .i64 x.kind, .int .i64 x.zero, .int .i64 x.scale], .slice A n cap] w (TPost (⟨0, 0, 0, 0⟩, false) w) := by
  have H0 := Lib.hid (cks_alloc (cks_alloc (cks_alloc hcs.out (.cells #[.int .i64 x.id, .int .i64 x.kind, .int .i64 x.zero, .int .i64 x.scale] 25)) (.cells #[.int .i64 0, .int .i64 0, .int .i64 0, .int .i64 0] 25)) (.cells #[.int .i64 0, .int .i64 0, .int .i64 0, .int .i64 0] 25))
  have d0 : (x.kind == 0) = false := by have := hk.out; simpa using this
  have d1 : (x.kind != 0) = true := by have := hk.out; simpa using this
  go_enter Try.func31, Try.ntmps31
  go_wp2_with fail
  refine (checks_is x A n cap cs true _ hn H0 hc).mono ?_
  rintro e w1 ⟨rfl, b1⟩
  obtain ⟨hc1, hf1⟩ := bcell b1
  have hz : w.heap.size + 3 ≤ w1.heap.size := by have := b1.size; simp at this; omega
  have HB := Lib.hid (((((Below.refl w.heap.size w).alloc (Nat.le_refl _) _).alloc (by simp) _).alloc (by simp; omega) _).trans (b1.mono (by simp; omega)))
  clear b1
  go_wp2_with fail
  refine bodyPost_ret (v := .tuple #[.agg #[.int .i64 0, .int .i64 0, .int .i64 0, .int .i64 0], .bool false]) (by simp [results, Try.results31, go_sem, hc1]) rfl ⟨rfl, ?_⟩
  exact (((HB.out.setCell (by simp) _).setCell (by simp) _).setCell (by simp) _).setCell (by simp) _
set_option maxHeartbeats 4000000 in
set_option maxRecDepth 100000 in
theorem fitScale_go (x : Tl) (A : Option Addr) (n cap : Nat) (cs : List Ck) (w : World) (hn : n ≤ 2000000) (hcs : Hid (CksAt w w.heap.size A n cs)) (hc : Hid (cksOk x cs = true)) (hk : Hid (x.kind = 0)) :
    Calls Try.prog 31 #[.agg #[.int .i64 x.id, .int .i64 x.kind, .int .i64 x.zero, .int .i64 x.scale], .slice A n cap] w (TPost ((fitN (mkS x) cs 900 201).1, decide (0 ≤ (fitN (mkS x) cs 900 201).2)) w) := by
  have H0 := Lib.hid (cks_alloc (cks_alloc (cks_alloc hcs.out (.cells #[.int .i64 x.id, .int .i64 x.kind, .int .i64 x.zero, .int .i64 x.scale] 25)) (.cells #[.int .i64 0, .int .i64 0, .int .i64 0, .int .i64 0] 25)) (.cells #[.int .i64 0, .int .i64 0, .int .i64 0, .int .i64 0] 25))
  have hL : Hid (cs.length ≤ 2000000) := Lib.hid (by have := hcs.out.1; omega)
  have d0 : (x.kind == 0) = true := by have := hk.out; simpa using this
  have d1 : (x.kind != 0) = false := by have := hk.out; simpa using this
  have HI0 := Lib.hid (FI.start w 25 x)
  go_enter Try.func31, Try.ntmps31
  go_wp2_with fail
  refine (checks_is x A n cap cs true _ hn H0 hc).mono ?_
  rintro e w1 ⟨rfl, b1⟩
  have HI := Lib.hid (HI0.out.step b1)
  obtain ⟨i0, i1, i2, i3⟩ := HI.out.xs
  clear b1 HI0 H0
  go_wp2_with fail
  go_loopw [7, 8] (fun l z wr => ∃ (k : Nat) (best : Tl) (v : Int), k ≤ 201 ∧ z = .int .i64 (900 + (k : Int)) ∧ l = .int .i64 v ∧ Hid (fitN (mkS x) cs 900 k = (best, v)) ∧ FI w 25 x best wr) (fun _ z _ => (1101 - intOf z).toNat)
  case atStart => exact ⟨0, ⟨0, 0, 0, 0⟩, -1, Nat.zero_le _, by first | rfl | go_num, rfl, Lib.hid rfl, HI.out⟩
  case round =>
    obtain ⟨k, best, v, hk, rfl, rfl, HV, hF⟩ := hrel
    obtain ⟨x0, x1, x2, x3⟩ := hF.xs
    have vb := fitN_bd (mkS x) cs 900 hL.out k
    rw [HV.out] at vb
    simp only [] at vb
    have HF := Lib.hid hF
    have hsz := hF.2.2.2.size
    have h3 := hF.2.2.1.lt
    clear hF HI i0 i1 i2 i3
    by_cases hlt : k < 201
    · obtain ⟨z, hz⟩ : ∃ z : Int, 900 + (k : Int) = z := ⟨_, rfl⟩
      have hz1 : 900 ≤ z := by omega
      have hz2 : z ≤ 1101 - 1 := by omega
      have HZ := Lib.hid hz
      rw [hz]
      clear hz
      obtain ⟨u, m, HU⟩ : ∃ u m, Hid (wv (mkS x z) cs = (u, m)) := ⟨_, _, Lib.hid rfl⟩
      have ub := wv_bd (mkS x z) cs hL.out
      rw [HU.out] at ub
      simp only [] at ub
      have HS := Lib.hid (show fitN (mkS x) cs 900 (k + 1) = if 0 ≤ u ∧ (v < 0 ∨ m < v) then (mkS x z, m) else (best, v) by
        show fitStep (mkS x) cs (fitN (mkS x) cs 900 k) (900 + k) = _
        rw [HV.out, HZ.out]
        unfold fitStep
        rw [HU.out])
      have HC := Lib.hid (cks_alloc (cks_step hcs.out HF.out.2.2.2) (.cells #[.int .i64 x.id, .int .i64 0, .int .i64 x.zero, .int .i64 z] 25))
      go_wp2_with fail
      refine (worst_is (mkS x z) A n cap cs u m _ hn HC HU).mono ?_
      rintro e w2 ⟨rfl, b2⟩
      have HG := Lib.hid (HF.out.step (((Below.refl wr.heap.size wr).alloc (Nat.le_refl _) _).trans (b2.mono (by simp))))
      obtain ⟨f0, f1, f2, f3⟩ := HG.out.bfro
      obtain ⟨g0, g1, g2, g3⟩ := HG.out.bs
      obtain ⟨hc2, hf2⟩ := bcell b2
      clear b2
      by_cases u0 : 0 ≤ u
      · by_cases v0 : v < 0
        · have HS2 := Lib.hid (HS.out.trans (if_pos ⟨u0, .inl v0⟩))
          go_wp2_with fail
          go_roundw
          case rel => exact ⟨k + 1, mkS x z, m, by omega, by rw [← HZ.out]; go_num, rfl, HS2, HG.out.put _⟩
          case measure => simp [intOf]; omega
        · by_cases m0 : m < v
          · have HS2 := Lib.hid (HS.out.trans (if_pos ⟨u0, .inr m0⟩))
            go_wp2_with fail
            go_roundw
            case rel => exact ⟨k + 1, mkS x z, m, by omega, by rw [← HZ.out]; go_num, rfl, HS2, HG.out.put _⟩
            case measure => simp [intOf]; omega
          · have HS2 := Lib.hid (HS.out.trans (if_neg (by omega)))
            go_wp2_with fail
            go_roundw
            case rel => exact ⟨k + 1, best, v, by omega, by rw [← HZ.out]; go_num, rfl, HS2, HG.out⟩
            case measure => simp [intOf]; omega
      · have HS2 := Lib.hid (HS.out.trans (if_neg (by omega)))
        go_wp2_with fail
        go_roundw
        case rel => exact ⟨k + 1, best, v, by omega, by rw [← HZ.out]; go_num, rfl, HS2, HG.out⟩
        case measure => simp [intOf]; omega
    · obtain rfl : k = 201 := by omega
      obtain ⟨g0, g1, g2, g3⟩ := HF.out.bs
      obtain ⟨r0, r1, r2, r3⟩ := HF.out.rs
      obtain ⟨q0, q1, q2, q3⟩ := HF.out.rfro
      have HA := Lib.hid (show ((fitN (mkS x) cs 900 201).1, decide (0 ≤ (fitN (mkS x) cs 900 201).2)) = (best, decide (0 ≤ v)) by rw [HV.out])
      have hB := HF.out.2.2.2
      have HB := Lib.hid hB
      clear hB
      by_cases v0 : 0 ≤ v
      · have dv : decide (0 ≤ v) = true := by simpa using v0
        rw [dv] at HA
        go_wp2_with fail
        refine bodyPost_ret (v := .tuple #[.agg #[.int .i64 best.id, .int .i64 best.kind, .int .i64 best.zero, .int .i64 best.scale], .bool true]) (by simp [results, Try.results31, go_sem, *]) rfl ⟨by rw [HA.out], ?_⟩
        exact (((HB.out.setCell (by simp) _).setCell (by simp) _).setCell (by simp) _).setCell (by simp) _
      · have dv : decide (0 ≤ v) = false := by simpa using v0
        rw [dv] at HA
        go_wp2_with fail
        refine bodyPost_ret (v := .tuple #[.agg #[.int .i64 best.id, .int .i64 best.kind, .int .i64 best.zero, .int .i64 best.scale], .bool false]) (by simp [results, Try.results31, go_sem, *]) rfl ⟨by rw [HA.out], ?_⟩
        exact (((HB.out.setCell (by simp) _).setCell (by simp) _).setCell (by simp) _).setCell (by simp) _
theorem fitScale_model (x : Tl) (A : Option Addr) (n cap : Nat) (cs : List Ck) (w : World) (hn : n ≤ 2000000) (hcs : Hid (CksAt w w.heap.size A n cs)) :
    Calls Try.prog 31 #[.agg #[.int .i64 x.id, .int .i64 x.kind, .int .i64 x.zero, .int .i64 x.scale], .slice A n cap] w (TPost (fitS x cs) w) := by
  cases hc : cksOk x cs
  · rw [show fitS x cs = (⟨0, 0, 0, 0⟩, false) from if_neg (by rw [hc]; simp)]
    exact fitScale_bad x A n cap cs w hn hcs (Lib.hid hc)
  · by_cases hk : x.kind = 0
    · rw [show fitS x cs = _ from if_pos ⟨hc, hk⟩]
      exact fitScale_go x A n cap cs w hn hcs (Lib.hid hc) (Lib.hid hk)
    · rw [show fitS x cs = (⟨0, 0, 0, 0⟩, false) from if_neg (fun h => hk h.2)]
      exact fitScale_kind x A n cap cs w hn hcs (Lib.hid hc) (Lib.hid hk)
end Go.Proofs.Ytekbiapgbhaibaa.tl
