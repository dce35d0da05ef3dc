/-
  The model of the angles: the best slope.
  Conditions: none but those that a theorem names.
-/
import Derived.Test.YtekbiapgbhaibabDoorAngB
namespace Go.Proofs.YtekbiapgbhaibabDoor.ang
open Go.RowKit
open reads
set_option linter.unusedVariables false

/-- the slopes in their order: 0, 1, -1, 2, -2 .. -/
def cand (i : Nat) : Int := if i % 2 = 1 then (((i + 1) / 2 : Nat) : Int) else -((i / 2 : Nat) : Int)
theorem cand_odd (j : Nat) (h : 1 ≤ j) : cand (2 * (j - 1) + 1) = (j : Int) := by unfold cand; rw [if_pos (by omega)]; omega
theorem cand_even (j : Nat) (h : 1 ≤ j) : cand (2 * (j - 1) + 2) = -(j : Int) := by unfold cand; rw [if_neg (by omega)]; omega
theorem cand_start (f : Nat → Int) : Value.int .i64 0 = Value.int .i64 (cand (bst f (2 * (1 - 1)))) := by simp [bst, cand]
theorem cand_bd (i : Nat) (h : i ≤ 180) : -90 ≤ cand i ∧ cand i ≤ 90 := by unfold cand; split <;> omega
theorem cos_even : ∀ j : Fin 91, cosZ (-(j.val : Int)) = cosZ (j.val : Int) := by decide +kernel
/-- how a slope fits -/
def fitS (l u : Int) (i : Nat) : Int := l * cosZ (cand i) + u * sinZ (cand i)
def okS (l u : Int) : Prop := (0 ≤ l ∧ l ≤ 100000) ∧ (-100000 ≤ u ∧ u ≤ 100000) ∧ ¬ (l = 0 ∧ u = 0)
instance (l u : Int) : Decidable (okS l u) := by unfold okS; exact inferInstance
def bestS (l u : Int) : Int := cand (bst (fitS l u) 180)
/-- what SlopeTo answers -/
def ansSlope (l u : Int) : Value := if okS l u then .tuple #[.int .i64 (bestS l u), .bool true] else .tuple #[.int .i64 0, .bool false]

set_option maxHeartbeats 4000000 in
set_option maxRecDepth 100000 in
theorem slopeTo_model (l u : Int) (w : World) : Calls Tryd.prog 34 #[.int .i64 l, .int .i64 u] w (APost (ansSlope l u) w) := by
  by_cases h : 0 ≤ l ∧ l ≤ 100000
  · by_cases k : -100000 ≤ u ∧ u ≤ 100000
    · have H1 := Lib.hid (band h.1 h.2)
      have H2 := Lib.hid (band k.1 k.2)
      by_cases e0 : l = 0
      · by_cases n0 : u = 0
        · have HA := Lib.hid (show ansSlope l u = .tuple #[.int .i64 0, .bool false] from if_neg (fun c => c.2.2 ⟨e0, n0⟩))
          clear h k
          subst e0 n0
          go_enter Tryd.func34, Tryd.ntmps34
          go_wp2_with fail
          refine (in_is _ _ _ true H1.out _).mono ?_
          rintro r w' ⟨rfl, rfl⟩
          go_wp2_with fail
          refine (long_is _ true H2.out _).mono ?_
          rintro r w' ⟨rfl, rfl⟩
          go_wp2_with fail
          go_ret2
          exact ⟨by rw [HA.out]; rfl, Below.refl _ _⟩
        · have HA := Lib.hid (show ansSlope l u = .tuple #[.int .i64 (bestS l u), .bool true] from if_pos ⟨h, k, fun c => n0 c.2⟩)
          obtain ⟨k0, k1⟩ := k
          have hz : (u == 0) = false := by simpa using n0
          clear h
          subst e0
          go_enter Tryd.func34, Tryd.ntmps34
          go_wp2_with fail
          refine (in_is _ _ _ true H1.out _).mono ?_
          rintro r w' ⟨rfl, rfl⟩
          go_wp2_with fail
          refine (long_is _ true H2.out _).mono ?_
          rintro r w' ⟨rfl, rfl⟩
          go_wp2_with fail
          go_loopw [6, 7, 8] (fun v s _ wr => ∃ j : Nat, 1 ≤ j ∧ j ≤ 91 ∧ s = .int .i64 j ∧ v = .int .i64 (cand (bst (fitS 0 u) (2 * (j - 1)))) ∧ Below w.heap.size w wr) (fun _ s _ _ => 91 - (intOf s).toNat)
          case atStart => exact ⟨1, Nat.le_refl _, by decide, rfl, cand_start _, Below.refl _ _⟩
          case round =>
            obtain ⟨j, j1, j2, rfl, rfl, hB⟩ := hrel
            have HB0 := Lib.hid hB
            clear hB
            by_cases hlt : j < 91
            · have hj90 : (j : Int) ≤ 90 := by omega
              have hjn : j ≤ 90 := by omega
              have hjd : decide ((j : Int) ≤ 90) = true := by simpa using hj90
              have hjd2 : decide (j ≤ 90) = true := by simpa using hjn
              go_wp2_with fail
              go_loopw [6, 8] (fun v q wr => ∃ i : Nat, ((i = 0 ∧ q = .int .i64 1) ∨ (i = 1 ∧ q = .int .i64 (-1)) ∨ (i = 2 ∧ q = .int .i64 (-3))) ∧ v = .int .i64 (cand (bst (fitS 0 u) (2 * (j - 1) + i))) ∧ Below w.heap.size w wr) (fun _ q _ => (intOf q + 3).toNat)
              case atStart => exact ⟨0, .inl ⟨rfl, rfl⟩, rfl, HB0.out⟩
              case round =>
                obtain ⟨i, hi, rfl, hB⟩ := hrel
                have HB := Lib.hid hB
                clear hB
                have hm := bst_le (fitS 0 u) (2 * (j - 1) + i)
                obtain ⟨m, HM⟩ : ∃ m, Hid (bst (fitS 0 u) (2 * (j - 1) + i) = m) := ⟨_, Lib.hid rfl⟩
                rw [HM.out] at hm ⊢
                obtain ⟨bb, HBB⟩ : ∃ bb, Hid (cand m = bb) := ⟨_, Lib.hid rfl⟩
                rcases hi with ⟨rfl, rfl⟩ | ⟨rfl, rfl⟩ | ⟨rfl, rfl⟩
                · have hbb := cand_bd m (by omega)
                  rw [HBB.out] at hbb ⊢
                  have HK := Lib.hid (show bst (fitS 0 u) (2 * (j - 1) + 0 + 1) = if fitS 0 u m < fitS 0 u (2 * (j - 1) + 0 + 1) then 2 * (j - 1) + 0 + 1 else m by
                    have h := HM.out
                    show (if fitS 0 u (bst (fitS 0 u) (2 * (j - 1) + 0)) < fitS 0 u (2 * (j - 1) + 0 + 1) then 2 * (j - 1) + 0 + 1 else bst (fitS 0 u) (2 * (j - 1) + 0)) = _
                    rw [h])
                  have HCA := Lib.hid (cand_odd j j1)
                  obtain ⟨s1, HS1⟩ : ∃ v, Hid (sinZ (j : Int) = v) := ⟨_, Lib.hid rfl⟩
                  obtain ⟨c1, HC1⟩ : ∃ v, Hid (cosZ (j : Int) = v) := ⟨_, Lib.hid rfl⟩
                  have HC0 := Lib.hid (show cosZ (j : Int) = c1 by exact HC1.out)
                  obtain ⟨s2, HS2⟩ : ∃ v, Hid (sinZ bb = v) := ⟨_, Lib.hid rfl⟩
                  obtain ⟨c2, HC2⟩ : ∃ v, Hid (cosZ bb = v) := ⟨_, Lib.hid rfl⟩
                  have HF1 := Lib.hid (show fitS 0 u (2 * (j - 1) + 0 + 1) = 0 * c1 + u * s1 by rw [fitS, HCA.out, HS1.out, HC0.out])
                  have HF2 := Lib.hid (show fitS 0 u m = 0 * c2 + u * s2 by rw [fitS, HBB.out, HS2.out, HC2.out])
                  rw [HF1.out, HF2.out] at HK
                  have b1 := sinZ_bd (j : Int)
                  have b2 := cosZ_bd (j : Int)
                  have b3 := sinZ_bd bb
                  have b4 := cosZ_bd bb
                  rw [HS1.out] at b1
                  rw [HC1.out] at b2
                  rw [HS2.out] at b3
                  rw [HC2.out] at b4
                  obtain ⟨p1, q1⟩ := prod_bd u s1 (by omega) (by omega) b1.1 b1.2
                  obtain ⟨p2, q2⟩ := prod_bd 0 c1 (by omega) (by omega) b2.1 b2.2
                  obtain ⟨p3, q3⟩ := prod_bd u s2 (by omega) (by omega) b3.1 b3.2
                  obtain ⟨p4, q4⟩ := prod_bd 0 c2 (by omega) (by omega) b4.1 b4.2
                  clear HF1 HF2 b1 b2 b3 b4
                  go_wp2_with fail
                  refine (cosine_is j c1 HC1.out _ (by omega) (by omega)).mono ?_
                  rintro r w1 ⟨rfl, x1⟩
                  go_wp2_with fail
                  refine (sine_is _ s1 HS1.out _ (by omega) (by omega)).mono ?_
                  rintro r w2 ⟨rfl, x2⟩
                  go_wp2_with fail
                  refine (cosine_is bb c2 HC2.out _ (by omega) (by omega)).mono ?_
                  rintro r w3 ⟨rfl, x3⟩
                  go_wp2_with fail
                  refine (sine_is bb s2 HS2.out _ (by omega) (by omega)).mono ?_
                  rintro r w4 ⟨rfl, x4⟩
                  have y1 := HB.out.trans (x1.mono HB.out.size)
                  have y2 := y1.trans (x2.mono y1.size)
                  have y3 := y2.trans (x3.mono y2.size)
                  have HB4 := Lib.hid (y3.trans (x4.mono y3.size))
                  clear x1 x2 x3 x4 y1 y2 y3
                  by_cases hgt : 0 * c2 + u * s2 < 0 * c1 + u * s1
                  · have HR := Lib.hid (show cand (bst (fitS 0 u) (2 * (j - 1) + 1)) = (j : Int) by rw [show 2 * (j - 1) + 1 = 2 * (j - 1) + 0 + 1 from rfl, HK.out, if_pos hgt]; exact HCA.out)
                    go_wp2_with fail
                    go_roundw
                    case rel => exact ⟨1, .inr (.inl ⟨rfl, rfl⟩), by rw [HR.out], HB4.out⟩
                    case measure => simp [intOf]
                  · have HR := Lib.hid (show cand (bst (fitS 0 u) (2 * (j - 1) + 1)) = bb by rw [show 2 * (j - 1) + 1 = 2 * (j - 1) + 0 + 1 from rfl, HK.out, if_neg hgt]; exact HBB.out)
                    go_wp2_with fail
                    go_roundw
                    case rel => exact ⟨1, .inr (.inl ⟨rfl, rfl⟩), by rw [HR.out], HB4.out⟩
                    case measure => simp [intOf]
                · have hbb := cand_bd m (by omega)
                  rw [HBB.out] at hbb ⊢
                  have HK := Lib.hid (show bst (fitS 0 u) (2 * (j - 1) + 1 + 1) = if fitS 0 u m < fitS 0 u (2 * (j - 1) + 1 + 1) then 2 * (j - 1) + 1 + 1 else m by
                    have h := HM.out
                    show (if fitS 0 u (bst (fitS 0 u) (2 * (j - 1) + 1)) < fitS 0 u (2 * (j - 1) + 1 + 1) then 2 * (j - 1) + 1 + 1 else bst (fitS 0 u) (2 * (j - 1) + 1)) = _
                    rw [h])
                  have HCA := Lib.hid (cand_even j j1)
                  obtain ⟨s1, HS1⟩ : ∃ v, Hid (sinZ (-(j : Int)) = v) := ⟨_, Lib.hid rfl⟩
                  obtain ⟨c1, HC1⟩ : ∃ v, Hid (cosZ (j : Int) = v) := ⟨_, Lib.hid rfl⟩
                  have HC0 := Lib.hid (show cosZ (-(j : Int)) = c1 by rw [← HC1.out]; exact cos_even ⟨j, by omega⟩)
                  obtain ⟨s2, HS2⟩ : ∃ v, Hid (sinZ bb = v) := ⟨_, Lib.hid rfl⟩
                  obtain ⟨c2, HC2⟩ : ∃ v, Hid (cosZ bb = v) := ⟨_, Lib.hid rfl⟩
                  have HF1 := Lib.hid (show fitS 0 u (2 * (j - 1) + 1 + 1) = 0 * c1 + u * s1 by rw [fitS, HCA.out, HS1.out, HC0.out])
                  have HF2 := Lib.hid (show fitS 0 u m = 0 * c2 + u * s2 by rw [fitS, HBB.out, HS2.out, HC2.out])
                  rw [HF1.out, HF2.out] at HK
                  have b1 := sinZ_bd (-(j : Int))
                  have b2 := cosZ_bd (j : Int)
                  have b3 := sinZ_bd bb
                  have b4 := cosZ_bd bb
                  rw [HS1.out] at b1
                  rw [HC1.out] at b2
                  rw [HS2.out] at b3
                  rw [HC2.out] at b4
                  obtain ⟨p1, q1⟩ := prod_bd u s1 (by omega) (by omega) b1.1 b1.2
                  obtain ⟨p2, q2⟩ := prod_bd 0 c1 (by omega) (by omega) b2.1 b2.2
                  obtain ⟨p3, q3⟩ := prod_bd u s2 (by omega) (by omega) b3.1 b3.2
                  obtain ⟨p4, q4⟩ := prod_bd 0 c2 (by omega) (by omega) b4.1 b4.2
                  clear HF1 HF2 b1 b2 b3 b4
                  go_wp2_with fail
                  refine (cosine_is j c1 HC1.out _ (by omega) (by omega)).mono ?_
                  rintro r w1 ⟨rfl, x1⟩
                  go_wp2_with fail
                  refine (sine_is _ s1 HS1.out _ (by omega) (by omega)).mono ?_
                  rintro r w2 ⟨rfl, x2⟩
                  go_wp2_with fail
                  refine (cosine_is bb c2 HC2.out _ (by omega) (by omega)).mono ?_
                  rintro r w3 ⟨rfl, x3⟩
                  go_wp2_with fail
                  refine (sine_is bb s2 HS2.out _ (by omega) (by omega)).mono ?_
                  rintro r w4 ⟨rfl, x4⟩
                  have y1 := HB.out.trans (x1.mono HB.out.size)
                  have y2 := y1.trans (x2.mono y1.size)
                  have y3 := y2.trans (x3.mono y2.size)
                  have HB4 := Lib.hid (y3.trans (x4.mono y3.size))
                  clear x1 x2 x3 x4 y1 y2 y3
                  by_cases hgt : 0 * c2 + u * s2 < 0 * c1 + u * s1
                  · have HR := Lib.hid (show cand (bst (fitS 0 u) (2 * (j - 1) + 2)) = (-(j : Int)) by rw [show 2 * (j - 1) + 2 = 2 * (j - 1) + 1 + 1 from rfl, HK.out, if_pos hgt]; exact HCA.out)
                    go_wp2_with fail
                    go_roundw
                    case rel => exact ⟨2, .inr (.inr ⟨rfl, rfl⟩), by rw [HR.out], HB4.out⟩
                    case measure => simp [intOf]
                  · have HR := Lib.hid (show cand (bst (fitS 0 u) (2 * (j - 1) + 2)) = bb by rw [show 2 * (j - 1) + 2 = 2 * (j - 1) + 1 + 1 from rfl, HK.out, if_neg hgt]; exact HBB.out)
                    go_wp2_with fail
                    go_roundw
                    case rel => exact ⟨2, .inr (.inr ⟨rfl, rfl⟩), by rw [HR.out], HB4.out⟩
                    case measure => simp [intOf]
                · have HE := Lib.hid (show cand (bst (fitS 0 u) (2 * (j + 1 - 1))) = bb by rw [show 2 * (j + 1 - 1) = 2 * (j - 1) + 2 by omega, HM.out]; exact HBB.out)
                  rw [HBB.out]
                  go_wp2_with fail
                  go_roundw
                  case rel => exact ⟨j + 1, by omega, by omega, by go_num, by rw [HE.out], HB.out⟩
                  case measure => simp [intOf]; omega
            · obtain rfl : j = 91 := by omega
              have HE := Lib.hid (show cand (bst (fitS 0 u) (2 * (91 - 1))) = bestS 0 u from rfl)
              rw [HE.out]
              go_wp2_with fail
              go_ret2
              exact ⟨by rw [HA.out]; rfl, HB0.out⟩
      · have HA := Lib.hid (show ansSlope l u = .tuple #[.int .i64 (bestS l u), .bool true] from if_pos ⟨h, k, fun c => e0 c.1⟩)
        obtain ⟨h0, h1⟩ := h
        obtain ⟨k0, k1⟩ := k
        have hz : (l == 0) = false := by simpa using e0
        go_enter Tryd.func34, Tryd.ntmps34
        go_wp2_with fail
        refine (in_is _ _ _ true H1.out _).mono ?_
        rintro r w' ⟨rfl, rfl⟩
        go_wp2_with fail
        refine (long_is _ true H2.out _).mono ?_
        rintro r w' ⟨rfl, rfl⟩
        go_wp2_with fail
        go_loopw [6, 7, 8] (fun v s _ wr => ∃ j : Nat, 1 ≤ j ∧ j ≤ 91 ∧ s = .int .i64 j ∧ v = .int .i64 (cand (bst (fitS l u) (2 * (j - 1)))) ∧ Below w.heap.size w wr) (fun _ s _ _ => 91 - (intOf s).toNat)
        case atStart => exact ⟨1, Nat.le_refl _, by decide, rfl, cand_start _, Below.refl _ _⟩
        case round =>
          obtain ⟨j, j1, j2, rfl, rfl, hB⟩ := hrel
          have HB0 := Lib.hid hB
          clear hB
          by_cases hlt : j < 91
          · have hj90 : (j : Int) ≤ 90 := by omega
            have hjn : j ≤ 90 := by omega
            have hjd : decide ((j : Int) ≤ 90) = true := by simpa using hj90
            have hjd2 : decide (j ≤ 90) = true := by simpa using hjn
            go_wp2_with fail
            go_loopw [6, 8] (fun v q wr => ∃ i : Nat, ((i = 0 ∧ q = .int .i64 1) ∨ (i = 1 ∧ q = .int .i64 (-1)) ∨ (i = 2 ∧ q = .int .i64 (-3))) ∧ v = .int .i64 (cand (bst (fitS l u) (2 * (j - 1) + i))) ∧ Below w.heap.size w wr) (fun _ q _ => (intOf q + 3).toNat)
            case atStart => exact ⟨0, .inl ⟨rfl, rfl⟩, rfl, HB0.out⟩
            case round =>
              obtain ⟨i, hi, rfl, hB⟩ := hrel
              have HB := Lib.hid hB
              clear hB
              have hm := bst_le (fitS l u) (2 * (j - 1) + i)
              obtain ⟨m, HM⟩ : ∃ m, Hid (bst (fitS l u) (2 * (j - 1) + i) = m) := ⟨_, Lib.hid rfl⟩
              rw [HM.out] at hm ⊢
              obtain ⟨bb, HBB⟩ : ∃ bb, Hid (cand m = bb) := ⟨_, Lib.hid rfl⟩
              rcases hi with ⟨rfl, rfl⟩ | ⟨rfl, rfl⟩ | ⟨rfl, rfl⟩
              · have hbb := cand_bd m (by omega)
                rw [HBB.out] at hbb ⊢
                have HK := Lib.hid (show bst (fitS l u) (2 * (j - 1) + 0 + 1) = if fitS l u m < fitS l u (2 * (j - 1) + 0 + 1) then 2 * (j - 1) + 0 + 1 else m by
                  have h := HM.out
                  show (if fitS l u (bst (fitS l u) (2 * (j - 1) + 0)) < fitS l u (2 * (j - 1) + 0 + 1) then 2 * (j - 1) + 0 + 1 else bst (fitS l u) (2 * (j - 1) + 0)) = _
                  rw [h])
                have HCA := Lib.hid (cand_odd j j1)
                obtain ⟨s1, HS1⟩ : ∃ v, Hid (sinZ (j : Int) = v) := ⟨_, Lib.hid rfl⟩
                obtain ⟨c1, HC1⟩ : ∃ v, Hid (cosZ (j : Int) = v) := ⟨_, Lib.hid rfl⟩
                have HC0 := Lib.hid (show cosZ (j : Int) = c1 by exact HC1.out)
                obtain ⟨s2, HS2⟩ : ∃ v, Hid (sinZ bb = v) := ⟨_, Lib.hid rfl⟩
                obtain ⟨c2, HC2⟩ : ∃ v, Hid (cosZ bb = v) := ⟨_, Lib.hid rfl⟩
                have HF1 := Lib.hid (show fitS l u (2 * (j - 1) + 0 + 1) = l * c1 + u * s1 by rw [fitS, HCA.out, HS1.out, HC0.out])
                have HF2 := Lib.hid (show fitS l u m = l * c2 + u * s2 by rw [fitS, HBB.out, HS2.out, HC2.out])
                rw [HF1.out, HF2.out] at HK
                have b1 := sinZ_bd (j : Int)
                have b2 := cosZ_bd (j : Int)
                have b3 := sinZ_bd bb
                have b4 := cosZ_bd bb
                rw [HS1.out] at b1
                rw [HC1.out] at b2
                rw [HS2.out] at b3
                rw [HC2.out] at b4
                obtain ⟨p1, q1⟩ := prod_bd u s1 (by omega) (by omega) b1.1 b1.2
                obtain ⟨p2, q2⟩ := prod_bd l c1 (by omega) (by omega) b2.1 b2.2
                obtain ⟨p3, q3⟩ := prod_bd u s2 (by omega) (by omega) b3.1 b3.2
                obtain ⟨p4, q4⟩ := prod_bd l c2 (by omega) (by omega) b4.1 b4.2
                clear HF1 HF2 b1 b2 b3 b4
                go_wp2_with fail
                refine (cosine_is j c1 HC1.out _ (by omega) (by omega)).mono ?_
                rintro r w1 ⟨rfl, x1⟩
                go_wp2_with fail
                refine (sine_is _ s1 HS1.out _ (by omega) (by omega)).mono ?_
                rintro r w2 ⟨rfl, x2⟩
                go_wp2_with fail
                refine (cosine_is bb c2 HC2.out _ (by omega) (by omega)).mono ?_
                rintro r w3 ⟨rfl, x3⟩
                go_wp2_with fail
                refine (sine_is bb s2 HS2.out _ (by omega) (by omega)).mono ?_
                rintro r w4 ⟨rfl, x4⟩
                have y1 := HB.out.trans (x1.mono HB.out.size)
                have y2 := y1.trans (x2.mono y1.size)
                have y3 := y2.trans (x3.mono y2.size)
                have HB4 := Lib.hid (y3.trans (x4.mono y3.size))
                clear x1 x2 x3 x4 y1 y2 y3
                by_cases hgt : l * c2 + u * s2 < l * c1 + u * s1
                · have HR := Lib.hid (show cand (bst (fitS l u) (2 * (j - 1) + 1)) = (j : Int) by rw [show 2 * (j - 1) + 1 = 2 * (j - 1) + 0 + 1 from rfl, HK.out, if_pos hgt]; exact HCA.out)
                  go_wp2_with fail
                  go_roundw
                  case rel => exact ⟨1, .inr (.inl ⟨rfl, rfl⟩), by rw [HR.out], HB4.out⟩
                  case measure => simp [intOf]
                · have HR := Lib.hid (show cand (bst (fitS l u) (2 * (j - 1) + 1)) = bb by rw [show 2 * (j - 1) + 1 = 2 * (j - 1) + 0 + 1 from rfl, HK.out, if_neg hgt]; exact HBB.out)
                  go_wp2_with fail
                  go_roundw
                  case rel => exact ⟨1, .inr (.inl ⟨rfl, rfl⟩), by rw [HR.out], HB4.out⟩
                  case measure => simp [intOf]
              · have hbb := cand_bd m (by omega)
                rw [HBB.out] at hbb ⊢
                have HK := Lib.hid (show bst (fitS l u) (2 * (j - 1) + 1 + 1) = if fitS l u m < fitS l u (2 * (j - 1) + 1 + 1) then 2 * (j - 1) + 1 + 1 else m by
                  have h := HM.out
                  show (if fitS l u (bst (fitS l u) (2 * (j - 1) + 1)) < fitS l u (2 * (j - 1) + 1 + 1) then 2 * (j - 1) + 1 + 1 else bst (fitS l u) (2 * (j - 1) + 1)) = _
                  rw [h])
                have HCA := Lib.hid (cand_even j j1)
                obtain ⟨s1, HS1⟩ : ∃ v, Hid (sinZ (-(j : Int)) = v) := ⟨_, Lib.hid rfl⟩
                obtain ⟨c1, HC1⟩ : ∃ v, Hid (cosZ (j : Int) = v) := ⟨_, Lib.hid rfl⟩
                have HC0 := Lib.hid (show cosZ (-(j : Int)) = c1 by rw [← HC1.out]; exact cos_even ⟨j, by omega⟩)
                obtain ⟨s2, HS2⟩ : ∃ v, Hid (sinZ bb = v) := ⟨_, Lib.hid rfl⟩
                obtain ⟨c2, HC2⟩ : ∃ v, Hid (cosZ bb = v) := ⟨_, Lib.hid rfl⟩
                have HF1 := Lib.hid (show fitS l u (2 * (j - 1) + 1 + 1) = l * c1 + u * s1 by rw [fitS, HCA.out, HS1.out, HC0.out])
                have HF2 := Lib.hid (show fitS l u m = l * c2 + u * s2 by rw [fitS, HBB.out, HS2.out, HC2.out])
                rw [HF1.out, HF2.out] at HK
                have b1 := sinZ_bd (-(j : Int))
                have b2 := cosZ_bd (j : Int)
                have b3 := sinZ_bd bb
                have b4 := cosZ_bd bb
                rw [HS1.out] at b1
                rw [HC1.out] at b2
                rw [HS2.out] at b3
                rw [HC2.out] at b4
                obtain ⟨p1, q1⟩ := prod_bd u s1 (by omega) (by omega) b1.1 b1.2
                obtain ⟨p2, q2⟩ := prod_bd l c1 (by omega) (by omega) b2.1 b2.2
                obtain ⟨p3, q3⟩ := prod_bd u s2 (by omega) (by omega) b3.1 b3.2
                obtain ⟨p4, q4⟩ := prod_bd l c2 (by omega) (by omega) b4.1 b4.2
                clear HF1 HF2 b1 b2 b3 b4
                go_wp2_with fail
                refine (cosine_is j c1 HC1.out _ (by omega) (by omega)).mono ?_
                rintro r w1 ⟨rfl, x1⟩
                go_wp2_with fail
                refine (sine_is _ s1 HS1.out _ (by omega) (by omega)).mono ?_
                rintro r w2 ⟨rfl, x2⟩
                go_wp2_with fail
                refine (cosine_is bb c2 HC2.out _ (by omega) (by omega)).mono ?_
                rintro r w3 ⟨rfl, x3⟩
                go_wp2_with fail
                refine (sine_is bb s2 HS2.out _ (by omega) (by omega)).mono ?_
                rintro r w4 ⟨rfl, x4⟩
                have y1 := HB.out.trans (x1.mono HB.out.size)
                have y2 := y1.trans (x2.mono y1.size)
                have y3 := y2.trans (x3.mono y2.size)
                have HB4 := Lib.hid (y3.trans (x4.mono y3.size))
                clear x1 x2 x3 x4 y1 y2 y3
                by_cases hgt : l * c2 + u * s2 < l * c1 + u * s1
                · have HR := Lib.hid (show cand (bst (fitS l u) (2 * (j - 1) + 2)) = (-(j : Int)) by rw [show 2 * (j - 1) + 2 = 2 * (j - 1) + 1 + 1 from rfl, HK.out, if_pos hgt]; exact HCA.out)
                  go_wp2_with fail
                  go_roundw
                  case rel => exact ⟨2, .inr (.inr ⟨rfl, rfl⟩), by rw [HR.out], HB4.out⟩
                  case measure => simp [intOf]
                · have HR := Lib.hid (show cand (bst (fitS l u) (2 * (j - 1) + 2)) = bb by rw [show 2 * (j - 1) + 2 = 2 * (j - 1) + 1 + 1 from rfl, HK.out, if_neg hgt]; exact HBB.out)
                  go_wp2_with fail
                  go_roundw
                  case rel => exact ⟨2, .inr (.inr ⟨rfl, rfl⟩), by rw [HR.out], HB4.out⟩
                  case measure => simp [intOf]
              · have HE := Lib.hid (show cand (bst (fitS l u) (2 * (j + 1 - 1))) = bb by rw [show 2 * (j + 1 - 1) = 2 * (j - 1) + 2 by omega, HM.out]; exact HBB.out)
                rw [HBB.out]
                go_wp2_with fail
                go_roundw
                case rel => exact ⟨j + 1, by omega, by omega, by go_num, by rw [HE.out], HB.out⟩
                case measure => simp [intOf]; omega
          · obtain rfl : j = 91 := by omega
            have HE := Lib.hid (show cand (bst (fitS l u) (2 * (91 - 1))) = bestS l u from rfl)
            rw [HE.out]
            go_wp2_with fail
            go_ret2
            exact ⟨by rw [HA.out]; rfl, HB0.out⟩
    · have HA := Lib.hid (show ansSlope l u = .tuple #[.int .i64 0, .bool false] from if_neg (fun c => k c.2.1))
      have H1 := Lib.hid (band h.1 h.2)
      have H2 := Lib.hid (bout k)
      clear h k
      go_enter Tryd.func34, Tryd.ntmps34
      go_wp2_with fail
      refine (in_is _ _ _ true H1.out _).mono ?_
      rintro r w' ⟨rfl, rfl⟩
      go_wp2_with fail
      refine (long_is _ false H2.out _).mono ?_
      rintro r w' ⟨rfl, rfl⟩
      go_wp2_with fail
      go_ret2
      exact ⟨by rw [HA.out]; rfl, Below.refl _ _⟩
  · have HA := Lib.hid (show ansSlope l u = .tuple #[.int .i64 0, .bool false] from if_neg (fun c => h c.1))
    have H1 := Lib.hid (bout h)
    clear h
    go_enter Tryd.func34, Tryd.ntmps34
    go_wp2_with fail
    refine (in_is _ _ _ false H1.out _).mono ?_
    rintro r w' ⟨rfl, rfl⟩
    go_wp2_with fail
    go_ret2
    exact ⟨by rw [HA.out]; rfl, Below.refl _ _⟩
end Go.Proofs.YtekbiapgbhaibabDoor.ang
