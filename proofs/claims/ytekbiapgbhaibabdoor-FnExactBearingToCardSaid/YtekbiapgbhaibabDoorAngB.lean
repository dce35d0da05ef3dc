/-
  The model of the angles: the best bearing.
  Conditions: none but those that a theorem names.
-/
import Derived.Test.YtekbiapgbhaibabDoorAng
namespace Go.Proofs.YtekbiapgbhaibabDoor.ang
open Go.RowKit
open reads
set_option linter.unusedVariables false

/-- the first greatest one of f 0 .. f n -/
def bst (f : Nat → Int) : Nat → Nat
  | 0 => 0
  | n + 1 => if f (bst f n) < f (n + 1) then n + 1 else bst f n
theorem bst_le (f : Nat → Int) : ∀ n, bst f n ≤ n
  | 0 => Nat.le_refl _
  | n + 1 => by
    have := bst_le f n
    rw [bst]
    split <;> omega
theorem bst_spec (f : Nat → Int) : ∀ n, (∀ j, j ≤ n → f j ≤ f (bst f n)) ∧ ∀ j, j < bst f n → f j < f (bst f n)
  | 0 => ⟨fun j hj => by obtain rfl : j = 0 := by omega
                         exact Int.le_refl _, fun j hj => by rw [bst] at hj; omega⟩
  | n + 1 => by
    obtain ⟨h1, h2⟩ := bst_spec f n
    rw [bst]
    split
    · rename_i h
      refine ⟨fun j hj => ?_, fun j hj => ?_⟩
      · by_cases e : j = n + 1
        · rw [e]; exact Int.le_refl _
        · have := h1 j (by omega); omega
      · have := h1 j (by omega); omega
    · rename_i h
      refine ⟨fun j hj => ?_, h2⟩
      by_cases e : j = n + 1
      · rw [e]; omega
      · exact h1 j (by omega)
theorem bst_uniq (f : Nat → Int) (n m : Nat) (hm : m ≤ n) (h1 : ∀ j, j ≤ n → f j ≤ f m) (h2 : ∀ j, j < m → f j < f m) : bst f n = m := by
  obtain ⟨k1, k2⟩ := bst_spec f n
  have hl := bst_le f n
  rcases Nat.lt_trichotomy (bst f n) m with h | h | h
  · have a := h2 _ h
    have b := k1 m hm
    omega
  · exact h
  · have a := k2 _ h
    have b := h1 _ hl
    omega

/-- how a bearing fits -/
def fitB (e n : Int) (b : Nat) : Int := e * sinZ b + n * cosZ b
def okB (e n : Int) : Prop := (-100000 ≤ e ∧ e ≤ 100000) ∧ (-100000 ≤ n ∧ n ≤ 100000) ∧ ¬ (e = 0 ∧ n = 0)
instance (e n : Int) : Decidable (okB e n) := by unfold okB; exact inferInstance
def bestB (e n : Int) : Nat := bst (fitB e n) 359
/-- what BearingTo answers -/
def ansBearing (e n : Int) : Value := if okB e n then .tuple #[.int .i64 (bestB e n), .bool true] else .tuple #[.int .i64 0, .bool false]

set_option maxHeartbeats 4000000 in
set_option maxRecDepth 100000 in
theorem bearingTo_model (e n : Int) (w : World) : Calls Tryd.prog 31 #[.int .i64 e, .int .i64 n] w (APost (ansBearing e n) w) := by
  by_cases h : -100000 ≤ e ∧ e ≤ 100000
  · by_cases k : -100000 ≤ n ∧ n ≤ 100000
    · have H1 := Lib.hid (band h.1 h.2)
      have H2 := Lib.hid (band k.1 k.2)
      by_cases e0 : e = 0
      · by_cases n0 : n = 0
        · have HA := Lib.hid (show ansBearing e n = .tuple #[.int .i64 0, .bool false] from if_neg (fun c => c.2.2 ⟨e0, n0⟩))
          clear h k
          subst e0 n0
          go_enter Tryd.func31, Tryd.ntmps31
          go_wp2_with fail
          refine (long_is _ true H1.out _).mono ?_
          rintro e w' ⟨rfl, rfl⟩
          go_wp2_with fail
          refine (long_is _ true H2.out _).mono ?_
          rintro e w' ⟨rfl, rfl⟩
          go_wp2_with fail
          go_ret2
          exact ⟨by rw [HA.out]; rfl, Below.refl _ _⟩
        · have HA := Lib.hid (show ansBearing e n = .tuple #[.int .i64 (bestB e n), .bool true] from if_pos ⟨h, k, fun c => n0 c.2⟩)
          obtain ⟨k0, k1⟩ := k
          have hz : (n == 0) = false := by simpa using n0
          clear h
          subst e0
          go_enter Tryd.func31, Tryd.ntmps31
          go_wp2_with fail
          refine (long_is _ true H1.out _).mono ?_
          rintro e w' ⟨rfl, rfl⟩
          go_wp2_with fail
          refine (long_is _ true H2.out _).mono ?_
          rintro e w' ⟨rfl, rfl⟩
          go_wp2_with fail
          go_loopw [6, 7] (fun v i wr => ∃ k : Nat, 1 ≤ k ∧ k ≤ 360 ∧ i = .int .i64 k ∧ v = .int .i64 (bst (fitB 0 n) (k - 1) : Nat) ∧ Below w.heap.size w wr) (fun _ i _ => 360 - (intOf i).toNat)
          case atStart => exact ⟨1, Nat.le_refl _, by decide, rfl, rfl, Below.refl _ _⟩
          case round =>
            obtain ⟨k, h1, h2, rfl, rfl, hB⟩ := hrel
            have hm := bst_le (fitB 0 n) (k - 1)
            obtain ⟨m, HM⟩ : ∃ m, Hid (bst (fitB 0 n) (k - 1) = m) := ⟨_, Lib.hid rfl⟩
            rw [HM.out] at hm ⊢
            have HB := Lib.hid hB
            clear hB
            by_cases hlt : k < 360
            · have HK := Lib.hid (show bst (fitB 0 n) (k + 1 - 1) = if fitB 0 n m < fitB 0 n k then k else m by
                obtain ⟨j, rfl⟩ : ∃ j, k = j + 1 := ⟨k - 1, by omega⟩
                have ej : j + 1 - 1 = j := by omega
                rw [ej] at HM
                show bst (fitB 0 n) (j + 1) = _
                rw [bst, HM.out])
              obtain ⟨s1, HS1⟩ : ∃ v, Hid (sinZ (k : Int) = v) := ⟨_, Lib.hid rfl⟩
              obtain ⟨c1, HC1⟩ : ∃ v, Hid (cosZ (k : Int) = v) := ⟨_, Lib.hid rfl⟩
              obtain ⟨s2, HS2⟩ : ∃ v, Hid (sinZ (m : Int) = v) := ⟨_, Lib.hid rfl⟩
              obtain ⟨c2, HC2⟩ : ∃ v, Hid (cosZ (m : Int) = v) := ⟨_, Lib.hid rfl⟩
              have HF1 := Lib.hid (show fitB 0 n k = 0 * s1 + n * c1 by rw [fitB, HS1.out, HC1.out])
              have HF2 := Lib.hid (show fitB 0 n m = 0 * s2 + n * c2 by rw [fitB, HS2.out, HC2.out])
              rw [HF1.out, HF2.out] at HK
              have b1 := sinZ_bd (k : Int)
              have b2 := cosZ_bd (k : Int)
              have b3 := sinZ_bd (m : Int)
              have b4 := cosZ_bd (m : Int)
              rw [HS1.out] at b1
              rw [HC1.out] at b2
              rw [HS2.out] at b3
              rw [HC2.out] at b4
              obtain ⟨p1, q1⟩ := prod_bd 0 s1 (by omega) (by omega) b1.1 b1.2
              obtain ⟨p2, q2⟩ := prod_bd n c1 (by omega) (by omega) b2.1 b2.2
              obtain ⟨p3, q3⟩ := prod_bd 0 s2 (by omega) (by omega) b3.1 b3.2
              obtain ⟨p4, q4⟩ := prod_bd n c2 (by omega) (by omega) b4.1 b4.2
              clear HF1 HF2 b1 b2 b3 b4
              go_wp2_with fail
              refine (sine_is k s1 HS1.out _ (by omega) (by omega)).mono ?_
              rintro e w1 ⟨rfl, x1⟩
              go_wp2_with fail
              refine (cosine_is k c1 HC1.out _ (by omega) (by omega)).mono ?_
              rintro e w2 ⟨rfl, x2⟩
              go_wp2_with fail
              refine (sine_is m s2 HS2.out _ (by omega) (by omega)).mono ?_
              rintro e w3 ⟨rfl, x3⟩
              go_wp2_with fail
              refine (cosine_is m c2 HC2.out _ (by omega) (by omega)).mono ?_
              rintro e w4 ⟨rfl, x4⟩
              have y1 := HB.out.trans (x1.mono HB.out.size)
              have y2 := y1.trans (x2.mono y1.size)
              have y3 := y2.trans (x3.mono y2.size)
              have HB4 := Lib.hid (y3.trans (x4.mono y3.size))
              clear x1 x2 x3 x4 y1 y2 y3
              by_cases hgt : 0 * s2 + n * c2 < 0 * s1 + n * c1
              · have HR := Lib.hid (show bst (fitB 0 n) (k + 1 - 1) = k by rw [HK.out, if_pos hgt])
                go_wp2_with fail
                go_roundw
                case rel => exact ⟨k + 1, by omega, by omega, by go_num, by rw [HR.out], HB4.out⟩
                case measure => simp [intOf]; omega
              · have HR := Lib.hid (show bst (fitB 0 n) (k + 1 - 1) = m by rw [HK.out, if_neg hgt])
                go_wp2_with fail
                go_roundw
                case rel => exact ⟨k + 1, by omega, by omega, by go_num, by rw [HR.out], HB4.out⟩
                case measure => simp [intOf]; omega
            · have HE := Lib.hid (show bestB 0 n = m by rw [← HM.out, bestB]; congr 1; omega)
              go_wp2_with fail
              go_ret2
              exact ⟨by rw [HA.out, HE.out]; rfl, HB.out⟩
      · have HA := Lib.hid (show ansBearing e n = .tuple #[.int .i64 (bestB e n), .bool true] from if_pos ⟨h, k, fun c => e0 c.1⟩)
        obtain ⟨h0, h1⟩ := h
        obtain ⟨k0, k1⟩ := k
        have hz : (e == 0) = false := by simpa using e0
        go_enter Tryd.func31, Tryd.ntmps31
        go_wp2_with fail
        refine (long_is _ true H1.out _).mono ?_
        rintro r w' ⟨rfl, rfl⟩
        go_wp2_with fail
        refine (long_is _ true H2.out _).mono ?_
        rintro r w' ⟨rfl, rfl⟩
        go_wp2_with fail
        go_loopw [6, 7] (fun v i wr => ∃ k : Nat, 1 ≤ k ∧ k ≤ 360 ∧ i = .int .i64 k ∧ v = .int .i64 (bst (fitB e n) (k - 1) : Nat) ∧ Below w.heap.size w wr) (fun _ i _ => 360 - (intOf i).toNat)
        case atStart => exact ⟨1, Nat.le_refl _, by decide, rfl, rfl, Below.refl _ _⟩
        case round =>
          obtain ⟨k, h1, h2, rfl, rfl, hB⟩ := hrel
          have hm := bst_le (fitB e n) (k - 1)
          obtain ⟨m, HM⟩ : ∃ m, Hid (bst (fitB e n) (k - 1) = m) := ⟨_, Lib.hid rfl⟩
          rw [HM.out] at hm ⊢
          have HB := Lib.hid hB
          clear hB
          by_cases hlt : k < 360
          · have HK := Lib.hid (show bst (fitB e n) (k + 1 - 1) = if fitB e n m < fitB e n k then k else m by
              obtain ⟨j, rfl⟩ : ∃ j, k = j + 1 := ⟨k - 1, by omega⟩
              have ej : j + 1 - 1 = j := by omega
              rw [ej] at HM
              show bst (fitB e n) (j + 1) = _
              rw [bst, HM.out])
            obtain ⟨s1, HS1⟩ : ∃ v, Hid (sinZ (k : Int) = v) := ⟨_, Lib.hid rfl⟩
            obtain ⟨c1, HC1⟩ : ∃ v, Hid (cosZ (k : Int) = v) := ⟨_, Lib.hid rfl⟩
            obtain ⟨s2, HS2⟩ : ∃ v, Hid (sinZ (m : Int) = v) := ⟨_, Lib.hid rfl⟩
            obtain ⟨c2, HC2⟩ : ∃ v, Hid (cosZ (m : Int) = v) := ⟨_, Lib.hid rfl⟩
            have HF1 := Lib.hid (show fitB e n k = e * s1 + n * c1 by rw [fitB, HS1.out, HC1.out])
            have HF2 := Lib.hid (show fitB e n m = e * s2 + n * c2 by rw [fitB, HS2.out, HC2.out])
            rw [HF1.out, HF2.out] at HK
            have b1 := sinZ_bd (k : Int)
            have b2 := cosZ_bd (k : Int)
            have b3 := sinZ_bd (m : Int)
            have b4 := cosZ_bd (m : Int)
            rw [HS1.out] at b1
            rw [HC1.out] at b2
            rw [HS2.out] at b3
            rw [HC2.out] at b4
            obtain ⟨p1, q1⟩ := prod_bd e s1 (by omega) (by omega) b1.1 b1.2
            obtain ⟨p2, q2⟩ := prod_bd n c1 (by omega) (by omega) b2.1 b2.2
            obtain ⟨p3, q3⟩ := prod_bd e s2 (by omega) (by omega) b3.1 b3.2
            obtain ⟨p4, q4⟩ := prod_bd n c2 (by omega) (by omega) b4.1 b4.2
            clear HF1 HF2 b1 b2 b3 b4
            go_wp2_with fail
            refine (sine_is k s1 HS1.out _ (by omega) (by omega)).mono ?_
            rintro r w1 ⟨rfl, x1⟩
            go_wp2_with fail
            refine (cosine_is k c1 HC1.out _ (by omega) (by omega)).mono ?_
            rintro r w2 ⟨rfl, x2⟩
            go_wp2_with fail
            refine (sine_is m s2 HS2.out _ (by omega) (by omega)).mono ?_
            rintro r w3 ⟨rfl, x3⟩
            go_wp2_with fail
            refine (cosine_is m c2 HC2.out _ (by omega) (by omega)).mono ?_
            rintro r w4 ⟨rfl, x4⟩
            have y1 := HB.out.trans (x1.mono HB.out.size)
            have y2 := y1.trans (x2.mono y1.size)
            have y3 := y2.trans (x3.mono y2.size)
            have HB4 := Lib.hid (y3.trans (x4.mono y3.size))
            clear x1 x2 x3 x4 y1 y2 y3
            by_cases hgt : e * s2 + n * c2 < e * s1 + n * c1
            · have HR := Lib.hid (show bst (fitB e n) (k + 1 - 1) = k by rw [HK.out, if_pos hgt])
              go_wp2_with fail
              go_roundw
              case rel => exact ⟨k + 1, by omega, by omega, by go_num, by rw [HR.out], HB4.out⟩
              case measure => simp [intOf]; omega
            · have HR := Lib.hid (show bst (fitB e n) (k + 1 - 1) = m by rw [HK.out, if_neg hgt])
              go_wp2_with fail
              go_roundw
              case rel => exact ⟨k + 1, by omega, by omega, by go_num, by rw [HR.out], HB4.out⟩
              case measure => simp [intOf]; omega
          · have HE := Lib.hid (show bestB e n = m by rw [← HM.out, bestB]; congr 1; omega)
            go_wp2_with fail
            go_ret2
            exact ⟨by rw [HA.out, HE.out]; rfl, HB.out⟩
    · have HA := Lib.hid (show ansBearing e n = .tuple #[.int .i64 0, .bool false] from if_neg (fun c => k c.2.1))
      have H1 := Lib.hid (band h.1 h.2)
      have H2 := Lib.hid (bout k)
      clear h k
      go_enter Tryd.func31, Tryd.ntmps31
      go_wp2_with fail
      refine (long_is _ true H1.out _).mono ?_
      rintro r w' ⟨rfl, rfl⟩
      go_wp2_with fail
      refine (long_is _ false H2.out _).mono ?_
      rintro r w' ⟨rfl, rfl⟩
      go_wp2_with fail
      go_ret2
      exact ⟨by rw [HA.out]; rfl, Below.refl _ _⟩
  · have HA := Lib.hid (show ansBearing e n = .tuple #[.int .i64 0, .bool false] from if_neg (fun c => h c.1))
    have H1 := Lib.hid (bout h)
    clear h
    go_enter Tryd.func31, Tryd.ntmps31
    go_wp2_with fail
    refine (long_is _ false H1.out _).mono ?_
    rintro r w' ⟨rfl, rfl⟩
    go_wp2_with fail
    go_ret2
    exact ⟨by rw [HA.out]; rfl, Below.refl _ _⟩
end Go.Proofs.YtekbiapgbhaibabDoor.ang
