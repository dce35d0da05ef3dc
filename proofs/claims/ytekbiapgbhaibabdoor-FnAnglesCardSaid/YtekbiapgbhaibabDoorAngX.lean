/-
  What the laws of the angles ask of the answers: signs, quarter turns, rounding, turns, slopes.
  Conditions: none but those that a theorem names.
-/
import Derived.Test.YtekbiapgbhaibabDoorAngS
namespace Go.Proofs.YtekbiapgbhaibabDoor.ang
set_option linter.unusedVariables false

theorem sin0_neg : ∀ k : Fin 360, sin0 ((360 - k.val) % 360) = - sin0 k.val := by decide +kernel
theorem sin0_sum : ∀ k : Fin 360, 998000 ≤ sin0 k.val * sin0 k.val + sin0 ((k.val + 90) % 360) * sin0 ((k.val + 90) % 360) ∧ sin0 k.val * sin0 k.val + sin0 ((k.val + 90) % 360) * sin0 ((k.val + 90) % 360) ≤ 1002000 := by decide +kernel
theorem sin0_pos : ∀ k : Fin 91, 1 ≤ k.val → 0 < sin0 k.val := by decide +kernel
theorem cos_top : ∀ k : Fin 360, sin0 k.val ≤ 1000 := by decide +kernel
theorem sinZ_neg (d : Int) : sinZ (-d) = - sinZ d := by
  have h := sin0_neg ⟨(d % 360).toNat, by omega⟩
  have e : ((-d) % 360).toNat = (360 - (d % 360).toNat) % 360 := by omega
  unfold sinZ
  rw [e]; exact h
theorem sinZ_turn (d : Int) : sinZ (d + 360) = sinZ d := by
  unfold sinZ
  rw [show (d + 360) % 360 = d % 360 by omega]
theorem sum_near (d : Int) : 998000 ≤ sinZ d * sinZ d + cosZ d * cosZ d ∧ sinZ d * sinZ d + cosZ d * cosZ d ≤ 1002000 := by
  have h := sin0_sum ⟨(d % 360).toNat, by omega⟩
  have e : ((d + 90) % 360).toNat = ((d % 360).toNat + 90) % 360 := by omega
  unfold cosZ sinZ
  rw [e]; exact h
theorem sinZ_nat (k : Nat) (h : k < 360) : sinZ (k : Int) = sin0 k := by
  unfold sinZ
  rw [show ((k : Int) % 360).toNat = k by omega]
theorem sinZ_pos (s : Nat) (h0 : 1 ≤ s) (h1 : s ≤ 90) : 0 < sinZ (s : Int) := by
  rw [sinZ_nat s (by omega)]; exact sin0_pos ⟨s, by omega⟩ h0
theorem cosZ_neg (s : Int) (h0 : -90 ≤ s) (h1 : s ≤ 90) : cosZ (-s) = cosZ s := by
  rcases Int.le_total 0 s with h | h
  · have e := cos_even ⟨s.toNat, by omega⟩
    have q : ((s.toNat : Nat) : Int) = s := by omega
    simp only [q] at e
    exact e
  · have e := cos_even ⟨(-s).toNat, by omega⟩
    have q : (((-s).toNat : Nat) : Int) = -s := by omega
    simp only [q, Int.neg_neg] at e
    exact e.symm

theorem rdiv_eq (a b : Int) (hb : 1 ≤ b) (ha : 0 ≤ a) : rdiv a b = (2 * a + b) / (2 * b) := by unfold rdiv; rw [if_neg (by omega)]
theorem rdiv_neg (a b : Int) (hb : 1 ≤ b) : rdiv (-a) b = - rdiv a b := by
  unfold rdiv
  rcases Int.lt_trichotomy a 0 with h | h | h
  · rw [if_neg (by omega), if_pos h, Int.neg_neg]
    congr 1; omega
  · subst h
    have : (2 * 0 + b) / (2 * b) = 0 := Int.ediv_eq_zero_of_lt (by omega) (by omega)
    simp only [Int.neg_zero, Int.lt_irrefl, if_false, this]
  · rw [if_pos (by omega), if_neg (by omega)]
    congr 2; omega
theorem rdiv_near0 (a b : Int) (hb : 1 ≤ b) (ha : 0 ≤ a) : -b ≤ 2 * (rdiv a b * b - a) ∧ 2 * (rdiv a b * b - a) ≤ b := by
  rw [rdiv_eq a b hb ha]
  have h1 := Int.mul_ediv_add_emod (2 * a + b) (2 * b)
  have h2 := Int.emod_nonneg (2 * a + b) (show 2 * b ≠ 0 by omega)
  have h3 := Int.emod_lt_of_pos (2 * a + b) (show 0 < 2 * b by omega)
  have h4 : 2 * b * ((2 * a + b) / (2 * b)) = 2 * ((2 * a + b) / (2 * b) * b) := by rw [Int.mul_assoc, Int.mul_comm b]
  omega
theorem rdiv_near (a b : Int) (hb : 1 ≤ b) : -b ≤ 2 * (rdiv a b * b - a) ∧ 2 * (rdiv a b * b - a) ≤ b := by
  rcases Int.le_total 0 a with h | h
  · exact rdiv_near0 a b hb h
  · have k := rdiv_near0 (-a) b hb (by omega)
    rw [rdiv_neg a b hb, Int.neg_mul] at k
    omega
theorem turn_sym (a b : Int) : turn a b = turn b a ∨ ((a - b) % 360 = 0) := by unfold turn; split <;> split <;> omega
theorem turn_bd (a b : Int) : 0 ≤ turn a b ∧ turn a b ≤ 180 := by unfold turn; split <;> omega
theorem turn_comm (a b : Int) : turn a b = turn b a := by unfold turn; split <;> split <;> omega
theorem turn_back (a : Int) : turn a ((a + 180) % 360) = 180 := by unfold turn; split <;> omega
theorem back_back (a : Int) (h0 : 0 ≤ a) (h1 : a ≤ 359) : ((a + 180) % 360 + 180) % 360 = a := by omega

/-- the place of the opposite slope -/
def sw (i : Nat) : Nat := if i = 0 then 0 else if i % 2 = 1 then i + 1 else i - 1
theorem cand_sw (i : Nat) : cand (sw i) = - cand i := by unfold cand sw; split <;> (try split) <;> (try split) <;> omega
theorem sw_sw (i : Nat) : sw (sw i) = i := by unfold sw; split <;> (try split) <;> (try split) <;> (try split) <;> omega
theorem sw_le (i : Nat) (h : i ≤ 180) : sw i ≤ 180 := by unfold sw; split <;> (try split) <;> omega
theorem fit_sw (l u : Int) (i : Nat) (h : i ≤ 180) : fitS l (-u) i = fitS l u (sw i) := by
  have hb := cand_bd i h
  unfold fitS
  rw [cand_sw, sinZ_neg, cosZ_neg _ hb.1 hb.2, Int.neg_mul, Int.mul_neg]
theorem best_zero (l : Int) (hl : 0 ≤ l) : bst (fitS l 0) 180 = 0 := by
  refine bst_uniq _ _ _ (by decide) (fun j hj => ?_) (fun j hj => by omega)
  unfold fitS
  have e : cosZ (cand 0) = 1000 := by decide +kernel
  have hb := (cosZ_bd (cand j)).2
  rw [e, Int.zero_mul, Int.zero_mul, Int.add_zero, Int.add_zero]
  exact Int.mul_le_mul_of_nonneg_left hb hl
theorem best_opp (l u : Int) (hl : 0 < l) : bst (fitS l (-u)) 180 = sw (bst (fitS l u) 180) := by
  by_cases hu : u = 0
  · subst hu
    rw [Int.neg_zero, best_zero l (by omega)]; rfl
  obtain ⟨k1, k2⟩ := bst_spec (fitS l u) 180
  have hm := bst_le (fitS l u) 180
  generalize bst (fitS l u) 180 = m at k1 k2 hm
  refine bst_uniq _ _ _ (sw_le m hm) (fun j hj => ?_) (fun j hj => ?_)
  · rw [fit_sw l u j hj, fit_sw l u _ (sw_le m hm), sw_sw]
    exact k1 _ (sw_le j hj)
  · have hj8 : j ≤ 180 := by have := sw_le m hm; omega
    rw [fit_sw l u j hj8, fit_sw l u _ (sw_le m hm), sw_sw]
    by_cases hc : sw j < m
    · exact k2 _ hc
    · have h1 : m % 2 = 1 ∧ j = m := by
        unfold sw at hj hc
        split at hj <;> (try split at hj) <;> split at hc <;> (try split at hc) <;> omega
      obtain ⟨hm1, rfl⟩ := h1
      have h2 := k1 (sw j) (sw_le j hm)
      rcases Int.lt_or_eq_of_le h2 with h3 | h3
      · exact h3
      · exfalso
        have hb := cand_bd j hm
        have hcj : cand j = (((j + 1) / 2 : Nat) : Int) := by unfold cand; rw [if_pos hm1]
        have hs := sinZ_pos ((j + 1) / 2) (by omega) (by omega)
        unfold fitS at h3
        rw [cand_sw, sinZ_neg, cosZ_neg _ hb.1 hb.2, Int.mul_neg, hcj] at h3
        have h4 : u * sinZ (((j + 1) / 2 : Nat) : Int) = 0 := by omega
        rcases Int.mul_eq_zero.1 h4 with h5 | h5
        · exact hu h5
        · omega
theorem bestS_opp (l u : Int) (hl : 0 < l) : bestS l (-u) = - bestS l u := by
  unfold bestS
  rw [best_opp l u hl, cand_sw]
theorem bestS_bd (l u : Int) : -90 ≤ bestS l u ∧ bestS l u ≤ 90 := cand_bd _ (bst_le _ _)
end Go.Proofs.YtekbiapgbhaibabDoor.ang
