/-
  The sines of the model, its rounded division (every chapter that reckons shifts).
  Conditions: those that each theorem names.
-/
import Derived.Test.YtnpghhpcloljeabGreatDoorReadsq
namespace Go.Proofs.YtnpghhpcloljeabGreatDoor.sn
open Go.RowKit
open reads base
set_option linter.unusedVariables false

theorem prod_bd (a s : Int) (a0 : -100000 ≤ a) (a1 : a ≤ 100000) (s0 : -1000 ≤ s) (s1 : s ≤ 1000) : -100000000 ≤ a * s ∧ a * s ≤ 100000000 := by
  have h : (a * s).natAbs ≤ 100000 * 1000 := by rw [Int.natAbs_mul]; exact Nat.mul_le_mul (by omega) (by omega)
  omega
def rdiv (a b : Int) : Int := if a < 0 then -((-2 * a + b) / (2 * b)) else (2 * a + b) / (2 * b)
theorem div_any (a b : Int) (w : World) (a0 : -1000000000 ≤ a) (a1 : a ≤ 1000000000) (b0 : 1 ≤ b) (b1 : b ≤ 1000000) :
    Calls Tryz.prog 168 #[.int .i64 a, .int .i64 b] w fun e w' => e = .returned (.int .i64 (rdiv a b)) ∧ w = w' := by
  by_cases h : a < 0
  · have HA := Lib.hid (show rdiv a b = -((-2 * a + b) / (2 * b)) from if_pos h)
    have q0 : 0 ≤ (-2 * a + b) / (2 * b) := Int.ediv_nonneg (by omega) (by omega)
    have q1 : (-2 * a + b) / (2 * b) ≤ 3000000000 := Int.le_trans (Int.ediv_le_self _ (by omega)) (by omega)
    have hb2 : ¬ 2 * b = 0 := by omega
    go_enter Tryz.func168, Tryz.ntmps168
    go_wp2_with fail
    go_ret
    exact ⟨by rw [HA.out]; rfl, rfl⟩
  · have HA := Lib.hid (show rdiv a b = (2 * a + b) / (2 * b) from if_neg h)
    have q0 : 0 ≤ (2 * a + b) / (2 * b) := Int.ediv_nonneg (by omega) (by omega)
    have q1 : (2 * a + b) / (2 * b) ≤ 3000000000 := Int.le_trans (Int.ediv_le_self _ (by omega)) (by omega)
    have hb2 : ¬ 2 * b = 0 := by omega
    go_enter Tryz.func168, Tryz.ntmps168
    go_wp2_with fail
    go_ret
    exact ⟨by rw [HA.out]; rfl, rfl⟩
def tbl : List Int := [0, 17, 35, 52, 70, 87, 105, 122, 139, 156, 174, 191, 208, 225, 242, 259, 276, 292, 309, 326, 342, 358, 375, 391, 407, 423, 438, 454, 469, 485,
  500, 515, 530, 545, 559, 574, 588, 602, 616, 629, 643, 656, 669, 682, 695, 707, 719, 731, 743, 755, 766, 777, 788, 799, 809, 819, 829, 839, 848, 857,
  866, 875, 883, 891, 899, 906, 914, 921, 927, 934, 940, 946, 951, 956, 961, 966, 970, 974, 978, 982, 985, 988, 990, 993, 995, 996, 998, 999, 999, 1000, 1000]
theorem tbl_len : tbl.length = 91 := rfl
theorem tbl_bd : ∀ v ∈ tbl, 0 ≤ v ∧ v ≤ 1000 := by decide
/-- the sine at a place of the table -/
def tat (k : Nat) : Int := tbl.getD k 0
theorem tat_bd (k : Nat) : 0 ≤ tat k ∧ tat k ≤ 1000 := by
  unfold tat
  rw [List.getD_eq_getElem?_getD]
  cases h : tbl[k]? with
  | none => simp
  | some v => exact tbl_bd v (List.mem_of_getElem? h)
/-- the sine within a turn -/
def sin0 (k : Nat) : Int := if k ≤ 90 then tat k else if k ≤ 180 then tat (180 - k) else if k ≤ 270 then - tat (k - 180) else - tat (360 - k)
/-- the sine of any angle -/
def sinZ (d : Int) : Int := sin0 (d % 360).toNat
def cosZ (d : Int) : Int := sinZ (d + 90)
theorem sin0_bd (k : Nat) : -1000 ≤ sin0 k ∧ sin0 k ≤ 1000 := by
  have a := tat_bd k
  have b := tat_bd (180 - k)
  have c := tat_bd (k - 180)
  have d := tat_bd (360 - k)
  unfold sin0
  split
  · omega
  · split
    · omega
    · split <;> omega
theorem sinZ_bd (d : Int) : -1000 ≤ sinZ d ∧ sinZ d ≤ 1000 := sin0_bd _
theorem cosZ_bd (d : Int) : -1000 ≤ cosZ d ∧ cosZ d ≤ 1000 := sin0_bd _
def TPost (w : World) (e : Ending) (w' : World) : Prop :=
  ∃ g, e = .returned (.slice (some ⟨g, 0, none⟩) 91 91) ∧ (∀ k, k < 91 → w'.cell? ⟨g, k, none⟩ = some (.int .i64 (tat k))) ∧ Below w.heap.size w w'
set_option maxHeartbeats 4000000 in
set_option maxRecDepth 100000 in
theorem table_any (w : World) : Calls Tryz.prog 176 #[] w (TPost w) := by
  go_enter Tryz.func176, Tryz.ntmps176
  go_wp2_with fail
  go_ret
  refine ⟨w.heap.size, rfl, fun k hk => ?_, (Below.refl _ w).alloc (Nat.le_refl _) _⟩
  have h := (Blk.new w 3 (tbl.map (Value.int .i64)).toArray).cell k
  refine Eq.trans h ?_
  have hk' : k < tbl.length := by rw [tbl_len]; exact hk
  simp [tat, List.getD_eq_getElem?_getD, List.getElem?_eq_getElem hk']

/-- an answer, memory left to the caller -/
def IPost (v : Int) (w : World) (e : Ending) (w' : World) : Prop := e = .returned (.int .i64 v) ∧ Below w.heap.size w w'
theorem sine_any (d : Int) (w : World) (h0 : -1000000 ≤ d) (h1 : d ≤ 1000000) :
    Calls Tryz.prog 170 #[.int .i64 d] w (IPost (sinZ d) w) := by
  obtain ⟨k, hk⟩ : ∃ k : Nat, (d % 360).toNat = k := ⟨_, rfl⟩
  have hk1 : k < 360 := by omega
  have ht0 : -360 < d.tmod 360 := Int.lt_tmod_of_pos d (by decide)
  have ht1 : d.tmod 360 < 360 := Int.tmod_lt_of_pos d (by decide)
  have hd : (d.tmod 360 + 360) % 360 = (k : Int) := by have := Int.tmod_def d 360; omega
  have HS := Lib.hid (show sinZ d = sin0 k by unfold sinZ; rw [hk])
  clear hk
  by_cases c1 : k ≤ 90
  · have HC := Lib.hid (show sin0 k = tat k by unfold sin0; rw [if_pos c1])
    go_enter Tryz.func170, Tryz.ntmps170
    go_wp2_with fail
    refine (table_any _).mono ?_
    rintro e w1 ⟨g, rfl, hc, hb⟩
    have hc' := hc k (by omega)
    have HB := Lib.hid hb
    clear hc hb
    go_wp2_with fail
    go_ret
    exact ⟨by rw [HS.out, HC.out]; rfl, HB.out⟩
  by_cases c2 : k ≤ 180
  · have HC := Lib.hid (show sin0 k = tat (180 - k) by unfold sin0; rw [if_neg c1, if_pos c2])
    have hi : (180 : Int) - (k : Int) = ((180 - k : Nat) : Int) := by omega
    go_enter Tryz.func170, Tryz.ntmps170
    go_wp2_with fail
    refine (table_any _).mono ?_
    rintro e w1 ⟨g, rfl, hc, hb⟩
    have hc' := hc (180 - k) (by omega)
    have HB := Lib.hid hb
    clear hc hb
    go_wp2_with fail
    go_ret
    exact ⟨by rw [HS.out, HC.out]; rfl, HB.out⟩
  by_cases c3 : k ≤ 270
  · have HC := Lib.hid (show sin0 k = - tat (k - 180) by unfold sin0; rw [if_neg c1, if_neg c2, if_pos c3])
    have hi : (k : Int) - 180 = ((k - 180 : Nat) : Int) := by omega
    have hq := tat_bd (k - 180)
    go_enter Tryz.func170, Tryz.ntmps170
    go_wp2_with fail
    refine (table_any _).mono ?_
    rintro e w1 ⟨g, rfl, hc, hb⟩
    have hc' := hc (k - 180) (by omega)
    have HB := Lib.hid hb
    clear hc hb
    go_wp2_with fail
    go_ret
    exact ⟨by rw [HS.out, HC.out]; rfl, HB.out⟩
  · have HC := Lib.hid (show sin0 k = - tat (360 - k) by unfold sin0; rw [if_neg c1, if_neg c2, if_neg c3])
    have hi : (360 : Int) - (k : Int) = ((360 - k : Nat) : Int) := by omega
    have hq := tat_bd (360 - k)
    go_enter Tryz.func170, Tryz.ntmps170
    go_wp2_with fail
    refine (table_any _).mono ?_
    rintro e w1 ⟨g, rfl, hc, hb⟩
    have hc' := hc (360 - k) (by omega)
    have HB := Lib.hid hb
    clear hc hb
    go_wp2_with fail
    go_ret
    exact ⟨by rw [HS.out, HC.out]; rfl, HB.out⟩
theorem sine_is (d v : Int) (h : sinZ d = v) (w : World) (h0 : -1000000 ≤ d) (h1 : d ≤ 1000000) :
    Calls Tryz.prog 170 #[.int .i64 d] w (IPost v w) := by rw [← h]; exact sine_any d w h0 h1
theorem cosine_is (d v : Int) (h : cosZ d = v) (w : World) (h0 : -100000 ≤ d) (h1 : d ≤ 100000) :
    Calls Tryz.prog 169 #[.int .i64 d] w (IPost v w) := by
  have H := Lib.hid (show sinZ (d + 90) = v from h)
  clear h
  go_enter Tryz.func169, Tryz.ntmps169
  go_wp2_with fail
  refine (sine_is (d + 90) v H.out _ (by omega) (by omega)).mono ?_
  rintro e w1 ⟨rfl, hb⟩
  have HB := Lib.hid hb
  clear hb
  go_wp2_with fail
  go_ret
  exact ⟨rfl, HB.out⟩
end Go.Proofs.YtnpghhpcloljeabGreatDoor.sn
