/-
  The exact laws' helpers at people: marks laid and held.
  Conditions: none but those that a theorem names.
-/
import Derived.Test.YtidofckanadkpaaTyPs
import Derived.Test.YtidofckanadkpaaMarkT
import Derived.Deep.RegionHeld3
import Derived.Deep.Cut
namespace Go.Proofs.Ytidofckanadkpaa.ty
open Go.ChangeShapes Go.WideShapes Go.RowKit Go.Deep
open reads base
set_option linter.unusedVariables false
set_option linter.unusedSimpArgs false
set_option maxRecDepth 100000

/-- what a mark lays at cell i -/
def mkvPs (k : Nat) (i : Nat) : Value := if i % 4 = 1 then .string (mkt.mk (k + i)) else .int .i64 ((k + i : Nat) : Int)
theorem mkv0 (k j : Nat) : mkvPs k (j * 4) = .int .i64 ((k + j * 4 : Nat) : Int) := by unfold mkvPs; rw [if_neg (by omega)]
theorem mkv1 (k j : Nat) : mkvPs k (j * 4 + 1) = .string (mkt.mk (k + (j * 4 + 1))) := by unfold mkvPs; rw [if_pos (by omega)]
theorem mkv2 (k j : Nat) : mkvPs k (j * 4 + 2) = .int .i64 ((k + (j * 4 + 2) : Nat) : Int) := by unfold mkvPs; rw [if_neg (by omega)]
theorem mkv3 (k j : Nat) : mkvPs k (j * 4 + 3) = .int .i64 ((k + (j * 4 + 3) : Nat) : Int) := by unfold mkvPs; rw [if_neg (by omega)]
set_option maxHeartbeats 4000000 in
theorem mark_personN (base n : Nat) (v : Value) (xs : List Value) (k : Nat) (w : World) (hn : n ≤ 2000000) (k0 : 1 ≤ k) (k1 : k ≤ 1000) (h : Hid (w.ownsRow base 41 4 v n xs)) :
    Calls Try.prog 48 #[v, .int .i64 k] w fun e w' => e = .returned (.int .i64 ((k + 4 * n : Nat) : Int)) ∧ w'.ownsRow base 41 4 v n ((List.range (n * 4)).map (mkvPs k)) ∧ w.grownBy w' v.ownBlock := by
  have HL := Lib.hid (show xs.length = n * 4 from h.out.1)
  obtain ⟨A, c, rfl⟩ := row_slice h.out
  go_enter Try.func48, Try.ntmps48
  go_wp2_with fail
  go_loopw [1, 5] (fun q i wr => ∃ j m : Nat, j ≤ n ∧ i = .int .i64 j ∧ q = .int .i64 m ∧ 1 ≤ m ∧ m ≤ 9000000 ∧ Hid (m = k + j * 4) ∧ Hid (wr.ownsRow base 41 4 (.slice A n c) n (over (mkvPs k) (j * 4) xs)) ∧ Hid (w.grownBy wr (Value.slice A n c).ownBlock)) (fun _ i _ => n - (intOf i).toNat)
  case atStart => exact ⟨0, k, Nat.zero_le _, rfl, rfl, k0, by omega, Lib.hid (by omega), Lib.hid (by rw [Nat.zero_mul, over_zero]; exact h.out), Lib.hid (World.grownBy.refl w _)⟩
  case round =>
    obtain ⟨j, m, hj, rfl, rfl, m0, m1, HM, HO, HG⟩ := hrel
    by_cases hlt : j < n
    · obtain ⟨g, cap, hv, -, -⟩ := HO.out.form (by omega)
      injection hv with hA _ hc
      subst hA hc
      obtain ⟨u0, q0⟩ : ∃ u, wr.cell? ⟨g, j * 4, none⟩ = some u := ⟨_, (HO.out.cellAt (j * 4) (by omega)).trans (List.getElem?_eq_getElem (by rw [over_len _ _ _ (by rw [HL.out]; omega), HL.out]; omega))⟩
      have f0 := HO.out.frozenAt (j * 4)
      have HO1 := Lib.hid (HO.out.stored (j * 4) (.int .i64 (m : Int))).1
      have HG1 := Lib.hid (grown_set HG.out (j * 4) (.int .i64 (m : Int)))
      have hji : (j : Int) < (n : Int) := by omega
      have hj0 : 0 ≤ (j : Int) := by omega
      have hjd : decide (j < n) = true := by simpa using hlt
      go_upto_region 6 with fail
      obtain ⟨W1, HW1⟩ : ∃ W1, Hid (wr.setCell ⟨g, j * 4, none⟩ (.int .i64 (m : Int)) = W1) := ⟨_, Lib.hid rfl⟩
      rw [HW1.out] at HO1 HG1 ⊢
      clear q0 f0 HW1
      go_wp2_with fail
      refine (mkt.mark_any (m + 1) _ (by omega) (by omega)).mono ?_
      rintro e w2 ⟨rfl, b2⟩
      have HO2 := Lib.hid (row_below HO1.out b2)
      have HG2 := Lib.hid (show w.grownBy w2 (some g) from ⟨b2.os.trans HG1.out.os, b2.tape.trans HG1.out.tape, b2.output.trans HG1.out.output, Nat.le_trans HG1.out.size b2.size, fun i hi hne => (b2.block i (Nat.lt_of_lt_of_le hi HG1.out.size)).trans (HG1.out.block i hi hne)⟩)
      clear b2
      have hl2 : ((over (mkvPs k) (j * 4) xs).set (j * 4) (.int .i64 (m : Int))).length = n * 4 := by rw [List.length_set, over_len _ _ _ (by rw [HL.out]; omega), HL.out]
      obtain ⟨u1, q1⟩ : ∃ u, w2.cell? ⟨g, j * 4 + 1, none⟩ = some u := ⟨_, (HO2.out.cellAt (j * 4 + 1) (by omega)).trans (List.getElem?_eq_getElem (by rw [hl2]; omega))⟩
      have f1 := HO2.out.frozenAt (j * 4 + 1)
      obtain ⟨u2, q2⟩ : ∃ u, w2.cell? ⟨g, j * 4 + 2, none⟩ = some u := ⟨_, (HO2.out.cellAt (j * 4 + 2) (by omega)).trans (List.getElem?_eq_getElem (by rw [hl2]; omega))⟩
      have f2 := HO2.out.frozenAt (j * 4 + 2)
      obtain ⟨u3, q3⟩ : ∃ u, w2.cell? ⟨g, j * 4 + 3, none⟩ = some u := ⟨_, (HO2.out.cellAt (j * 4 + 3) (by omega)).trans (List.getElem?_eq_getElem (by rw [hl2]; omega))⟩
      have f3 := HO2.out.frozenAt (j * 4 + 3)
      have HO3 := (((HO2.out.stored (j * 4 + 1) (.string (mkt.mk (m + 1)))).1.stored (j * 4 + 2) (.int .i64 ((m : Int) + 1 + 1))).1.stored (j * 4 + 3) (.int .i64 ((m : Int) + 1 + 1 + 1))).1
      have e0 := over_set (mkvPs k) (j * 4) xs (by rw [HL.out]; omega)
      have e1 := over_set (mkvPs k) (j * 4 + 1) xs (by rw [HL.out]; omega)
      have e2 := over_set (mkvPs k) (j * 4 + 2) xs (by rw [HL.out]; omega)
      have e3 := over_set (mkvPs k) (j * 4 + 3) xs (by rw [HL.out]; omega)
      have hl : ((((over (mkvPs k) (j * 4) xs).set (j * 4) (.int .i64 (m : Int))).set (j * 4 + 1) (.string (mkt.mk (m + 1)))).set (j * 4 + 2) (.int .i64 ((m : Int) + 1 + 1))).set (j * 4 + 3) (.int .i64 ((m : Int) + 1 + 1 + 1)) = over (mkvPs k) ((j + 1) * 4) xs := by
        have hm := HM.out
        rw [show Value.int .i64 (m : Int) = mkvPs k (j * 4) by rw [mkv0, hm], e0]
        rw [show Value.string (mkt.mk (m + 1)) = mkvPs k (j * 4 + 1) by rw [mkv1, hm, Nat.add_assoc], e1]
        rw [show Value.int .i64 ((m : Int) + 1 + 1) = mkvPs k (j * 4 + 2) by rw [mkv2, hm]; congr 1, e2]
        rw [show Value.int .i64 ((m : Int) + 1 + 1 + 1) = mkvPs k (j * 4 + 3) by rw [mkv3, hm]; congr 1, e3]
        rw [show (j + 1) * 4 = j * 4 + 4 by omega]
      rw [hl] at HO3
      have HO4 := Lib.hid HO3
      clear HO3 hl hl2 e0 e1 e2 e3
      go_wp2_with fail
      go_roundw
      case rel => exact ⟨j + 1, m + 4, by omega, by go_num, by go_num, by omega, by have := HM.out; omega, Lib.hid (by have := HM.out; omega), HO4, Lib.hid (grown_set (grown_set (grown_set HG2.out _ _) _ _) _ _)⟩
      case measure => simp [intOf]; omega
    · have hjd : decide (j < n) = false := by simpa using hlt
      obtain rfl : j = n := by omega
      have HO2 := Lib.hid (show wr.ownsRow base 41 4 (.slice A j c) j ((List.range (j * 4)).map (mkvPs k)) by have := HO.out; rwa [over_all _ _ _ HL.out] at this)
      have HF := Lib.hid (show (m : Int) = ((k + 4 * j : Nat) : Int) by have := HM.out; omega)
      clear hlt
      go_wp2_with fail
      go_ret
      exact ⟨by rw [← HF.out]; rfl, HO2.out, HG.out⟩
theorem mark_personS (base n : Nat) (v : Value) (xs : List Value) (k : Int) (w : World) (hn : n ≤ 2000000) (k0 : 1 ≤ k) (k1 : k ≤ 1000) (h : Hid (w.ownsRow base 41 4 v n xs)) :
    Calls Try.prog 48 #[v, .int .i64 k] w fun e w' => e = .returned (.int .i64 (k + 4 * (n : Int))) ∧ w'.ownsRow base 41 4 v n ((List.range (n * 4)).map (mkvPs k.toNat)) ∧ w.grownBy w' v.ownBlock := by
  have e : k = (k.toNat : Int) := by omega
  have := mark_personN base n v xs k.toNat w hn (by omega) (by omega) h
  rw [← e] at this
  refine this.mono ?_
  rintro e1 w' ⟨rfl, h2, h3⟩
  refine ⟨?_, h2, h3⟩
  congr 2
  omega
#print axioms mark_personS
end Go.Proofs.Ytidofckanadkpaa.ty
