/-
  The exact laws' helpers at entries: marks laid and held.
  Conditions: none but those that a theorem names.
-/
import Derived.Test.YtnlljdepcldibaaDoorTyEn
namespace Go.Proofs.YtnlljdepcldibaaDoor.ty
open Go.ChangeShapes Go.WideShapes Go.RowKit Go.Deep
open reads base
set_option linter.unusedVariables false
set_option linter.unusedSimpArgs false
set_option maxRecDepth 100000

/-- what a mark lays at cell i -/
def mkvEn (k : Nat) (i : Nat) : Value := if i % 6 = 5 then .bool (decide (((k + i : Nat) : Int) % 3 = 0)) else .int .i64 ((k + i : Nat) : Int)
theorem mkvEn0 (k j : Nat) : mkvEn k (j * 6) = .int .i64 ((k + (j * 6) : Nat) : Int) := by unfold mkvEn; rw [if_neg (by omega)]
theorem mkvEn1 (k j : Nat) : mkvEn k (j * 6 + 1) = .int .i64 ((k + (j * 6 + 1) : Nat) : Int) := by unfold mkvEn; rw [if_neg (by omega)]
theorem mkvEn2 (k j : Nat) : mkvEn k (j * 6 + 2) = .int .i64 ((k + (j * 6 + 2) : Nat) : Int) := by unfold mkvEn; rw [if_neg (by omega)]
theorem mkvEn3 (k j : Nat) : mkvEn k (j * 6 + 3) = .int .i64 ((k + (j * 6 + 3) : Nat) : Int) := by unfold mkvEn; rw [if_neg (by omega)]
theorem mkvEn4 (k j : Nat) : mkvEn k (j * 6 + 4) = .int .i64 ((k + (j * 6 + 4) : Nat) : Int) := by unfold mkvEn; rw [if_neg (by omega)]
theorem mkvEn5 (k j : Nat) : mkvEn k (j * 6 + 5) = .bool (decide (((k + (j * 6 + 5) : Nat) : Int) % 3 = 0)) := by unfold mkvEn; rw [if_pos (by omega)]
set_option maxHeartbeats 4000000 in
theorem mark_entryN (base n : Nat) (v : Value) (xs : List Value) (k : Nat) (w : World) (hn : n ≤ 2000000) (k0 : 1 ≤ k) (k1 : k ≤ 1000) (h : Hid (w.ownsRow base 26 6 v n xs)) :
    Calls Tryd.prog 20 #[v, .int .i64 k] w fun e w' => e = .returned (.int .i64 ((k + 6 * n : Nat) : Int)) ∧ w'.ownsRow base 26 6 v n ((List.range (n * 6)).map (mkvEn k)) ∧ w.grownBy w' v.ownBlock := by
  have HL := Lib.hid (show xs.length = n * 6 from h.out.1)
  obtain ⟨A, c, rfl⟩ := row_slice h.out
  go_enter Tryd.func20, Tryd.ntmps20
  go_wp2_with fail
  go_loopw [1, 5] (fun q i wr => ∃ j m : Nat, j ≤ n ∧ i = .int .i64 j ∧ q = .int .i64 m ∧ 1 ≤ m ∧ m ≤ 13000000 ∧ Hid (m = k + j * 6) ∧ Hid (wr.ownsRow base 26 6 (.slice A n c) n (over (mkvEn k) (j * 6) xs)) ∧ Hid (w.grownBy wr (Value.slice A n c).ownBlock)) (fun _ i _ => n - (intOf i).toNat)
  case atStart => exact ⟨0, k, Nat.zero_le _, rfl, rfl, k0, by omega, Lib.hid (by omega), Lib.hid (by rw [Nat.zero_mul, over_zero]; exact h.out), Lib.hid (World.grownBy.refl w _)⟩
  case round =>
    obtain ⟨j, m, hj, rfl, rfl, m0, m1, HM, HO, HG⟩ := hrel
    by_cases hlt : j < n
    · obtain ⟨g, cap, hv, -, -⟩ := HO.out.form (by omega)
      injection hv with hA _ hc
      subst hA hc
      obtain ⟨u0, q0⟩ : ∃ u, wr.cell? ⟨g, j * 6, none⟩ = some u := ⟨_, (HO.out.cellAt (j * 6) (by omega)).trans (List.getElem?_eq_getElem (by rw [over_len _ _ _ (by rw [HL.out]; omega), HL.out]; omega))⟩
      have f0 := HO.out.frozenAt (j * 6)
      obtain ⟨u1, q1⟩ : ∃ u, wr.cell? ⟨g, j * 6 + 1, none⟩ = some u := ⟨_, (HO.out.cellAt (j * 6 + 1) (by omega)).trans (List.getElem?_eq_getElem (by rw [over_len _ _ _ (by rw [HL.out]; omega), HL.out]; omega))⟩
      have f1 := HO.out.frozenAt (j * 6 + 1)
      obtain ⟨u2, q2⟩ : ∃ u, wr.cell? ⟨g, j * 6 + 2, none⟩ = some u := ⟨_, (HO.out.cellAt (j * 6 + 2) (by omega)).trans (List.getElem?_eq_getElem (by rw [over_len _ _ _ (by rw [HL.out]; omega), HL.out]; omega))⟩
      have f2 := HO.out.frozenAt (j * 6 + 2)
      obtain ⟨u3, q3⟩ : ∃ u, wr.cell? ⟨g, j * 6 + 3, none⟩ = some u := ⟨_, (HO.out.cellAt (j * 6 + 3) (by omega)).trans (List.getElem?_eq_getElem (by rw [over_len _ _ _ (by rw [HL.out]; omega), HL.out]; omega))⟩
      have f3 := HO.out.frozenAt (j * 6 + 3)
      obtain ⟨u4, q4⟩ : ∃ u, wr.cell? ⟨g, j * 6 + 4, none⟩ = some u := ⟨_, (HO.out.cellAt (j * 6 + 4) (by omega)).trans (List.getElem?_eq_getElem (by rw [over_len _ _ _ (by rw [HL.out]; omega), HL.out]; omega))⟩
      have f4 := HO.out.frozenAt (j * 6 + 4)
      obtain ⟨u5, q5⟩ : ∃ u, wr.cell? ⟨g, j * 6 + 5, none⟩ = some u := ⟨_, (HO.out.cellAt (j * 6 + 5) (by omega)).trans (List.getElem?_eq_getElem (by rw [over_len _ _ _ (by rw [HL.out]; omega), HL.out]; omega))⟩
      have f5 := HO.out.frozenAt (j * 6 + 5)
      have HO2 := ((((((HO.out.stored (j * 6) (.int .i64 ((m : Int)))).1.stored (j * 6 + 1) (.int .i64 ((m : Int) + 1))).1.stored (j * 6 + 2) (.int .i64 ((m : Int) + 1 + 1))).1.stored (j * 6 + 3) (.int .i64 ((m : Int) + 1 + 1 + 1))).1.stored (j * 6 + 4) (.int .i64 ((m : Int) + 1 + 1 + 1 + 1))).1.stored (j * 6 + 5) (.bool (decide (((m : Int) + 1 + 1 + 1 + 1 + 1) % 3 = 0)))).1
      have e0 := over_set (mkvEn k) (j * 6) xs (by rw [HL.out]; omega)
      have e1 := over_set (mkvEn k) (j * 6 + 1) xs (by rw [HL.out]; omega)
      have e2 := over_set (mkvEn k) (j * 6 + 2) xs (by rw [HL.out]; omega)
      have e3 := over_set (mkvEn k) (j * 6 + 3) xs (by rw [HL.out]; omega)
      have e4 := over_set (mkvEn k) (j * 6 + 4) xs (by rw [HL.out]; omega)
      have e5 := over_set (mkvEn k) (j * 6 + 5) xs (by rw [HL.out]; omega)
      have hl : ((((((over (mkvEn k) (j * 6) xs).set (j * 6) (.int .i64 ((m : Int)))).set (j * 6 + 1) (.int .i64 ((m : Int) + 1))).set (j * 6 + 2) (.int .i64 ((m : Int) + 1 + 1))).set (j * 6 + 3) (.int .i64 ((m : Int) + 1 + 1 + 1))).set (j * 6 + 4) (.int .i64 ((m : Int) + 1 + 1 + 1 + 1))).set (j * 6 + 5) (.bool (decide (((m : Int) + 1 + 1 + 1 + 1 + 1) % 3 = 0))) = over (mkvEn k) ((j + 1) * 6) xs := by
        have hm := HM.out
        rw [show Value.int .i64 ((m : Int)) = mkvEn k (j * 6) by rw [mkvEn0, hm], e0]
        rw [show Value.int .i64 ((m : Int) + 1) = mkvEn k (j * 6 + 1) by rw [mkvEn1, hm]; congr 1, e1]
        rw [show Value.int .i64 ((m : Int) + 1 + 1) = mkvEn k (j * 6 + 2) by rw [mkvEn2, hm]; congr 1, e2]
        rw [show Value.int .i64 ((m : Int) + 1 + 1 + 1) = mkvEn k (j * 6 + 3) by rw [mkvEn3, hm]; congr 1, e3]
        rw [show Value.int .i64 ((m : Int) + 1 + 1 + 1 + 1) = mkvEn k (j * 6 + 4) by rw [mkvEn4, hm]; congr 1, e4]
        rw [show Value.bool (decide (((m : Int) + 1 + 1 + 1 + 1 + 1) % 3 = 0)) = mkvEn k (j * 6 + 5) by rw [mkvEn5, hm, show ((k + (j * 6 + 5) : Nat) : Int) = ((k + j * 6 : Nat) : Int) + 1 + 1 + 1 + 1 + 1 by push_cast; omega], e5]
        rw [show (j + 1) * 6 = j * 6 + 6 by omega]
      rw [hl] at HO2
      have HO3 := Lib.hid HO2
      clear HO2 hl e0 e1 e2 e3 e4 e5
      have hji : (j : Int) < (n : Int) := by omega
      have hj0 : 0 ≤ (j : Int) := by omega
      have hjd : decide (j < n) = true := by simpa using hlt
      have hm5 : 0 ≤ (m : Int) + 1 + 1 + 1 + 1 + 1 := by omega
      go_wp2_with fail
      go_roundw
      case rel => exact ⟨j + 1, m + 6, by omega, by go_num, by go_num, by omega, by have := HM.out; omega, Lib.hid (by have := HM.out; omega), HO3, Lib.hid (grown_set (grown_set (grown_set (grown_set (grown_set (grown_set (HG.out) _ _) _ _) _ _) _ _) _ _) _ _)⟩
      case measure => simp [intOf]; omega
    · have hjd : decide (j < n) = false := by simpa using hlt
      obtain rfl : j = n := by omega
      have HO2 := Lib.hid (show wr.ownsRow base 26 6 (.slice A j c) j ((List.range (j * 6)).map (mkvEn k)) by have := HO.out; rwa [over_all _ _ _ HL.out] at this)
      have HF := Lib.hid (show (m : Int) = ((k + 6 * j : Nat) : Int) by have := HM.out; omega)
      clear hlt
      go_wp2_with fail
      go_ret
      exact ⟨by rw [← HF.out]; rfl, HO2.out, HG.out⟩
theorem mark_entryS (base n : Nat) (v : Value) (xs : List Value) (k : Int) (w : World) (hn : n ≤ 2000000) (k0 : 1 ≤ k) (k1 : k ≤ 1000) (h : Hid (w.ownsRow base 26 6 v n xs)) :
    Calls Tryd.prog 20 #[v, .int .i64 k] w fun e w' => e = .returned (.int .i64 (k + 6 * (n : Int))) ∧ w'.ownsRow base 26 6 v n ((List.range (n * 6)).map (mkvEn k.toNat)) ∧ w.grownBy w' v.ownBlock := by
  have e : k = (k.toNat : Int) := by omega
  have h2 := mark_entryN base n v xs k.toNat w hn (by omega) (by omega) h
  rw [← e] at h2
  refine h2.mono ?_
  rintro e' w' ⟨rfl, h3, h4⟩
  exact ⟨by rw [show ((k.toNat + 6 * n : Nat) : Int) = k + 6 * (n : Int) by omega], h3, h4⟩
set_option maxHeartbeats 4000000 in
theorem held_entryN (base : Nat) (A : Option Addr) (n c : Nat) (k : Nat) (w : World) (hn : n ≤ 2000000) (k0 : 1 ≤ k) (k1 : k ≤ 1000) (h : Hid (w.ownsRow base 26 6 (.slice A n c) n ((List.range (n * 6)).map (mkvEn k)))) :
    Calls Tryd.prog 21 #[.slice A n c, .int .i64 k] w fun e w' => e = .returned (.int .i64 ((k + 6 * n : Nat) : Int)) ∧ w = w' := by
  go_enter Tryd.func21, Tryd.ntmps21
  go_wp2_with fail
  go_loop [1, 5] (fun q i => ∃ j m : Nat, j ≤ n ∧ i = .int .i64 j ∧ q = .int .i64 m ∧ 1 ≤ m ∧ m ≤ 13000000 ∧ Hid (m = k + j * 6)) (fun _ i => n - (intOf i).toNat)
  case atStart => exact ⟨0, k, Nat.zero_le _, rfl, rfl, k0, by omega, Lib.hid (by omega)⟩
  case round =>
    obtain ⟨j, m, hj, rfl, rfl, m0, m1, HM⟩ := hrel
    by_cases hlt : j < n
    · obtain ⟨g, cap, hv, -, -⟩ := h.out.form (by omega)
      injection hv with hA _ hc
      subst hA hc
      have hat : ∀ i, i < n * 6 → w.cell? ⟨g, i, none⟩ = some (mkvEn k i) := fun i hi => by
        rw [h.out.cellAt i hi, List.getElem?_map, List.getElem?_range hi]; rfl
      have hm := HM.out
      have q0 : w.cell? ⟨g, j * 6, none⟩ = some (.int .i64 ((m : Int))) := by rw [hat _ (by omega), mkvEn0, hm]
      have q1 : w.cell? ⟨g, j * 6 + 1, none⟩ = some (.int .i64 ((m : Int) + 1)) := by rw [hat _ (by omega), mkvEn1, hm]; congr 2
      have q2 : w.cell? ⟨g, j * 6 + 2, none⟩ = some (.int .i64 ((m : Int) + 1 + 1)) := by rw [hat _ (by omega), mkvEn2, hm]; congr 2
      have q3 : w.cell? ⟨g, j * 6 + 3, none⟩ = some (.int .i64 ((m : Int) + 1 + 1 + 1)) := by rw [hat _ (by omega), mkvEn3, hm]; congr 2
      have q4 : w.cell? ⟨g, j * 6 + 4, none⟩ = some (.int .i64 ((m : Int) + 1 + 1 + 1 + 1)) := by rw [hat _ (by omega), mkvEn4, hm]; congr 2
      have q5 : w.cell? ⟨g, j * 6 + 5, none⟩ = some (.bool (decide (((m : Int) + 1 + 1 + 1 + 1 + 1) % 3 = 0))) := by rw [hat _ (by omega), mkvEn5, hm, show ((k + (j * 6 + 5) : Nat) : Int) = ((k + j * 6 : Nat) : Int) + 1 + 1 + 1 + 1 + 1 by push_cast; omega]
      have hji : (j : Int) < (n : Int) := by omega
      have hj0 : 0 ≤ (j : Int) := by omega
      have hjd : decide (j < n) = true := by simpa using hlt
      have hm5 : 0 ≤ (m : Int) + 1 + 1 + 1 + 1 + 1 := by omega
      clear hat hm
      cases hb3 : decide (((m : Int) + 1 + 1 + 1 + 1 + 1) % 3 = 0)
      all_goals
        rw [hb3] at q5
        have hb4 := hb3
        simp only [decide_eq_true_eq, decide_eq_false_iff_not] at hb4
        go_wp2_with fail
        go_round
        case rel => exact ⟨j + 1, m + 6, by omega, by go_num, by go_num, by omega, by have := HM.out; omega, Lib.hid (by have := HM.out; omega)⟩
        case measure => simp [intOf]; omega
    · have hjd : decide (j < n) = false := by simpa using hlt
      obtain rfl : j = n := by omega
      have HF := Lib.hid (show (m : Int) = (k : Int) + 6 * (j : Int) by have := HM.out; omega)
      clear hlt
      go_wp2_with fail
      go_ret
      exact ⟨by show Ending.returned (Value.int .i64 (m : Int)) = _; rw [HF.out], rfl⟩
theorem held_entryS (base : Nat) (A : Option Addr) (n c : Nat) (k : Int) (w : World) (hn : n ≤ 2000000) (k0 : 1 ≤ k) (k1 : k ≤ 1000) (h : Hid (w.ownsRow base 26 6 (.slice A n c) n ((List.range (n * 6)).map (mkvEn k.toNat)))) :
    Calls Tryd.prog 21 #[.slice A n c, .int .i64 k] w fun e w' => e = .returned (.int .i64 (k + 6 * (n : Int))) ∧ w = w' := by
  have e : k = (k.toNat : Int) := by omega
  have h2 := held_entryN base A n c k.toNat w hn (by omega) (by omega) h
  rw [← e] at h2
  refine h2.mono ?_
  rintro e' w' ⟨rfl, h3⟩
  exact ⟨by rw [show ((k.toNat + 6 * n : Nat) : Int) = k + 6 * (n : Int) by omega], h3⟩
end Go.Proofs.YtnlljdepcldibaaDoor.ty
