/-
  The exact laws' helpers at people: marks that are held.
  Conditions: none but those that a theorem names.
-/
import Derived.Test.YtidofckanadkpaaTyPsM
import Derived.Deep.RegionWith
namespace Go.Proofs.Ytidofckanadkpaa.ty
open Go.ChangeShapes Go.WideShapes Go.RowKit Go.Deep
open reads base
set_option linter.unusedVariables false
set_option linter.unusedSimpArgs false
set_option maxRecDepth 100000

set_option maxHeartbeats 4000000 in
theorem held_personN (base : Nat) (A : Option Addr) (n c : Nat) (k : Nat) (w : World) (hn : n ≤ 2000000) (k0 : 1 ≤ k) (k1 : k ≤ 1000) (h : Hid (w.ownsRow base 41 4 (.slice A n c) n ((List.range (n * 4)).map (mkvPs k)))) :
    Calls Try.prog 51 #[.slice A n c, .int .i64 k] w fun e w' => e = .returned (.int .i64 ((k + 4 * n : Nat) : Int)) ∧ Below w.heap.size w w' := by
  go_enter Try.func51, Try.ntmps51
  go_wp2_with fail
  go_loopw [1, 5] (fun q i wr => ∃ j m : Nat, j ≤ n ∧ i = .int .i64 j ∧ q = .int .i64 m ∧ 1 ≤ m ∧ m ≤ 9000000 ∧ Hid (m = k + j * 4) ∧ Below w.heap.size w wr) (fun _ i _ => n - (intOf i).toNat)
  case atStart => exact ⟨0, k, Nat.zero_le _, rfl, rfl, k0, by omega, Lib.hid (by omega), Below.refl _ _⟩
  case round =>
    obtain ⟨j, m, hj, rfl, rfl, m0, m1, HM, hB⟩ := hrel
    have HB := Lib.hid hB
    have HO := Lib.hid (row_below h.out hB)
    clear hB
    by_cases hlt : j < n
    · obtain ⟨g, cap, hv, -, -⟩ := HO.out.form (by omega)
      injection hv with hA _ hc
      subst hA hc
      have hat : ∀ i, i < n * 4 → wr.cell? ⟨g, i, none⟩ = some (mkvPs k i) := fun i hi => by
        rw [HO.out.cellAt i hi, List.getElem?_map, List.getElem?_range hi]; rfl
      have hm := HM.out
      have q0 : wr.cell? ⟨g, j * 4, none⟩ = some (.int .i64 (m : Int)) := by rw [hat _ (by omega), mkv0, hm]
      have q1 : wr.cell? ⟨g, j * 4 + 1, none⟩ = some (.string (mkt.mk (m + 1))) := by rw [hat _ (by omega), mkv1, hm, Nat.add_assoc]
      have hji : (j : Int) < (n : Int) := by omega
      have hj0 : 0 ≤ (j : Int) := by omega
      have hjd : decide (j < n) = true := by simpa using hlt
      have HMK := Lib.hid (show ∀ W : World, Calls Try.prog 88 #[.int .i64 ((m : Int) + 1)] W (fun e w' => e = .returned (.string (mkt.mk (m + 1))) ∧ Below W.heap.size W w') from fun W => mkt.mark_any (m + 1) W (by omega) (by omega))
      have HG := Lib.hid (show ∀ w' : World, Below wr.heap.size wr.drew w' → w'.cell? ⟨g, j * 4 + 1, none⟩ = some (.string (mkt.mk (m + 1))) from fun w' hb => (hb.cell (p := ⟨g, j * 4 + 1, none⟩) (HO.out.lt g rfl).2).trans q1)
      have H2 := Lib.hid (show wr.cell? ⟨g, j * 4 + 2, none⟩ = some (.int .i64 ((m : Int) + 1 + 1)) by rw [hat _ (by omega), mkv2, hm]; congr 1)
      have H3 := Lib.hid (show wr.cell? ⟨g, j * 4 + 3, none⟩ = some (.int .i64 ((m : Int) + 1 + 1 + 1)) by rw [hat _ (by omega), mkv3, hm]; congr 1)
      clear hat hm
      go_wp2_with fail
      go_region_with (go_at_call 88; refine (HMK.out _).mono ?_; rintro e w1 ⟨rfl, hb1⟩; have hcell1 : w1.cell? ⟨g, j * 4 + 1, none⟩ = some (.string (mkt.mk (m + 1))) := HG.out _ hb1)
      all_goals
        have hlg := (HO.out.lt g rfl).2
        have q2 : w1.cell? ⟨g, j * 4 + 2, none⟩ = some (.int .i64 ((m : Int) + 1 + 1)) := (hb1.cell (p := ⟨g, j * 4 + 2, none⟩) hlg).trans H2.out
        have q3 : w1.cell? ⟨g, j * 4 + 3, none⟩ = some (.int .i64 ((m : Int) + 1 + 1 + 1)) := (hb1.cell (p := ⟨g, j * 4 + 3, none⟩) hlg).trans H3.out
        have HB1 := Lib.hid (HB.out.drew.trans (hb1.mono HB.out.size))
        clear hb1 hcell1 q0 q1 hlg
        go_wp2_with fail
        go_roundw
        case rel => exact ⟨j + 1, m + 4, by omega, by go_num, by go_num, by omega, by have := HM.out; omega, Lib.hid (by have := HM.out; omega), HB1.out⟩
        case measure => simp [intOf]; omega
    · have hjd : decide (j < n) = false := by simpa using hlt
      have HF := Lib.hid (show (m : Int) = ((k + 4 * n : Nat) : Int) by have := HM.out; omega)
      clear hlt
      go_wp2_with fail
      go_ret
      exact ⟨by rw [← HF.out]; rfl, HB.out⟩
theorem held_personS (base : Nat) (A : Option Addr) (n c : Nat) (k : Int) (w : World) (hn : n ≤ 2000000) (k0 : 1 ≤ k) (k1 : k ≤ 1000) (h : Hid (w.ownsRow base 41 4 (.slice A n c) n ((List.range (n * 4)).map (mkvPs k.toNat)))) :
    Calls Try.prog 51 #[.slice A n c, .int .i64 k] w fun e w' => e = .returned (.int .i64 (k + 4 * (n : Int))) ∧ Below w.heap.size w w' := by
  have e : k = (k.toNat : Int) := by omega
  have := held_personN base A n c k.toNat w hn (by omega) (by omega) h
  rw [← e] at this
  refine this.mono ?_
  rintro e1 w' ⟨rfl, h2⟩
  refine ⟨?_, h2⟩
  congr 2
  omega
#print axioms held_personS
end Go.Proofs.Ytidofckanadkpaa.ty
