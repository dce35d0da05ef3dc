/-
  Fractions in lowest terms, of the model and of the program.
  Conditions: numbers within 2 to the power of 62.
-/
import Derived.Test.YtnpghhpcloljeaaBase
import Derived.Test.YtnpghhpcloljeaaMost
import Derived.StillTailTactics
import Derived.Deep.DeepCutAuto
import Derived.Deep.RegionHeld3
import Derived.BigRegion
import Derived.RegionTactic
namespace Go.Proofs.Ytnpghhpcloljeaa.pw
open Go.RowKit
open reads base
set_option linter.unusedVariables false
set_option linter.unusedSimpArgs false

/-! fractions -/
/-- what the greatest common divisor's loop keeps: a and b have the divisors that u and v have -/
def Gc (u v : Nat) (a b : Nat) : Prop := Nat.gcd a b = Nat.gcd u v
theorem gc_start (u v : Nat) : Gc u v u v := rfl
theorem gc_step {u v a b : Nat} (h : Gc u v a b) : Gc u v b (a % b) := by
  unfold Gc at h ⊢
  rw [← h, Nat.gcd_comm b (a % b), ← Nat.gcd_rec, Nat.gcd_comm]
/-- a fraction in lowest terms -/
def redN (num den : Int) : Int := num.tdiv (Nat.gcd num.natAbs den.natAbs)
def redD (num den : Int) : Int := den.tdiv (Nat.gcd num.natAbs den.natAbs)
def lim62 (x : Int) : Prop := -4611686018427387904 ≤ x ∧ x ≤ 4611686018427387904
theorem tdiv_lim {x : Int} (y : Int) (h : lim62 x) : lim62 (x.tdiv y) := by
  have h2 : (x.tdiv y).natAbs ≤ x.natAbs := by rw [Int.natAbs_tdiv]; exact Nat.div_le_self _ _
  unfold lim62 at h ⊢; omega
set_option maxHeartbeats 4000000 in
theorem reduce_any (num den n d : Int) (w : World) (h1 : lim62 num) (h2 : lim62 den) (h3 : 1 ≤ den) (hn : Hid (redN num den = n)) (hd : Hid (redD num den = d)) :
    Calls Try.prog 56 #[.int .i64 num, .int .i64 den] w (APost (.tuple #[.int .i64 n, .int .i64 d]) w) := by
  obtain ⟨v, rfl⟩ : ∃ v : Nat, den = (v : Int) := ⟨den.toNat, by omega⟩
  obtain ⟨u, HU⟩ : ∃ u : Nat, Hid (num.natAbs = u) := ⟨_, Lib.hid rfl⟩
  have HM := Lib.hid (show mst.mx num (-num) = (u : Int) by rw [← HU.out]; unfold mst.mx; split <;> omega)
  have HG := Lib.hid (show 0 < Nat.gcd u v from Nat.gcd_pos_of_pos_right _ (by omega))
  have HN := Lib.hid (show num.tdiv (Nat.gcd u v : Nat) = n by have := hn.out; unfold redN at this; rw [HU.out, Int.natAbs_natCast] at this; exact this)
  have HD := Lib.hid (show (v : Int).tdiv (Nat.gcd u v : Nat) = d by have := hd.out; unfold redD at this; rw [HU.out, Int.natAbs_natCast] at this; exact this)
  have HLN := Lib.hid (show lim62 n by rw [← HN.out]; exact tdiv_lim _ h1)
  have HLD := Lib.hid (show lim62 d by rw [← HD.out]; exact tdiv_lim _ h2)
  have l1 := h1
  have l2 := h2
  unfold lim62 at l1 l2
  have hul : u ≤ 4611686018427387904 := by rw [← HU.out]; omega
  have hvl : v ≤ 4611686018427387904 := by omega
  have xn : IntKind.i64.wrap (-num) = -num := IntWalk.i64_in _ (by omega)
  clear h1 h2 hn hd
  go_enter Try.func56, Try.ntmps56
  go_wp2_with fail
  refine (mst.most_is num (-num) (u : Int) HM _).mono ?_
  rintro e w1 ⟨rfl, rfl⟩
  go_wp2_with fail
  go_loop [6, 7] (fun x y => ∃ a b : Nat, a ≤ 4611686018427387904 ∧ b ≤ 4611686018427387904 ∧ x = .int .i64 (a : Nat) ∧ y = .int .i64 (b : Nat) ∧ Hid (Gc u v a b)) (fun _ y => (intOf y).toNat)
  case atStart => exact ⟨u, v, hul, hvl, rfl, rfl, Lib.hid rfl⟩
  case round =>
    obtain ⟨a, b, ha, hb, rfl, rfl, HI⟩ := hrel
    by_cases hz : b = 0
    · subst hz
      obtain ⟨q, hq⟩ : ∃ q, q = Nat.gcd u v := ⟨_, rfl⟩
      obtain rfl : a = q := by have := HI.out; unfold Gc at this; rw [Nat.gcd_zero_right] at this; rw [hq]; exact this
      have hq1 : 0 < a := by rw [hq]; exact HG.out
      have a0 : ¬ (a : Int) = 0 := by omega
      have a1 : ((a : Int) == 0) = false := by simp; omega
      have a2 : ¬ a = 0 := by omega
      have k1 : num.tdiv (a : Int) = n := by rw [hq]; exact HN.out
      have k2 : (v : Int).tdiv (a : Int) = d := by rw [hq]; exact HD.out
      have y1 : IntKind.i64.wrap n = n := IntWalk.i64_in _ (by have := HLN.out; unfold lim62 at this; omega)
      have y2 : IntKind.i64.wrap d = d := IntWalk.i64_in _ (by have := HLD.out; unfold lim62 at this; omega)
      clear hq HI xn
      go_upto_region 6 with fail
      go_region
      go_wp2_with fail
      go_ret2
      exact ⟨rfl, (Below.refl _ _).drew⟩
    · have b0 : ¬ (b : Int) = 0 := by omega
      have b1 : ((b : Int) == 0) = false := by simp; omega
      have b2 : ((b : Int) != 0) = true := by simp; omega
      have hml := Nat.mod_lt a (Nat.pos_of_ne_zero hz)
      have k1 : (a : Int).tmod (b : Int) = ((a % b : Nat) : Int) := rfl
      have HS := Lib.hid (gc_step HI.out)
      have k2 : IntKind.i64.wrap ((a % b : Nat) : Int) = ((a % b : Nat) : Int) := IntWalk.i64_in _ (by omega)
      obtain ⟨r, hr⟩ : ∃ r, r = a % b := ⟨_, rfl⟩
      rw [← hr] at k1 k2 HS hml
      clear hr xn
      go_wp2_with fail
      go_round
      case rel => exact ⟨b, r, by omega, by omega, rfl, rfl, HS⟩
      case measure => simp [intOf]; omega
set_option maxHeartbeats 4000000 in
theorem dist_any (a : Int) (v : Nat) (w : World) (h : Hid (a.natAbs = v)) (hl : lim62 a) : Calls Try.prog 97 #[.int .i64 a, .int .i64 0] w fun e w' => e = .returned (.int .i64 (v : Int)) ∧ w = w' := by
  unfold lim62 at hl
  have hv := h.out
  by_cases hs : 0 ≤ a
  · obtain rfl : a = (v : Int) := by omega
    have xw : IntKind.i64.wrap (v : Int) = (v : Int) := IntWalk.i64_in _ (by omega)
    by_cases hz : v = 0
    · subst hz
      go_enter Try.func97, Try.ntmps97
      go_wp2_with fail
      go_ret
      exact ⟨rfl, rfl⟩
    · have d1 : (0 : Int) < (v : Int) := by omega
      have d2 : ¬ (v : Int) < 0 := by omega
      have d3 : 0 < v := by omega
      go_enter Try.func97, Try.ntmps97
      go_wp2_with fail
      go_ret
      exact ⟨rfl, rfl⟩
  · obtain rfl : a = -(v : Int) := by omega
    have d1 : -(v : Int) < 0 := by omega
    have d2 : ¬ 0 < -(v : Int) := by omega
    have d3 : (0 : Int) < (v : Int) := by omega
    have d4 : 0 < v := by omega
    have xw : IntKind.i64.wrap (v : Int) = (v : Int) := IntWalk.i64_in _ (by omega)
    have xw2 : (0 : Int) - -(v : Int) = (v : Int) := by omega
    go_enter Try.func97, Try.ntmps97
    go_wp2_with fail
    go_ret
    exact ⟨rfl, rfl⟩
set_option maxHeartbeats 4000000 in
theorem gcd_any (num den : Int) (g : Nat) (w : World) (h1 : lim62 num) (h2 : lim62 den) (hg : Hid (Nat.gcd num.natAbs den.natAbs = g)) :
    Calls Try.prog 85 #[.int .i64 num, .int .i64 den] w (APost (.int .i64 (g : Int)) w) := by
  go_enter Try.func85, Try.ntmps85
  go_wp2_with fail
  go_loopw [0, 1] (fun x y wr => ∃ a b : Int, lim62 a ∧ lim62 b ∧ x = .int .i64 a ∧ y = .int .i64 b ∧ Hid (Nat.gcd a.natAbs b.natAbs = g) ∧ Below w.heap.size w wr) (fun _ y _ => (intOf y).natAbs)
  case atStart => exact ⟨num, den, h1, h2, rfl, rfl, hg, Below.refl _ _⟩
  case round =>
    obtain ⟨a, b, ha, hb, rfl, rfl, HI, hB⟩ := hrel
    have HB := Lib.hid hB
    clear hB
    by_cases hz : b = 0
    · subst hz
      have HV := Lib.hid (show a.natAbs = g by have := HI.out; rwa [Int.natAbs_zero, Nat.gcd_zero_right] at this)
      go_wp2_with fail
      refine (dist_any a g _ HV ha).mono ?_
      rintro e w1 ⟨rfl, rfl⟩
      go_wp2_with fail
      go_ret
      exact ⟨rfl, HB.out⟩
    · have b1 : (b == 0) = false := by simpa using hz
      have b2 : (b != 0) = true := by simpa using hz
      obtain ⟨r, hr⟩ : ∃ r, a.tmod b = r := ⟨_, rfl⟩
      have hna : r.natAbs = a.natAbs % b.natAbs := by rw [← hr, Int.natAbs_tmod]
      have hml : r.natAbs < b.natAbs := by rw [hna]; exact Nat.mod_lt _ (by omega)
      have hrl : lim62 r := by unfold lim62 at hb ⊢; omega
      have HS := Lib.hid (show Nat.gcd b.natAbs r.natAbs = g by
        rw [hna, Nat.gcd_comm b.natAbs (a.natAbs % b.natAbs), ← Nat.gcd_rec, Nat.gcd_comm]; exact HI.out)
      have k2 : IntKind.i64.wrap r = r := IntWalk.i64_in _ (by unfold lim62 at hrl; omega)
      have HML := Lib.hid hml
      clear hna hml
      go_upto_region 2 with fail
      go_region
      go_wp2_with fail
      go_roundw
      case rel => exact ⟨b, r, hb, hrl, rfl, rfl, HS, HB.out.drew⟩
      case measure => have := HML.out; simp [intOf]; omega
set_option maxHeartbeats 4000000 in
theorem reduced_any (num den n d : Int) (w : World) (h1 : lim62 num) (h2 : lim62 den) (h3 : 1 ≤ den) (hn : Hid (redN num den = n)) (hd : Hid (redD num den = d)) :
    Calls Try.prog 59 #[.int .i64 num, .int .i64 den] w (APost (.tuple #[.int .i64 n, .int .i64 d]) w) := by
  obtain ⟨g, HG⟩ : ∃ g, Hid (Nat.gcd num.natAbs den.natAbs = g) := ⟨_, Lib.hid rfl⟩
  have hg0 : 0 < g := by rw [← HG.out]; exact Nat.gcd_pos_of_pos_right _ (by omega)
  have k1 : num.tdiv (g : Int) = n := by rw [← HG.out]; exact hn.out
  have k2 : den.tdiv (g : Int) = d := by rw [← HG.out]; exact hd.out
  have ln : lim62 n := by rw [← k1]; exact tdiv_lim _ h1
  have ld : lim62 d := by rw [← k2]; exact tdiv_lim _ h2
  have y1 : IntKind.i64.wrap n = n := IntWalk.i64_in _ (by unfold lim62 at ln; omega)
  have y2 : IntKind.i64.wrap d = d := IntWalk.i64_in _ (by unfold lim62 at ld; omega)
  have a0 : ¬ (g : Int) = 0 := by omega
  have a1 : ((g : Int) == 0) = false := by simp; omega
  have a2 : ¬ g = 0 := by omega
  go_enter Try.func59, Try.ntmps59
  go_wp2_with fail
  refine (gcd_any num den g _ h1 h2 HG).mono ?_
  rintro e w1 ⟨rfl, b1⟩
  have HB := Lib.hid b1
  clear b1
  go_upto_region 2 with fail
  go_region
  go_wp2_with fail
  go_ret2
  exact ⟨rfl, HB.out.drew⟩
end Go.Proofs.Ytnpghhpcloljeaa.pw
