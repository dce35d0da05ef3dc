/-
  The model: where a station stands in a list, fractions in lowest terms, the placed legs, measures, the unknown stations.
  Conditions: the legs are valid and lie in one block; numbers within the limits that each theorem names.
-/
import Derived.Test.YtiimegmaokfpgabGreatDoorMtA
import Derived.Test.YtiimegmaokfpgabGreatDoorNtC
import Derived.Test.YtiimegmaokfpgabGreatDoorNtZ
import Derived.Test.YtiimegmaokfpgabGreatDoorMost
import Derived.StillTailTactics
namespace Go.Proofs.YtiimegmaokfpgabGreatDoor.ml
open Go.RowKit
open reads base ty lg rowi hs nt mt
set_option linter.unusedVariables false
set_option linter.unusedSimpArgs false

/-- a list of ints in memory, from an offset on -/
def IO (w : World) (B : Nat) (A : Option Addr) (n : Nat) (xs : List Int) : Prop := xs.length = n ∧ ∀ k x, xs[k]? = some x → ∃ g o, A = some ⟨g, o, none⟩ ∧ g < B ∧ w.cell? ⟨g, o + k, none⟩ = some (.int .i64 x)
theorem IO.below {w w' : World} {B n : Nat} {A : Option Addr} {xs : List Int} (h : IO w B A n xs) (hb : Below B w w') : IO w' B A n xs :=
  ⟨h.1, fun k x hx => by
    obtain ⟨g, o, e, hg, hc⟩ := h.2 k x hx
    exact ⟨g, o, e, hg, (hb.cell (p := ⟨g, o + k, none⟩) hg).trans hc⟩⟩
theorem IO.more {w : World} {B B' n : Nat} {A : Option Addr} {xs : List Int} (h : IO w B A n xs) (hB : B ≤ B') : IO w B' A n xs :=
  ⟨h.1, fun k x hx => by
    obtain ⟨g, o, e, hg, hc⟩ := h.2 k x hx
    exact ⟨g, o, e, by omega, hc⟩⟩
theorem IO.step {w w' : World} {n : Nat} {A : Option Addr} {xs : List Int} (h : IO w w.heap.size A n xs) (hb : Below w.heap.size w w') : IO w' w'.heap.size A n xs := (h.below hb).more hb.size
theorem IO.of_own {w : World} {base n : Nat} {e : TypeId} {A : Option Addr} {c : Nat} {xs : List Int} (h : w.ownsRow base e 1 (.slice A n c) n (ints.intsV xs)) : IO w w.heap.size A n xs := by
  have i := ints.IL.of_own h
  refine ⟨i.1, fun k x hx => ?_⟩
  obtain ⟨g, e, hc⟩ := i.2 k x hx
  exact ⟨g, 0, e, lt_of_cell hc, by rw [Nat.zero_add]; exact hc⟩
/-- where a station stands in a list -/
def Fnd (xs : List Int) (s r : Int) : Prop := (r = -1 ∧ s ∉ xs) ∨ ∃ k : Nat, r = k ∧ xs[k]? = some s
set_option maxHeartbeats 4000000 in
theorem find_any (A : Option Addr) (n cap : Nat) (xs : List Int) (a r : Int) (w : World) (hn : n ≤ 2000000) (B : Nat) (hx : Hid (IO w B A n xs)) (hr : Hid (Fnd xs a r)) (hd : Hid xs.Nodup) :
    Calls Tryz.prog 152 #[.slice A n cap, .int .i64 a] w fun e w' => e = .returned (.int .i64 r) ∧ w' = w := by
  have hL : Hid (xs.length = n) := Lib.hid hx.out.1
  go_enter Tryz.func152, Tryz.ntmps152
  go_wp2_with fail
  go_loop [5] (fun i => ∃ k : Nat, k ≤ n ∧ i = .int .i64 k ∧ Hid ((xs.take k).all (fun x => !(x == a)) = true)) (fun i => n - (intOf i).toNat)
  case atStart => exact ⟨0, Nat.zero_le _, rfl, Lib.hid (by simp)⟩
  case round =>
    obtain ⟨k, hk, rfl, HI⟩ := hrel
    have hk0 : 0 ≤ (k : Int) := by omega
    by_cases h1 : k < n
    · have hki : (k : Int) < (n : Int) := by omega
      have hkd : decide (k < n) = true := by simpa using h1
      obtain ⟨x, hxk⟩ := at_lt hL.out h1
      obtain ⟨g, o, rfl, -, e0⟩ := hx.out.2 k x hxk
      have HK := Lib.hid hxk
      clear hxk
      by_cases he : x = a
      · have HF := Lib.hid (show r = (k : Int) by
          rcases hr.out with ⟨-, q⟩ | ⟨j, q, hj⟩
          · exact absurd (by rw [← he]; exact List.mem_of_getElem? HK.out) q
          · rw [q]
            have h2 := HK.out
            rw [he] at h2
            have := (List.getElem?_inj (lt_at hj) hd.out).1 (by rw [hj, h2] : xs[j]? = xs[k]?)
            rw [this])
        have hd2 : (x == a) = true := by simpa using he
        subst he
        go_wp2_with fail
        go_ret
        exact ⟨by rw [HF.out]; rfl, rfl⟩
      · have HN := Lib.hid (all_take (p := fun x => !(x == a)) HK.out HI.out (by simpa using he))
        have hd2 : (x == a) = false := by simpa using he
        have hd3 : decide (x = a) = false := by simpa using he
        clear he
        go_wp2_with fail
        go_round
        case rel => exact ⟨k + 1, by omega, by go_num, HN⟩
        case measure => simp [intOf]; omega
    · have hkd : decide (k < n) = false := by simpa using h1
      obtain rfl : k = n := by omega
      have HF := Lib.hid (show r = -1 by
        rcases hr.out with ⟨q, -⟩ | ⟨j, q, hj⟩
        · exact q
        · have := mem_no (xs := xs) (a := a) (by rw [hL.out]; exact HI.out)
          have h2 := mem_iff.2 (List.mem_of_getElem? hj)
          rw [this] at h2; cases h2)
      clear h1
      go_wp2_with fail
      go_ret
      exact ⟨by rw [HF.out]; rfl, rfl⟩

/-! fractions -/
/-- what the greatest common divisor's loop keeps: a and b have the divisors that u and v have -/
def Gc (u v : Nat) (a b : Nat) : Prop := Nat.gcd a b = Nat.gcd u v
theorem gc_start (u v : Nat) : Gc u v u v := rfl
theorem gc_step {u v a b : Nat} (h : Gc u v a b) : Gc u v b (a % b) := by
  unfold Gc at h ⊢
  rw [← h, Nat.gcd_comm b (a % b), ← Nat.gcd_rec, Nat.gcd_comm]
/-- a fraction in lowest terms -/
def redN (num den : Int) : Int := num.tdiv (Nat.gcd num.natAbs den.natAbs)
def redD (num den : Int) : Int := den.tdiv (Nat.gcd num.natAbs den.natAbs)
def lim62 (x : Int) : Prop := -4611686018427387904 ≤ x ∧ x ≤ 4611686018427387904
theorem tdiv_lim {x : Int} (y : Int) (h : lim62 x) : lim62 (x.tdiv y) := by
  have h2 : (x.tdiv y).natAbs ≤ x.natAbs := by rw [Int.natAbs_tdiv]; exact Nat.div_le_self _ _
  unfold lim62 at h ⊢; omega
set_option maxHeartbeats 4000000 in
theorem reduce_any (num den n d : Int) (w : World) (h1 : lim62 num) (h2 : lim62 den) (h3 : 1 ≤ den) (hn : Hid (redN num den = n)) (hd : Hid (redD num den = d)) :
    Calls Tryz.prog 81 #[.int .i64 num, .int .i64 den] w (APost (.tuple #[.int .i64 n, .int .i64 d]) w) := by
  obtain ⟨v, rfl⟩ : ∃ v : Nat, den = (v : Int) := ⟨den.toNat, by omega⟩
  obtain ⟨u, HU⟩ : ∃ u : Nat, Hid (num.natAbs = u) := ⟨_, Lib.hid rfl⟩
  have HM := Lib.hid (show mst.mx num (-num) = (u : Int) by rw [← HU.out]; unfold mst.mx; split <;> omega)
  have HG := Lib.hid (show 0 < Nat.gcd u v from Nat.gcd_pos_of_pos_right _ (by omega))
  have HN := Lib.hid (show num.tdiv (Nat.gcd u v : Nat) = n by have := hn.out; unfold redN at this; rw [HU.out, Int.natAbs_natCast] at this; exact this)
  have HD := Lib.hid (show (v : Int).tdiv (Nat.gcd u v : Nat) = d by have := hd.out; unfold redD at this; rw [HU.out, Int.natAbs_natCast] at this; exact this)
  have HLN := Lib.hid (show lim62 n by rw [← HN.out]; exact tdiv_lim _ h1)
  have HLD := Lib.hid (show lim62 d by rw [← HD.out]; exact tdiv_lim _ h2)
  have l1 := h1
  have l2 := h2
  unfold lim62 at l1 l2
  have hul : u ≤ 4611686018427387904 := by rw [← HU.out]; omega
  have hvl : v ≤ 4611686018427387904 := by omega
  have xn : IntKind.i64.wrap (-num) = -num := IntWalk.i64_in _ (by omega)
  clear h1 h2 hn hd
  go_enter Tryz.func81, Tryz.ntmps81
  go_wp2_with fail
  refine (mst.most_is num (-num) (u : Int) HM _).mono ?_
  rintro e w1 ⟨rfl, rfl⟩
  go_wp2_with fail
  go_loop [6, 7] (fun x y => ∃ a b : Nat, a ≤ 4611686018427387904 ∧ b ≤ 4611686018427387904 ∧ x = .int .i64 (a : Nat) ∧ y = .int .i64 (b : Nat) ∧ Hid (Gc u v a b)) (fun _ y => (intOf y).toNat)
  case atStart => exact ⟨u, v, hul, hvl, rfl, rfl, Lib.hid rfl⟩
  case round =>
    obtain ⟨a, b, ha, hb, rfl, rfl, HI⟩ := hrel
    by_cases hz : b = 0
    · subst hz
      obtain ⟨q, hq⟩ : ∃ q, q = Nat.gcd u v := ⟨_, rfl⟩
      obtain rfl : a = q := by have := HI.out; unfold Gc at this; rw [Nat.gcd_zero_right] at this; rw [hq]; exact this
      have hq1 : 0 < a := by rw [hq]; exact HG.out
      have a0 : ¬ (a : Int) = 0 := by omega
      have a1 : ((a : Int) == 0) = false := by simp; omega
      have a2 : ¬ a = 0 := by omega
      have k1 : num.tdiv (a : Int) = n := by rw [hq]; exact HN.out
      have k2 : (v : Int).tdiv (a : Int) = d := by rw [hq]; exact HD.out
      have y1 : IntKind.i64.wrap n = n := IntWalk.i64_in _ (by have := HLN.out; unfold lim62 at this; omega)
      have y2 : IntKind.i64.wrap d = d := IntWalk.i64_in _ (by have := HLD.out; unfold lim62 at this; omega)
      clear hq HI xn
      go_upto_region 6 with fail
      go_region
      go_wp2_with fail
      go_ret2
      exact ⟨rfl, (Below.refl _ _).drew⟩
    · have b0 : ¬ (b : Int) = 0 := by omega
      have b1 : ((b : Int) == 0) = false := by simp; omega
      have b2 : ((b : Int) != 0) = true := by simp; omega
      have hml := Nat.mod_lt a (Nat.pos_of_ne_zero hz)
      have k1 : (a : Int).tmod (b : Int) = ((a % b : Nat) : Int) := rfl
      have HS := Lib.hid (gc_step HI.out)
      have k2 : IntKind.i64.wrap ((a % b : Nat) : Int) = ((a % b : Nat) : Int) := IntWalk.i64_in _ (by omega)
      obtain ⟨r, hr⟩ : ∃ r, r = a % b := ⟨_, rfl⟩
      rw [← hr] at k1 k2 HS hml
      clear hr xn
      go_wp2_with fail
      go_round
      case rel => exact ⟨b, r, by omega, by omega, rfl, rfl, HS⟩
      case measure => simp [intOf]; omega
end Go.Proofs.YtiimegmaokfpgabGreatDoor.ml
