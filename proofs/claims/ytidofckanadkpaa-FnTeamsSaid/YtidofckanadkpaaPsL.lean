/-
  All skills and all trips of some people, by the model.
  Conditions: every Id is somebody's, everybody's skills and trips are in bounds; both lists have at most 2000000 elements.
-/
import Derived.Test.YtidofckanadkpaaPsK
namespace Go.Proofs.Ytidofckanadkpaa.psl
open Go.RowKit
open reads base inn ty psf psk
set_option linter.unusedVariables false
set_option linter.unusedSimpArgs false

/-- two sums of skills together -/
def orI (x y : Int) : Int := ((x.toNat ||| y.toNat : Nat) : Int)
theorem or_nat : ∀ a b : Fin 16, (a.val ||| b.val) < 16 := by decide
theorem orI_bd {x y : Int} (hx : 0 ≤ x ∧ x ≤ 15) (hy : 0 ≤ y ∧ y ≤ 15) : 0 ≤ orI x y ∧ orI x y ≤ 15 := by
  have h := or_nat ⟨x.toNat, by omega⟩ ⟨y.toNat, by omega⟩
  simp only at h
  unfold orI
  omega
theorem or_wrap {x y : Int} (hx : 0 ≤ x ∧ x ≤ 15) (hy : 0 ≤ y ∧ y ≤ 15) : IntKind.i64.wrap (((BitVec.ofInt 64 x ||| BitVec.ofInt 64 y).toNat : Nat) : Int) = orI x y := by
  have h := orI_bd hx hy
  obtain ⟨a, rfl⟩ : ∃ a : Nat, x = (a : Int) := ⟨x.toNat, by omega⟩
  obtain ⟨b, rfl⟩ : ∃ b : Nat, y = (b : Int) := ⟨y.toNat, by omega⟩
  have e : (BitVec.ofInt 64 (a : Int) ||| BitVec.ofInt 64 (b : Int)).toNat = (a ||| b) := by
    rw [BitVec.toNat_or, BitVec.ofInt_natCast, BitVec.ofInt_natCast, BitVec.toNat_ofNat, BitVec.toNat_ofNat, Nat.mod_eq_of_lt (by omega), Nat.mod_eq_of_lt (by omega)]
  rw [e]
  have e2 : orI (a : Int) (b : Int) = ((a ||| b : Nat) : Int) := by unfold orI; simp
  rw [e2] at h ⊢
  exact IntWalk.i64_in _ (by omega)
/-- the person with an Id -/
def who (ts : List Ps) (x : Int) : Option Ps := ts[(find ts x).toNat]?
def skN (ts : List Ps) (xs : List Int) : Nat → Int
  | 0 => 0
  | k + 1 => match xs[k]?.bind (who ts) with
    | none => skN ts xs k
    | some t => orI (skN ts xs k) t.skills
def trN (ts : List Ps) (xs : List Int) : Nat → Int
  | 0 => 0
  | k + 1 => match xs[k]?.bind (who ts) with
    | none => trN ts xs k
    | some t => trN ts xs k + t.trips
/-- both -/
def ansAll (ts : List Ps) (xs : List Int) : Value := .tuple #[.int .i64 (skN ts xs xs.length), .int .i64 (trN ts xs xs.length)]
theorem who_some {ts : List Ps} {x : Int} (h : has ts x = true) : ∃ (j : Nat) (t : Ps), find ts x = (j : Int) ∧ j < ts.length ∧ ts[j]? = some t ∧ t.id = x ∧ who ts x = some t := by
  have h0 : 0 ≤ find ts x := by simpa [has] using h
  obtain ⟨j, hj⟩ : ∃ j : Nat, find ts x = (j : Int) := ⟨(find ts x).toNat, by omega⟩
  obtain ⟨t, ht, he⟩ := find_is hj
  exact ⟨j, t, hj, (List.getElem?_eq_some_iff.1 ht).1, ht, he, by unfold who; rw [hj]; simpa using ht⟩
set_option maxHeartbeats 4000000 in
set_option maxRecDepth 100000 in
theorem all_model (A : Option Addr) (n cap : Nat) (ts : List Ps) (A' : Option Addr) (m cap' : Nat) (xs : List Int) (w : World) (hn : n ≤ 2000000) (hm : m ≤ 2000000) (hh : Hid (∀ x ∈ xs, has ts x = true)) (hb : Hid (∀ t ∈ ts, (0 ≤ t.skills ∧ t.skills ≤ 15) ∧ 0 ≤ t.trips ∧ t.trips ≤ 500)) (hts : Hid (PsAt w w.heap.size A n ts)) (hxs : Hid (InAt w w.heap.size A' m xs)) :
    Calls Try.prog 65 #[.slice A n cap, .slice A' m cap'] w (APost (ansAll ts xs) w) := by
  have hL : Hid (xs.length = m) := Lib.hid hxs.out.1
  have hN : Hid (ts.length = n) := Lib.hid hts.out.1
  go_enter Try.func65, Try.ntmps65
  go_wp2_with fail
  go_loopw [6, 7, 8] (fun s y i wr => ∃ (k : Nat) (z v : Int), k ≤ m ∧ i = .int .i64 k ∧ s = .int .i64 z ∧ y = .int .i64 v ∧ Hid (skN ts xs k = z) ∧ Hid (trN ts xs k = v) ∧ (0 ≤ z ∧ z ≤ 15) ∧ (0 ≤ v ∧ v ≤ 500 * k) ∧ Below w.heap.size w wr) (fun _ _ i _ => m - (intOf i).toNat)
  case atStart => exact ⟨0, 0, 0, Nat.zero_le _, rfl, rfl, rfl, Lib.hid rfl, Lib.hid rfl, by omega, by omega, Below.refl _ _⟩
  case round =>
    obtain ⟨k, z, v, hk, rfl, rfl, rfl, HZ, HV, hz, hv, hB⟩ := hrel
    have HB := Lib.hid hB
    have HT := Lib.hid (show PsAt wr wr.heap.size A n ts from hts.out.step hB)
    have hBs := hB.size
    clear hB
    by_cases hlt : k < m
    · obtain ⟨x, hxk⟩ := at_lt hL.out hlt
      obtain ⟨g, rfl, hg, h0⟩ := (hxs.out.below HB.out).2 k x hxk
      obtain ⟨j, t, hj, hjl, htj, -, hw⟩ := who_some (hh.out x (List.mem_of_getElem? hxk))
      obtain ⟨g2, rfl, hg2, p0, p1, p2, p3⟩ := HT.out.2 j t htj
      obtain ⟨hsk, htr⟩ := hb.out t (List.mem_of_getElem? htj)
      have HJ := Lib.hid hj
      have hjn : (j : Int) < (n : Int) := by rw [hN.out] at hjl; omega
      have hj0 : 0 ≤ (j : Int) := by omega
      have HZ2 := Lib.hid (show skN ts xs (k + 1) = orI z t.skills by rw [skN, hxk, Option.bind_some, hw, HZ.out])
      have HV2 := Lib.hid (show trN ts xs (k + 1) = v + t.trips by rw [trN, hxk, Option.bind_some, hw, HV.out])
      have hor := or_wrap hz hsk
      have hbd := Lib.hid (orI_bd hz hsk)
      clear hxk htj hw hj hjl
      have hki : (k : Int) < (m : Int) := by omega
      have hk0 : 0 ≤ (k : Int) := by omega
      have hkd : decide (k < m) = true := by simpa using hlt
      go_wp2_with fail
      refine (find_model_is _ n cap ts x j HJ _ hn HT).mono ?_
      rintro e w1 ⟨rfl, rfl⟩
      go_wp2_with fail
      go_roundw
      case rel => exact ⟨k + 1, orI z t.skills, v + t.trips, by omega, by go_num, by first | rfl | (rw [hor]) | (congr 1), by go_num, HZ2, HV2, hbd.out, by omega, HB.out.alloc hBs _⟩
      case measure => simp [intOf]; omega
    · have hkd : decide (k < m) = false := by simpa using hlt
      obtain rfl : k = m := by omega
      have HF := Lib.hid (show ansAll ts xs = .tuple #[.int .i64 z, .int .i64 v] by unfold ansAll; rw [hL.out, HZ.out, HV.out])
      clear hlt
      go_wp2_with fail
      go_ret2
      exact ⟨by rw [HF.out]; rfl, HB.out⟩
#print axioms all_model
end Go.Proofs.Ytidofckanadkpaa.psl
