/-
  MissingSkills, by the model.
  Conditions: both lists have at most 2000000 elements and lie in one block each; names have at most 1048576 bytes.
-/
import Derived.Test.YtidofckanadkpaaPsN
namespace Go.Proofs.Ytidofckanadkpaa.pso
open Go.RowKit
open reads base inn ty psf psk psl psm psn
set_option linter.unusedVariables false
set_option linter.unusedSimpArgs false

/-- what two sums of skills have in common -/
def andI (x y : Int) : Int := ((x.toNat &&& y.toNat : Nat) : Int)
theorem andI_bd {x y : Int} (hx : 0 ≤ x ∧ x ≤ 15) (hy : 0 ≤ y ∧ y ≤ 15) : 0 ≤ andI x y ∧ andI x y ≤ x := by
  have h : x.toNat &&& y.toNat ≤ x.toNat := Nat.and_le_left
  unfold andI
  omega
theorem and_wrap2 {x y : Int} (hx : 0 ≤ x ∧ x ≤ 15) (hy : 0 ≤ y ∧ y ≤ 15) : IntKind.i64.wrap (((BitVec.ofInt 64 x &&& BitVec.ofInt 64 y).toNat : Nat) : Int) = andI x y := by
  have h := andI_bd hx hy
  obtain ⟨a, rfl⟩ : ∃ a : Nat, x = (a : Int) := ⟨x.toNat, by omega⟩
  obtain ⟨b, rfl⟩ : ∃ b : Nat, y = (b : Int) := ⟨y.toNat, by omega⟩
  have e : (BitVec.ofInt 64 (a : Int) &&& BitVec.ofInt 64 (b : Int)).toNat = (a &&& b) := by
    rw [BitVec.toNat_and, BitVec.ofInt_natCast, BitVec.ofInt_natCast, BitVec.toNat_ofNat, BitVec.toNat_ofNat, Nat.mod_eq_of_lt (by omega), Nat.mod_eq_of_lt (by omega)]
  rw [e]
  have e2 : andI (a : Int) (b : Int) = ((a &&& b : Nat) : Int) := by unfold andI; simp
  rw [e2] at h ⊢
  exact IntWalk.i64_in _ (by omega)
/-- MissingSkills' answer -/
def ansMs (ts : List Ps) (xs : List Int) (q : Int) : Value := if asked ts xs && (team ts xs && btw 0 q 15) then .tuple #[.int .i64 (q - andI q (skN ts xs xs.length)), .bool true] else .tuple #[.int .i64 0, .bool false]
set_option maxHeartbeats 4000000 in
set_option maxRecDepth 100000 in
theorem missing_model (A : Option Addr) (n cap : Nat) (ts : List Ps) (A' : Option Addr) (m cap' : Nat) (xs : List Int) (q : Int) (w : World) (hn : n ≤ 2000000) (hm : m ≤ 2000000) (hs : Hid (∀ t ∈ ts, t.name.size ≤ 1048576)) (hts : Hid (PsAt w w.heap.size A n ts)) (hxs : Hid (InAt w w.heap.size A' m xs)) :
    Calls Try.prog 28 #[.slice A n cap, .slice A' m cap', .int .i64 q] w (APost (ansMs ts xs q) w) := by
  cases ha : asked ts xs
  · have HA := Lib.hid ha
    have HF := Lib.hid (show ansMs ts xs q = .tuple #[.int .i64 0, .bool false] by unfold ansMs; rw [ha]; rfl)
    clear ha
    go_enter Try.func28, Try.ntmps28
    go_wp2_with fail
    refine (asked_is A n cap ts A' m cap' xs false _ hn hm hs hts hxs HA).mono ?_
    rintro e w1 ⟨rfl, b1⟩
    have HB := Lib.hid b1
    clear b1
    go_wp2_with fail
    go_ret2
    exact ⟨by rw [HF.out]; rfl, HB.out⟩
  have HA := Lib.hid ha
  have HH := Lib.hid (asked_parts ha).1
  have HD := Lib.hid (asked_bd ha)
  obtain ⟨t, HTM⟩ : ∃ t, Hid (team ts xs = t) := ⟨_, Lib.hid rfl⟩
  obtain ⟨sk, HSK⟩ : ∃ z, Hid (skN ts xs xs.length = z) := ⟨_, Lib.hid rfl⟩
  obtain ⟨tr, HTR⟩ : ∃ z, Hid (trN ts xs xs.length = z) := ⟨_, Lib.hid rfl⟩
  have HAL := Lib.hid (show ansAll ts xs = .tuple #[.int .i64 sk, .int .i64 tr] by unfold ansAll; rw [HSK.out, HTR.out])
  obtain ⟨r, HQ⟩ : ∃ r, Hid (btw 0 q 15 = r) := ⟨_, Lib.hid rfl⟩
  have HSB := Lib.hid (show 0 ≤ sk ∧ sk ≤ 15 by rw [← HSK.out]; exact skN_bd HD.out _)
  have HF := Lib.hid (show ansMs ts xs q = if t && r then .tuple #[.int .i64 (q - andI q sk), .bool true] else .tuple #[.int .i64 0, .bool false] by unfold ansMs; rw [ha, HTM.out, HSK.out, HQ.out]; rfl)
  clear ha
  go_enter Try.func28, Try.ntmps28
  go_wp2_with fail
  refine (asked_is A n cap ts A' m cap' xs true _ hn hm hs hts hxs HA).mono ?_
  rintro e w1 ⟨rfl, b1⟩
  have HB := Lib.hid b1
  have HT1 := Lib.hid (hts.out.step b1)
  have HX1 := Lib.hid (hxs.out.step b1)
  clear b1
  go_wp2_with fail
  refine (team_any A n cap ts A' m cap' xs _ hn hm HH HD HT1 HX1).mono ?_
  rintro e w2 ⟨rfl, b2⟩
  have HB2 := Lib.hid (HB.out.trans (b2.mono HB.out.size))
  have HT2 := Lib.hid (HT1.out.step b2)
  have HX2 := Lib.hid (HX1.out.step b2)
  clear b2
  rw [HTM.out]
  cases t
  · go_wp2_with fail
    go_ret2
    exact ⟨by rw [HF.out]; rfl, HB2.out⟩
  · go_wp2_with fail
    refine (psg.skills_is q r HQ _).mono ?_
    rintro e w9 ⟨rfl, rfl⟩
    cases r
    · go_wp2_with fail
      go_ret2
      exact ⟨by rw [HF.out]; rfl, HB2.out⟩
    have hq := btw_yes HQ.out
    have hand : bits .and .i64 q sk = andI q sk := and_wrap2 hq HSB.out
    have hbd := andI_bd hq HSB.out
    obtain ⟨z, hz⟩ : ∃ z, andI q sk = z := ⟨_, rfl⟩
    rw [hz] at hand hbd HF
    clear hz
    go_wp2_with fail
    refine (all_model A n cap ts A' m cap' xs _ hn hm HH HD HT2 HX2).mono ?_
    rintro e w3 ⟨he, b3⟩
    rw [HAL.out] at he
    subst he
    have HB3 := Lib.hid (HB2.out.trans (b3.mono HB2.out.size))
    clear b3
    go_wp2_with fail
    go_ret2
    exact ⟨by rw [HF.out]; rfl, HB3.out⟩
#print axioms missing_model
end Go.Proofs.Ytidofckanadkpaa.pso
