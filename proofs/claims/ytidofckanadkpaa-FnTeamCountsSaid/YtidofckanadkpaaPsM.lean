/-
  Whether some people are a team, by the model.
  Conditions: every Id is somebody's, everybody's skills and trips are in bounds; both lists have at most 2000000 elements.
-/
import Derived.Test.YtidofckanadkpaaPsL
namespace Go.Proofs.Ytidofckanadkpaa.psm
open Go.RowKit
open reads base inn ty psf psk psl
set_option linter.unusedVariables false
set_option linter.unusedSimpArgs false

/-- the book's and the tape's skill -/
def and3 (x : Int) : Int := ((x.toNat &&& 3 : Nat) : Int)
theorem and3_bd (x : Int) : 0 ≤ and3 x ∧ and3 x ≤ 3 := by
  have h : x.toNat &&& 3 ≤ 3 := Nat.and_le_right
  unfold and3
  omega
theorem and_wrap {x : Int} (hx : 0 ≤ x ∧ x ≤ 15) : IntKind.i64.wrap (((BitVec.ofInt 64 x &&& BitVec.ofInt 64 3).toNat : Nat) : Int) = and3 x := by
  have h := and3_bd x
  obtain ⟨a, rfl⟩ : ∃ a : Nat, x = (a : Int) := ⟨x.toNat, by omega⟩
  have e : (BitVec.ofInt 64 (a : Int) &&& BitVec.ofInt 64 3).toNat = (a &&& 3) := by
    rw [BitVec.toNat_and, BitVec.ofInt_natCast, BitVec.toNat_ofNat, Nat.mod_eq_of_lt (by omega)]; rfl
  rw [e]
  have e2 : and3 (a : Int) = ((a &&& 3 : Nat) : Int) := by unfold and3; simp
  rw [e2] at h ⊢
  exact IntWalk.i64_in _ (by omega)
/-- how many have one of the two skills -/
def abN (ts : List Ps) (xs : List Int) : Nat → Int
  | 0 => 0
  | k + 1 => match xs[k]?.bind (who ts) with
    | none => abN ts xs k
    | some t => if and3 t.skills = 0 then abN ts xs k else abN ts xs k + 1
/-- a team -/
def team (ts : List Ps) (xs : List Int) : Bool := btw 2 xs.length 5 && decide (and3 (skN ts xs xs.length) = 3) && decide (2 ≤ abN ts xs xs.length)
theorem skN_bd {ts : List Ps} {xs : List Int} (hb : ∀ t ∈ ts, (0 ≤ t.skills ∧ t.skills ≤ 15) ∧ 0 ≤ t.trips ∧ t.trips ≤ 500) : ∀ k, 0 ≤ skN ts xs k ∧ skN ts xs k ≤ 15
  | 0 => by simp [skN]
  | k + 1 => by
    have h := skN_bd (xs := xs) hb k
    rw [skN]
    cases e : xs[k]?.bind (who ts) with
    | none => exact h
    | some t =>
      obtain ⟨x, -, hx⟩ := Option.bind_eq_some_iff.1 e
      exact orI_bd h (hb t (List.mem_of_getElem? hx)).1
set_option maxHeartbeats 4000000 in
set_option maxRecDepth 100000 in
theorem team_any (A : Option Addr) (n cap : Nat) (ts : List Ps) (A' : Option Addr) (m cap' : Nat) (xs : List Int) (w : World) (hn : n ≤ 2000000) (hm : m ≤ 2000000) (hh : Hid (∀ x ∈ xs, has ts x = true)) (hb : Hid (∀ t ∈ ts, (0 ≤ t.skills ∧ t.skills ≤ 15) ∧ 0 ≤ t.trips ∧ t.trips ≤ 500)) (hts : Hid (PsAt w w.heap.size A n ts)) (hxs : Hid (InAt w w.heap.size A' m xs)) :
    Calls Try.prog 64 #[.slice A n cap, .slice A' m cap'] w (BPost (team ts xs) w) := by
  have hL : Hid (xs.length = m) := Lib.hid hxs.out.1
  have hN : Hid (ts.length = n) := Lib.hid hts.out.1
  obtain ⟨sk, HSK⟩ : ∃ z, Hid (skN ts xs xs.length = z) := ⟨_, Lib.hid rfl⟩
  obtain ⟨tr, HTR⟩ : ∃ z, Hid (trN ts xs xs.length = z) := ⟨_, Lib.hid rfl⟩
  have HSB := Lib.hid (show 0 ≤ sk ∧ sk ≤ 15 by rw [← HSK.out]; exact skN_bd hb.out _)
  have HAL := Lib.hid (show ansAll ts xs = .tuple #[.int .i64 sk, .int .i64 tr] by unfold ansAll; rw [HSK.out, HTR.out])
  go_enter Try.func64, Try.ntmps64
  go_wp2_with fail
  refine (all_model A n cap ts A' m cap' xs _ hn hm hh hb hts hxs).mono ?_
  rintro e w1 ⟨he, b1⟩
  rw [HAL.out] at he
  subst he
  have HB0 := Lib.hid b1
  clear b1
  go_wp2_with fail
  go_loopw [7, 8] (fun y i wr => ∃ (k : Nat) (v : Int), k ≤ m ∧ i = .int .i64 k ∧ y = .int .i64 v ∧ Hid (abN ts xs k = v) ∧ (0 ≤ v ∧ v ≤ k) ∧ Below w.heap.size w wr) (fun _ i _ => m - (intOf i).toNat)
  case atStart => exact ⟨0, 0, Nat.zero_le _, rfl, rfl, Lib.hid rfl, by omega, HB0.out⟩
  case round =>
    obtain ⟨k, v, hk, rfl, rfl, HV, hv, hB⟩ := hrel
    have HB := Lib.hid hB
    have HT := Lib.hid (show PsAt wr wr.heap.size A n ts from hts.out.step hB)
    clear hB
    by_cases hlt : k < m
    · obtain ⟨x, hxk⟩ := at_lt hL.out hlt
      obtain ⟨g, rfl, hg, h0⟩ := (hxs.out.below HB.out).2 k x hxk
      obtain ⟨j, t, hj, hjl, htj, -, hw⟩ := who_some (hh.out x (List.mem_of_getElem? hxk))
      obtain ⟨g2, rfl, hg2, p0, p1, p2, p3⟩ := HT.out.2 j t htj
      obtain ⟨hsk, htr⟩ := hb.out t (List.mem_of_getElem? htj)
      have HJ := Lib.hid hj
      have hjn : (j : Int) < (n : Int) := by rw [hN.out] at hjl; omega
      have hj0 : 0 ≤ (j : Int) := by omega
      have hki : (k : Int) < (m : Int) := by omega
      have hk0 : 0 ≤ (k : Int) := by omega
      have hkd : decide (k < m) = true := by simpa using hlt
      have hand : bits .and .i64 t.skills 3 = and3 t.skills := and_wrap hsk
      by_cases hz : and3 t.skills = 0
      · have HV2 := Lib.hid (show abN ts xs (k + 1) = v by rw [abN, hxk, Option.bind_some, hw]; simp only [hz, if_true]; exact HV.out)
        rw [hz] at hand
        clear hxk htj hw hj hjl hz
        go_wp2_with fail
        refine (find_model_is _ n cap ts x j HJ _ hn HT).mono ?_
        rintro e w1 ⟨rfl, rfl⟩
        go_wp2_with fail
        go_roundw
        case rel => exact ⟨k + 1, v, by omega, by go_num, rfl, HV2, by omega, HB.out⟩
        case measure => simp [intOf]; omega
      · have HV2 := Lib.hid (show abN ts xs (k + 1) = v + 1 by rw [abN, hxk, Option.bind_some, hw]; simp only [hz, if_false]; rw [HV.out])
        have hd : decide (and3 t.skills = 0) = false := by simpa using hz
        have hd' : (and3 t.skills == 0) = false := by simpa using hz
        have hd2 : (and3 t.skills != 0) = true := by simpa using hz
        clear hxk htj hw hj hjl
        go_wp2_with fail
        refine (find_model_is _ n cap ts x j HJ _ hn HT).mono ?_
        rintro e w1 ⟨rfl, rfl⟩
        go_wp2_with fail
        go_roundw
        case rel => exact ⟨k + 1, v + 1, by omega, by go_num, by go_num, HV2, by omega, HB.out⟩
        case measure => simp [intOf]; omega
    · have hkd : decide (k < m) = false := by simpa using hlt
      obtain rfl : k = m := by omega
      have HF := Lib.hid (show team ts xs = (btw 2 k 5 && decide (and3 sk = 3) && decide (2 ≤ v)) by unfold team; rw [HSK.out, hL.out, HV.out])
      have hand : bits .and .i64 sk 3 = and3 sk := and_wrap HSB.out
      clear hlt
      cases o1 : btw 2 (k : Int) 5
      · have O1 := Lib.hid o1
        have HA := Lib.hid (show team ts xs = false by rw [HF.out, o1]; rfl)
        clear o1
        go_wp2_with fail
        refine (in_is k 2 5 false O1 _).mono ?_
        rintro e w1 ⟨rfl, rfl⟩
        go_wp2_with fail
        go_ret
        exact ⟨ret_bool HA.out.symm, HB.out⟩
      · have O1 := Lib.hid o1
        by_cases hz : and3 sk = 3
        · by_cases hv2 : 2 ≤ v
          · have HA := Lib.hid (show team ts xs = true by rw [HF.out, o1]; simp [hz, hv2])
            have hd3 : decide (2 ≤ v) = true := by simpa using hv2
            rw [hz] at hand
            clear o1 hz
            go_wp2_with fail
            refine (in_is k 2 5 true O1 _).mono ?_
            rintro e w1 ⟨rfl, rfl⟩
            go_wp2_with fail
            go_ret
            exact ⟨ret_bool HA.out.symm, HB.out⟩
          · have HA := Lib.hid (show team ts xs = false by rw [HF.out, o1]; simp [hz, hv2])
            have hd3 : decide (2 ≤ v) = false := by simpa using hv2
            rw [hz] at hand
            clear o1 hz
            go_wp2_with fail
            refine (in_is k 2 5 true O1 _).mono ?_
            rintro e w1 ⟨rfl, rfl⟩
            go_wp2_with fail
            go_ret
            exact ⟨ret_bool HA.out.symm, HB.out⟩
        · have HA := Lib.hid (show team ts xs = false by rw [HF.out, o1]; simp [hz])
          have hd : decide (and3 sk = 3) = false := by simpa using hz
          have hd' : (and3 sk == 3) = false := by simpa using hz
          clear o1
          go_wp2_with fail
          refine (in_is k 2 5 true O1 _).mono ?_
          rintro e w1 ⟨rfl, rfl⟩
          go_wp2_with fail
          go_ret
          exact ⟨ret_bool HA.out.symm, HB.out⟩
#print axioms team_any
end Go.Proofs.Ytidofckanadkpaa.psm
