/-
  People and Ids of them, by the model; ArePeople.
  Conditions: both lists have at most 2000000 elements and lie in one block each; names have at most 1048576 bytes.
-/
import Derived.Test.YtidofckanadkpaaPsF
import Derived.Test.YtidofckanadkpaaPsG
import Derived.Test.YtidofckanadkpaaRis
namespace Go.Proofs.Ytidofckanadkpaa.psk
open Go.RowKit
open reads base inn ty psf
set_option linter.unusedVariables false
set_option linter.unusedSimpArgs false

/-- the Id is somebody's -/
def has (ts : List Ps) (x : Int) : Bool := decide (0 ≤ find ts x)
/-- valid people and a list of Ids of them -/
def asked (ts : List Ps) (xs : List Int) : Bool := xs.all (has ts) && psg.good ts && ris.rising 1 99 xs
set_option maxHeartbeats 4000000 in
theorem arePeople_model (A : Option Addr) (n cap : Nat) (ts : List Ps) (w : World) (hn : n ≤ 2000000) (hs : Hid (∀ t ∈ ts, t.name.size ≤ 1048576)) (hts : Hid (PsAt w w.heap.size A n ts)) :
    Calls Try.prog 31 #[.slice A n cap] w (BPost (psg.good ts) w) := by
  go_enter Try.func31, Try.ntmps31
  go_wp2_with fail
  refine (psg.good_any A n cap ts _ hn hs hts).mono ?_
  rintro e w1 ⟨rfl, b1⟩
  have HB := Lib.hid b1
  clear b1
  go_wp2_with fail
  go_ret
  exact ⟨rfl, HB.out⟩
set_option maxHeartbeats 4000000 in
set_option maxRecDepth 100000 in
theorem asked_any (A : Option Addr) (n cap : Nat) (ts : List Ps) (A' : Option Addr) (m cap' : Nat) (xs : List Int) (w : World) (hn : n ≤ 2000000) (hm : m ≤ 2000000) (hs : Hid (∀ t ∈ ts, t.name.size ≤ 1048576)) (hts : Hid (PsAt w w.heap.size A n ts)) (hxs : Hid (InAt w w.heap.size A' m xs)) :
    Calls Try.prog 73 #[.slice A n cap, .slice A' m cap'] w (BPost (asked ts xs) w) := by
  have hL : Hid (xs.length = m) := Lib.hid hxs.out.1
  go_enter Try.func73, Try.ntmps73
  go_wp2_with fail
  go_loop [5] (fun i => ∃ k : Nat, k ≤ m ∧ i = .int .i64 k ∧ Hid ((xs.take k).all (has ts) = true)) (fun i => m - (intOf i).toNat)
  case atStart => exact ⟨0, Nat.zero_le _, rfl, Lib.hid (by simp)⟩
  case round =>
    obtain ⟨k, hk, rfl, HI⟩ := hrel
    by_cases hlt : k < m
    · obtain ⟨x, hxk⟩ := at_lt hL.out hlt
      obtain ⟨g, rfl, hg, h0⟩ := hxs.out.2 k x hxk
      have HK := Lib.hid hxk
      clear hxk
      obtain ⟨z, HZ⟩ : ∃ z, Hid (find ts x = z) := ⟨_, Lib.hid rfl⟩
      have hki : (k : Int) < (m : Int) := by omega
      have hk0 : 0 ≤ (k : Int) := by omega
      have hkd : decide (k < m) = true := by simpa using hlt
      by_cases hz : z < 0
      · have HF := Lib.hid (show asked ts xs = false by unfold asked; rw [all_no (p := has ts) HK.out (by unfold has; rw [HZ.out]; simpa using hz)]; rfl)
        have hzd : decide (z < 0) = true := by simpa using hz
        clear hz
        go_wp2_with fail
        refine (find_model_is A n cap ts x z HZ _ hn hts).mono ?_
        rintro e w1 ⟨rfl, rfl⟩
        go_wp2_with fail
        go_ret
        exact ⟨ret_bool HF.out.symm, Below.refl _ _⟩
      · have HN := Lib.hid (all_take (p := has ts) HK.out HI.out (by unfold has; rw [HZ.out]; simp; omega))
        have hzd : decide (z < 0) = false := by simpa using hz
        clear hz
        go_wp2_with fail
        refine (find_model_is A n cap ts x z HZ _ hn hts).mono ?_
        rintro e w1 ⟨rfl, rfl⟩
        go_wp2_with fail
        go_round
        case rel => exact ⟨k + 1, by omega, by go_num, HN⟩
        case measure => simp [intOf]; omega
    · have hkd : decide (k < m) = false := by simpa using hlt
      have HA := Lib.hid (show asked ts xs = (psg.good ts && ris.rising 1 99 xs) by
        have := HI.out
        rw [List.take_of_length_le (by rw [hL.out]; omega)] at this
        unfold asked; rw [this]; rfl)
      clear hlt
      cases hg : psg.good ts
      · have HG := Lib.hid hg
        have HF := Lib.hid (show asked ts xs = false by rw [HA.out, hg]; rfl)
        clear hg
        go_wp2_with fail
        refine (psg.good_is A n cap ts false _ hn hs hts HG).mono ?_
        rintro e w1 ⟨rfl, b1⟩
        have HB := Lib.hid b1
        clear b1
        go_wp2_with fail
        go_ret
        exact ⟨ret_bool HF.out.symm, HB.out⟩
      · have HG := Lib.hid hg
        obtain ⟨r, HRI⟩ : ∃ r, Hid (ris.rising 1 99 xs = r) := ⟨_, Lib.hid rfl⟩
        have HF := Lib.hid (show asked ts xs = r by rw [HA.out, hg, HRI.out]; rfl)
        clear hg
        go_wp2_with fail
        refine (psg.good_is A n cap ts true _ hn hs hts HG).mono ?_
        rintro e w1 ⟨rfl, b1⟩
        have HB := Lib.hid b1
        have HX1 := Lib.hid (hxs.out.step b1)
        clear b1
        go_wp2_with fail
        refine (ris.rising_is A' m cap' xs 1 99 r _ hm HX1 HRI).mono ?_
        rintro e w2 ⟨rfl, b2⟩
        have HB2 := Lib.hid (HB.out.trans (b2.mono HB.out.size))
        clear b2
        go_wp2_with fail
        go_ret
        exact ⟨ret_bool HF.out.symm, HB2.out⟩
theorem asked_is (A : Option Addr) (n cap : Nat) (ts : List Ps) (A' : Option Addr) (m cap' : Nat) (xs : List Int) (t : Bool) (w : World) (hn : n ≤ 2000000) (hm : m ≤ 2000000) (hs : Hid (∀ t ∈ ts, t.name.size ≤ 1048576)) (hts : Hid (PsAt w w.heap.size A n ts)) (hxs : Hid (InAt w w.heap.size A' m xs)) (ht : Hid (asked ts xs = t)) :
    Calls Try.prog 73 #[.slice A n cap, .slice A' m cap'] w (BPost t w) := by rw [← ht.out]; exact asked_any A n cap ts A' m cap' xs w hn hm hs hts hxs
#print axioms asked_is
#print axioms arePeople_model
end Go.Proofs.Ytidofckanadkpaa.psk
