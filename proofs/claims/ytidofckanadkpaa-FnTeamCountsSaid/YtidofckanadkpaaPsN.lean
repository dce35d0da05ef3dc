/-
  IsTeam, SkillsOf, by the model.
  Conditions: both lists have at most 2000000 elements and lie in one block each; names have at most 1048576 bytes.
-/
import Derived.Test.YtidofckanadkpaaPsM
namespace Go.Proofs.Ytidofckanadkpaa.psn
open Go.RowKit
open reads base inn ty psf psk psl psm
set_option linter.unusedVariables false
set_option linter.unusedSimpArgs false

theorem gAll_at {ts : List Ps} : ∀ {n : Nat}, psg.gAll ts n = true → ∀ i, i < n → psg.gAt ts i = true
  | 0, _, i, hl => by omega
  | n + 1, h, i, hl => by
    rw [psg.gAll, Bool.and_eq_true] at h
    by_cases e : i = n
    · subst e; exact h.2
    · exact gAll_at h.1 i (by omega)
/-- everybody's fields are in bounds -/
theorem good_ok {ts : List Ps} (h : psg.good ts = true) : ∀ t ∈ ts, psg.okP t = true := by
  intro t ht
  obtain ⟨i, hi⟩ := List.getElem?_of_mem ht
  unfold psg.good at h
  rw [Bool.and_eq_true] at h
  have e := gAll_at h.1 i (List.getElem?_eq_some_iff.1 hi).1
  rw [psg.gAt_is hi, Bool.and_eq_true, Bool.and_eq_true] at e
  exact e.1.1
theorem ok_bd {t : Ps} (h : psg.okP t = true) : (0 ≤ t.skills ∧ t.skills ≤ 15) ∧ 0 ≤ t.trips ∧ t.trips ≤ 500 := by
  simp only [psg.okP, Bool.and_eq_true] at h
  exact ⟨btw_yes h.1.2, btw_yes h.2⟩
theorem asked_parts {ts : List Ps} {xs : List Int} (h : asked ts xs = true) : (∀ x ∈ xs, has ts x = true) ∧ psg.good ts = true ∧ ris.rising 1 99 xs = true := by
  simp only [asked, Bool.and_eq_true, List.all_eq_true] at h
  exact ⟨h.1.1, h.1.2, h.2⟩
theorem asked_bd {ts : List Ps} {xs : List Int} (h : asked ts xs = true) : ∀ t ∈ ts, (0 ≤ t.skills ∧ t.skills ≤ 15) ∧ 0 ≤ t.trips ∧ t.trips ≤ 500 := fun t ht => ok_bd (good_ok (asked_parts h).2.1 t ht)
/-- IsTeam's answer -/
def ansIs (ts : List Ps) (xs : List Int) : Value := if asked ts xs then .tuple #[.bool (team ts xs), .bool true] else .tuple #[.bool false, .bool false]
/-- SkillsOf's answer -/
def ansSk (ts : List Ps) (xs : List Int) : Value := if asked ts xs && team ts xs then .tuple #[.int .i64 (skN ts xs xs.length), .bool true] else .tuple #[.int .i64 0, .bool false]
set_option maxHeartbeats 4000000 in
set_option maxRecDepth 100000 in
theorem isTeam_model (A : Option Addr) (n cap : Nat) (ts : List Ps) (A' : Option Addr) (m cap' : Nat) (xs : List Int) (w : World) (hn : n ≤ 2000000) (hm : m ≤ 2000000) (hs : Hid (∀ t ∈ ts, t.name.size ≤ 1048576)) (hts : Hid (PsAt w w.heap.size A n ts)) (hxs : Hid (InAt w w.heap.size A' m xs)) :
    Calls Try.prog 26 #[.slice A n cap, .slice A' m cap'] w (APost (ansIs ts xs) w) := by
  cases ha : asked ts xs
  · have HA := Lib.hid ha
    have HF := Lib.hid (show ansIs ts xs = .tuple #[.bool false, .bool false] by unfold ansIs; rw [ha]; rfl)
    clear ha
    go_enter Try.func26, Try.ntmps26
    go_wp2_with fail
    refine (asked_is A n cap ts A' m cap' xs false _ hn hm hs hts hxs HA).mono ?_
    rintro e w1 ⟨rfl, b1⟩
    have HB := Lib.hid b1
    clear b1
    go_wp2_with fail
    go_ret2
    exact ⟨by rw [HF.out]; rfl, HB.out⟩
  · have HA := Lib.hid ha
    have HH := Lib.hid (asked_parts ha).1
    have HD := Lib.hid (asked_bd ha)
    have HF := Lib.hid (show ansIs ts xs = .tuple #[.bool (team ts xs), .bool true] by unfold ansIs; rw [ha]; rfl)
    clear ha
    go_enter Try.func26, Try.ntmps26
    go_wp2_with fail
    refine (asked_is A n cap ts A' m cap' xs true _ hn hm hs hts hxs HA).mono ?_
    rintro e w1 ⟨rfl, b1⟩
    have HB := Lib.hid b1
    have HT1 := Lib.hid (hts.out.step b1)
    have HX1 := Lib.hid (hxs.out.step b1)
    clear b1
    go_wp2_with fail
    refine (team_any A n cap ts A' m cap' xs _ hn hm HH HD HT1 HX1).mono ?_
    rintro e w2 ⟨rfl, b2⟩
    have HB2 := Lib.hid (HB.out.trans (b2.mono HB.out.size))
    clear b2
    go_wp2_with fail
    go_ret2
    exact ⟨by rw [HF.out]; rfl, HB2.out⟩
set_option maxHeartbeats 4000000 in
set_option maxRecDepth 100000 in
theorem skillsOf_model (A : Option Addr) (n cap : Nat) (ts : List Ps) (A' : Option Addr) (m cap' : Nat) (xs : List Int) (w : World) (hn : n ≤ 2000000) (hm : m ≤ 2000000) (hs : Hid (∀ t ∈ ts, t.name.size ≤ 1048576)) (hts : Hid (PsAt w w.heap.size A n ts)) (hxs : Hid (InAt w w.heap.size A' m xs)) :
    Calls Try.prog 42 #[.slice A n cap, .slice A' m cap'] w (APost (ansSk ts xs) w) := by
  cases ha : asked ts xs
  · have HA := Lib.hid ha
    have HF := Lib.hid (show ansSk ts xs = .tuple #[.int .i64 0, .bool false] by unfold ansSk; rw [ha]; rfl)
    clear ha
    go_enter Try.func42, Try.ntmps42
    go_wp2_with fail
    refine (asked_is A n cap ts A' m cap' xs false _ hn hm hs hts hxs HA).mono ?_
    rintro e w1 ⟨rfl, b1⟩
    have HB := Lib.hid b1
    clear b1
    go_wp2_with fail
    go_ret2
    exact ⟨by rw [HF.out]; rfl, HB.out⟩
  have HA := Lib.hid ha
  have HH := Lib.hid (asked_parts ha).1
  have HD := Lib.hid (asked_bd ha)
  obtain ⟨t, HTM⟩ : ∃ t, Hid (team ts xs = t) := ⟨_, Lib.hid rfl⟩
  obtain ⟨sk, HSK⟩ : ∃ z, Hid (skN ts xs xs.length = z) := ⟨_, Lib.hid rfl⟩
  obtain ⟨tr, HTR⟩ : ∃ z, Hid (trN ts xs xs.length = z) := ⟨_, Lib.hid rfl⟩
  have HAL := Lib.hid (show ansAll ts xs = .tuple #[.int .i64 sk, .int .i64 tr] by unfold ansAll; rw [HSK.out, HTR.out])
  have HF := Lib.hid (show ansSk ts xs = if t then .tuple #[.int .i64 sk, .bool true] else .tuple #[.int .i64 0, .bool false] by unfold ansSk; rw [ha, HTM.out, HSK.out]; rfl)
  clear ha
  go_enter Try.func42, Try.ntmps42
  go_wp2_with fail
  refine (asked_is A n cap ts A' m cap' xs true _ hn hm hs hts hxs HA).mono ?_
  rintro e w1 ⟨rfl, b1⟩
  have HB := Lib.hid b1
  have HT1 := Lib.hid (hts.out.step b1)
  have HX1 := Lib.hid (hxs.out.step b1)
  clear b1
  go_wp2_with fail
  refine (team_any A n cap ts A' m cap' xs _ hn hm HH HD HT1 HX1).mono ?_
  rintro e w2 ⟨rfl, b2⟩
  have HB2 := Lib.hid (HB.out.trans (b2.mono HB.out.size))
  have HT2 := Lib.hid (HT1.out.step b2)
  have HX2 := Lib.hid (HX1.out.step b2)
  clear b2
  rw [HTM.out]
  cases t
  · go_wp2_with fail
    go_ret2
    exact ⟨by rw [HF.out]; rfl, HB2.out⟩
  · go_wp2_with fail
    refine (all_model A n cap ts A' m cap' xs _ hn hm HH HD HT2 HX2).mono ?_
    rintro e w3 ⟨he, b3⟩
    rw [HAL.out] at he
    subst he
    have HB3 := Lib.hid (HB2.out.trans (b3.mono HB2.out.size))
    clear b3
    go_wp2_with fail
    go_ret2
    exact ⟨by rw [HF.out]; rfl, HB3.out⟩
#print axioms isTeam_model
#print axioms skillsOf_model
end Go.Proofs.Ytidofckanadkpaa.psn
