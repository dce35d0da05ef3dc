/-
  The model of the tools: the error of a check.
  Conditions: none but those that a theorem names.
-/
import Derived.Test.YtekbiapgbhaibaaTlC
namespace Go.Proofs.Ytekbiapgbhaibaa.tl
open Go.RowKit
open reads
set_option linter.unusedVariables false

theorem bcell {W w1 : World} (hb : Below W.heap.size W w1) : (∀ b o, b < W.heap.size → w1.cell? ⟨b, o, none⟩ = W.cell? ⟨b, o, none⟩) ∧ (∀ b o, b < W.heap.size → w1.frozen? ⟨b, o, none⟩ = W.frozen? ⟨b, o, none⟩) :=
  ⟨fun b o h => hb.cell (p := ⟨b, o, none⟩) h, fun b o h => hb.frozen (p := ⟨b, o, none⟩) h⟩

/-- the error of a check -/
def errV (x : Tl) (c : Ck) : Int := if x.kind = 1 then (corr x c.read - c.tru + 360 + 179) % 360 - 179 else corr x c.read - c.tru
def errOk (x : Tl) (c : Ck) : Bool := corrOk x c.read && rdg x.kind c.tru
def ansErr (x : Tl) (c : Ck) : Value := if errOk x c = true then .tuple #[.int .i64 (errV x c), .bool true] else .tuple #[.int .i64 0, .bool false]
theorem corrOk_yes {x : Tl} {r : Int} (h : corrOk x r = true) : okT x = true ∧ rdg x.kind r = true ∧ rdg x.kind (corr x r) = true := by
  simp only [corrOk, Bool.and_eq_true] at h
  exact ⟨h.1.1, h.1.2, h.2⟩
theorem rdg_one {k r : Int} (h : rdg k r = true) (hk : k = 1) : 0 ≤ r ∧ r ≤ 359 := by subst hk; exact btw_yes h

set_option maxHeartbeats 1000000 in
theorem error_any (x : Tl) (c : Ck) (w : World) : Calls Try.prog 68 #[.agg #[.int .i64 x.id, .int .i64 x.kind, .int .i64 x.zero, .int .i64 x.scale], .agg #[.int .i64 c.read, .int .i64 c.tru]] w (APost (ansErr x c) w) := by
  cases hc : corrOk x c.read
  · have HA := Lib.hid (show ansErr x c = .tuple #[.int .i64 0, .bool false] by unfold ansErr errOk; rw [hc]; rfl)
    have HC := Lib.hid (show ansCorr x c.read = .tuple #[.int .i64 0, .bool false] by unfold ansCorr; rw [hc]; rfl)
    clear hc
    go_enter Try.func68, Try.ntmps68
    go_wp2_with fail
    refine (correctReading_model x c.read _).mono ?_
    rintro e w1 ⟨rfl, b1⟩
    rw [HC.out]
    have HB := Lib.hid ((((Below.refl w.heap.size w).alloc (Nat.le_refl _) _).alloc (by simp) _).trans (b1.mono (by simp; omega)))
    clear b1
    go_wp2_with fail
    go_ret2
    exact ⟨by rw [HA.out]; rfl, HB.out⟩
  · obtain ⟨k1, k2, k3⟩ := corrOk_yes hc
    obtain ⟨n, HN⟩ : ∃ n, Hid (corr x c.read = n) := ⟨_, Lib.hid rfl⟩
    have HC := Lib.hid (show ansCorr x c.read = .tuple #[.int .i64 n, .bool true] by unfold ansCorr; rw [hc, HN.out]; rfl)
    rw [HN.out] at k3
    have hnb := rdg_bd k3
    cases ht : rdg x.kind c.tru
    · have HA := Lib.hid (show ansErr x c = .tuple #[.int .i64 0, .bool false] by unfold ansErr errOk; rw [hc, ht]; rfl)
      have HT := Lib.hid ht
      clear hc ht k1 k2 k3
      go_enter Try.func68, Try.ntmps68
      go_wp2_with fail
      refine (correctReading_model x c.read _).mono ?_
      rintro e w1 ⟨rfl, b1⟩
      rw [HC.out]
      have HB := Lib.hid ((((Below.refl w.heap.size w).alloc (Nat.le_refl _) _).alloc (by simp) _).trans (b1.mono (by simp; omega)))
      obtain ⟨hc1, hf1⟩ := bcell b1
      clear b1
      go_wp2_with fail
      refine (reading_is _ _ false HT _).mono ?_
      rintro e w' ⟨rfl, rfl⟩
      go_wp2_with fail
      go_ret2
      exact ⟨by rw [HA.out]; rfl, HB.out⟩
    · have HA := Lib.hid (show ansErr x c = .tuple #[.int .i64 (errV x c), .bool true] by unfold ansErr errOk; rw [hc, ht]; rfl)
      have htb := rdg_bd ht
      have HT := Lib.hid ht
      by_cases q : x.kind = 1
      · have HV := Lib.hid (show errV x c = (n - c.tru + 360 + 179) % 360 - 179 by unfold errV; rw [if_pos q, HN.out])
        have e1 := rdg_one k3 q
        have e2 := rdg_one ht q
        have d1 : (x.kind == 1) = true := by simpa using q
        clear hc ht k1 k2 k3 q
        go_enter Try.func68, Try.ntmps68
        go_wp2_with fail
        refine (correctReading_model x c.read _).mono ?_
        rintro e w1 ⟨rfl, b1⟩
        rw [HC.out]
        have HB := Lib.hid ((((Below.refl w.heap.size w).alloc (Nat.le_refl _) _).alloc (by simp) _).trans (b1.mono (by simp; omega)))
        obtain ⟨hc1, hf1⟩ := bcell b1
        clear b1
        go_wp2_with fail
        refine (reading_is _ _ true HT _).mono ?_
        rintro e w' ⟨rfl, rfl⟩
        go_wp2_with fail
        go_ret2
        exact ⟨by rw [HA.out, HV.out]; rfl, HB.out⟩
      · have HV := Lib.hid (show errV x c = n - c.tru by unfold errV; rw [if_neg q, HN.out])
        have d1 : (x.kind == 1) = false := by simpa using q
        clear hc ht k1 k2 k3 q
        go_enter Try.func68, Try.ntmps68
        go_wp2_with fail
        refine (correctReading_model x c.read _).mono ?_
        rintro e w1 ⟨rfl, b1⟩
        rw [HC.out]
        have HB := Lib.hid ((((Below.refl w.heap.size w).alloc (Nat.le_refl _) _).alloc (by simp) _).trans (b1.mono (by simp; omega)))
        obtain ⟨hc1, hf1⟩ := bcell b1
        clear b1
        go_wp2_with fail
        refine (reading_is _ _ true HT _).mono ?_
        rintro e w' ⟨rfl, rfl⟩
        go_wp2_with fail
        go_ret2
        exact ⟨by rw [HA.out, HV.out]; rfl, HB.out⟩
theorem checkError_model (x : Tl) (c : Ck) (w : World) : Calls Try.prog 28 #[.agg #[.int .i64 x.id, .int .i64 x.kind, .int .i64 x.zero, .int .i64 x.scale], .agg #[.int .i64 c.read, .int .i64 c.tru]] w (APost (ansErr x c) w) := by
  obtain ⟨v, t, h⟩ : ∃ (v : Int) (t : Bool), ansErr x c = .tuple #[.int .i64 v, .bool t] := by
    unfold ansErr
    split
    · exact ⟨_, _, rfl⟩
    · exact ⟨_, _, rfl⟩
  have H := Lib.hid h
  clear h
  go_enter Try.func28, Try.ntmps28
  go_wp2_with fail
  refine (error_any x c _).mono ?_
  rintro e w1 ⟨rfl, b1⟩
  rw [H.out]
  have HB := Lib.hid ((((Below.refl w.heap.size w).alloc (Nat.le_refl _) _).alloc (by simp) _).trans (b1.mono (by simp; omega)))
  clear b1
  go_wp2_with fail
  go_ret2
  exact ⟨by rw [H.out]; rfl, HB.out⟩
end Go.Proofs.Ytekbiapgbhaibaa.tl
