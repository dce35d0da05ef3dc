/-
  The model of the legs: which are valid, lists of them.
  Conditions: none but those that a theorem names.
-/
import Derived.Test.YtnpghhpcloljeaaDoorTyLeg
import Derived.Test.YtnpghhpcloljeaaDoorIn
namespace Go.Proofs.YtnpghhpcloljeaaDoor.lg
open Go.RowKit
open reads base ty inn
set_option linter.unusedVariables false
set_option linter.unusedSimpArgs false

theorem station_is (x : Int) (t : Bool) (h : Hid (btw 0 x 7 = t)) (w : World) : Calls Tryd.prog 48 #[.int .i64 x] w fun e w' => e = .returned (.bool t) ∧ w = w' := by
  go_enter Tryd.func48, Tryd.ntmps48
  go_wp2_with fail
  refine (in_is _ _ _ t h _).mono ?_
  rintro e w' ⟨rfl, rfl⟩
  go_wp2_with fail
  go_ret
  exact ⟨rfl, rfl⟩
theorem bearing_is (x : Int) (t : Bool) (h : Hid (btw 0 x 359 = t)) (w : World) : Calls Tryd.prog 57 #[.int .i64 x] w fun e w' => e = .returned (.bool t) ∧ w = w' := by
  go_enter Tryd.func57, Tryd.ntmps57
  go_wp2_with fail
  refine (in_is _ _ _ t h _).mono ?_
  rintro e w' ⟨rfl, rfl⟩
  go_wp2_with fail
  go_ret
  exact ⟨rfl, rfl⟩
/-- a valid leg -/
def okLg (x : Lg) : Bool := btw 0 x.frm 7 && btw 0 x.to_ 7 && (x.frm != x.to_) && btw 1 x.tape 500 && btw 0 x.comp 359 && btw (-90) x.slope 90
theorem okLg_lim {x : Lg} (h : okLg x = true) : (0 ≤ x.frm ∧ x.frm ≤ 7) ∧ (0 ≤ x.to_ ∧ x.to_ ≤ 7) ∧ ¬ x.frm = x.to_ ∧ (1 ≤ x.tape ∧ x.tape ≤ 500) ∧ (0 ≤ x.comp ∧ x.comp ≤ 359) ∧ (-90 ≤ x.slope ∧ x.slope ≤ 90) := by
  simp only [okLg, Bool.and_eq_true, bne_iff_ne, ne_eq] at h
  obtain ⟨⟨⟨⟨⟨a, b⟩, c⟩, d⟩, e⟩, f⟩ := h
  exact ⟨btw_yes a, btw_yes b, c, btw_yes d, btw_yes e, btw_yes f⟩
theorem okLg_mk {x : Lg} (h : (0 ≤ x.frm ∧ x.frm ≤ 7) ∧ (0 ≤ x.to_ ∧ x.to_ ≤ 7) ∧ ¬ x.frm = x.to_ ∧ (1 ≤ x.tape ∧ x.tape ≤ 500) ∧ (0 ≤ x.comp ∧ x.comp ≤ 359) ∧ (-90 ≤ x.slope ∧ x.slope ≤ 90)) : okLg x = true := by
  obtain ⟨a, b, c, d, e, f⟩ := h
  simp only [okLg, Bool.and_eq_true, bne_iff_ne, ne_eq]
  exact ⟨⟨⟨⟨⟨btw_mk a.1 a.2, btw_mk b.1 b.2⟩, c⟩, btw_mk d.1 d.2⟩, btw_mk e.1 e.2⟩, btw_mk f.1 f.2⟩
set_option maxHeartbeats 4000000 in
set_option maxRecDepth 100000 in
theorem leg_any (x : Lg) (w : World) : Calls Tryd.prog 26 #[.agg #[.int .i64 x.frm, .int .i64 x.to_, .int .i64 x.tape, .int .i64 x.comp, .int .i64 x.slope]] w (BPost (okLg x) w) := by
  obtain ⟨t0, H0⟩ : ∃ t, Hid (btw 0 x.frm 7 = t) := ⟨_, Lib.hid rfl⟩
  obtain ⟨t1, H1⟩ : ∃ t, Hid (btw 0 x.to_ 7 = t) := ⟨_, Lib.hid rfl⟩
  obtain ⟨t2, h2⟩ : ∃ t, (x.frm != x.to_) = t := ⟨_, rfl⟩
  obtain ⟨t3, H3⟩ : ∃ t, Hid (btw 1 x.tape 500 = t) := ⟨_, Lib.hid rfl⟩
  obtain ⟨t4, H4⟩ : ∃ t, Hid (btw 0 x.comp 359 = t) := ⟨_, Lib.hid rfl⟩
  obtain ⟨t5, H5⟩ : ∃ t, Hid (btw (-90) x.slope 90 = t) := ⟨_, Lib.hid rfl⟩
  have HA := Lib.hid (show okLg x = (t0 && t1 && t2 && t3 && t4 && t5) by unfold okLg; rw [H0.out, H1.out, h2, H3.out, H4.out, H5.out])
  go_enter Tryd.func26, Tryd.ntmps26
  go_wp2_with fail
  refine (station_is _ t0 H0 _).mono ?_
  rintro e w' ⟨rfl, rfl⟩
  cases t0
  · go_wp2_with fail
    go_ret
    exact ⟨by rw [HA.out]; rfl, (Below.refl w.heap.size w).alloc (Nat.le_refl _) _⟩
  go_wp2_with fail
  refine (station_is _ t1 H1 _).mono ?_
  rintro e w' ⟨rfl, rfl⟩
  cases t1
  · go_wp2_with fail
    go_ret
    exact ⟨by rw [HA.out]; rfl, (Below.refl w.heap.size w).alloc (Nat.le_refl _) _⟩
  cases t2
  · go_wp2_with fail
    go_ret
    exact ⟨by rw [HA.out]; rfl, (Below.refl w.heap.size w).alloc (Nat.le_refl _) _⟩
  go_wp2_with fail
  refine (in_is _ _ _ t3 H3 _).mono ?_
  rintro e w' ⟨rfl, rfl⟩
  cases t3
  · go_wp2_with fail
    go_ret
    exact ⟨by rw [HA.out]; rfl, (Below.refl w.heap.size w).alloc (Nat.le_refl _) _⟩
  go_wp2_with fail
  refine (bearing_is _ t4 H4 _).mono ?_
  rintro e w' ⟨rfl, rfl⟩
  cases t4
  · go_wp2_with fail
    go_ret
    exact ⟨by rw [HA.out]; rfl, (Below.refl w.heap.size w).alloc (Nat.le_refl _) _⟩
  go_wp2_with fail
  refine (in_is _ _ _ t5 H5 _).mono ?_
  rintro e w' ⟨rfl, rfl⟩
  cases t5
  · go_wp2_with fail
    go_ret
    exact ⟨by rw [HA.out]; rfl, (Below.refl w.heap.size w).alloc (Nat.le_refl _) _⟩
  go_wp2_with fail
  go_ret
  exact ⟨by rw [HA.out]; rfl, (Below.refl w.heap.size w).alloc (Nat.le_refl _) _⟩
theorem leg_is (x : Lg) (t : Bool) (h : Hid (okLg x = t)) (w : World) : Calls Tryd.prog 26 #[.agg #[.int .i64 x.frm, .int .i64 x.to_, .int .i64 x.tape, .int .i64 x.comp, .int .i64 x.slope]] w (BPost t w) := by rw [← h.out]; exact leg_any x w
/-- legs -/
def goodLg (ts : List Lg) : Bool := ts.all okLg && decide (ts.length ≤ 12)
theorem goodLg_len {ts : List Lg} (h : goodLg ts = true) : ts.length ≤ 12 := by simp only [goodLg, Bool.and_eq_true, decide_eq_true_eq] at h; exact h.2
theorem goodLg_all {ts : List Lg} (h : goodLg ts = true) : ∀ t ∈ ts, okLg t = true := by
  simp only [goodLg, Bool.and_eq_true, List.all_eq_true] at h
  exact h.1
theorem goodLg_at {ts : List Lg} {k : Nat} {t : Lg} (h : goodLg ts = true) (hk : ts[k]? = some t) : okLg t = true := by
  simp only [goodLg, Bool.and_eq_true, List.all_eq_true] at h
  exact h.1 t (List.mem_of_getElem? hk)
end Go.Proofs.YtnpghhpcloljeaaDoor.lg
