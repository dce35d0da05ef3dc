/-
  The model of the legs: which are valid, lists of them.
  Conditions: none but those that a theorem names.
-/
import Derived.Test.YtnpghhpcloljeaaTyLeg
import Derived.Test.YtnpghhpcloljeaaIn
namespace Go.Proofs.Ytnpghhpcloljeaa.lg
open Go.RowKit
open reads base ty inn
set_option linter.unusedVariables false
set_option linter.unusedSimpArgs false

theorem station_is (x : Int) (t : Bool) (h : Hid (btw 0 x 7 = t)) (w : World) : Calls Try.prog 51 #[.int .i64 x] w fun e w' => e = .returned (.bool t) ∧ w = w' := by
  go_enter Try.func51, Try.ntmps51
  go_wp2_with fail
  refine (in_is _ _ _ t h _).mono ?_
  rintro e w' ⟨rfl, rfl⟩
  go_wp2_with fail
  go_ret
  exact ⟨rfl, rfl⟩
theorem bearing_is (x : Int) (t : Bool) (h : Hid (btw 0 x 359 = t)) (w : World) : Calls Try.prog 95 #[.int .i64 x] w fun e w' => e = .returned (.bool t) ∧ w = w' := by
  go_enter Try.func95, Try.ntmps95
  go_wp2_with fail
  refine (in_is _ _ _ t h _).mono ?_
  rintro e w' ⟨rfl, rfl⟩
  go_wp2_with fail
  go_ret
  exact ⟨rfl, rfl⟩
/-- a valid leg -/
def okLg (x : Lg) : Bool := btw 0 x.frm 7 && btw 0 x.to_ 7 && (x.frm != x.to_) && btw 1 x.tape 500 && btw 0 x.comp 359 && btw (-90) x.slope 90
theorem okLg_lim {x : Lg} (h : okLg x = true) : (0 ≤ x.frm ∧ x.frm ≤ 7) ∧ (0 ≤ x.to_ ∧ x.to_ ≤ 7) ∧ ¬ x.frm = x.to_ ∧ (1 ≤ x.tape ∧ x.tape ≤ 500) ∧ (0 ≤ x.comp ∧ x.comp ≤ 359) ∧ (-90 ≤ x.slope ∧ x.slope ≤ 90) := by
  simp only [okLg, Bool.and_eq_true, bne_iff_ne, ne_eq] at h
  obtain ⟨⟨⟨⟨⟨a, b⟩, c⟩, d⟩, e⟩, f⟩ := h
  exact ⟨btw_yes a, btw_yes b, c, btw_yes d, btw_yes e, btw_yes f⟩
theorem okLg_mk {x : Lg} (h : (0 ≤ x.frm ∧ x.frm ≤ 7) ∧ (0 ≤ x.to_ ∧ x.to_ ≤ 7) ∧ ¬ x.frm = x.to_ ∧ (1 ≤ x.tape ∧ x.tape ≤ 500) ∧ (0 ≤ x.comp ∧ x.comp ≤ 359) ∧ (-90 ≤ x.slope ∧ x.slope ≤ 90)) : okLg x = true := by
  obtain ⟨a, b, c, d, e, f⟩ := h
  simp only [okLg, Bool.and_eq_true, bne_iff_ne, ne_eq]
  exact ⟨⟨⟨⟨⟨btw_mk a.1 a.2, btw_mk b.1 b.2⟩, c⟩, btw_mk d.1 d.2⟩, btw_mk e.1 e.2⟩, btw_mk f.1 f.2⟩
set_option maxHeartbeats 4000000 in
set_option maxRecDepth 100000 in
theorem leg_any (x : Lg) (w : World) : Calls Try.prog 82 #[.agg #[.int .i64 x.frm, .int .i64 x.to_, .int .i64 x.tape, .int .i64 x.comp, .int .i64 x.slope]] w (BPost (okLg x) w) := by
  obtain ⟨t0, H0⟩ : ∃ t, Hid (btw 0 x.frm 7 = t) := ⟨_, Lib.hid rfl⟩
  obtain ⟨t1, H1⟩ : ∃ t, Hid (btw 0 x.to_ 7 = t) := ⟨_, Lib.hid rfl⟩
  obtain ⟨t2, h2⟩ : ∃ t, (x.frm != x.to_) = t := ⟨_, rfl⟩
  obtain ⟨t3, H3⟩ : ∃ t, Hid (btw 1 x.tape 500 = t) := ⟨_, Lib.hid rfl⟩
  obtain ⟨t4, H4⟩ : ∃ t, Hid (btw 0 x.comp 359 = t) := ⟨_, Lib.hid rfl⟩
  obtain ⟨t5, H5⟩ : ∃ t, Hid (btw (-90) x.slope 90 = t) := ⟨_, Lib.hid rfl⟩
  have HA := Lib.hid (show okLg x = (t0 && t1 && t2 && t3 && t4 && t5) by unfold okLg; rw [H0.out, H1.out, h2, H3.out, H4.out, H5.out])
  go_enter Try.func82, Try.ntmps82
  go_wp2_with fail
  refine (station_is _ t0 H0 _).mono ?_
  rintro e w' ⟨rfl, rfl⟩
  cases t0
  · go_wp2_with fail
    go_ret
    exact ⟨by rw [HA.out]; rfl, (Below.refl w.heap.size w).alloc (Nat.le_refl _) _⟩
  go_wp2_with fail
  refine (station_is _ t1 H1 _).mono ?_
  rintro e w' ⟨rfl, rfl⟩
  cases t1
  · go_wp2_with fail
    go_ret
    exact ⟨by rw [HA.out]; rfl, (Below.refl w.heap.size w).alloc (Nat.le_refl _) _⟩
  cases t2
  · go_wp2_with fail
    go_ret
    exact ⟨by rw [HA.out]; rfl, (Below.refl w.heap.size w).alloc (Nat.le_refl _) _⟩
  go_wp2_with fail
  refine (in_is _ _ _ t3 H3 _).mono ?_
  rintro e w' ⟨rfl, rfl⟩
  cases t3
  · go_wp2_with fail
    go_ret
    exact ⟨by rw [HA.out]; rfl, (Below.refl w.heap.size w).alloc (Nat.le_refl _) _⟩
  go_wp2_with fail
  refine (bearing_is _ t4 H4 _).mono ?_
  rintro e w' ⟨rfl, rfl⟩
  cases t4
  · go_wp2_with fail
    go_ret
    exact ⟨by rw [HA.out]; rfl, (Below.refl w.heap.size w).alloc (Nat.le_refl _) _⟩
  go_wp2_with fail
  refine (in_is _ _ _ t5 H5 _).mono ?_
  rintro e w' ⟨rfl, rfl⟩
  cases t5
  · go_wp2_with fail
    go_ret
    exact ⟨by rw [HA.out]; rfl, (Below.refl w.heap.size w).alloc (Nat.le_refl _) _⟩
  go_wp2_with fail
  go_ret
  exact ⟨by rw [HA.out]; rfl, (Below.refl w.heap.size w).alloc (Nat.le_refl _) _⟩
theorem leg_is (x : Lg) (t : Bool) (h : Hid (okLg x = t)) (w : World) : Calls Try.prog 82 #[.agg #[.int .i64 x.frm, .int .i64 x.to_, .int .i64 x.tape, .int .i64 x.comp, .int .i64 x.slope]] w (BPost t w) := by rw [← h.out]; exact leg_any x w
/-- legs -/
def goodLg (ts : List Lg) : Bool := ts.all okLg && decide (ts.length ≤ 12)
theorem goodLg_len {ts : List Lg} (h : goodLg ts = true) : ts.length ≤ 12 := by simp only [goodLg, Bool.and_eq_true, decide_eq_true_eq] at h; exact h.2
theorem goodLg_all {ts : List Lg} (h : goodLg ts = true) : ∀ t ∈ ts, okLg t = true := by
  simp only [goodLg, Bool.and_eq_true, List.all_eq_true] at h
  exact h.1
theorem goodLg_at {ts : List Lg} {k : Nat} {t : Lg} (h : goodLg ts = true) (hk : ts[k]? = some t) : okLg t = true := by
  simp only [goodLg, Bool.and_eq_true, List.all_eq_true] at h
  exact h.1 t (List.mem_of_getElem? hk)
set_option maxHeartbeats 4000000 in
set_option maxRecDepth 100000 in
theorem legs_any (A : Option Addr) (n cap : Nat) (ts : List Lg) (w : World) (hn : n ≤ 2000000) (hts : Hid (LgAt w w.heap.size A n ts)) :
    Calls Try.prog 55 #[.slice A n cap] w (BPost (goodLg ts) w) := by
  have hL : Hid (ts.length = n) := Lib.hid hts.out.1
  go_enter Try.func55, Try.ntmps55
  go_wp2_with fail
  go_loopw [3] (fun i wr => ∃ k : Nat, k ≤ n ∧ i = .int .i64 k ∧ Hid ((ts.take k).all okLg = true) ∧ Below w.heap.size w wr) (fun i _ => n - (intOf i).toNat)
  case atStart => exact ⟨0, Nat.zero_le _, rfl, Lib.hid (by simp), Below.refl _ _⟩
  case round =>
    obtain ⟨k, hk, rfl, HI, hB⟩ := hrel
    have HB := Lib.hid hB
    clear hB
    by_cases hlt : k < n
    · obtain ⟨t, htk⟩ := at_lt hL.out hlt
      obtain ⟨g, rfl, hg, h0, h1, h2, h3, h4⟩ := (hts.out.below HB.out).2 k t htk
      have HK := Lib.hid htk
      clear htk
      have hki : (k : Int) < (n : Int) := by omega
      have hk0 : 0 ≤ (k : Int) := by omega
      have hkd : decide (k < n) = true := by simpa using hlt
      cases ot : okLg t
      · have OT := Lib.hid ot
        have HF := Lib.hid (show goodLg ts = false by unfold goodLg; rw [all_no HK.out ot]; rfl)
        clear ot
        go_wp2_with fail
        refine (leg_is t false OT _).mono ?_
        rintro e w1 ⟨rfl, b1⟩
        have HS := Lib.hid (HB.out.trans (b1.mono HB.out.size))
        clear b1
        go_wp2_with fail
        go_ret
        exact ⟨ret_bool HF.out.symm, HS.out⟩
      · have OT := Lib.hid ot
        have HN := Lib.hid (all_take HK.out HI.out ot)
        clear ot
        go_wp2_with fail
        refine (leg_is t true OT _).mono ?_
        rintro e w1 ⟨rfl, b1⟩
        have HS := Lib.hid (HB.out.trans (b1.mono HB.out.size))
        clear b1
        go_wp2_with fail
        go_roundw
        case rel => exact ⟨k + 1, by omega, by go_num, HN, HS.out⟩
        case measure => simp [intOf]; omega
    · have hkd : decide (k < n) = false := by simpa using hlt
      obtain rfl : k = n := by omega
      have HF := Lib.hid (show goodLg ts = decide (k ≤ 12) by unfold goodLg; rw [hL.out, show ts.all okLg = true by have := HI.out; rwa [List.take_of_length_le (by rw [hL.out]; omega)] at this]; rfl)
      clear hlt
      by_cases h8 : k ≤ 12
      · have d8 : decide (k ≤ 12) = true := by simpa using h8
        have d8' : decide ((k : Int) ≤ 12) = true := by simp; omega
        rw [d8] at HF
        go_wp2_with fail
        go_ret
        exact ⟨ret_bool HF.out.symm, HB.out⟩
      · have d8 : decide (k ≤ 12) = false := by simpa using h8
        have d8' : decide ((k : Int) ≤ 12) = false := by simp; omega
        rw [d8] at HF
        go_wp2_with fail
        go_ret
        exact ⟨ret_bool HF.out.symm, HB.out⟩
theorem legs_is (A : Option Addr) (n cap : Nat) (ts : List Lg) (t : Bool) (w : World) (hn : n ≤ 2000000) (hts : Hid (LgAt w w.heap.size A n ts)) (h : Hid (goodLg ts = t)) :
    Calls Try.prog 55 #[.slice A n cap] w (BPost t w) := by rw [← h.out]; exact legs_any A n cap ts w hn hts
end Go.Proofs.Ytnpghhpcloljeaa.lg
