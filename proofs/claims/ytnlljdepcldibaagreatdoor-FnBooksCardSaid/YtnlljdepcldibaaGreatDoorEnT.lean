/-
  The model of the entries of field books: which are valid, their legs, books of them.
  Conditions: none but those that a theorem names.
-/
import Derived.Test.YtnlljdepcldibaaGreatDoorTyEn
import Derived.Test.YtnlljdepcldibaaGreatDoorLgA0
import Derived.Deep.DeepCutAuto
namespace Go.Proofs.YtnlljdepcldibaaGreatDoor.en
open Go.RowKit
open reads base ty inn lg
set_option linter.unusedVariables false
set_option linter.unusedSimpArgs false

/-- an entry's numbers as a leg -/
def asLg (x : En) : Lg := ⟨x.frm, x.to_, x.tape, x.comp, x.slope⟩
def okEn (x : En) : Bool := okLg (asLg x)
theorem okEn_lim {x : En} (h : okEn x = true) : (0 ≤ x.frm ∧ x.frm ≤ 7) ∧ (0 ≤ x.to_ ∧ x.to_ ≤ 7) ∧ ¬ x.frm = x.to_ ∧ (1 ≤ x.tape ∧ x.tape ≤ 500) ∧ (0 ≤ x.comp ∧ x.comp ≤ 359) ∧ (-90 ≤ x.slope ∧ x.slope ≤ 90) := okLg_lim h
set_option maxHeartbeats 4000000 in
set_option maxRecDepth 100000 in
theorem one_any (x : En) (w : World) : Calls Tryz.prog 24 #[.agg #[.int .i64 x.frm, .int .i64 x.to_, .int .i64 x.tape, .int .i64 x.comp, .int .i64 x.slope, .bool x.back]] w (BPost (okEn x) w) := by
  go_enter Tryz.func24, Tryz.ntmps24
  go_wp2_with fail
  refine (leg_is (asLg x) (okEn x) (Lib.hid rfl) _).mono ?_
  rintro e w1 ⟨rfl, b1⟩
  have HB := Lib.hid (((Below.refl w.heap.size w).alloc (Nat.le_refl _) _).trans (b1.mono (by simp)))
  clear b1
  go_wp2_with fail
  go_ret
  exact ⟨rfl, HB.out⟩
theorem one_is (x : En) (t : Bool) (h : Hid (okEn x = t)) (w : World) : Calls Tryz.prog 24 #[.agg #[.int .i64 x.frm, .int .i64 x.to_, .int .i64 x.tape, .int .i64 x.comp, .int .i64 x.slope, .bool x.back]] w (BPost t w) := by rw [← h.out]; exact one_any x w
/-- a book -/
def goodEn (ts : List En) : Bool := ts.all okEn && decide (ts.length ≤ 12)
theorem goodEn_len {ts : List En} (h : goodEn ts = true) : ts.length ≤ 12 := by simp only [goodEn, Bool.and_eq_true, decide_eq_true_eq] at h; exact h.2
theorem goodEn_at {ts : List En} {k : Nat} {t : En} (h : goodEn ts = true) (hk : ts[k]? = some t) : okEn t = true := by
  simp only [goodEn, Bool.and_eq_true, List.all_eq_true] at h
  exact h.1 t (List.mem_of_getElem? hk)
set_option maxHeartbeats 4000000 in
set_option maxRecDepth 100000 in
theorem book_any (A : Option Addr) (n cap : Nat) (ts : List En) (w : World) (hn : n ≤ 2000000) (hts : Hid (EnAt w w.heap.size A n ts)) :
    Calls Tryz.prog 38 #[.slice A n cap] w (BPost (goodEn ts) w) := by
  have hL : Hid (ts.length = n) := Lib.hid hts.out.1
  go_enter Tryz.func38, Tryz.ntmps38
  go_wp2_with fail
  go_loopw [3] (fun i wr => ∃ k : Nat, k ≤ n ∧ i = .int .i64 k ∧ Hid ((ts.take k).all okEn = true) ∧ Below w.heap.size w wr) (fun i _ => n - (intOf i).toNat)
  case atStart => exact ⟨0, Nat.zero_le _, rfl, Lib.hid (by simp), Below.refl _ _⟩
  case round =>
    obtain ⟨k, hk, rfl, HI, hB⟩ := hrel
    have HB := Lib.hid hB
    clear hB
    by_cases hlt : k < n
    · obtain ⟨t, htk⟩ := at_lt hL.out hlt
      obtain ⟨g, rfl, hg, h0, h1, h2, h3, h4, h5⟩ := (hts.out.below HB.out).2 k t htk
      have HK := Lib.hid htk
      clear htk
      have hki : (k : Int) < (n : Int) := by omega
      have hk0 : 0 ≤ (k : Int) := by omega
      have hkd : decide (k < n) = true := by simpa using hlt
      cases ot : okEn t
      · have OT := Lib.hid ot
        have HF := Lib.hid (show goodEn ts = false by unfold goodEn; rw [all_no HK.out ot]; rfl)
        clear ot
        go_wp2_with fail
        refine (one_is t false OT _).mono ?_
        rintro e w1 ⟨rfl, b1⟩
        have HS := Lib.hid (HB.out.trans (b1.mono HB.out.size))
        clear b1
        go_wp2_with fail
        go_ret
        exact ⟨ret_bool HF.out.symm, HS.out⟩
      · have OT := Lib.hid ot
        have HN := Lib.hid (all_take HK.out HI.out ot)
        clear ot
        go_wp2_with fail
        refine (one_is t true OT _).mono ?_
        rintro e w1 ⟨rfl, b1⟩
        have HS := Lib.hid (HB.out.trans (b1.mono HB.out.size))
        clear b1
        go_wp2_with fail
        go_roundw
        case rel => exact ⟨k + 1, by omega, by go_num, HN, HS.out⟩
        case measure => simp [intOf]; omega
    · have hkd : decide (k < n) = false := by simpa using hlt
      obtain rfl : k = n := by omega
      have HF := Lib.hid (show goodEn ts = decide (k ≤ 12) by unfold goodEn; rw [hL.out, show ts.all okEn = true by have := HI.out; rwa [List.take_of_length_le (by rw [hL.out]; omega)] at this]; rfl)
      clear hlt
      by_cases h8 : k ≤ 12
      · have d8 : decide (k ≤ 12) = true := by simpa using h8
        have d8' : decide ((k : Int) ≤ 12) = true := by simp; omega
        rw [d8] at HF
        go_wp2_with fail
        go_ret
        exact ⟨ret_bool HF.out.symm, HB.out⟩
      · have d8 : decide (k ≤ 12) = false := by simpa using h8
        have d8' : decide ((k : Int) ≤ 12) = false := by simp; omega
        rw [d8] at HF
        go_wp2_with fail
        go_ret
        exact ⟨ret_bool HF.out.symm, HB.out⟩
theorem book_is (A : Option Addr) (n cap : Nat) (ts : List En) (t : Bool) (w : World) (hn : n ≤ 2000000) (hts : Hid (EnAt w w.heap.size A n ts)) (h : Hid (goodEn ts = t)) :
    Calls Tryz.prog 38 #[.slice A n cap] w (BPost t w) := by rw [← h.out]; exact book_any A n cap ts w hn hts
theorem goodEn_all {ts : List En} (h : goodEn ts = true) : ∀ t ∈ ts, okEn t = true := by
  simp only [goodEn, Bool.and_eq_true, List.all_eq_true] at h
  exact h.1
end Go.Proofs.YtnlljdepcldibaaGreatDoor.en
