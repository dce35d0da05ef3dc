/-
  The model of the entries of field books: which are valid, their legs, books of them.
  Conditions: none but those that a theorem names.
-/
import Derived.Test.YtnlljdepcldibaaTyEn
import Derived.Test.YtnlljdepcldibaaLgA0
import Derived.Deep.DeepCutAuto
namespace Go.Proofs.Ytnlljdepcldibaa.en
open Go.RowKit
open reads base ty inn lg
set_option linter.unusedVariables false
set_option linter.unusedSimpArgs false

/-- an entry's numbers as a leg -/
def asLg (x : En) : Lg := ⟨x.frm, x.to_, x.tape, x.comp, x.slope⟩
def okEn (x : En) : Bool := okLg (asLg x)
theorem okEn_lim {x : En} (h : okEn x = true) : (0 ≤ x.frm ∧ x.frm ≤ 7) ∧ (0 ≤ x.to_ ∧ x.to_ ≤ 7) ∧ ¬ x.frm = x.to_ ∧ (1 ≤ x.tape ∧ x.tape ≤ 500) ∧ (0 ≤ x.comp ∧ x.comp ≤ 359) ∧ (-90 ≤ x.slope ∧ x.slope ≤ 90) := okLg_lim h
/-- the leg, turned forwards -/
def legEn (x : En) : Lg := if x.back then ⟨x.frm, x.to_, x.tape, (x.comp + 180) % 360, -x.slope⟩ else asLg x
theorem legEn_ok {x : En} (h : okEn x = true) : okLg (legEn x) = true := by
  obtain ⟨a, b, c, d, e, f⟩ := okEn_lim h
  cases hb : x.back
  · rw [show legEn x = asLg x by unfold legEn; rw [hb]; rfl]; exact h
  · rw [show legEn x = ⟨x.frm, x.to_, x.tape, (x.comp + 180) % 360, -x.slope⟩ by unfold legEn; rw [hb]; rfl]
    exact okLg_mk ⟨a, b, c, d, by simp only []; omega, by simp only []; omega⟩
set_option maxHeartbeats 4000000 in
set_option maxRecDepth 100000 in
theorem one_any (x : En) (w : World) : Calls Try.prog 38 #[.agg #[.int .i64 x.frm, .int .i64 x.to_, .int .i64 x.tape, .int .i64 x.comp, .int .i64 x.slope, .bool x.back]] w (BPost (okEn x) w) := by
  go_enter Try.func38, Try.ntmps38
  go_wp2_with fail
  refine (leg_is (asLg x) (okEn x) (Lib.hid rfl) _).mono ?_
  rintro e w1 ⟨rfl, b1⟩
  have HB := Lib.hid (((Below.refl w.heap.size w).alloc (Nat.le_refl _) _).trans (b1.mono (by simp)))
  clear b1
  go_wp2_with fail
  go_ret
  exact ⟨rfl, HB.out⟩
theorem one_is (x : En) (t : Bool) (h : Hid (okEn x = t)) (w : World) : Calls Try.prog 38 #[.agg #[.int .i64 x.frm, .int .i64 x.to_, .int .i64 x.tape, .int .i64 x.comp, .int .i64 x.slope, .bool x.back]] w (BPost t w) := by rw [← h.out]; exact one_any x w
set_option maxHeartbeats 4000000 in
set_option maxRecDepth 100000 in
theorem legEn_any (x : En) (w : World) (c0 : 0 ≤ x.comp) (c1 : x.comp ≤ 100000) (s0 : -1000 ≤ x.slope) (s1 : x.slope ≤ 1000) : Calls Try.prog 41 #[.agg #[.int .i64 x.frm, .int .i64 x.to_, .int .i64 x.tape, .int .i64 x.comp, .int .i64 x.slope, .bool x.back]] w (APost (.agg #[.int .i64 (legEn x).frm, .int .i64 (legEn x).to_, .int .i64 (legEn x).tape, .int .i64 (legEn x).comp, .int .i64 (legEn x).slope]) w) := by
  cases hb : x.back
  · have HR := Lib.hid (show legEn x = ⟨x.frm, x.to_, x.tape, x.comp, x.slope⟩ by unfold legEn asLg; rw [hb]; rfl)
    go_enter Try.func41, Try.ntmps41
    go_wp2_with fail
    refine bodyPost_ret (v := .agg #[.int .i64 (legEn x).frm, .int .i64 (legEn x).to_, .int .i64 (legEn x).tape, .int .i64 (legEn x).comp, .int .i64 (legEn x).slope]) (by simp [results, Try.results41, go_sem, HR.out]) rfl ⟨rfl, ?_⟩
    exact (((Below.refl _ _).alloc (Nat.le_refl _) _).alloc (by simp) _).alloc (by simp; omega) _
  · have HR := Lib.hid (show legEn x = ⟨x.frm, x.to_, x.tape, (x.comp + 180) % 360, -x.slope⟩ by unfold legEn; rw [hb]; rfl)
    go_enter Try.func41, Try.ntmps41
    go_wp2_with fail
    refine bodyPost_ret (v := .agg #[.int .i64 (legEn x).frm, .int .i64 (legEn x).to_, .int .i64 (legEn x).tape, .int .i64 (legEn x).comp, .int .i64 (legEn x).slope]) (by simp [results, Try.results41, go_sem, HR.out]) rfl ⟨rfl, ?_⟩
    exact (((Below.refl _ _).alloc (Nat.le_refl _) _).alloc (by simp) _).alloc (by simp; omega) _
set_option maxHeartbeats 4000000 in
set_option maxRecDepth 100000 in
theorem isEntry_model (x : En) (w : World) : Calls Try.prog 10 #[.agg #[.int .i64 x.frm, .int .i64 x.to_, .int .i64 x.tape, .int .i64 x.comp, .int .i64 x.slope, .bool x.back]] w (BPost (okEn x) w) := by
  go_enter Try.func10, Try.ntmps10
  go_wp2_with fail
  refine (one_is x _ (Lib.hid rfl) _).mono ?_
  rintro e w1 ⟨rfl, b1⟩
  have HB := Lib.hid (((Below.refl w.heap.size w).alloc (Nat.le_refl _) _).trans (b1.mono (by simp)))
  clear b1
  go_wp2_with fail
  go_ret
  exact ⟨rfl, HB.out⟩
/-- a book -/
def goodEn (ts : List En) : Bool := ts.all okEn && decide (ts.length ≤ 12)
theorem goodEn_len {ts : List En} (h : goodEn ts = true) : ts.length ≤ 12 := by simp only [goodEn, Bool.and_eq_true, decide_eq_true_eq] at h; exact h.2
theorem goodEn_at {ts : List En} {k : Nat} {t : En} (h : goodEn ts = true) (hk : ts[k]? = some t) : okEn t = true := by
  simp only [goodEn, Bool.and_eq_true, List.all_eq_true] at h
  exact h.1 t (List.mem_of_getElem? hk)
set_option maxHeartbeats 4000000 in
set_option maxRecDepth 100000 in
theorem book_any (A : Option Addr) (n cap : Nat) (ts : List En) (w : World) (hn : n ≤ 2000000) (hts : Hid (EnAt w w.heap.size A n ts)) :
    Calls Try.prog 43 #[.slice A n cap] w (BPost (goodEn ts) w) := by
  have hL : Hid (ts.length = n) := Lib.hid hts.out.1
  go_enter Try.func43, Try.ntmps43
  go_wp2_with fail
  go_loopw [3] (fun i wr => ∃ k : Nat, k ≤ n ∧ i = .int .i64 k ∧ Hid ((ts.take k).all okEn = true) ∧ Below w.heap.size w wr) (fun i _ => n - (intOf i).toNat)
  case atStart => exact ⟨0, Nat.zero_le _, rfl, Lib.hid (by simp), Below.refl _ _⟩
  case round =>
    obtain ⟨k, hk, rfl, HI, hB⟩ := hrel
    have HB := Lib.hid hB
    clear hB
    by_cases hlt : k < n
    · obtain ⟨t, htk⟩ := at_lt hL.out hlt
      obtain ⟨g, rfl, hg, h0, h1, h2, h3, h4, h5⟩ := (hts.out.below HB.out).2 k t htk
      have HK := Lib.hid htk
      clear htk
      have hki : (k : Int) < (n : Int) := by omega
      have hk0 : 0 ≤ (k : Int) := by omega
      have hkd : decide (k < n) = true := by simpa using hlt
      cases ot : okEn t
      · have OT := Lib.hid ot
        have HF := Lib.hid (show goodEn ts = false by unfold goodEn; rw [all_no HK.out ot]; rfl)
        clear ot
        go_wp2_with fail
        refine (one_is t false OT _).mono ?_
        rintro e w1 ⟨rfl, b1⟩
        have HS := Lib.hid (HB.out.trans (b1.mono HB.out.size))
        clear b1
        go_wp2_with fail
        go_ret
        exact ⟨ret_bool HF.out.symm, HS.out⟩
      · have OT := Lib.hid ot
        have HN := Lib.hid (all_take HK.out HI.out ot)
        clear ot
        go_wp2_with fail
        refine (one_is t true OT _).mono ?_
        rintro e w1 ⟨rfl, b1⟩
        have HS := Lib.hid (HB.out.trans (b1.mono HB.out.size))
        clear b1
        go_wp2_with fail
        go_roundw
        case rel => exact ⟨k + 1, by omega, by go_num, HN, HS.out⟩
        case measure => simp [intOf]; omega
    · have hkd : decide (k < n) = false := by simpa using hlt
      obtain rfl : k = n := by omega
      have HF := Lib.hid (show goodEn ts = decide (k ≤ 12) by unfold goodEn; rw [hL.out, show ts.all okEn = true by have := HI.out; rwa [List.take_of_length_le (by rw [hL.out]; omega)] at this]; rfl)
      clear hlt
      by_cases h8 : k ≤ 12
      · have d8 : decide (k ≤ 12) = true := by simpa using h8
        have d8' : decide ((k : Int) ≤ 12) = true := by simp; omega
        rw [d8] at HF
        go_wp2_with fail
        go_ret
        exact ⟨ret_bool HF.out.symm, HB.out⟩
      · have d8 : decide (k ≤ 12) = false := by simpa using h8
        have d8' : decide ((k : Int) ≤ 12) = false := by simp; omega
        rw [d8] at HF
        go_wp2_with fail
        go_ret
        exact ⟨ret_bool HF.out.symm, HB.out⟩
theorem book_is (A : Option Addr) (n cap : Nat) (ts : List En) (t : Bool) (w : World) (hn : n ≤ 2000000) (hts : Hid (EnAt w w.heap.size A n ts)) (h : Hid (goodEn ts = t)) :
    Calls Try.prog 43 #[.slice A n cap] w (BPost t w) := by rw [← h.out]; exact book_any A n cap ts w hn hts
theorem legEn_is (x : En) (y : Lg) (h : Hid (legEn x = y)) (w : World) (c0 : 0 ≤ x.comp) (c1 : x.comp ≤ 100000) (s0 : -1000 ≤ x.slope) (s1 : x.slope ≤ 1000) : Calls Try.prog 41 #[.agg #[.int .i64 x.frm, .int .i64 x.to_, .int .i64 x.tape, .int .i64 x.comp, .int .i64 x.slope, .bool x.back]] w (APost (.agg #[.int .i64 y.frm, .int .i64 y.to_, .int .i64 y.tape, .int .i64 y.comp, .int .i64 y.slope]) w) := by rw [← h.out]; exact legEn_any x w c0 c1 s0 s1
def ansLegOf (x : En) : Value := if okEn x = true then .tuple #[.agg #[.int .i64 (legEn x).frm, .int .i64 (legEn x).to_, .int .i64 (legEn x).tape, .int .i64 (legEn x).comp, .int .i64 (legEn x).slope], .bool true] else .tuple #[.agg #[.int .i64 0, .int .i64 0, .int .i64 0, .int .i64 0, .int .i64 0], .bool false]
set_option maxHeartbeats 4000000 in
set_option maxRecDepth 100000 in
theorem legOf_model (x : En) (w : World) : Calls Try.prog 13 #[.agg #[.int .i64 x.frm, .int .i64 x.to_, .int .i64 x.tape, .int .i64 x.comp, .int .i64 x.slope, .bool x.back]] w (APost (ansLegOf x) w) := by
  cases hx : okEn x
  · have HA := Lib.hid (show ansLegOf x = .tuple #[.agg #[.int .i64 0, .int .i64 0, .int .i64 0, .int .i64 0, .int .i64 0], .bool false] by unfold ansLegOf; rw [hx]; rfl)
    have HX := Lib.hid hx
    clear hx
    rw [HA.out]
    go_enter Try.func13, Try.ntmps13
    go_wp2_with fail
    refine (one_is x false HX _).mono ?_
    rintro e w1 ⟨rfl, b1⟩
    obtain ⟨hc1, hf1⟩ := bcell b1
    have hz : w.heap.size + 2 ≤ w1.heap.size := by have := b1.size; simp at this; omega
    have hz0 : w.heap.size < w1.heap.size := by omega
    have hz1 : w.heap.size + 1 < w1.heap.size := by omega
    have HB := Lib.hid ((((Below.refl w.heap.size w).alloc (Nat.le_refl _) _).alloc (by simp) _).trans (b1.mono (by simp; omega)))
    clear b1
    go_wp2_with fail
    refine bodyPost_ret (v := .tuple #[.agg #[.int .i64 0, .int .i64 0, .int .i64 0, .int .i64 0, .int .i64 0], .bool false]) (by simp [results, Try.results13, go_sem, hc1]) rfl ⟨rfl, ?_⟩
    exact ((((HB.out.setCell (by simp) _).setCell (by simp) _).setCell (by simp) _).setCell (by simp) _).setCell (by simp) _
  · obtain ⟨y, hy⟩ : ∃ y, legEn x = y := ⟨_, rfl⟩
    have HA := Lib.hid (show ansLegOf x = .tuple #[.agg #[.int .i64 y.frm, .int .i64 y.to_, .int .i64 y.tape, .int .i64 y.comp, .int .i64 y.slope], .bool true] by unfold ansLegOf; rw [hx, hy]; rfl)
    obtain ⟨-, -, -, -, ⟨c0, c1⟩, s0, s1⟩ := okEn_lim hx
    have HX := Lib.hid hx
    have HY := Lib.hid hy
    clear hx hy
    rw [HA.out]
    go_enter Try.func13, Try.ntmps13
    go_wp2_with fail
    refine (one_is x true HX _).mono ?_
    rintro e w1 ⟨rfl, b1⟩
    obtain ⟨hc1, hf1⟩ := bcell b1
    have hz : w.heap.size + 2 ≤ w1.heap.size := by have := b1.size; simp at this; omega
    have hz0 : w.heap.size < w1.heap.size := by omega
    have hz1 : w.heap.size + 1 < w1.heap.size := by omega
    have HB := Lib.hid ((((Below.refl w.heap.size w).alloc (Nat.le_refl _) _).alloc (by simp) _).trans (b1.mono (by simp; omega)))
    clear b1
    go_wp2_with fail
    refine (legEn_is x y HY _ c0 (by omega) (by omega) (by omega)).mono ?_
    rintro e w2 ⟨rfl, b2⟩
    obtain ⟨hc2, hf2⟩ := bcell b2
    have hz2 : w1.heap.size ≤ w2.heap.size := b2.size
    have HB2 := Lib.hid (HB.out.trans (b2.mono HB.out.size))
    clear b2
    go_wp2_with fail
    refine bodyPost_ret (v := .tuple #[.agg #[.int .i64 y.frm, .int .i64 y.to_, .int .i64 y.tape, .int .i64 y.comp, .int .i64 y.slope], .bool true]) (by simp [results, Try.results13, go_sem, *]) rfl ⟨rfl, ?_⟩
    exact ((((HB2.out.setCell (by simp) _).setCell (by simp) _).setCell (by simp) _).setCell (by simp) _).setCell (by simp) _
end Go.Proofs.Ytnlljdepcldibaa.en
