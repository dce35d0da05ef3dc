/-
  The program's entries of field books: their legs turned forwards, LegOf, the length of a book.
  Conditions: none but those that a theorem names.
-/
import Derived.Test.YtnlljdepcldibaaEiA0
namespace Go.Proofs.Ytnlljdepcldibaa.eni
open Go.RowKit
open reads base ty win lg lgi en rowi
set_option linter.unusedVariables false
set_option linter.unusedSimpArgs false

set_option maxHeartbeats 4000000 in
set_option maxRecDepth 100000 in
theorem forward_any (x : En) (w : World) (c0 : 0 ≤ x.comp) (c1 : x.comp ≤ 100000) (s0 : -1000 ≤ x.slope) (s1 : x.slope ≤ 1000) : Calls Try.prog 42 #[.agg #[.int .i64 x.frm, .int .i64 x.to_, .int .i64 x.tape, .int .i64 x.comp, .int .i64 x.slope, .bool x.back]] w (APost (.agg #[.int .i64 (legEn x).frm, .int .i64 (legEn x).to_, .int .i64 (legEn x).tape, .int .i64 (legEn x).comp, .int .i64 (legEn x).slope]) w) := by
  obtain ⟨y, hy⟩ : ∃ y, asRead x = y := ⟨_, rfl⟩
  have HY := Lib.hid hy
  have hyc : y.comp = x.comp := by rw [← hy]; unfold asRead asLg; split <;> rfl
  have hys : y.slope = x.slope := by rw [← hy]; unfold asRead asLg; split <;> rfl
  obtain hb | hb : x.back = false ∨ x.back = true := by cases x.back <;> simp
  · have HR := Lib.hid (show legEn x = y by rw [legEn_no hb, hy])
    have HK := Lib.hid hb
    rw [HR.out]
    clear hy hyc hys hb
    go_enter Try.func42, Try.ntmps42
    go_wp2_with fail
    refine (asRead_is x y HY _).mono ?_
    rintro e w1 ⟨rfl, b1⟩
    obtain ⟨hc1, hf1⟩ := bcell b1
    have hz : w.heap.size + 2 ≤ w1.heap.size := by have := b1.size; simp at this; omega
    have hz0 : w.heap.size < w1.heap.size := by omega
    have hz1 : w.heap.size + 1 < w1.heap.size := by omega
    have HB := Lib.hid ((((Below.refl w.heap.size w).alloc (Nat.le_refl _) _).alloc (by simp) _).trans (b1.mono (by simp; omega)))
    clear b1
    have hb := HK.out
    go_wp2_with fail
    refine bodyPost_ret (v := .agg #[.int .i64 y.frm, .int .i64 y.to_, .int .i64 y.tape, .int .i64 y.comp, .int .i64 y.slope]) (by simp [results, Try.results42, go_sem, *]) rfl ⟨rfl, ?_⟩
    repeat (first | exact HB.out | exact (Below.refl _ _) | refine Below.setCell ?_ (by first | (simp; done) | (simp; omega)) _ | refine Below.alloc ?_ (by first | (simp; done) | (simp; omega)) _)
  · obtain ⟨z, hz⟩ : ∃ z, revLg y = z := ⟨_, rfl⟩
    have HR := Lib.hid (show legEn x = z by rw [legEn_yes hb, hy, hz])
    have HZ := Lib.hid hz
    have HK := Lib.hid hb
    have d0 : 0 ≤ y.comp ∧ y.comp ≤ 100000 ∧ -1000 ≤ y.slope ∧ y.slope ≤ 1000 := by omega
    obtain ⟨d0, d1, d2, d3⟩ := d0
    rw [HR.out]
    clear hy hz hb hyc hys
    go_enter Try.func42, Try.ntmps42
    go_wp2_with fail
    refine (asRead_is x y HY _).mono ?_
    rintro e w1 ⟨rfl, b1⟩
    obtain ⟨hc1, hf1⟩ := bcell b1
    have hz : w.heap.size + 2 ≤ w1.heap.size := by have := b1.size; simp at this; omega
    have hz0 : w.heap.size < w1.heap.size := by omega
    have hz1 : w.heap.size + 1 < w1.heap.size := by omega
    have HB1 := Lib.hid ((((Below.refl w.heap.size w).alloc (Nat.le_refl _) _).alloc (by simp) _).trans (b1.mono (by simp; omega)))
    clear b1
    have hb := HK.out
    go_wp2_with fail
    refine (rev_is y z HZ _ d0 d1 d2 d3).mono ?_
    rintro e w2 ⟨rfl, b2⟩
    obtain ⟨hc2, hf2⟩ := bcell b2
    have hz2 : w1.heap.size + 1 ≤ w2.heap.size := by have := b2.size; simp at this; omega
    have hz3 : w.heap.size + 1 < w2.heap.size := by omega
    have hz4 : w.heap.size + 1 < w1.heap.size + 1 := by omega
    have HB := Lib.hid (show Below w.heap.size w w2 from (HB1.out.alloc HB1.out.size _).trans (b2.mono (by simp; omega)))
    clear b2
    go_wp2_with fail
    refine bodyPost_ret (v := .agg #[.int .i64 z.frm, .int .i64 z.to_, .int .i64 z.tape, .int .i64 z.comp, .int .i64 z.slope]) (by simp [results, Try.results42, go_sem, *]) rfl ⟨rfl, ?_⟩
    repeat (first | exact HB.out | exact (Below.refl _ _) | refine Below.setCell ?_ (by first | (simp; done) | (simp; omega)) _ | refine Below.alloc ?_ (by first | (simp; done) | (simp; omega)) _)
theorem forward_is (x : En) (y : Lg) (h : Hid (legEn x = y)) (w : World) (c0 : 0 ≤ x.comp) (c1 : x.comp ≤ 100000) (s0 : -1000 ≤ x.slope) (s1 : x.slope ≤ 1000) : Calls Try.prog 42 #[.agg #[.int .i64 x.frm, .int .i64 x.to_, .int .i64 x.tape, .int .i64 x.comp, .int .i64 x.slope, .bool x.back]] w (APost (.agg #[.int .i64 y.frm, .int .i64 y.to_, .int .i64 y.tape, .int .i64 y.comp, .int .i64 y.slope]) w) := by rw [← h.out]; exact forward_any x w c0 c1 s0 s1
set_option maxHeartbeats 4000000 in
set_option maxRecDepth 100000 in
theorem legOf_impl (x : En) (w : World) : Calls Try.prog 14 #[.agg #[.int .i64 x.frm, .int .i64 x.to_, .int .i64 x.tape, .int .i64 x.comp, .int .i64 x.slope, .bool x.back]] w (APost (ansLegOf x) w) := by
  cases hx : okEn x
  · have HA := Lib.hid (show ansLegOf x = .tuple #[.agg #[.int .i64 0, .int .i64 0, .int .i64 0, .int .i64 0, .int .i64 0], .bool false] by unfold ansLegOf; rw [hx]; rfl)
    have HX := Lib.hid hx
    clear hx
    rw [HA.out]
    go_enter Try.func14, Try.ntmps14
    go_wp2_with fail
    refine (isEntry_is x false HX _).mono ?_
    rintro e w1 ⟨rfl, b1⟩
    obtain ⟨hc1, hf1⟩ := bcell b1
    have hz : w.heap.size + 2 ≤ w1.heap.size := by have := b1.size; simp at this; omega
    have hz0 : w.heap.size < w1.heap.size := by omega
    have hz1 : w.heap.size + 1 < w1.heap.size := by omega
    have HB := Lib.hid ((((Below.refl w.heap.size w).alloc (Nat.le_refl _) _).alloc (by simp) _).trans (b1.mono (by simp; omega)))
    clear b1
    go_wp2_with fail
    refine bodyPost_ret (v := .tuple #[.agg #[.int .i64 0, .int .i64 0, .int .i64 0, .int .i64 0, .int .i64 0], .bool false]) (by simp [results, Try.results14, go_sem, hc1]) rfl ⟨rfl, ?_⟩
    exact ((((HB.out.setCell (by simp) _).setCell (by simp) _).setCell (by simp) _).setCell (by simp) _).setCell (by simp) _
  · obtain ⟨y, hy⟩ : ∃ y, legEn x = y := ⟨_, rfl⟩
    have HA := Lib.hid (show ansLegOf x = .tuple #[.agg #[.int .i64 y.frm, .int .i64 y.to_, .int .i64 y.tape, .int .i64 y.comp, .int .i64 y.slope], .bool true] by unfold ansLegOf; rw [hx, hy]; rfl)
    obtain ⟨-, -, -, -, ⟨c0, c1⟩, s0, s1⟩ := okEn_lim hx
    have HX := Lib.hid hx
    have HY := Lib.hid hy
    clear hx hy
    rw [HA.out]
    go_enter Try.func14, Try.ntmps14
    go_wp2_with fail
    refine (isEntry_is x true HX _).mono ?_
    rintro e w1 ⟨rfl, b1⟩
    obtain ⟨hc1, hf1⟩ := bcell b1
    have hz : w.heap.size + 2 ≤ w1.heap.size := by have := b1.size; simp at this; omega
    have hz0 : w.heap.size < w1.heap.size := by omega
    have hz1 : w.heap.size + 1 < w1.heap.size := by omega
    have HB := Lib.hid ((((Below.refl w.heap.size w).alloc (Nat.le_refl _) _).alloc (by simp) _).trans (b1.mono (by simp; omega)))
    clear b1
    go_wp2_with fail
    refine (forward_is x y HY _ c0 (by omega) (by omega) (by omega)).mono ?_
    rintro e w2 ⟨rfl, b2⟩
    obtain ⟨hc2, hf2⟩ := bcell b2
    have hz2 : w1.heap.size ≤ w2.heap.size := b2.size
    have HB2 := Lib.hid (HB.out.trans (b2.mono HB.out.size))
    clear b2
    go_wp2_with fail
    refine bodyPost_ret (v := .tuple #[.agg #[.int .i64 y.frm, .int .i64 y.to_, .int .i64 y.tape, .int .i64 y.comp, .int .i64 y.slope], .bool true]) (by simp [results, Try.results14, go_sem, *]) rfl ⟨rfl, ?_⟩
    exact ((((HB2.out.setCell (by simp) _).setCell (by simp) _).setCell (by simp) _).setCell (by simp) _).setCell (by simp) _
set_option maxHeartbeats 4000000 in
set_option maxRecDepth 100000 in
theorem bookLength_impl (A : Option Addr) (n cap : Nat) (ts : List En) (w : World) (hn : n ≤ 2000000) (hts : Hid (EnAt w w.heap.size A n ts)) :
    Calls Try.prog 19 #[.slice A n cap] w (APost (ansBl ts) w) := by
  have hL : Hid (ts.length = n) := Lib.hid hts.out.1
  cases hg : goodEn ts
  · have HA := Lib.hid (show ansBl ts = .tuple #[.int .i64 0, .bool false] by unfold ansBl; rw [hg]; rfl)
    have HG := Lib.hid hg
    clear hg
    rw [HA.out]
    go_enter Try.func19, Try.ntmps19
    go_wp2_with fail
    refine (isBook_is A n cap ts false _ hn hts HG).mono ?_
    rintro e w1 ⟨rfl, b1⟩
    have HB := Lib.hid b1
    clear b1
    go_wp2_with fail
    go_ret2
    exact ⟨rfl, HB.out⟩
  · have HA := Lib.hid (show ansBl ts = .tuple #[.int .i64 (bsum ts), .bool true] by unfold ansBl; rw [hg]; rfl)
    have HG := Lib.hid hg
    have hn12 : n ≤ 12 := by rw [← hL.out]; exact goodEn_len hg
    clear hg
    rw [HA.out]
    go_enter Try.func19, Try.ntmps19
    go_wp2_with fail
    refine (isBook_is A n cap ts true _ hn hts HG).mono ?_
    rintro e w1 ⟨rfl, b1⟩
    have HB := Lib.hid b1
    clear b1
    go_wp2_with fail
    go_loopw [4, 12] (fun s i wr => ∃ (k : Nat) (z : Int), k ≤ n ∧ i = .int .i64 k ∧ s = .int .i64 z ∧ Hid (bsum (ts.take k) = z) ∧ Below w.heap.size w wr) (fun _ i _ => n - (intOf i).toNat)
    case atStart => exact ⟨0, 0, Nat.zero_le _, rfl, rfl, Lib.hid (by simp [bsum]), HB.out⟩
    case round =>
      obtain ⟨k, z, hk, rfl, rfl, HZ, hBr⟩ := hrel
      have HR := Lib.hid hBr
      clear hBr
      have zb := bsum_bd (ts := ts.take k) (fun t ht => goodEn_all HG.out t (List.mem_of_mem_take ht))
      have zl := List.length_take_le k ts
      rw [HZ.out] at zb
      obtain ⟨z0, z1⟩ := zb
      by_cases hlt : k < n
      · obtain ⟨t, htk⟩ := at_lt hL.out hlt
        obtain ⟨g, rfl, hg, h0, h1, h2, h3, h4, h5⟩ := (hts.out.below HR.out).2 k t htk
        have tb := (okEn_lim (goodEn_at HG.out htk)).2.2.2.1
        obtain ⟨tb0, tb1⟩ := tb
        have HN := Lib.hid (show bsum (ts.take (k + 1)) = z + t.tape by rw [take_snoc htk, bsum_app, HZ.out])
        clear htk
        have hki : (k : Int) < (n : Int) := by omega
        have hk0 : 0 ≤ (k : Int) := by omega
        have hkd : decide (k < n) = true := by simpa using hlt
        go_wp2_with fail
        go_roundw
        case rel => exact ⟨k + 1, z + t.tape, by omega, by go_num, rfl, HN, HR.out.alloc HR.out.size _⟩
        case measure => simp [intOf]; omega
      · have hkd : decide (k < n) = false := by simpa using hlt
        have HF := Lib.hid (show bsum ts = z by rw [← HZ.out, List.take_of_length_le (by rw [hL.out]; omega)])
        go_wp2_with fail
        go_ret2
        exact ⟨by rw [HF.out]; rfl, HR.out⟩
end Go.Proofs.Ytnlljdepcldibaa.eni
