/-
  The model of the field books: distances of numbers, legs turned to lead from a station, the first entry of a leg.
  Conditions: the entries are valid.
-/
import Derived.Test.YtnlljdepcldibaaEnM
namespace Go.Proofs.Ytnlljdepcldibaa.en
open Go.RowKit
open reads base ty inn lg rowi mst
set_option linter.unusedVariables false
set_option linter.unusedSimpArgs false

set_option maxHeartbeats 4000000 in
set_option maxRecDepth 100000 in
theorem apart_is (a b c : Int) (h : Hid (apart a b = c)) (w : World) (a0 : -100000 ≤ a) (a1 : a ≤ 100000) (b0 : -100000 ≤ b) (b1 : b ≤ 100000) : Calls Try.prog 48 #[.int .i64 a, .int .i64 b] w fun e w' => e = .returned (.int .i64 c) ∧ w = w' := by
  go_enter Try.func48, Try.ntmps48
  go_wp2_with fail
  refine (mst.most_is (a - b) (b - a) c h _).mono ?_
  rintro e w' ⟨rfl, rfl⟩
  go_wp2_with fail
  go_ret
  exact ⟨rfl, rfl⟩
set_option maxHeartbeats 4000000 in
set_option maxRecDepth 100000 in
theorem turned_any (x : En) (q : Int) (w : World) (ho : Hid (okEn x = true)) : Calls Try.prog 47 #[.agg #[.int .i64 x.frm, .int .i64 x.to_, .int .i64 x.tape, .int .i64 x.comp, .int .i64 x.slope, .bool x.back], .int .i64 q] w (APost (.agg #[.int .i64 (turnEn x q).frm, .int .i64 (turnEn x q).to_, .int .i64 (turnEn x q).tape, .int .i64 (turnEn x q).comp, .int .i64 (turnEn x q).slope]) w) := by
  obtain ⟨y, hy⟩ : ∃ y, legEn x = y := ⟨_, rfl⟩
  have HY := Lib.hid hy
  have HOY := Lib.hid (show okLg y = true by rw [← hy]; exact legEn_ok ho.out)
  obtain ⟨-, -, -, -, ⟨c0, c1⟩, s0, s1⟩ := okEn_lim ho.out
  obtain ⟨-, -, -, -, ⟨d0, d1⟩, e0, e1⟩ := okLg_lim HOY.out
  by_cases hq : y.frm = q
  · have HT := Lib.hid (show turnEn x q = y by unfold turnEn; rw [hy, if_pos hq])
    clear hy
    go_enter Try.func47, Try.ntmps47
    go_wp2_with fail
    refine (legEn_is x y HY _ c0 (by omega) (by omega) (by omega)).mono ?_
    rintro e w1 ⟨rfl, b1⟩
    obtain ⟨hc1, hf1⟩ := bcell b1
    have hz : w.heap.size + 2 ≤ w1.heap.size := by have := b1.size; simp at this; omega
    have hz0 : w.heap.size < w1.heap.size := by omega
    have hz1 : w.heap.size + 1 < w1.heap.size := by omega
    have HB := Lib.hid ((((Below.refl w.heap.size w).alloc (Nat.le_refl _) _).alloc (by simp) _).trans (b1.mono (by simp; omega)))
    clear b1
    go_wp2_with fail
    refine bodyPost_ret (v := .agg #[.int .i64 y.frm, .int .i64 y.to_, .int .i64 y.tape, .int .i64 y.comp, .int .i64 y.slope]) (by simp [results, Try.results47, go_sem, *]) rfl ⟨by rw [HT.out], ?_⟩
    repeat (first | exact HB.out | refine Below.setCell ?_ (by first | (simp; done) | (simp; omega)) _ | refine Below.alloc ?_ (by first | (simp; done) | (simp; omega)) _)
  · have HT := Lib.hid (show turnEn x q = ⟨y.to_, y.frm, y.tape, (y.comp + 180) % 360, -y.slope⟩ by unfold turnEn; rw [hy, if_neg hq]; rfl)
    have hqb : (y.frm == q) = false := by simpa using hq
    clear hy
    go_enter Try.func47, Try.ntmps47
    go_wp2_with fail
    refine (legEn_is x y HY _ c0 (by omega) (by omega) (by omega)).mono ?_
    rintro e w1 ⟨rfl, b1⟩
    obtain ⟨hc1, hf1⟩ := bcell b1
    have hz : w.heap.size + 2 ≤ w1.heap.size := by have := b1.size; simp at this; omega
    have hz0 : w.heap.size < w1.heap.size := by omega
    have hz1 : w.heap.size + 1 < w1.heap.size := by omega
    have HB := Lib.hid ((((Below.refl w.heap.size w).alloc (Nat.le_refl _) _).alloc (by simp) _).trans (b1.mono (by simp; omega)))
    clear b1
    go_wp2_with fail
    refine bodyPost_ret (v := .agg #[.int .i64 y.to_, .int .i64 y.frm, .int .i64 y.tape, .int .i64 ((y.comp + 180) % 360), .int .i64 (-y.slope)]) (by simp [results, Try.results47, go_sem, *]) rfl ⟨by rw [HT.out], ?_⟩
    repeat (first | exact HB.out | refine Below.setCell ?_ (by first | (simp; done) | (simp; omega)) _ | refine Below.alloc ?_ (by first | (simp; done) | (simp; omega)) _)
end Go.Proofs.Ytnlljdepcldibaa.en
