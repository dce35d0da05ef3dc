/-
  The model of the legs: the reverse.
  Conditions: none but those that a theorem names.
-/
import Derived.Test.YtiojgmojnnbpiaaDoorLgA
namespace Go.Proofs.YtiojgmojnnbpiaaDoor.lg
open Go.RowKit
open reads base ty inn
set_option linter.unusedVariables false
set_option linter.unusedSimpArgs false

/-- the reverse -/
def revLg (x : Lg) : Lg := ⟨x.to_, x.frm, x.tape, (x.comp + 180) % 360, -x.slope⟩
theorem revLg_ok {x : Lg} (h : okLg x = true) : okLg (revLg x) = true := by
  obtain ⟨a, b, c, d, e, f⟩ := okLg_lim h
  exact okLg_mk ⟨b, a, fun q => c q.symm, d, by simp only [revLg]; omega, by simp only [revLg]; omega⟩
set_option maxHeartbeats 4000000 in
set_option maxRecDepth 100000 in
theorem rev_any (x : Lg) (w : World) (c0 : 0 ≤ x.comp) (c1 : x.comp ≤ 100000) (s0 : -1000 ≤ x.slope) (s1 : x.slope ≤ 1000) : Calls Tryd.prog 65 #[.agg #[.int .i64 x.frm, .int .i64 x.to_, .int .i64 x.tape, .int .i64 x.comp, .int .i64 x.slope]] w (APost (.agg #[.int .i64 (revLg x).frm, .int .i64 (revLg x).to_, .int .i64 (revLg x).tape, .int .i64 (revLg x).comp, .int .i64 (revLg x).slope]) w) := by
  have HR := Lib.hid (show revLg x = ⟨x.to_, x.frm, x.tape, (x.comp + 180) % 360, -x.slope⟩ from rfl)
  go_enter Tryd.func65, Tryd.ntmps65
  go_wp2_with fail
  refine bodyPost_ret (v := .agg #[.int .i64 (revLg x).frm, .int .i64 (revLg x).to_, .int .i64 (revLg x).tape, .int .i64 (revLg x).comp, .int .i64 (revLg x).slope]) (by simp [results, Tryd.results65, go_sem, HR.out]) rfl ⟨rfl, ?_⟩
  exact ((Below.refl _ _).alloc (Nat.le_refl _) _).alloc (by simp) _
theorem rev_is (x y : Lg) (h : Hid (revLg x = y)) (w : World) (c0 : 0 ≤ x.comp) (c1 : x.comp ≤ 100000) (s0 : -1000 ≤ x.slope) (s1 : x.slope ≤ 1000) : Calls Tryd.prog 65 #[.agg #[.int .i64 x.frm, .int .i64 x.to_, .int .i64 x.tape, .int .i64 x.comp, .int .i64 x.slope]] w (APost (.agg #[.int .i64 y.frm, .int .i64 y.to_, .int .i64 y.tape, .int .i64 y.comp, .int .i64 y.slope]) w) := by rw [← h.out]; exact rev_any x w c0 c1 s0 s1
def ansRev (x : Lg) : Value := if okLg x = true then .tuple #[.agg #[.int .i64 (revLg x).frm, .int .i64 (revLg x).to_, .int .i64 (revLg x).tape, .int .i64 (revLg x).comp, .int .i64 (revLg x).slope], .bool true] else .tuple #[.agg #[.int .i64 0, .int .i64 0, .int .i64 0, .int .i64 0, .int .i64 0], .bool false]
set_option maxHeartbeats 4000000 in
set_option maxRecDepth 100000 in
theorem reverseLeg_model (x : Lg) (w : World) : Calls Tryd.prog 35 #[.agg #[.int .i64 x.frm, .int .i64 x.to_, .int .i64 x.tape, .int .i64 x.comp, .int .i64 x.slope]] w (APost (ansRev x) w) := by
  cases hx : okLg x
  · have HA := Lib.hid (show ansRev x = .tuple #[.agg #[.int .i64 0, .int .i64 0, .int .i64 0, .int .i64 0, .int .i64 0], .bool false] by unfold ansRev; rw [hx]; rfl)
    have HX := Lib.hid hx
    clear hx
    rw [HA.out]
    go_enter Tryd.func35, Tryd.ntmps35
    go_wp2_with fail
    refine (leg_is x false HX _).mono ?_
    rintro e w1 ⟨rfl, b1⟩
    obtain ⟨hc1, hf1⟩ := bcell b1
    have hz : w.heap.size + 2 ≤ w1.heap.size := by have := b1.size; simp at this; omega
    have hz0 : w.heap.size < w1.heap.size := by omega
    have hz1 : w.heap.size + 1 < w1.heap.size := by omega
    have HB := Lib.hid ((((Below.refl w.heap.size w).alloc (Nat.le_refl _) _).alloc (by simp) _).trans (b1.mono (by simp; omega)))
    clear b1
    go_wp2_with fail
    refine bodyPost_ret (v := .tuple #[.agg #[.int .i64 0, .int .i64 0, .int .i64 0, .int .i64 0, .int .i64 0], .bool false]) (by simp [results, Tryd.results35, go_sem, hc1]) rfl ⟨rfl, ?_⟩
    exact ((((HB.out.setCell (by simp) _).setCell (by simp) _).setCell (by simp) _).setCell (by simp) _).setCell (by simp) _
  · obtain ⟨y, hy⟩ : ∃ y, revLg x = y := ⟨_, rfl⟩
    have HA := Lib.hid (show ansRev x = .tuple #[.agg #[.int .i64 y.frm, .int .i64 y.to_, .int .i64 y.tape, .int .i64 y.comp, .int .i64 y.slope], .bool true] by unfold ansRev; rw [hx, hy]; rfl)
    obtain ⟨-, -, -, -, ⟨c0, c1⟩, s0, s1⟩ := okLg_lim hx
    have HX := Lib.hid hx
    have HY := Lib.hid hy
    clear hx hy
    rw [HA.out]
    go_enter Tryd.func35, Tryd.ntmps35
    go_wp2_with fail
    refine (leg_is x true HX _).mono ?_
    rintro e w1 ⟨rfl, b1⟩
    obtain ⟨hc1, hf1⟩ := bcell b1
    have hz : w.heap.size + 2 ≤ w1.heap.size := by have := b1.size; simp at this; omega
    have hz0 : w.heap.size < w1.heap.size := by omega
    have hz1 : w.heap.size + 1 < w1.heap.size := by omega
    have HB := Lib.hid ((((Below.refl w.heap.size w).alloc (Nat.le_refl _) _).alloc (by simp) _).trans (b1.mono (by simp; omega)))
    clear b1
    go_wp2_with fail
    refine (rev_is x y HY _ c0 (by omega) (by omega) (by omega)).mono ?_
    rintro e w2 ⟨rfl, b2⟩
    obtain ⟨hc2, hf2⟩ := bcell b2
    have hz2 : w1.heap.size ≤ w2.heap.size := b2.size
    have HB2 := Lib.hid (HB.out.trans (b2.mono HB.out.size))
    clear b2
    go_wp2_with fail
    refine bodyPost_ret (v := .tuple #[.agg #[.int .i64 y.frm, .int .i64 y.to_, .int .i64 y.tape, .int .i64 y.comp, .int .i64 y.slope], .bool true]) (by simp [results, Tryd.results35, go_sem, *]) rfl ⟨rfl, ?_⟩
    exact ((((HB2.out.setCell (by simp) _).setCell (by simp) _).setCell (by simp) _).setCell (by simp) _).setCell (by simp) _
end Go.Proofs.YtiojgmojnnbpiaaDoor.lg
