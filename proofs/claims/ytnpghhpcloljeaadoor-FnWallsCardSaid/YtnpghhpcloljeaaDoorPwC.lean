/-
  The model: areas, means, volumes, mirrored passages.
  Conditions: the passages lie in one block, at most 2000000 of them.
-/
import Derived.Test.YtnpghhpcloljeaaDoorPwG
import Derived.Test.YtnpghhpcloljeaaDoorPwE
import Derived.BigQuiet
import Derived.Deep.QuietTactic
import Derived.Deep.Cut
import Derived.Deep.DeepCutAuto
import Derived.RegionTactic
import Derived.Deep.RegionWith
import Derived.OwnWalk
import Derived.Deep.RegionHeld3
namespace Go.Proofs.YtnpghhpcloljeaaDoor.pw
open Go.RowKit
open reads base ty rowi win inn lg
set_option linter.unusedVariables false
set_option linter.unusedSimpArgs false

/-- a leg's stations and tape in memory -/
def L3 (w : World) (g o : Nat) (x : Lg) : Prop := (w.cell? ⟨g, o, none⟩ = some (.int .i64 x.frm) ∧ w.cell? ⟨g, o + 1, none⟩ = some (.int .i64 x.to_) ∧ w.cell? ⟨g, o + 2, none⟩ = some (.int .i64 x.tape)) ∧ g < w.heap.size
theorem l3_mk {w v : World} {g o : Nat} {x : Lg} (h : L3 w g o x) (hb : Below w.heap.size w v) : v.cell? ⟨g, o, none⟩ = some (.int .i64 x.frm) ∧ v.cell? ⟨g, o + 1, none⟩ = some (.int .i64 x.to_) ∧ v.cell? ⟨g, o + 2, none⟩ = some (.int .i64 x.tape) ∧ Below w.heap.size w v :=
  ⟨(hb.cell (p := ⟨g, o, none⟩) h.2).trans h.1.1, (hb.cell (p := ⟨g, o + 1, none⟩) h.2).trans h.1.2.1, (hb.cell (p := ⟨g, o + 2, none⟩) h.2).trans h.1.2.2, hb⟩
set_option maxHeartbeats 4000000 in
set_option maxRecDepth 100000 in
theorem areaAt_model (A : Option Addr) (n cap : Nat) (ts : List Pg) (s : Int) (w : World) (hn : n ≤ 2000000) (hts : Hid (PgAt w w.heap.size A n ts)) :
    Calls Tryd.prog 21 #[.slice A n cap, .int .i64 s] w (APost (ansAa ts s) w) := by
  obtain ⟨G, HG⟩ : ∃ G, Hid (goodPg ts = G) := ⟨_, Lib.hid rfl⟩
  obtain ⟨t0, H0⟩ : ∃ t, Hid (stOk s = t) := ⟨_, Lib.hid rfl⟩
  obtain ⟨v, HV⟩ : ∃ v, Hid (arAt ts s = v) := ⟨_, Lib.hid rfl⟩
  have HA := Lib.hid (show ansAa ts s = if (G && t0) = true then .tuple #[.int .i64 v, .bool true] else .tuple #[.int .i64 0, .bool false] by unfold ansAa; rw [HG.out, H0.out, HV.out])
  go_enter Tryd.func21, Tryd.ntmps21
  go_wp2_with fail
  refine (good_is A n cap ts G HG _ hn hts).mono ?_
  rintro e w1 ⟨rfl, b1⟩
  have HB2 := Lib.hid b1
  clear b1
  cases G
  · go_wp2_with fail
    go_ret2
    exact ⟨by rw [HA.out]; rfl, HB2.out⟩
  go_wp2_with fail
  refine (station_is s t0 H0 _).mono ?_
  rintro e w3 ⟨rfl, rfl⟩
  cases t0
  · go_wp2_with fail
    go_ret2
    exact ⟨by rw [HA.out]; rfl, HB2.out⟩
  go_wp2_with fail
  refine (at_any A n cap ts s v _ hn (Lib.hid (hts.out.step HB2.out)) HG HV).mono ?_
  rintro e w4 ⟨rfl, b4⟩
  have HB5 := Lib.hid (HB2.out.trans (b4.mono HB2.out.size))
  clear b4 HB2
  go_wp2_with fail
  go_ret2
  exact ⟨by rw [HA.out]; rfl, HB5.out⟩
/-- MirrorPassage's answer -/
def ansMi (x : Pg) : Value := if okPg x = true then .tuple #[.agg #[.int .i64 (mirPg x).st, .int .i64 (mirPg x).lf, .int .i64 (mirPg x).rt, .int .i64 (mirPg x).ab, .int .i64 (mirPg x).be], .bool true] else .tuple #[.agg #[.int .i64 0, .int .i64 0, .int .i64 0, .int .i64 0, .int .i64 0], .bool false]
set_option maxHeartbeats 4000000 in
set_option maxRecDepth 100000 in
theorem mirror_model (x : Pg) (w : World) : Calls Tryd.prog 18 #[.agg #[.int .i64 x.st, .int .i64 x.lf, .int .i64 x.rt, .int .i64 x.ab, .int .i64 x.be]] w (APost (ansMi x) w) := by
  cases hx : okPg x
  · have HA := Lib.hid (show ansMi x = .tuple #[.agg #[.int .i64 0, .int .i64 0, .int .i64 0, .int .i64 0, .int .i64 0], .bool false] by unfold ansMi; rw [hx]; rfl)
    have HX := Lib.hid hx
    clear hx
    rw [HA.out]
    go_enter Tryd.func18, Tryd.ntmps18
    go_wp2_with fail
    refine (one_is x false HX _).mono ?_
    rintro e w1 ⟨rfl, b1⟩
    obtain ⟨hc1, hf1⟩ := bcell b1
    have hz : w.heap.size + 2 ≤ w1.heap.size := by have := b1.size; simp at this; omega
    have hz0 : w.heap.size < w1.heap.size := by omega
    have hz1 : w.heap.size + 1 < w1.heap.size := by omega
    have HB := Lib.hid ((((Below.refl w.heap.size w).alloc (Nat.le_refl _) _).alloc (by simp) _).trans (b1.mono (by simp; omega)))
    clear b1
    go_wp2_with fail
    refine bodyPost_ret (v := .tuple #[.agg #[.int .i64 0, .int .i64 0, .int .i64 0, .int .i64 0, .int .i64 0], .bool false]) (by simp [results, Tryd.results18, go_sem, hc1]) rfl ⟨rfl, ?_⟩
    exact ((((HB.out.setCell (by simp) _).setCell (by simp) _).setCell (by simp) _).setCell (by simp) _).setCell (by simp) _
  · obtain ⟨y, hy⟩ : ∃ y, mirPg x = y := ⟨_, rfl⟩
    have HA := Lib.hid (show ansMi x = .tuple #[.agg #[.int .i64 y.st, .int .i64 y.lf, .int .i64 y.rt, .int .i64 y.ab, .int .i64 y.be], .bool true] by unfold ansMi; rw [hx, hy]; rfl)
    have HX := Lib.hid hx
    have HY := Lib.hid (show y = ⟨x.st, x.rt, x.lf, x.ab, x.be⟩ by rw [← hy]; rfl)
    clear hx hy
    rw [HA.out]
    go_enter Tryd.func18, Tryd.ntmps18
    go_wp2_with fail
    refine (one_is x true HX _).mono ?_
    rintro e w1 ⟨rfl, b1⟩
    obtain ⟨hc1, hf1⟩ := bcell b1
    have hz : w.heap.size + 2 ≤ w1.heap.size := by have := b1.size; simp at this; omega
    have hz0 : w.heap.size < w1.heap.size := by omega
    have hz1 : w.heap.size + 1 < w1.heap.size := by omega
    have HB := Lib.hid ((((Below.refl w.heap.size w).alloc (Nat.le_refl _) _).alloc (by simp) _).trans (b1.mono (by simp; omega)))
    clear b1
    go_wp2_with fail
    refine bodyPost_ret (v := .tuple #[.agg #[.int .i64 y.st, .int .i64 y.lf, .int .i64 y.rt, .int .i64 y.ab, .int .i64 y.be], .bool true]) (by simp [results, Tryd.results18, go_sem, HY.out, *]) rfl ⟨rfl, ?_⟩
    exact ((((HB.out.setCell (by simp) _).setCell (by simp) _).setCell (by simp) _).setCell (by simp) _).setCell (by simp) _
end Go.Proofs.YtnpghhpcloljeaaDoor.pw
