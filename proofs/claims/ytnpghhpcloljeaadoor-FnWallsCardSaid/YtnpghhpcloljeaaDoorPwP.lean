/-
  The program: mirrored passages.
  Conditions: the passages lie in one block, at most 2000000 of them.
-/
import Derived.Test.YtnpghhpcloljeaaDoorPwH
import Derived.Test.YtnpghhpcloljeaaDoorPwC
import Derived.BigQuiet
import Derived.Deep.QuietTactic
import Derived.Deep.Cut
import Derived.Deep.DeepCutAuto
import Derived.RegionTactic
import Derived.Deep.RegionWith
import Derived.OwnWalk
import Derived.Deep.RegionHeld3
namespace Go.Proofs.YtnpghhpcloljeaaDoor.pw
open Go.RowKit
open reads base ty rowi win lg lgi
set_option linter.unusedVariables false
set_option linter.unusedSimpArgs false

set_option maxHeartbeats 8000000 in
set_option maxRecDepth 100000 in
theorem mirror_impl (x : Pg) (w : World) : Calls Tryd.prog 14 #[.agg #[.int .i64 x.st, .int .i64 x.lf, .int .i64 x.rt, .int .i64 x.ab, .int .i64 x.be]] w (APost (ansMi x) w) := by
  have HB0 := Lib.hid (((Below.refl w.heap.size w).alloc (Nat.le_refl _) (.cells #[.int .i64 x.st, .int .i64 x.lf, .int .i64 x.rt, .int .i64 x.ab, .int .i64 x.be] 43)).alloc (by simp) (.cells #[.int .i64 0, .int .i64 0, .int .i64 0, .int .i64 0, .int .i64 0] 43))
  have HX0 := Lib.hid ((Blk.new w 43 #[.int .i64 x.st, .int .i64 x.lf, .int .i64 x.rt, .int .i64 x.ab, .int .i64 x.be]).alloc (.cells #[.int .i64 0, .int .i64 0, .int .i64 0, .int .i64 0, .int .i64 0] 43))
  have HR0 := Lib.hid (show Blk ((w.alloc (.cells #[.int .i64 x.st, .int .i64 x.lf, .int .i64 x.rt, .int .i64 x.ab, .int .i64 x.be] 43)).alloc (.cells #[.int .i64 0, .int .i64 0, .int .i64 0, .int .i64 0, .int .i64 0] 43)) (w.heap.size + 1) 43 #[.int .i64 0, .int .i64 0, .int .i64 0, .int .i64 0, .int .i64 0] by have h := Blk.new (w.alloc (.cells #[.int .i64 x.st, .int .i64 x.lf, .int .i64 x.rt, .int .i64 x.ab, .int .i64 x.be] 43)) 43 #[.int .i64 0, .int .i64 0, .int .i64 0, .int .i64 0, .int .i64 0]; simpa using h)
  obtain ⟨b, hx⟩ : ∃ b, okPg x = b := ⟨_, rfl⟩
  have HX := Lib.hid hx
  go_enter Tryd.func14, Tryd.ntmps14
  go_wp2_with fail
  refine (isPassage_is x b HX _).mono ?_
  rintro e w1 ⟨rfl, b1⟩
  have HB := Lib.hid (HB0.out.trans (b1.mono (by simp; omega)))
  have HXX := Lib.hid (HX0.out.below b1 HX0.out.lt)
  have HRR := Lib.hid (HR0.out.below b1 HR0.out.lt)
  have hl1 := HRR.out.lt
  have hl0 : w.heap.size < w1.heap.size := by omega
  clear b1 HB0 HX0 HR0
  cases b
  · have HA := Lib.hid (show ansMi x = .tuple #[.agg #[.int .i64 0, .int .i64 0, .int .i64 0, .int .i64 0, .int .i64 0], .bool false] by unfold ansMi; rw [hx]; rfl)
    clear hx
    have z0 := HRR.out.cell 0
    have z1 := HRR.out.cell 1
    have z2 := HRR.out.cell 2
    have z3 := HRR.out.cell 3
    have z4 := HRR.out.cell 4
    have f0 := HRR.out.frozen 0
    have f1 := HRR.out.frozen 1
    have f2 := HRR.out.frozen 2
    have f3 := HRR.out.frozen 3
    have f4 := HRR.out.frozen 4
    simp at z0 z1 z2 z3 z4
    go_wp2_with fail
    refine bodyPost_ret (v := .tuple #[.agg #[.int .i64 0, .int .i64 0, .int .i64 0, .int .i64 0, .int .i64 0], .bool false]) (by simp [results, Tryd.results14, go_sem, *]) rfl ⟨by rw [HA.out], ?_⟩
    exact (((((HB.out.setCell (by simp) _).setCell (by simp) _).setCell (by simp) _).setCell (by simp) _).setCell (by simp) _)
  · have HA := Lib.hid (show ansMi x = .tuple #[.agg #[.int .i64 x.st, .int .i64 x.rt, .int .i64 x.lf, .int .i64 x.ab, .int .i64 x.be], .bool true] by unfold ansMi; rw [hx]; rfl)
    clear hx
    have x0 := HXX.out.cell 0
    have x1 := HXX.out.cell 1
    have x2 := HXX.out.cell 2
    have x3 := HXX.out.cell 3
    have x4 := HXX.out.cell 4
    simp at x0 x1 x2 x3 x4
    go_upto_region 4 with fail
    obtain ⟨V, HV⟩ : ∃ V, Hid (w1.alloc (.cells #[.int .i64 x.st, .int .i64 x.lf, .int .i64 x.rt, .int .i64 x.ab, .int .i64 x.be] 43) = V) := ⟨_, Lib.hid rfl⟩
    obtain ⟨Y, HY⟩ : ∃ Y, Hid (w1.heap.size = Y) := ⟨_, Lib.hid rfl⟩
    have HB2 := Lib.hid (show Below w.heap.size w V by rw [← HV.out]; exact HB.out.alloc HB.out.size _)
    have HX2 := Lib.hid (show Blk V w.heap.size 43 #[.int .i64 x.st, .int .i64 x.lf, .int .i64 x.rt, .int .i64 x.ab, .int .i64 x.be] by rw [← HV.out]; exact HXX.out.alloc _)
    have HR2 := Lib.hid (show Blk V (w.heap.size + 1) 43 #[.int .i64 0, .int .i64 0, .int .i64 0, .int .i64 0, .int .i64 0] by rw [← HV.out]; exact HRR.out.alloc _)
    have HY2 := Lib.hid (show Blk V Y 43 #[.int .i64 x.st, .int .i64 x.lf, .int .i64 x.rt, .int .i64 x.ab, .int .i64 x.be] by rw [← HV.out, ← HY.out]; exact Blk.new _ _ _)
    have hYl : w.heap.size + 1 < Y := by rw [← HY.out]; exact hl1
    have hYz : w.heap.size < Y := by omega
    rw [HV.out]
    try simp only [HY.out]
    clear HV HY HB HXX HRR x0 x1 x2 x3 x4 hl1 hl0
    have x1 := HX2.out.cell 1
    have x2 := HX2.out.cell 2
    have y1 := HY2.out.cell 1
    have y2 := HY2.out.cell 2
    have hf1 := HY2.out.frozen 1
    have hf2 := HY2.out.frozen 2
    simp at x1 x2 y1 y2
    go_region
    obtain ⟨U, HU⟩ : ∃ U, Hid (((V.setCell ⟨Y, 1, none⟩ (.int .i64 x.rt)).setCell ⟨Y, 2, none⟩ (.int .i64 x.lf)).drew = U) := ⟨_, Lib.hid rfl⟩
    have HB3 := Lib.hid (show Below w.heap.size w U by rw [← HU.out]; exact ((HB2.out.setCell (p := (⟨Y, 1, none⟩ : Addr)) (by show w.heap.size ≤ Y; omega) _).setCell (p := (⟨Y, 2, none⟩ : Addr)) (by show w.heap.size ≤ Y; omega) _).drew)
    have HR3 := Lib.hid (show Blk U (w.heap.size + 1) 43 #[.int .i64 0, .int .i64 0, .int .i64 0, .int .i64 0, .int .i64 0] by rw [← HU.out]; exact ((HR2.out.far (p := (⟨Y, 1, none⟩ : Addr)) (by show w.heap.size + 1 ≠ Y; omega) _).far (p := (⟨Y, 2, none⟩ : Addr)) (by show w.heap.size + 1 ≠ Y; omega) _).drew)
    have HY3 := Lib.hid (show Blk U Y 43 #[.int .i64 x.st, .int .i64 x.rt, .int .i64 x.lf, .int .i64 x.ab, .int .i64 x.be] by rw [← HU.out]; have k := (HY2.out.set_ 1 (.int .i64 x.rt)).set_ 2 (.int .i64 x.lf); exact k.drew)
    rw [HU.out]
    clear HU HB2 HR2 HX2 HY2 x1 x2 y1 y2 hf1 hf2
    have y0 := HY3.out.cell 0
    have y1 := HY3.out.cell 1
    have y2 := HY3.out.cell 2
    have y3 := HY3.out.cell 3
    have y4 := HY3.out.cell 4
    have z0 := HR3.out.cell 0
    have z1 := HR3.out.cell 1
    have z2 := HR3.out.cell 2
    have z3 := HR3.out.cell 3
    have z4 := HR3.out.cell 4
    have f0 := HR3.out.frozen 0
    have f1 := HR3.out.frozen 1
    have f2 := HR3.out.frozen 2
    have f3 := HR3.out.frozen 3
    have f4 := HR3.out.frozen 4
    have hlr := HR3.out.lt
    simp at y0 y1 y2 y3 y4 z0 z1 z2 z3 z4
    go_wp2_with fail
    refine bodyPost_ret (v := .tuple #[.agg #[.int .i64 x.st, .int .i64 x.rt, .int .i64 x.lf, .int .i64 x.ab, .int .i64 x.be], .bool true]) (by simp [results, Tryd.results14, go_sem, *]) rfl ⟨by rw [HA.out], ?_⟩
    exact (((((HB3.out.setCell (by simp) _).setCell (by simp) _).setCell (by simp) _).setCell (by simp) _).setCell (by simp) _)
end Go.Proofs.YtnpghhpcloljeaaDoor.pw
