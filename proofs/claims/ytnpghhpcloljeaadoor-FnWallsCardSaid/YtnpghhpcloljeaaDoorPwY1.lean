/-
  The shift of a wall, of the model.
  Conditions: the passages lie in one block, at most 2000000 of them.
-/
import Derived.Test.YtnpghhpcloljeaaDoorPwY0
import Derived.BigQuiet
import Derived.Deep.QuietTactic
import Derived.Deep.Cut
import Derived.Deep.DeepCutAuto
import Derived.RegionTactic
import Derived.Deep.RegionWith
import Derived.OwnWalk
import Derived.Deep.RegionHeld3
namespace Go.Proofs.YtnpghhpcloljeaaDoor.pw
open Go.RowKit
open reads base ty rowi win inn lg
set_option linter.unusedVariables false
set_option linter.unusedSimpArgs false

set_option maxHeartbeats 4000000 in
set_option maxRecDepth 100000 in
theorem wall_any (far deg : Int) (s : Sf) (w : World) (h : Hid (walS far deg = s)) (h0 : 0 ≤ far) (h1 : far ≤ 200) (d0 : -1000 ≤ deg) (d1 : deg ≤ 1000) : Calls Tryd.prog 29 #[.int .i64 far, .int .i64 deg] w (APost (.agg #[.int .i64 s.east, .int .i64 s.north, .int .i64 s.up]) w) := by
  obtain ⟨ss, hss⟩ : ∃ v, sn.sinZ deg = v := ⟨_, rfl⟩
  obtain ⟨cc, hcc⟩ : ∃ v, sn.cosZ deg = v := ⟨_, rfl⟩
  obtain ⟨e1, HE1⟩ : ∃ v, Hid (sn.rdiv (far * ss) 1000 = v) := ⟨_, Lib.hid rfl⟩
  obtain ⟨e2, HE2⟩ : ∃ v, Hid (sn.rdiv (far * cc) 1000 = v) := ⟨_, Lib.hid rfl⟩
  have HS := Lib.hid (show s = ⟨e1, e2, 0⟩ by rw [← h.out]; unfold walS; rw [hss, hcc, HE1.out, HE2.out])
  have k1 := sn.sinZ_bd deg
  have k2 := sn.cosZ_bd deg
  rw [hss] at k1
  rw [hcc] at k2
  obtain ⟨p0, p1⟩ := mul_bd far ss 500 (by decide) (by omega) (by omega) k1.1 k1.2
  obtain ⟨q0, q1⟩ := mul_bd far cc 500 (by decide) (by omega) (by omega) k2.1 k2.2
  have HSS := Lib.hid hss
  have HCC := Lib.hid hcc
  clear hss hcc k1 k2
  have HR0 := Lib.hid (Blk.new w 27 #[.int .i64 0, .int .i64 0, .int .i64 0])
  have HB0 := Lib.hid ((Below.refl w.heap.size w).alloc (Nat.le_refl _) (.cells #[.int .i64 0, .int .i64 0, .int .i64 0] 27))
  go_enter Tryd.func29, Tryd.ntmps29
  go_wp2_with fail
  refine (sn.sine_is deg ss HSS.out _ (by omega) (by omega)).mono ?_
  rintro e w1 ⟨rfl, b1⟩
  have HR1 := Lib.hid (HR0.out.below b1 HR0.out.lt)
  have HB1 := Lib.hid (HB0.out.trans (b1.mono HB0.out.size))
  clear b1 HR0 HB0
  go_wp2_with fail
  refine (div_is (far * ss) 1000 e1 HE1 _ (by omega) (by omega) (by decide) (by decide)).mono ?_
  rintro e w2 ⟨rfl, rfl⟩
  go_wp2_with fail
  refine (sn.cosine_is deg cc HCC.out _ (by omega) (by omega)).mono ?_
  rintro e w3 ⟨rfl, b3⟩
  have HR3 := Lib.hid (HR1.out.below b3 HR1.out.lt)
  have HB3 := Lib.hid (HB1.out.trans (b3.mono HB1.out.size))
  clear b3 HR1 HB1
  go_wp2_with fail
  refine (div_is (far * cc) 1000 e2 HE2 _ (by omega) (by omega) (by decide) (by decide)).mono ?_
  rintro e w4 ⟨rfl, rfl⟩
  have z0 := HR3.out.cell 0
  have z1 := HR3.out.cell 1
  have z2 := HR3.out.cell 2
  have f0 := HR3.out.frozen 0
  have f1 := HR3.out.frozen 1
  have f2 := HR3.out.frozen 2
  have hl := HR3.out.lt
  simp at z0 z1 z2
  go_wp2_with fail
  refine bodyPost_ret (v := .agg #[.int .i64 e1, .int .i64 e2, .int .i64 0]) (by simp [results, Tryd.results29, go_sem, *]) rfl ⟨by rw [HS.out], ?_⟩
  exact ((HB3.out.setCell (by simp) _).setCell (by simp) _).setCell (by simp) _
end Go.Proofs.YtnpghhpcloljeaaDoor.pw
