/-
  The shift of a wall, of the program.
  Conditions: the passages lie in one block, at most 2000000 of them.
-/
import Derived.Test.YtnpghhpcloljeaaDoorPwY0
import Derived.Test.YtnpghhpcloljeaaDoorSinI
import Derived.BigQuiet
import Derived.Deep.QuietTactic
import Derived.Deep.Cut
import Derived.Deep.DeepCutAuto
import Derived.RegionTactic
import Derived.Deep.RegionWith
import Derived.OwnWalk
import Derived.Deep.RegionHeld3
namespace Go.Proofs.YtnpghhpcloljeaaDoor.pw
open Go.RowKit
open reads base ty rowi win inn lg
set_option linter.unusedVariables false
set_option linter.unusedSimpArgs false

set_option maxHeartbeats 4000000 in
set_option maxRecDepth 100000 in
theorem level_is (far deg : Int) (s : Sf) (w : World) (h : Hid (walS far deg = s)) (h0 : 0 ≤ far) (h1 : far ≤ 200) (d0 : -1000 ≤ deg) (d1 : deg ≤ 1000) (hT : Hid (win.Tab w)) : Calls Tryd.prog 36 #[.int .i64 far, .int .i64 deg] w (APost (.agg #[.int .i64 s.east, .int .i64 s.north, .int .i64 s.up]) w) := by
  obtain ⟨e1, HE1⟩ : ∃ v, Hid (sn.rdiv (far * sn.sinZ deg) 1000 = v) := ⟨_, Lib.hid rfl⟩
  obtain ⟨e2, HE2⟩ : ∃ v, Hid (sn.rdiv (far * sn.cosZ deg) 1000 = v) := ⟨_, Lib.hid rfl⟩
  have HS := Lib.hid (show s = ⟨e1, e2, 0⟩ by rw [← h.out]; unfold walS; rw [HE1.out, HE2.out])
  have HP := Lib.hid (show win.partV far deg = .tuple #[.int .i64 e2, .int .i64 e1, .bool true] by unfold win.partV; rw [HE1.out, HE2.out])
  have HR0 := Lib.hid (Blk.new w 27 #[.int .i64 0, .int .i64 0, .int .i64 0])
  have HB0 := Lib.hid ((Below.refl w.heap.size w).alloc (Nat.le_refl _) (.cells #[.int .i64 0, .int .i64 0, .int .i64 0] 27))
  have HT0 := Lib.hid (hT.out.alloc (.cells #[.int .i64 0, .int .i64 0, .int .i64 0] 27))
  go_enter Tryd.func36, Tryd.ntmps36
  go_wp2_with fail
  refine (win.partOf_in far deg _ (by omega) (by omega) (by omega) (by omega) HT0).mono ?_
  rintro e w1 ⟨rfl, b1⟩
  rw [HP.out]
  have HR3 := Lib.hid (HR0.out.below b1 HR0.out.lt)
  have HB3 := Lib.hid (HB0.out.trans (b1.mono HB0.out.size))
  clear b1 HR0 HB0 HT0
  have z0 := HR3.out.cell 0
  have z1 := HR3.out.cell 1
  have z2 := HR3.out.cell 2
  have f0 := HR3.out.frozen 0
  have f1 := HR3.out.frozen 1
  have f2 := HR3.out.frozen 2
  have hl := HR3.out.lt
  simp at z0 z1 z2
  go_wp2_with fail
  refine bodyPost_ret (v := .agg #[.int .i64 e1, .int .i64 e2, .int .i64 0]) (by simp [results, Tryd.results36, go_sem, *]) rfl ⟨by rw [HS.out], ?_⟩
  exact ((HB3.out.setCell (by simp) _).setCell (by simp) _).setCell (by simp) _
end Go.Proofs.YtnpghhpcloljeaaDoor.pw
