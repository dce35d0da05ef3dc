/-
  The program's shift along a leg.
  Conditions: the variable holds the table of the sines; the leg is valid.
-/
import Derived.Test.YtgfopehceojahaaDoorLgD
import Derived.Test.YtgfopehceojahaaDoorSinI
import Derived.Deep.DeepCutAuto
import Derived.Deep.QuietTactic
import Derived.BigQuiet
namespace Go.Proofs.YtgfopehceojahaaDoor.nq
open Go.RowKit
open reads base ty win lg sn
set_option linter.unusedVariables false
set_option linter.unusedSimpArgs false

set_option maxHeartbeats 4000000 in
set_option maxRecDepth 100000 in
theorem along_any (x : Lg) (w : World) (hx : Hid (okLg x = true)) (hT : Hid (Tab w)) : Calls Tryd.prog 84 #[.agg #[.int .i64 x.frm, .int .i64 x.to_, .int .i64 x.tape, .int .i64 x.comp, .int .i64 x.slope]] w (APost (.agg #[.int .i64 (shf x).east, .int .i64 (shf x).north, .int .i64 (shf x).up]) w) := by
  obtain ⟨-, -, -, ⟨a4, a5⟩, ⟨a6, a7⟩, a8, a9⟩ := okLg_lim hx.out
  obtain ⟨lv, hlv⟩ : ∃ v, level x = v := ⟨_, rfl⟩
  have lb := level_bd hx.out
  rw [hlv] at lb
  obtain ⟨lb0, lb1⟩ := lb
  obtain ⟨ee, he⟩ : ∃ v, sn.rdiv (lv * sn.sinZ x.comp) 1000 = v := ⟨_, rfl⟩
  obtain ⟨nn, hn⟩ : ∃ v, sn.rdiv (lv * sn.cosZ x.comp) 1000 = v := ⟨_, rfl⟩
  obtain ⟨uu, hu⟩ : ∃ v, sn.rdiv (x.tape * sn.sinZ x.slope) 1000 = v := ⟨_, rfl⟩
  have HA := Lib.hid (show shf x = ⟨ee, nn, uu⟩ by unfold shf; rw [hlv, he, hn, hu])
  have HP1 := Lib.hid (show partV x.tape x.slope = .tuple #[.int .i64 lv, .int .i64 uu, .bool true] by unfold partV; rw [hu]; rw [← hlv]; rfl)
  have HP2 := Lib.hid (show partV lv x.comp = .tuple #[.int .i64 nn, .int .i64 ee, .bool true] by unfold partV; rw [he, hn])
  clear hlv he hn hu hx
  rw [HA.out]
  have HT0 := Lib.hid ((hT.out.alloc (.cells #[.int .i64 x.frm, .int .i64 x.to_, .int .i64 x.tape, .int .i64 x.comp, .int .i64 x.slope] 52)).alloc (.cells #[.int .i64 0, .int .i64 0, .int .i64 0] 70))
  go_enter Tryd.func84, Tryd.ntmps84
  go_wp2_with fail
  refine (partOf_in x.tape x.slope _ (by omega) (by omega) (by omega) (by omega) HT0).mono ?_
  rintro e w1 ⟨rfl, b1⟩
  rw [HP1.out]
  have HT1 := Lib.hid (HT0.out.below b1)
  obtain ⟨hc1, hf1⟩ := bcell b1
  have hz : w.heap.size + 2 ≤ w1.heap.size := by have := b1.size; simp at this; omega
  have hz0 : w.heap.size < w1.heap.size := by omega
  have hz1 : w.heap.size + 1 < w1.heap.size := by omega
  have HB := Lib.hid ((((Below.refl w.heap.size w).alloc (Nat.le_refl _) _).alloc (by simp) _).trans (b1.mono (by simp; omega)))
  clear b1 HT0
  go_wp2_with fail
  refine (partOf_in lv x.comp _ (by omega) (by omega) (by omega) (by omega) HT1).mono ?_
  rintro e w2 ⟨rfl, b2⟩
  rw [HP2.out]
  obtain ⟨hc2, hf2⟩ := bcell b2
  have hz2 : w1.heap.size ≤ w2.heap.size := b2.size
  have HB2 := Lib.hid (HB.out.trans (b2.mono HB.out.size))
  clear b2
  go_wp2_with fail
  refine bodyPost_ret (v := .agg #[.int .i64 ee, .int .i64 nn, .int .i64 uu]) (by simp [results, Tryd.results84, go_sem, *]) rfl ⟨rfl, ?_⟩
  exact ((HB2.out.setCell (by simp) _).setCell (by simp) _).setCell (by simp) _
theorem along_is (x : Lg) (s : Sf) (h : Hid (shf x = s)) (w : World) (hx : Hid (okLg x = true)) (hT : Hid (Tab w)) : Calls Tryd.prog 84 #[.agg #[.int .i64 x.frm, .int .i64 x.to_, .int .i64 x.tape, .int .i64 x.comp, .int .i64 x.slope]] w (APost (.agg #[.int .i64 s.east, .int .i64 s.north, .int .i64 s.up]) w) := by rw [← h.out]; exact along_any x w hx hT
end Go.Proofs.YtgfopehceojahaaDoor.nq
