/-
  The program's shift of a leg, and the sum of a chain.
  Conditions: the variable holds the table of the sines; else none but those that a theorem names.
-/
import Derived.Test.YtnpghhpcloljeaaDoorLgE
import Derived.Test.YtnpghhpcloljeaaDoorLgI
import Derived.Test.YtnpghhpcloljeaaDoorSinI
import Derived.Deep.DeepCutAuto
import Derived.Deep.RegionWith
import Derived.Deep.QuietTactic
import Derived.BigQuiet
namespace Go.Proofs.YtnpghhpcloljeaaDoor.lgi
open Go.RowKit
open reads base ty win lg
set_option linter.unusedVariables false
set_option linter.unusedSimpArgs false

set_option maxHeartbeats 4000000 in
set_option maxRecDepth 100000 in
theorem along_any (x : Lg) (w : World) (hx : Hid (okLg x = true)) (hT : Hid (Tab w)) : Calls Tryd.prog 35 #[.agg #[.int .i64 x.frm, .int .i64 x.to_, .int .i64 x.tape, .int .i64 x.comp, .int .i64 x.slope]] w (APost (.agg #[.int .i64 (shf x).east, .int .i64 (shf x).north, .int .i64 (shf x).up]) w) := by
  obtain ⟨-, -, -, ⟨a4, a5⟩, ⟨a6, a7⟩, a8, a9⟩ := okLg_lim hx.out
  obtain ⟨lv, hlv⟩ : ∃ v, level x = v := ⟨_, rfl⟩
  have lb := level_bd hx.out
  rw [hlv] at lb
  obtain ⟨lb0, lb1⟩ := lb
  obtain ⟨ee, he⟩ : ∃ v, sn.rdiv (lv * sn.sinZ x.comp) 1000 = v := ⟨_, rfl⟩
  obtain ⟨nn, hn⟩ : ∃ v, sn.rdiv (lv * sn.cosZ x.comp) 1000 = v := ⟨_, rfl⟩
  obtain ⟨uu, hu⟩ : ∃ v, sn.rdiv (x.tape * sn.sinZ x.slope) 1000 = v := ⟨_, rfl⟩
  have HA := Lib.hid (show shf x = ⟨ee, nn, uu⟩ by unfold shf; rw [hlv, he, hn, hu])
  have HP1 := Lib.hid (show partV x.tape x.slope = .tuple #[.int .i64 lv, .int .i64 uu, .bool true] by unfold partV; rw [hu]; rw [← hlv]; rfl)
  have HP2 := Lib.hid (show partV lv x.comp = .tuple #[.int .i64 nn, .int .i64 ee, .bool true] by unfold partV; rw [he, hn])
  clear hlv he hn hu hx
  rw [HA.out]
  have HT0 := Lib.hid ((hT.out.alloc (.cells #[.int .i64 x.frm, .int .i64 x.to_, .int .i64 x.tape, .int .i64 x.comp, .int .i64 x.slope] 33)).alloc (.cells #[.int .i64 0, .int .i64 0, .int .i64 0] 27))
  go_enter Tryd.func35, Tryd.ntmps35
  go_wp2_with fail
  refine (partOf_in x.tape x.slope _ (by omega) (by omega) (by omega) (by omega) HT0).mono ?_
  rintro e w1 ⟨rfl, b1⟩
  rw [HP1.out]
  have HT1 := Lib.hid (HT0.out.below b1)
  obtain ⟨hc1, hf1⟩ := bcell b1
  have hz : w.heap.size + 2 ≤ w1.heap.size := by have := b1.size; simp at this; omega
  have hz0 : w.heap.size < w1.heap.size := by omega
  have hz1 : w.heap.size + 1 < w1.heap.size := by omega
  have HB := Lib.hid ((((Below.refl w.heap.size w).alloc (Nat.le_refl _) _).alloc (by simp) _).trans (b1.mono (by simp; omega)))
  clear b1 HT0
  go_wp2_with fail
  refine (partOf_in lv x.comp _ (by omega) (by omega) (by omega) (by omega) HT1).mono ?_
  rintro e w2 ⟨rfl, b2⟩
  rw [HP2.out]
  obtain ⟨hc2, hf2⟩ := bcell b2
  have hz2 : w1.heap.size ≤ w2.heap.size := b2.size
  have HB2 := Lib.hid (HB.out.trans (b2.mono HB.out.size))
  clear b2
  go_wp2_with fail
  refine bodyPost_ret (v := .agg #[.int .i64 ee, .int .i64 nn, .int .i64 uu]) (by simp [results, Tryd.results35, go_sem, *]) rfl ⟨rfl, ?_⟩
  exact ((HB2.out.setCell (by simp) _).setCell (by simp) _).setCell (by simp) _
theorem along_is (x : Lg) (s : Sf) (h : Hid (shf x = s)) (w : World) (hx : Hid (okLg x = true)) (hT : Hid (Tab w)) : Calls Tryd.prog 35 #[.agg #[.int .i64 x.frm, .int .i64 x.to_, .int .i64 x.tape, .int .i64 x.comp, .int .i64 x.slope]] w (APost (.agg #[.int .i64 s.east, .int .i64 s.north, .int .i64 s.up]) w) := by rw [← h.out]; exact along_any x w hx hT
set_option maxHeartbeats 4000000 in
set_option maxRecDepth 100000 in
theorem shiftOf_impl (x : Lg) (w : World) (hT : Hid (Tab w)) : Calls Tryd.prog 16 #[.agg #[.int .i64 x.frm, .int .i64 x.to_, .int .i64 x.tape, .int .i64 x.comp, .int .i64 x.slope]] w (APost (ansShift x) w) := by
  have HT0 := Lib.hid ((hT.out.alloc (.cells #[.int .i64 x.frm, .int .i64 x.to_, .int .i64 x.tape, .int .i64 x.comp, .int .i64 x.slope] 33)).alloc (.cells #[.int .i64 0, .int .i64 0, .int .i64 0] 27))
  cases hx : okLg x
  · have HA := Lib.hid (show ansShift x = .tuple #[.agg #[.int .i64 0, .int .i64 0, .int .i64 0], .bool false] by unfold ansShift; rw [hx]; rfl)
    have HX := Lib.hid hx
    clear hx
    rw [HA.out]
    go_enter Tryd.func16, Tryd.ntmps16
    go_wp2_with fail
    refine (isLeg_is x false HX _).mono ?_
    rintro e w1 ⟨rfl, b1⟩
    obtain ⟨hc1, hf1⟩ := bcell b1
    have hz : w.heap.size + 2 ≤ w1.heap.size := by have := b1.size; simp at this; omega
    have hz0 : w.heap.size < w1.heap.size := by omega
    have hz1 : w.heap.size + 1 < w1.heap.size := by omega
    have HB := Lib.hid ((((Below.refl w.heap.size w).alloc (Nat.le_refl _) _).alloc (by simp) _).trans (b1.mono (by simp; omega)))
    clear b1
    go_wp2_with fail
    refine bodyPost_ret (v := .tuple #[.agg #[.int .i64 0, .int .i64 0, .int .i64 0], .bool false]) (by simp [results, Tryd.results16, go_sem, hc1]) rfl ⟨rfl, ?_⟩
    exact ((HB.out.setCell (by simp) _).setCell (by simp) _).setCell (by simp) _
  · obtain ⟨s, hs⟩ : ∃ s, shf x = s := ⟨_, rfl⟩
    have HA := Lib.hid (show ansShift x = .tuple #[.agg #[.int .i64 s.east, .int .i64 s.north, .int .i64 s.up], .bool true] by unfold ansShift; rw [hx, hs]; rfl)
    have HX := Lib.hid hx
    have HS := Lib.hid hs
    clear hx hs
    rw [HA.out]
    go_enter Tryd.func16, Tryd.ntmps16
    go_wp2_with fail
    refine (isLeg_is x true HX _).mono ?_
    rintro e w1 ⟨rfl, b1⟩
    have HT1 := Lib.hid (HT0.out.below b1)
    obtain ⟨hc1, hf1⟩ := bcell b1
    have hz : w.heap.size + 2 ≤ w1.heap.size := by have := b1.size; simp at this; omega
    have hz0 : w.heap.size < w1.heap.size := by omega
    have hz1 : w.heap.size + 1 < w1.heap.size := by omega
    have HB := Lib.hid ((((Below.refl w.heap.size w).alloc (Nat.le_refl _) _).alloc (by simp) _).trans (b1.mono (by simp; omega)))
    clear b1
    go_wp2_with fail
    refine (along_is x s HS _ HX HT1).mono ?_
    rintro e w2 ⟨rfl, b2⟩
    obtain ⟨hc2, hf2⟩ := bcell b2
    have hz2 : w1.heap.size ≤ w2.heap.size := b2.size
    have HB2 := Lib.hid (HB.out.trans (b2.mono HB.out.size))
    clear b2
    go_wp2_with fail
    refine bodyPost_ret (v := .tuple #[.agg #[.int .i64 s.east, .int .i64 s.north, .int .i64 s.up], .bool true]) (by simp [results, Tryd.results16, go_sem, *]) rfl ⟨rfl, ?_⟩
    exact ((HB2.out.setCell (by simp) _).setCell (by simp) _).setCell (by simp) _
set_option maxHeartbeats 4000000 in
set_option maxRecDepth 100000 in
theorem sum_any (a b : Sf) (m : Int) (w : World) (hm : 0 ≤ m) (hm2 : m ≤ 1000000) (a0 : -m ≤ a.east ∧ a.east ≤ m) (a1 : -m ≤ a.north ∧ a.north ≤ m) (a2 : -m ≤ a.up ∧ a.up ≤ m) (b0 : -500 ≤ b.east ∧ b.east ≤ 500) (b1 : -500 ≤ b.north ∧ b.north ≤ 500) (b2 : -500 ≤ b.up ∧ b.up ≤ 500) :
    Calls Tryd.prog 37 #[.agg #[.int .i64 a.east, .int .i64 a.north, .int .i64 a.up], .agg #[.int .i64 b.east, .int .i64 b.north, .int .i64 b.up]] w (APost (.agg #[.int .i64 (add3 a b).east, .int .i64 (add3 a b).north, .int .i64 (add3 a b).up]) w) := by
  have HR := Lib.hid (show add3 a b = ⟨a.east + b.east, a.north + b.north, a.up + b.up⟩ from rfl)
  obtain ⟨a00, a01⟩ := a0
  obtain ⟨a10, a11⟩ := a1
  obtain ⟨a20, a21⟩ := a2
  obtain ⟨b00, b01⟩ := b0
  obtain ⟨b10, b11⟩ := b1
  obtain ⟨b20, b21⟩ := b2
  go_enter Tryd.func37, Tryd.ntmps37
  go_wp2_with fail
  refine bodyPost_ret (v := .agg #[.int .i64 (add3 a b).east, .int .i64 (add3 a b).north, .int .i64 (add3 a b).up]) (by simp [results, Tryd.results37, go_sem, HR.out]) rfl ⟨rfl, ?_⟩
  exact (((Below.refl _ _).alloc (Nat.le_refl _) _).alloc (by simp) _).alloc (by simp; omega) _
theorem sum_is (a b c : Sf) (h : Hid (add3 a b = c)) (m : Int) (w : World) (hm : 0 ≤ m) (hm2 : m ≤ 1000000) (a0 : -m ≤ a.east ∧ a.east ≤ m) (a1 : -m ≤ a.north ∧ a.north ≤ m) (a2 : -m ≤ a.up ∧ a.up ≤ m) (b0 : -500 ≤ b.east ∧ b.east ≤ 500) (b1 : -500 ≤ b.north ∧ b.north ≤ 500) (b2 : -500 ≤ b.up ∧ b.up ≤ 500) :
    Calls Tryd.prog 37 #[.agg #[.int .i64 a.east, .int .i64 a.north, .int .i64 a.up], .agg #[.int .i64 b.east, .int .i64 b.north, .int .i64 b.up]] w (APost (.agg #[.int .i64 c.east, .int .i64 c.north, .int .i64 c.up]) w) := by rw [← h.out]; exact sum_any a b m w hm hm2 a0 a1 a2 b0 b1 b2
end Go.Proofs.YtnpghhpcloljeaaDoor.lgi
