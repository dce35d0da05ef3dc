/-
  The program's legs: which are valid, lists of them.
  Conditions: none but those that a theorem names.
-/
import Derived.Test.YtnpghhpcloljeaaDoorLgA
import Derived.Test.YtnpghhpcloljeaaDoorWin
namespace Go.Proofs.YtnpghhpcloljeaaDoor.lgi
open Go.RowKit
open reads base ty win lg
set_option linter.unusedVariables false
set_option linter.unusedSimpArgs false

set_option maxHeartbeats 1000000 in
theorem stations_any (g n c : Nat) (xs : List Int) (b : Bool) (w : World) (hn : Hid (xs.length = n)) (hn8 : n ≤ 8) (hc : Hid (IntsAt w g xs)) (hb : Hid (allIn 0 7 xs = b)) :
    Calls Tryd.prog 46 #[.slice (some ⟨g, 0, none⟩) n c] w fun e w' => e = .returned (.bool b) ∧ w = w' := by
  go_enter Tryd.func46, Tryd.ntmps46
  go_wp2_with fail
  refine (within_any _ _ g n c xs w hn hn8 hc).mono ?_
  rintro e w' ⟨rfl, rfl⟩
  rw [hb.out]
  go_wp2_with fail
  go_ret
  exact ⟨rfl, rfl⟩
theorem stations_new (c : Nat) (xs : List Int) (n : Nat) (t : TypeId) (cs : Array Value) (b : Bool) (w : World) (g : Nat) (hg : w.heap.size = g) (hn : xs.length = n) (hn8 : n ≤ 8) (hcs : cs = (xs.map (Value.int .i64)).toArray) (hb : allIn 0 7 xs = b) :
    Calls Tryd.prog 46 #[.slice (some ⟨g, 0, none⟩) n c] (w.alloc (.cells cs t)) fun e w' => e = .returned (.bool b) ∧ w.alloc (.cells cs t) = w' := by
  subst hcs hg
  exact stations_any w.heap.size n c xs b _ (Lib.hid hn) hn8 (Lib.hid (ints_new w t xs)) (Lib.hid hb)
/-- a leg in a box, and nothing old has turned -/
def LX (w : World) (x : Lg) (v : World) : Prop := Blk v w.heap.size 33 #[.int .i64 x.frm, .int .i64 x.to_, .int .i64 x.tape, .int .i64 x.comp, .int .i64 x.slope] ∧ Below w.heap.size w v
theorem LX.start (w : World) (x : Lg) : LX w x (w.alloc (.cells #[.int .i64 x.frm, .int .i64 x.to_, .int .i64 x.tape, .int .i64 x.comp, .int .i64 x.slope] 33)) := ⟨Blk.new w _ _, (Below.refl _ _).alloc (Nat.le_refl _) _⟩
theorem LX.step {w v v' : World} {x : Lg} (h : LX w x v) (hb : Below v.heap.size v v') : LX w x v' := ⟨h.1.below hb h.1.lt, h.2.trans (hb.mono h.2.size)⟩
theorem LX.alloc {w v : World} {x : Lg} (h : LX w x v) (o : Obj) : LX w x (v.alloc o) := h.step ((Below.refl _ _).alloc (Nat.le_refl _) o)
theorem LX.cs {w v : World} {x : Lg} (h : LX w x v) : v.cell? ⟨w.heap.size, 0, none⟩ = some (.int .i64 x.frm) ∧ v.cell? ⟨w.heap.size, 1, none⟩ = some (.int .i64 x.to_) ∧ v.cell? ⟨w.heap.size, 2, none⟩ = some (.int .i64 x.tape) ∧ v.cell? ⟨w.heap.size, 3, none⟩ = some (.int .i64 x.comp) ∧ v.cell? ⟨w.heap.size, 4, none⟩ = some (.int .i64 x.slope) ∧ w.heap.size < v.heap.size := ⟨h.1.cell 0, h.1.cell 1, h.1.cell 2, h.1.cell 3, h.1.cell 4, h.1.lt⟩
set_option maxHeartbeats 4000000 in
set_option maxRecDepth 100000 in
theorem isLeg_any (x : Lg) (w : World) : Calls Tryd.prog 33 #[.agg #[.int .i64 x.frm, .int .i64 x.to_, .int .i64 x.tape, .int .i64 x.comp, .int .i64 x.slope]] w (BPost (okLg x) w) := by
  obtain ⟨s0, hs0⟩ : ∃ t, btw 0 x.frm 7 = t := ⟨_, rfl⟩
  obtain ⟨s1, hs1⟩ : ∃ t, btw 0 x.to_ 7 = t := ⟨_, rfl⟩
  obtain ⟨t2, h2⟩ : ∃ t, (x.frm != x.to_) = t := ⟨_, rfl⟩
  obtain ⟨t3, h3⟩ : ∃ t, btw 1 x.tape 500 = t := ⟨_, rfl⟩
  obtain ⟨t4, h4⟩ : ∃ t, btw 0 x.comp 359 = t := ⟨_, rfl⟩
  obtain ⟨t5, h5⟩ : ∃ t, btw (-90) x.slope 90 = t := ⟨_, rfl⟩
  obtain ⟨t0, h0⟩ : ∃ t, (s0 && s1) = t := ⟨_, rfl⟩
  have HA := Lib.hid (show okLg x = (t0 && t2 && t3 && t4 && t5) by unfold okLg; rw [hs0, hs1, h0, h2, h3, h4, h5])
  have K0 := Lib.hid (show allIn 0 7 [x.frm, x.to_] = t0 by rw [two_in hs0 hs1, h0])
  have K3 := Lib.hid (one_in h3)
  have K4 := Lib.hid (one_in h4)
  have K5 := Lib.hid (one_in h5)
  clear hs0 hs1 h0 h3 h4 h5 s0 s1
  have HS0 := Lib.hid (LX.start w x)
  go_enter Tryd.func33, Tryd.ntmps33
  go_wp2_with fail
  refine (stations_new _ [x.frm, x.to_] _ _ _ t0 _ _ (by simp) rfl (by simp) rfl K0.out).mono ?_
  rintro e w1 ⟨rfl, hw⟩
  have HS1 := Lib.hid (show LX w x w1 by rw [← hw]; exact HS0.out.alloc _)
  clear hw
  cases t0
  · go_wp2_with fail
    go_ret
    exact ⟨by rw [HA.out]; rfl, HS1.out.2⟩
  obtain ⟨y0, y1, y2, y3, y4, hl⟩ := HS1.out.cs
  cases t2
  · go_wp2_with fail
    go_ret
    exact ⟨by rw [HA.out]; rfl, HS1.out.2⟩
  go_wp2_with fail
  refine (within_new _ _ _ [x.tape] _ _ _ t3 _ _ rfl rfl (by simp) rfl K3.out).mono ?_
  rintro e w2 ⟨rfl, hw⟩
  have HS2 := Lib.hid (show LX w x w2 by rw [← hw]; exact HS1.out.alloc _)
  clear hw y0 y1 y2 y3 y4 hl
  cases t3
  · go_wp2_with fail
    go_ret
    exact ⟨by rw [HA.out]; rfl, HS2.out.2⟩
  obtain ⟨y0, y1, y2, y3, y4, hl⟩ := HS2.out.cs
  go_wp2_with fail
  refine (bearings_new _ [x.comp] _ _ _ t4 _ _ rfl rfl (by simp) rfl K4.out).mono ?_
  rintro e w3 ⟨rfl, hw⟩
  have HS3 := Lib.hid (show LX w x w3 by rw [← hw]; exact HS2.out.alloc _)
  clear hw y0 y1 y2 y3 y4 hl
  cases t4
  · go_wp2_with fail
    go_ret
    exact ⟨by rw [HA.out]; rfl, HS3.out.2⟩
  obtain ⟨y0, y1, y2, y3, y4, hl⟩ := HS3.out.cs
  go_wp2_with fail
  refine (within_new _ _ _ [x.slope] _ _ _ t5 _ _ rfl rfl (by simp) rfl K5.out).mono ?_
  rintro e w4 ⟨rfl, hw⟩
  have HS4 := Lib.hid (show LX w x w4 by rw [← hw]; exact HS3.out.alloc _)
  clear hw y0 y1 y2 y3 y4 hl
  go_wp2_with fail
  go_ret
  exact ⟨by rw [HA.out]; rfl, HS4.out.2⟩
theorem isLeg_is (x : Lg) (t : Bool) (h : Hid (okLg x = t)) (w : World) : Calls Tryd.prog 33 #[.agg #[.int .i64 x.frm, .int .i64 x.to_, .int .i64 x.tape, .int .i64 x.comp, .int .i64 x.slope]] w (BPost t w) := by rw [← h.out]; exact isLeg_any x w
theorem isLeg_impl (x : Lg) (w : World) : Calls Tryd.prog 33 #[.agg #[.int .i64 x.frm, .int .i64 x.to_, .int .i64 x.tape, .int .i64 x.comp, .int .i64 x.slope]] w (BPost (okLg x) w) := isLeg_any x w
end Go.Proofs.YtnpghhpcloljeaaDoor.lgi
