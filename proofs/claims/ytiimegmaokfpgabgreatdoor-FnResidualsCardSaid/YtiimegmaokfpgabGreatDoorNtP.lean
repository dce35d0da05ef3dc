/-
  Sums and differences of shifts, by the model; a leg's shift under a letter.
  Conditions: the coordinates lie within a million.
-/
import Derived.Test.YtiimegmaokfpgabGreatDoorNtA
import Derived.Deep.QuietTactic
import Derived.BigQuiet
namespace Go.Proofs.YtiimegmaokfpgabGreatDoor.nt
open Go.RowKit
open reads base ty lg
set_option linter.unusedVariables false
set_option linter.unusedSimpArgs false

def BdS (s : Sf) : Prop := (-1000000 ≤ s.east ∧ s.east ≤ 1000000) ∧ (-1000000 ≤ s.north ∧ s.north ≤ 1000000) ∧ (-1000000 ≤ s.up ∧ s.up ≤ 1000000)
set_option maxHeartbeats 4000000 in
set_option maxRecDepth 100000 in
theorem plus_p (a b c : Sf) (h : Hid (add3 a b = c)) (w : World) (ha : Hid (BdS a)) (hb : Hid (BdS b)) :
    Calls Tryz.prog 145 #[.agg #[.int .i64 a.east, .int .i64 a.north, .int .i64 a.up], .agg #[.int .i64 b.east, .int .i64 b.north, .int .i64 b.up], .int .i64 1] w (APost (.agg #[.int .i64 c.east, .int .i64 c.north, .int .i64 c.up]) w) := by
  obtain ⟨⟨a00, a01⟩, ⟨a10, a11⟩, a20, a21⟩ := ha.out
  obtain ⟨⟨b00, b01⟩, ⟨b10, b11⟩, b20, b21⟩ := hb.out
  obtain ⟨k0, k1, k2⟩ : a.east + b.east = c.east ∧ a.north + b.north = c.north ∧ a.up + b.up = c.up := by rw [← h.out]; exact ⟨rfl, rfl, rfl⟩
  go_enter Tryz.func145, Tryz.ntmps145
  go_wp2_with fail
  refine bodyPost_ret (v := .agg #[.int .i64 c.east, .int .i64 c.north, .int .i64 c.up]) (by simp [results, Tryz.results145, go_sem, k0, k1, k2]) rfl ⟨rfl, ?_⟩
  exact (((Below.refl _ _).alloc (Nat.le_refl _) _).alloc (by simp) _).alloc (by simp; omega) _
set_option maxHeartbeats 4000000 in
set_option maxRecDepth 100000 in
theorem plus_m (a b c : Sf) (h : Hid (sub3 a b = c)) (w : World) (ha : Hid (BdS a)) (hb : Hid (BdS b)) :
    Calls Tryz.prog 145 #[.agg #[.int .i64 a.east, .int .i64 a.north, .int .i64 a.up], .agg #[.int .i64 b.east, .int .i64 b.north, .int .i64 b.up], .int .i64 (-1)] w (APost (.agg #[.int .i64 c.east, .int .i64 c.north, .int .i64 c.up]) w) := by
  obtain ⟨⟨a00, a01⟩, ⟨a10, a11⟩, a20, a21⟩ := ha.out
  obtain ⟨⟨b00, b01⟩, ⟨b10, b11⟩, b20, b21⟩ := hb.out
  obtain ⟨k0, k1, k2⟩ : a.east + -b.east = c.east ∧ a.north + -b.north = c.north ∧ a.up + -b.up = c.up := by rw [← h.out]; exact ⟨rfl, rfl, rfl⟩
  go_enter Tryz.func145, Tryz.ntmps145
  go_wp2_with fail
  refine bodyPost_ret (v := .agg #[.int .i64 c.east, .int .i64 c.north, .int .i64 c.up]) (by simp [results, Tryz.results145, go_sem, k0, k1, k2]) rfl ⟨rfl, ?_⟩
  exact (((Below.refl _ _).alloc (Nat.le_refl _) _).alloc (by simp) _).alloc (by simp; omega) _
theorem shift_l (x : Lg) (s : Sf) (h : Hid (shf x = s)) (w : World) (hx : Hid (okLg x = true)) : Calls Tryz.prog 146 #[.agg #[.int .i64 x.frm, .int .i64 x.to_, .int .i64 x.tape, .int .i64 x.comp, .int .i64 x.slope]] w (APost (.agg #[.int .i64 s.east, .int .i64 s.north, .int .i64 s.up]) w) := by rw [← h.out]; exact shift_any x w hx
#print axioms plus_p
#print axioms plus_m
end Go.Proofs.YtiimegmaokfpgabGreatDoor.nt
