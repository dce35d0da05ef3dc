/-
  Whether the ends of a leg are placed, by the program.
  Conditions: the leg is valid.
-/
import Derived.Test.YtgfopehceojahaaDoorNqB
import Derived.Deep.RegionHeld3
namespace Go.Proofs.YtgfopehceojahaaDoor.nq
open Go.RowKit
open reads base ty lg lgi win hs nt rowi
set_option linter.unusedVariables false
set_option linter.unusedSimpArgs false

set_option maxHeartbeats 4000000 in
set_option maxRecDepth 100000 in
theorem ends_any (s : Net) (cl : List Bool) (x : Lg) (p q : Bool) (w : World) (hx : Hid (okLg x = true)) (hp : Hid (mem s.ps x.frm = p)) (hq : Hid (mem s.ps x.to_ = q)) :
    Calls Tryd.prog 73 #[.agg (nv s cl), .agg #[.int .i64 x.frm, .int .i64 x.to_, .int .i64 x.tape, .int .i64 x.comp, .int .i64 x.slope]] w (BPost (p && q) w) := by
  obtain ⟨frm, to_, tape, comp, slope⟩ := x
  obtain ⟨l1, l2, -⟩ := okLg_lim hx.out
  simp only [] at l1 l2
  obtain ⟨a, rfl⟩ := Int.eq_ofNat_of_zero_le l1.1
  obtain ⟨b, rfl⟩ := Int.eq_ofNat_of_zero_le l2.1
  have ha : a < 8 := by omega
  have hb : b < 8 := by omega
  have HP := Lib.hid (show (nv s cl)[a]? = some (.bool p) by rw [nv_ps ha]; rw [← hp.out])
  have HQ := Lib.hid (show (nv s cl)[b]? = some (.bool q) by rw [nv_ps hb]; rw [← hq.out])
  obtain ⟨C, HC⟩ : ∃ C, Hid (nv s cl = C) := ⟨_, Lib.hid rfl⟩
  rw [HC.out] at HP HQ ⊢
  obtain ⟨W, HW⟩ : ∃ W, Hid ((w.alloc (.cells C 74)).alloc (.cells #[.int .i64 (a : Int), .int .i64 (b : Int), .int .i64 tape, .int .i64 comp, .int .i64 slope] 52) = W) := ⟨_, Lib.hid rfl⟩
  have c1 : W.cell? ⟨w.heap.size, a, none⟩ = some (.bool p) := by rw [← HW.out]; exact (((Blk.new w 74 C).alloc _).cell a).trans HP.out
  have c2 : W.cell? ⟨w.heap.size, b, none⟩ = some (.bool q) := by rw [← HW.out]; exact (((Blk.new w 74 C).alloc _).cell b).trans HQ.out
  have c3 : W.cell? ⟨w.heap.size + 1, 0, none⟩ = some (.int .i64 (a : Int)) := by rw [← HW.out]; simp
  have c4 : W.cell? ⟨w.heap.size + 1, 1, none⟩ = some (.int .i64 (b : Int)) := by rw [← HW.out]; simp
  have HB := Lib.hid (show Below w.heap.size w W by rw [← HW.out]; exact ((Below.refl _ _).alloc (Nat.le_refl _) _).alloc (by simp) _)
  clear HP HQ HC hp hq hx
  go_enter Tryd.func73, Tryd.ntmps73
  go_upto_region 1 with fail
  rw [HW.out]
  clear HW
  cases p
  · go_wp2_with fail
    go_ret
    exact ⟨rfl, HB.out⟩
  · go_wp2_with fail
    go_ret
    exact ⟨rfl, HB.out⟩
#print axioms ends_any
end Go.Proofs.YtgfopehceojahaaDoor.nq
