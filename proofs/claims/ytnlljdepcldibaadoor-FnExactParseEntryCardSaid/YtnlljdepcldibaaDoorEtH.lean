/-
  ParseEntry of the model: it hands on.
  Conditions: the text has at most 1048576 bytes.
-/
import Derived.Test.YtnlljdepcldibaaDoorEtD
import Derived.Test.YtnlljdepcldibaaDoorEtF
namespace Go.Proofs.YtnlljdepcldibaaDoor.ent
open Go.RowKit
open reads base ty lg en pow txt strmath iterc readc ntx
set_option linter.unusedVariables false
set_option linter.unusedSimpArgs false

set_option maxHeartbeats 4000000 in
set_option maxRecDepth 100000 in
theorem parseEntry_model (s : ByteArray) (q : En × Bool) (w : World) (hs : s.size ≤ 1048576) (hr : Hid (PT s q)) : Calls Tryd.prog 10 #[.string s] w (APost (ptV q) w) := by
  obtain ⟨x, ok⟩ := q
  have HB0 := Lib.hid (RE.start w)
  go_enter Tryd.func10, Tryd.ntmps10
  go_wp2_with fail
  refine (parseE_model s (x, ok) _ hs hr).mono ?_
  rintro e w1 ⟨rfl, b⟩
  rw [ptV_mk]
  have HB1 := Lib.hid (HB0.out.step b)
  clear b HB0
  go_upto_region 2 with fail
  obtain ⟨X, HX⟩ : ∃ X, Hid (w1.heap.size = X) := ⟨_, Lib.hid rfl⟩
  obtain ⟨W2, HW2⟩ : ∃ W, Hid (w1.alloc (.cells #[.int .i64 x.frm, .int .i64 x.to_, .int .i64 x.tape, .int .i64 x.comp, .int .i64 x.slope, .bool x.back] 26) = W) := ⟨_, Lib.hid rfl⟩
  have HBX := Lib.hid (show Blk W2 X 26 #[.int .i64 x.frm, .int .i64 x.to_, .int .i64 x.tape, .int .i64 x.comp, .int .i64 x.slope, .bool x.back] by rw [← HW2.out, ← HX.out]; exact Blk.new _ _ _)
  have HB2 := Lib.hid (show RE w W2 by rw [← HW2.out]; exact HB1.out.step ((Below.refl _ _).alloc (Nat.le_refl _) _))
  rw [HW2.out, HX.out]
  clear HW2 HX HB1
  obtain ⟨x0, x1, x2, x3, x4, x5, xl⟩ := (⟨HBX.out.cell 0, HBX.out.cell 1, HBX.out.cell 2, HBX.out.cell 3, HBX.out.cell 4, HBX.out.cell 5, HBX.out.lt⟩ : W2.cell? ⟨X, 0, none⟩ = some (.int .i64 x.frm) ∧ W2.cell? ⟨X, 1, none⟩ = some (.int .i64 x.to_) ∧ W2.cell? ⟨X, 2, none⟩ = some (.int .i64 x.tape) ∧ W2.cell? ⟨X, 3, none⟩ = some (.int .i64 x.comp) ∧ W2.cell? ⟨X, 4, none⟩ = some (.int .i64 x.slope) ∧ W2.cell? ⟨X, 5, none⟩ = some (.bool x.back) ∧ X < W2.heap.size)
  obtain ⟨z0, z1, z2, z3, z4, z5, f0, f1, f2, f3, f4, f5, hz⟩ := HB2.out.zs
  go_wp2_with fail
  refine bodyPost_ret (v := .tuple #[.agg #[.int .i64 x.frm, .int .i64 x.to_, .int .i64 x.tape, .int .i64 x.comp, .int .i64 x.slope, .bool x.back], .bool ok]) (by simp [results, Tryd.results10, go_sem, *]) rfl ⟨rfl, ?_⟩
  exact HB2.out.put _ _ _ _ _ _
end Go.Proofs.YtnlljdepcldibaaDoor.ent
