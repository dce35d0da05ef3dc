/-
  The drawn entries and books, behind their functions.
  Conditions: the code has at most 65536 bytes.
-/
import Derived.Test.YtnlljdepcldibaaDeB
import Derived.Deep.DeepCutAuto
namespace Go.Proofs.Ytnlljdepcldibaa.dre
open Go.RowKit
open reads base curs curd cure ty
set_option linter.unusedVariables false
set_option linter.unusedSimpArgs false

/-- a drawn book, behind its function -/
def DBPo (w : World) (e : Ending) (w' : World) : Prop := ∃ (v : Value) (L : Nat) (ts : List En), e = .returned v ∧ w'.ownsRow w.heap.size 25 6 v L (flatEn ts) ∧ ts.length = L ∧ L ≤ 13 ∧ Below w.heap.size w w'
def DEPo (w : World) (e : Ending) (w' : World) : Prop := ∃ t : En, e = .returned (.agg #[.int .i64 t.frm, .int .i64 t.to_, .int .i64 t.tape, .int .i64 t.comp, .int .i64 t.slope, .bool t.back]) ∧ Below w.heap.size w w'
set_option maxHeartbeats 4000000 in
set_option maxRecDepth 100000 in
theorem bookText_draw (A : Option Addr) (n cap : Nat) (zs : List UInt8) (w : World) (h : Hid (curs.Code w A n zs)) : Calls Try.prog 53 #[.slice A n cap] w (DBPo w) := by
  have HC0 := Lib.hid (cur_new cap h.out)
  go_enter Try.func53, Try.ntmps53
  go_wp2_with fail
  refine (book_any w.heap.size w.heap.size 0 A n cap zs _ (by omega) HC0).mono ?_
  rintro e w1 ⟨v, L, ts, rfl, hl, hG⟩
  have HG := Lib.hid hG
  clear hG
  go_wp2_with fail
  go_ret
  exact ⟨v, L, ts, rfl, own_base (by simp) HG.out.2.2.1, HG.out.2.2.2.1, hl, low HG.out.2.1⟩
set_option maxHeartbeats 4000000 in
set_option maxRecDepth 100000 in
theorem reverseBook_draw (A : Option Addr) (n cap : Nat) (zs : List UInt8) (w : World) (h : Hid (curs.Code w A n zs)) : Calls Try.prog 33 #[.slice A n cap] w (DBPo w) := by
  go_enter Try.func33, Try.ntmps33
  go_wp2_with fail
  refine (bookText_draw A n cap zs _ h).mono ?_
  rintro e w1 ⟨v, L, ts, rfl, h1, h2, h3, h4⟩
  have H1 := Lib.hid h1
  have H4 := Lib.hid h4
  clear h1 h4
  go_wp2_with fail
  go_ret
  exact ⟨v, L, ts, rfl, H1.out, h2, h3, H4.out⟩
set_option maxHeartbeats 4000000 in
set_option maxRecDepth 100000 in
theorem pairErrors_draw (A : Option Addr) (n cap : Nat) (zs : List UInt8) (w : World) (h : Hid (curs.Code w A n zs)) : Calls Try.prog 35 #[.slice A n cap] w (DBPo w) := by
  go_enter Try.func35, Try.ntmps35
  go_wp2_with fail
  refine (bookText_draw A n cap zs _ h).mono ?_
  rintro e w1 ⟨v, L, ts, rfl, h1, h2, h3, h4⟩
  have H1 := Lib.hid h1
  have H4 := Lib.hid h4
  clear h1 h4
  go_wp2_with fail
  go_ret
  exact ⟨v, L, ts, rfl, H1.out, h2, h3, H4.out⟩
set_option maxHeartbeats 4000000 in
set_option maxRecDepth 100000 in
theorem isEntry_draw (A : Option Addr) (n cap : Nat) (zs : List UInt8) (w : World) (h : Hid (curs.Code w A n zs)) : Calls Try.prog 54 #[.slice A n cap] w (DEPo w) := by
  obtain ⟨W0, HW0, hs0, HB0, HR⟩ : ∃ W0, Hid (w.alloc (.cells #[.int .i64 0, .int .i64 0, .int .i64 0, .int .i64 0, .int .i64 0, .bool false] 25) = W0) ∧ W0.heap.size = w.heap.size + 1 ∧ Hid (Below w.heap.size w W0) ∧ Hid (Blk W0 w.heap.size 25 #[.int .i64 0, .int .i64 0, .int .i64 0, .int .i64 0, .int .i64 0, .bool false]) :=
    ⟨_, Lib.hid rfl, by simp, Lib.hid ((Below.refl w.heap.size w).alloc (Nat.le_refl _) _), Lib.hid (Blk.new w _ _)⟩
  have HC0 := Lib.hid (cur_new cap (h.out.below HB0.out))
  rw [hs0] at HC0
  go_enter Try.func54, Try.ntmps54
  go_upto_region 1 with fail
  rw [HW0.out]
  clear HW0
  go_wp2_with fail
  try rw [hs0]
  refine (entry_any (w.heap.size + 1) (w.heap.size + 1) 0 A n cap zs _ (by omega) HC0).mono ?_
  rintro e w1 ⟨t, rfl, hC, hg⟩
  have hsz : w.heap.size ≤ W0.heap.size := by omega
  have HX := Lib.hid (show Blk w1 w.heap.size 25 #[.int .i64 0, .int .i64 0, .int .i64 0, .int .i64 0, .int .i64 0, .bool false] from (HR.out.alloc _).grown hg (by intro e; injection e with e; omega))
  have HB := Lib.hid (show Below w.heap.size w w1 from (HB0.out.alloc hsz _).grown hg (by simp; omega) (fun k hk => by injection hk with hk; omega))
  clear hC hg HC0 HR HB0 hs0 hsz
  have HF := Lib.hid (show Below w.heap.size w ((((((w1.setCell ⟨w.heap.size, 0, none⟩ (.int .i64 t.frm)).setCell ⟨w.heap.size, 1, none⟩ (.int .i64 t.to_)).setCell ⟨w.heap.size, 2, none⟩ (.int .i64 t.tape)).setCell ⟨w.heap.size, 3, none⟩ (.int .i64 t.comp)).setCell ⟨w.heap.size, 4, none⟩ (.int .i64 t.slope)).setCell ⟨w.heap.size, 5, none⟩ (.bool t.back)) from ((((((HB.out.setCell (Nat.le_refl _) _).setCell (Nat.le_refl _) _).setCell (Nat.le_refl _) _).setCell (Nat.le_refl _) _).setCell (Nat.le_refl _) _).setCell (Nat.le_refl _) _))
  obtain ⟨d0, d1, d2, d3, d4, d5, dl⟩ := (⟨HX.out.cell 0, HX.out.cell 1, HX.out.cell 2, HX.out.cell 3, HX.out.cell 4, HX.out.cell 5, HX.out.lt⟩ : w1.cell? ⟨w.heap.size, 0, none⟩ = some (.int .i64 0) ∧ w1.cell? ⟨w.heap.size, 1, none⟩ = some (.int .i64 0) ∧ w1.cell? ⟨w.heap.size, 2, none⟩ = some (.int .i64 0) ∧ w1.cell? ⟨w.heap.size, 3, none⟩ = some (.int .i64 0) ∧ w1.cell? ⟨w.heap.size, 4, none⟩ = some (.int .i64 0) ∧ w1.cell? ⟨w.heap.size, 5, none⟩ = some (.bool false) ∧ w.heap.size < w1.heap.size)
  obtain ⟨e0, e1, e2, e3, e4, e5⟩ := (⟨HX.out.frozen 0, HX.out.frozen 1, HX.out.frozen 2, HX.out.frozen 3, HX.out.frozen 4, HX.out.frozen 5⟩ : w1.frozen? ⟨w.heap.size, 0, none⟩ = false ∧ w1.frozen? ⟨w.heap.size, 1, none⟩ = false ∧ w1.frozen? ⟨w.heap.size, 2, none⟩ = false ∧ w1.frozen? ⟨w.heap.size, 3, none⟩ = false ∧ w1.frozen? ⟨w.heap.size, 4, none⟩ = false ∧ w1.frozen? ⟨w.heap.size, 5, none⟩ = false)
  go_wp2_with fail
  refine bodyPost_ret (v := .agg #[.int .i64 t.frm, .int .i64 t.to_, .int .i64 t.tape, .int .i64 t.comp, .int .i64 t.slope, .bool t.back]) (by simp [results, Try.results54, go_sem, *]) rfl ⟨t, rfl, HF.out⟩
set_option maxHeartbeats 4000000 in
set_option maxRecDepth 100000 in
theorem legOf_draw (A : Option Addr) (n cap : Nat) (zs : List UInt8) (w : World) (h : Hid (curs.Code w A n zs)) : Calls Try.prog 37 #[.slice A n cap] w (DEPo w) := by
  obtain ⟨W0, HW0, HB0, HR⟩ : ∃ W0, Hid (w.alloc (.cells #[.int .i64 0, .int .i64 0, .int .i64 0, .int .i64 0, .int .i64 0, .bool false] 25) = W0) ∧ Hid (Below w.heap.size w W0) ∧ Hid (Blk W0 w.heap.size 25 #[.int .i64 0, .int .i64 0, .int .i64 0, .int .i64 0, .int .i64 0, .bool false]) :=
    ⟨_, Lib.hid rfl, Lib.hid ((Below.refl w.heap.size w).alloc (Nat.le_refl _) _), Lib.hid (Blk.new w _ _)⟩
  have HC0 := Lib.hid (h.out.below HB0.out)
  go_enter Try.func37, Try.ntmps37
  go_upto_region 1 with fail
  rw [HW0.out]
  clear HW0
  go_wp2_with fail
  refine (isEntry_draw A n cap zs _ HC0).mono ?_
  rintro e w1 ⟨t, rfl, b⟩
  have HX := Lib.hid (show Blk w1 w.heap.size 25 #[.int .i64 0, .int .i64 0, .int .i64 0, .int .i64 0, .int .i64 0, .bool false] from HR.out.below b HR.out.lt)
  have HB := Lib.hid (show Below w.heap.size w w1 from HB0.out.trans (b.mono HB0.out.size))
  clear b HC0 HR HB0
  have HF := Lib.hid (show Below w.heap.size w ((((((w1.setCell ⟨w.heap.size, 0, none⟩ (.int .i64 t.frm)).setCell ⟨w.heap.size, 1, none⟩ (.int .i64 t.to_)).setCell ⟨w.heap.size, 2, none⟩ (.int .i64 t.tape)).setCell ⟨w.heap.size, 3, none⟩ (.int .i64 t.comp)).setCell ⟨w.heap.size, 4, none⟩ (.int .i64 t.slope)).setCell ⟨w.heap.size, 5, none⟩ (.bool t.back)) from ((((((HB.out.setCell (Nat.le_refl _) _).setCell (Nat.le_refl _) _).setCell (Nat.le_refl _) _).setCell (Nat.le_refl _) _).setCell (Nat.le_refl _) _).setCell (Nat.le_refl _) _))
  obtain ⟨d0, d1, d2, d3, d4, d5, dl⟩ := (⟨HX.out.cell 0, HX.out.cell 1, HX.out.cell 2, HX.out.cell 3, HX.out.cell 4, HX.out.cell 5, HX.out.lt⟩ : w1.cell? ⟨w.heap.size, 0, none⟩ = some (.int .i64 0) ∧ w1.cell? ⟨w.heap.size, 1, none⟩ = some (.int .i64 0) ∧ w1.cell? ⟨w.heap.size, 2, none⟩ = some (.int .i64 0) ∧ w1.cell? ⟨w.heap.size, 3, none⟩ = some (.int .i64 0) ∧ w1.cell? ⟨w.heap.size, 4, none⟩ = some (.int .i64 0) ∧ w1.cell? ⟨w.heap.size, 5, none⟩ = some (.bool false) ∧ w.heap.size < w1.heap.size)
  obtain ⟨e0, e1, e2, e3, e4, e5⟩ := (⟨HX.out.frozen 0, HX.out.frozen 1, HX.out.frozen 2, HX.out.frozen 3, HX.out.frozen 4, HX.out.frozen 5⟩ : w1.frozen? ⟨w.heap.size, 0, none⟩ = false ∧ w1.frozen? ⟨w.heap.size, 1, none⟩ = false ∧ w1.frozen? ⟨w.heap.size, 2, none⟩ = false ∧ w1.frozen? ⟨w.heap.size, 3, none⟩ = false ∧ w1.frozen? ⟨w.heap.size, 4, none⟩ = false ∧ w1.frozen? ⟨w.heap.size, 5, none⟩ = false)
  go_wp2_with fail
  refine bodyPost_ret (v := .agg #[.int .i64 t.frm, .int .i64 t.to_, .int .i64 t.tape, .int .i64 t.comp, .int .i64 t.slope, .bool t.back]) (by simp [results, Try.results37, go_sem, *]) rfl ⟨t, rfl, HF.out⟩
end Go.Proofs.Ytnlljdepcldibaa.dre
