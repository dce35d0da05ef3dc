/-
  The drawn legs.
  Conditions: the code has at most 65536 bytes.
-/
import Derived.Test.YtnpghhpcloljeaaDoorTyLeg
import Derived.Test.YtnpghhpcloljeaaDoorCurE
import Derived.Deep.DeepCutAuto
namespace Go.Proofs.YtnpghhpcloljeaaDoor.drl
open Go.RowKit
open reads curs curd cure ty
set_option linter.unusedVariables false
set_option linter.unusedSimpArgs false

theorem grown_refl (u : World) (r : Option Nat) : u.grownBy u r := ⟨rfl, rfl, rfl, Nat.le_refl _, fun _ _ _ => rfl⟩
/-- bounds that drawn legs keep, valid or not -/
def okD (t : Lg) : Prop := (-1000 ≤ t.frm ∧ t.frm ≤ 1000) ∧ (-1000 ≤ t.to_ ∧ t.to_ ≤ 1000) ∧ (-1000 ≤ t.tape ∧ t.tape ≤ 1000) ∧ (-1000 ≤ t.comp ∧ t.comp ≤ 1000) ∧ (-1000 ≤ t.slope ∧ t.slope ≤ 1000)
/-- a struct in the making: the cursor, the answer's block, the struct's own -/
def DS (w : World) (B b k : Nat) (A : Option Addr) (n cap : Nat) (zs : List UInt8) (X : Nat) (t : Lg) (v : World) : Prop :=
  Cur v B b k A n cap zs ∧ w.grownBy v (some b) ∧ Blk v w.heap.size 33 #[.int .i64 0, .int .i64 0, .int .i64 0, .int .i64 0, .int .i64 0] ∧ Blk v X 33 #[.int .i64 t.frm, .int .i64 t.to_, .int .i64 t.tape, .int .i64 t.comp, .int .i64 t.slope] ∧ w.heap.size < X ∧ b < w.heap.size ∧ B ≤ w.heap.size
section
variable {w v v' : World} {B b k k' : Nat} {A : Option Addr} {n cap : Nat} {zs : List UInt8} {X : Nat} {t : Lg}
theorem DS.step (h : DS w B b k A n cap zs X t v) (hC : Cur v' B b k' A n cap zs) (hg : v.grownBy v' (some b)) : DS w B b k' A n cap zs X t v' := by
  obtain ⟨h1, h2, h3, h4, h5, h6, h7⟩ := h
  exact ⟨hC, h2.trans hg, h3.grown hg (by intro e; injection e with e; omega), h4.grown hg (by intro e; injection e with e; omega), h5, h6, h7⟩
theorem DS.more (h : DS w B b k A n cap zs X t v) (hk : k ≤ k') : DS w B b k' A n cap zs X t v := ⟨cur_more h.1 k' hk, h.2⟩
theorem DS.cells (h : DS w B b k A n cap zs X t v) : v.cell? ⟨X, 0, none⟩ = some (.int .i64 t.frm) ∧ v.cell? ⟨X, 1, none⟩ = some (.int .i64 t.to_) ∧ v.cell? ⟨X, 2, none⟩ = some (.int .i64 t.tape) ∧ v.cell? ⟨X, 3, none⟩ = some (.int .i64 t.comp) ∧ v.cell? ⟨X, 4, none⟩ = some (.int .i64 t.slope) := ⟨h.2.2.2.1.cell 0, h.2.2.2.1.cell 1, h.2.2.2.1.cell 2, h.2.2.2.1.cell 3, h.2.2.2.1.cell 4⟩
theorem DS.rcells (h : DS w B b k A n cap zs X t v) : v.cell? ⟨w.heap.size, 0, none⟩ = some (.int .i64 0) ∧ v.cell? ⟨w.heap.size, 1, none⟩ = some (.int .i64 0) ∧ v.cell? ⟨w.heap.size, 2, none⟩ = some (.int .i64 0) ∧ v.cell? ⟨w.heap.size, 3, none⟩ = some (.int .i64 0) ∧ v.cell? ⟨w.heap.size, 4, none⟩ = some (.int .i64 0) := ⟨h.2.2.1.cell 0, h.2.2.1.cell 1, h.2.2.1.cell 2, h.2.2.1.cell 3, h.2.2.1.cell 4⟩
theorem DS.fro (h : DS w B b k A n cap zs X t v) : ∀ o, v.frozen? ⟨X, o, none⟩ = false := fun o => h.2.2.2.1.frozen o
theorem DS.rfro (h : DS w B b k A n cap zs X t v) : v.frozen? ⟨w.heap.size, 0, none⟩ = false ∧ v.frozen? ⟨w.heap.size, 1, none⟩ = false ∧ v.frozen? ⟨w.heap.size, 2, none⟩ = false ∧ v.frozen? ⟨w.heap.size, 3, none⟩ = false ∧ v.frozen? ⟨w.heap.size, 4, none⟩ = false := ⟨h.2.2.1.frozen 0, h.2.2.1.frozen 1, h.2.2.1.frozen 2, h.2.2.1.frozen 3, h.2.2.1.frozen 4⟩
theorem DS.put (h : DS w B b k A n cap zs X t v) (j : Nat) (y : Value) (t' : Lg) (e : (#[.int .i64 t.frm, .int .i64 t.to_, .int .i64 t.tape, .int .i64 t.comp, .int .i64 t.slope] : Array Value).setIfInBounds j y = #[.int .i64 t'.frm, .int .i64 t'.to_, .int .i64 t'.tape, .int .i64 t'.comp, .int .i64 t'.slope]) :
    DS w B b k A n cap zs X t' (v.setCell ⟨X, j, none⟩ y) := by
  obtain ⟨h1, h2, h3, h4, h5, h6, h7⟩ := h
  refine ⟨cur_set h1 (by show b ≠ X; omega) (by show B ≤ X; omega) _, grown_set h2 (by show _ ≤ X; omega) _, h3.far (by show _ ≠ X; omega) _, ?_, h5, h6, h7⟩
  rw [← e]; exact h4.set_ j _
/-- the struct goes out -/
theorem DS.out (h : DS w B b k A n cap zs X t v) : Cur (((((v.setCell ⟨w.heap.size, 0, none⟩ (.int .i64 t.frm)).setCell ⟨w.heap.size, 1, none⟩ (.int .i64 t.to_)).setCell ⟨w.heap.size, 2, none⟩ (.int .i64 t.tape)).setCell ⟨w.heap.size, 3, none⟩ (.int .i64 t.comp)).setCell ⟨w.heap.size, 4, none⟩ (.int .i64 t.slope)) B b k A n cap zs ∧ w.grownBy (((((v.setCell ⟨w.heap.size, 0, none⟩ (.int .i64 t.frm)).setCell ⟨w.heap.size, 1, none⟩ (.int .i64 t.to_)).setCell ⟨w.heap.size, 2, none⟩ (.int .i64 t.tape)).setCell ⟨w.heap.size, 3, none⟩ (.int .i64 t.comp)).setCell ⟨w.heap.size, 4, none⟩ (.int .i64 t.slope)) (some b) := by
  obtain ⟨h1, h2, h3, h4, h5, h6, h7⟩ := h
  have hne : b ≠ w.heap.size := by omega
  exact ⟨(cur_set (cur_set (cur_set (cur_set (cur_set h1 hne h7 _) hne h7 _) hne h7 _) hne h7 _) hne h7 _), (grown_set (grown_set (grown_set (grown_set (grown_set h2 (Nat.le_refl _) _) (Nat.le_refl _) _) (Nat.le_refl _) _) (Nat.le_refl _) _) (Nat.le_refl _) _)⟩
end
/-- a drawn leg -/
def DPo (B b k : Nat) (A : Option Addr) (n cap : Nat) (zs : List UInt8) (w : World) (e : Ending) (w' : World) : Prop :=
  ∃ t : Lg, e = .returned (.agg #[.int .i64 t.frm, .int .i64 t.to_, .int .i64 t.tape, .int .i64 t.comp, .int .i64 t.slope]) ∧ okD t ∧ Cur w' B b k A n cap zs ∧ w.grownBy w' (some b)
set_option maxHeartbeats 4000000 in
set_option maxRecDepth 100000 in
theorem leg_any (B b k : Nat) (A : Option Addr) (n cap : Nat) (zs : List UInt8) (w : World) (hk : k ≤ 60000) (h : Hid (Cur w B b k A n cap zs)) :
    Calls Tryd.prog 41 #[.pointer (some ⟨b, 0, none⟩)] w (DPo B b (k + 7) A n cap zs w) := by
  have hbl := cur_lt h.out
  have HBB := Lib.hid (show B ≤ w.heap.size by have := h.out.1; omega)
  have HC0 := Lib.hid (cur_alloc h.out HBB.out (.cells #[.int .i64 0, .int .i64 0, .int .i64 0, .int .i64 0, .int .i64 0] 33))
  have HG0 := Lib.hid (grown_refl (w.alloc (.cells #[.int .i64 0, .int .i64 0, .int .i64 0, .int .i64 0, .int .i64 0] 33)) (some b))
  go_enter Tryd.func41, Tryd.ntmps41
  go_wp2_with fail
  refine (pick_any B b k A n cap zs _ 6 (by omega) HC0.out (by decide) (by decide)).mono ?_
  rintro e w1 ⟨r0, rfl, hr0, hC, hg⟩
  have hb0 : r0 ≤ 5 := by omega
  clear hr0
  have HC1 := Lib.hid hC
  have HG1 := Lib.hid (HG0.out.trans hg)
  clear hC hg HC0 HG0
  go_wp2_with fail
  refine (pick_any B b (k + 1) A n cap zs _ 6 (by omega) HC1.out (by decide) (by decide)).mono ?_
  rintro e w2 ⟨r1, rfl, hr1, hC, hg⟩
  have hb1 : r1 ≤ 5 := by omega
  clear hr1
  have HC2 := Lib.hid hC
  have HG2 := Lib.hid (HG1.out.trans hg)
  clear hC hg HC1 HG1
  go_wp2_with fail
  refine (among_new B b (k + 2) A n cap zs w2 7 _ [1, 10, 50, 100, 120, 250, 500] (by omega) HC2.out rfl (by decide) (by decide)).mono ?_
  rintro e w3 ⟨x2, hx2, rfl, hC, hg⟩
  have hb2 : 1 ≤ x2 ∧ x2 ≤ 500 := by simp at hx2; omega
  clear hx2
  have HC3 := Lib.hid hC
  have HG3 := Lib.hid (HG2.out.trans hg)
  clear hC hg HC2 HG2
  go_wp2_with fail
  refine (among_new B b (k + 3) A n cap zs w3 9 _ [0, 45, 90, 135, 180, 270, 359, 17, 222] (by omega) HC3.out rfl (by decide) (by decide)).mono ?_
  rintro e w4 ⟨x3, hx3, rfl, hC, hg⟩
  have hb3 : 0 ≤ x3 ∧ x3 ≤ 359 := by simp at hx3; omega
  clear hx3
  have HC4 := Lib.hid hC
  have HG4 := Lib.hid (HG3.out.trans hg)
  clear hC hg HC3 HG3
  go_wp2_with fail
  refine (among_new B b (k + 4) A n cap zs w4 9 _ [0, 0, 0, 5, -5, 30, -45, 90, -90] (by omega) HC4.out rfl (by decide) (by decide)).mono ?_
  rintro e w5 ⟨x4, hx4, rfl, hC, hg⟩
  have hb4 : -90 ≤ x4 ∧ x4 ≤ 90 := by simp at hx4; omega
  clear hx4
  have HC5 := Lib.hid hC
  have HG5 := Lib.hid (HG4.out.trans hg)
  clear hC hg HC4 HG4
  have HS := Lib.hid (show ∀ X, w5.heap.size = X → DS w B b (k + 5) A n cap zs X ⟨(r0 : Int), (r1 : Int), x2, x3, x4⟩ (w5.alloc (.cells #[.int .i64 (r0 : Int), .int .i64 (r1 : Int), .int .i64 x2, .int .i64 x3, .int .i64 x4] 33)) from fun X hX => by
    subst hX
    have s0 := HG5.out.size
    simp at s0
    have hB2 : B ≤ w5.heap.size := by have := HBB.out; omega
    exact ⟨cur_alloc HC5.out hB2 _, (World.grownBy_alloc w _ (some b)).trans (HG5.out.trans (World.grownBy_alloc w5 _ (some b))), ((Blk.new w _ _).grown HG5.out (by intro e; injection e with e; omega)).alloc _, Blk.new w5 _ _, by omega, hbl, HBB.out⟩)
  obtain ⟨X, HX⟩ : ∃ X, Hid (w5.heap.size = X) := ⟨_, Lib.hid rfl⟩
  have HT := Lib.hid (HS.out X HX.out)
  clear HC5 HG5 HS h
  go_upto_if 22 with fail
  rw [HX.out]
  go_cut [23] (fun _ wx => ∃ t : Lg, okD t ∧ DS w B b (k + 5) A n cap zs X t wx)
  case first =>
    by_cases eq0 : r0 = r1
    · subst eq0
      obtain ⟨c0, c1, c2, c3, c4⟩ := HT.out.cells
      have ff := HT.out.fro 1
      go_wp2_with fail
      go_meet
      case rel => exact ⟨⟨(r0 : Int), ((r0 : Int) + 1) % 6, x2, x3, x4⟩, by unfold okD; (try simp only []); omega, HT.out.put 1 _ _ rfl⟩
    · have d0 : ((r0 : Int) == (r1 : Int)) = false := by simp; omega
      go_wp2_with fail
      go_meet
      case rel => exact ⟨_, by unfold okD; (try simp only []); omega, HT.out⟩
  case rest =>
    obtain ⟨t, hok, hT⟩ := hcut
    have HO := Lib.hid hok
    have HT3 := Lib.hid hT
    clear hT HT HX hok
    go_wp2_with fail
    refine (pick_any B b (k + 5) A n cap zs _ 40 (by omega) HT3.out.1 (by decide) (by decide)).mono ?_
    rintro e w6 ⟨q, rfl, hq, hC, hg⟩
    have HT4 := Lib.hid (HT3.out.step hC hg)
    clear hC hg HT3
    by_cases q0 : q = 0
    · subst q0
      obtain ⟨c0, c1, c2, c3, c4⟩ := HT4.out.cells
      go_wp2_with fail
      refine (among_new B b (k + 6) A n cap zs w6 4 _ [-1, 7, 8, t.frm] (by omega) HT4.out.1 rfl (by decide) (by decide)).mono ?_
      rintro e w7 ⟨y, hy, rfl, hC, hg⟩
      have HO2 := Lib.hid (show okD ⟨t.frm, y, t.tape, t.comp, t.slope⟩ by have := HO.out; unfold okD at this ⊢; simp at hy; (try simp only []); omega)
      have HT5 := Lib.hid (HT4.out.step hC hg)
      clear hC hg HT4 hy c0 c1 c2 c3 c4
      obtain ⟨c0, c1, c2, c3, c4⟩ := HT5.out.cells
      have ff := HT5.out.fro 1
      obtain ⟨d0, d1, d2, d3, d4⟩ := HT5.out.rcells
      obtain ⟨e0, e1, e2, e3, e4⟩ := HT5.out.rfro
      have HT6 := Lib.hid (HT5.out.put 1 (.int .i64 y) ⟨t.frm, y, t.tape, t.comp, t.slope⟩ rfl)
      have hne : w.heap.size ≠ X := by have := HT6.out.2.2.2.2.1; omega
      go_wp2_with fail
      refine bodyPost_ret (v := .agg #[.int .i64 t.frm, .int .i64 y, .int .i64 t.tape, .int .i64 t.comp, .int .i64 t.slope]) (by simp [results, Tryd.results41, go_sem, *]) rfl ⟨⟨t.frm, y, t.tape, t.comp, t.slope⟩, rfl, HO2.out, HT6.out.out⟩
    by_cases q1 : q = 1
    · subst q1
      go_wp2_with fail
      refine (among_new B b (k + 6) A n cap zs w6 2 _ [0, 501] (by omega) HT4.out.1 rfl (by decide) (by decide)).mono ?_
      rintro e w7 ⟨y, hy, rfl, hC, hg⟩
      have HO2 := Lib.hid (show okD ⟨t.frm, t.to_, y, t.comp, t.slope⟩ by have := HO.out; unfold okD at this ⊢; simp at hy; (try simp only []); omega)
      have HT5 := Lib.hid (HT4.out.step hC hg)
      clear hC hg HT4 hy
      obtain ⟨c0, c1, c2, c3, c4⟩ := HT5.out.cells
      have ff := HT5.out.fro 2
      obtain ⟨d0, d1, d2, d3, d4⟩ := HT5.out.rcells
      obtain ⟨e0, e1, e2, e3, e4⟩ := HT5.out.rfro
      have HT6 := Lib.hid (HT5.out.put 2 (.int .i64 y) ⟨t.frm, t.to_, y, t.comp, t.slope⟩ rfl)
      have hne : w.heap.size ≠ X := by have := HT6.out.2.2.2.2.1; omega
      go_wp2_with fail
      refine bodyPost_ret (v := .agg #[.int .i64 t.frm, .int .i64 t.to_, .int .i64 y, .int .i64 t.comp, .int .i64 t.slope]) (by simp [results, Tryd.results41, go_sem, *]) rfl ⟨⟨t.frm, t.to_, y, t.comp, t.slope⟩, rfl, HO2.out, HT6.out.out⟩
    by_cases q2 : q = 2
    · subst q2
      go_wp2_with fail
      refine (among_new B b (k + 6) A n cap zs w6 2 _ [-1, 360] (by omega) HT4.out.1 rfl (by decide) (by decide)).mono ?_
      rintro e w7 ⟨y, hy, rfl, hC, hg⟩
      have HO2 := Lib.hid (show okD ⟨t.frm, t.to_, t.tape, y, t.slope⟩ by have := HO.out; unfold okD at this ⊢; simp at hy; (try simp only []); omega)
      have HT5 := Lib.hid (HT4.out.step hC hg)
      clear hC hg HT4 hy
      obtain ⟨c0, c1, c2, c3, c4⟩ := HT5.out.cells
      have ff := HT5.out.fro 3
      obtain ⟨d0, d1, d2, d3, d4⟩ := HT5.out.rcells
      obtain ⟨e0, e1, e2, e3, e4⟩ := HT5.out.rfro
      have HT6 := Lib.hid (HT5.out.put 3 (.int .i64 y) ⟨t.frm, t.to_, t.tape, y, t.slope⟩ rfl)
      have hne : w.heap.size ≠ X := by have := HT6.out.2.2.2.2.1; omega
      go_wp2_with fail
      refine bodyPost_ret (v := .agg #[.int .i64 t.frm, .int .i64 t.to_, .int .i64 t.tape, .int .i64 y, .int .i64 t.slope]) (by simp [results, Tryd.results41, go_sem, *]) rfl ⟨⟨t.frm, t.to_, t.tape, y, t.slope⟩, rfl, HO2.out, HT6.out.out⟩
    by_cases q3 : q = 3
    · subst q3
      go_wp2_with fail
      refine (among_new B b (k + 6) A n cap zs w6 2 _ [-91, 91] (by omega) HT4.out.1 rfl (by decide) (by decide)).mono ?_
      rintro e w7 ⟨y, hy, rfl, hC, hg⟩
      have HO2 := Lib.hid (show okD ⟨t.frm, t.to_, t.tape, t.comp, y⟩ by have := HO.out; unfold okD at this ⊢; simp at hy; (try simp only []); omega)
      have HT5 := Lib.hid (HT4.out.step hC hg)
      clear hC hg HT4 hy
      obtain ⟨c0, c1, c2, c3, c4⟩ := HT5.out.cells
      have ff := HT5.out.fro 4
      obtain ⟨d0, d1, d2, d3, d4⟩ := HT5.out.rcells
      obtain ⟨e0, e1, e2, e3, e4⟩ := HT5.out.rfro
      have HT6 := Lib.hid (HT5.out.put 4 (.int .i64 y) ⟨t.frm, t.to_, t.tape, t.comp, y⟩ rfl)
      have hne : w.heap.size ≠ X := by have := HT6.out.2.2.2.2.1; omega
      go_wp2_with fail
      refine bodyPost_ret (v := .agg #[.int .i64 t.frm, .int .i64 t.to_, .int .i64 t.tape, .int .i64 t.comp, .int .i64 y]) (by simp [results, Tryd.results41, go_sem, *]) rfl ⟨⟨t.frm, t.to_, t.tape, t.comp, y⟩, rfl, HO2.out, HT6.out.out⟩
    have q0' : ((q : Int) == 0) = false := by simp; omega
    have q1' : ((q : Int) == 1) = false := by simp; omega
    have q2' : ((q : Int) == 2) = false := by simp; omega
    have q3' : ((q : Int) == 3) = false := by simp; omega
    have HT5 := Lib.hid (HT4.out.more (show k + 6 ≤ k + 7 by omega))
    obtain ⟨c0, c1, c2, c3, c4⟩ := HT5.out.cells
    obtain ⟨d0, d1, d2, d3, d4⟩ := HT5.out.rcells
    obtain ⟨e0, e1, e2, e3, e4⟩ := HT5.out.rfro
    clear HT4
    go_wp2_with fail
    refine bodyPost_ret (v := .agg #[.int .i64 t.frm, .int .i64 t.to_, .int .i64 t.tape, .int .i64 t.comp, .int .i64 t.slope]) (by simp [results, Tryd.results41, go_sem, *]) rfl ⟨t, rfl, HO.out, HT5.out.out⟩
end Go.Proofs.YtnpghhpcloljeaaDoor.drl
