/-
  The drawn tools and readings.
  Conditions: the code has at most 65536 bytes.
-/
import Derived.Test.YtekbiapgbhaibaaTlD
import Derived.Test.YtekbiapgbhaibaaCurD
import Derived.Deep.DeepCutAuto
namespace Go.Proofs.Ytekbiapgbhaibaa.tlp
open Go.RowKit
open reads curs curd tl
set_option linter.unusedVariables false

section
variable {w v v' : World} {B b k : Nat} {A : Option Addr} {n cap : Nat} {zs : List UInt8}
theorem cur_set (h : Cur v B b k A n cap zs) {p : Addr} (hp : b ≠ p.block) (hB : B ≤ p.block) (u : Value) : Cur (v.setCell p u) B b k A n cap zs := by
  obtain ⟨c1, c2, c3, pos, sd, c4, c5, c6, c7⟩ := h
  exact ⟨c1, c2.setCell hB u, c3, pos, sd, c4, c5, c6, c7.far hp u⟩
theorem grown_set {r : Option Nat} (h : w.grownBy v r) {p : Addr} (hp : w.heap.size ≤ p.block) (u : Value) : w.grownBy (v.setCell p u) r :=
  ⟨h.os, h.tape, h.output, by simpa [World.setCell] using h.size, fun i hi hne => (Below.heap_setCell v p u i (by omega)).trans (h.block i hi hne)⟩
end

/-- a tool in the making: the cursor, the answer's block, the tool's own -/
def TS (w : World) (B b k : Nat) (A : Option Addr) (n cap : Nat) (zs : List UInt8) (X : Nat) (t : Tl) (v : World) : Prop :=
  Cur v B b k A n cap zs ∧ w.grownBy v (some b) ∧ Blk v w.heap.size 25 #[.int .i64 0, .int .i64 0, .int .i64 0, .int .i64 0] ∧ Blk v X 25 #[.int .i64 t.id, .int .i64 t.kind, .int .i64 t.zero, .int .i64 t.scale] ∧ w.heap.size < X ∧ b < w.heap.size ∧ B ≤ w.heap.size
section
variable {w v v' : World} {B b k k' : Nat} {A : Option Addr} {n cap : Nat} {zs : List UInt8} {X : Nat} {t : Tl}
theorem TS.step (h : TS w B b k A n cap zs X t v) (hC : Cur v' B b k' A n cap zs) (hg : v.grownBy v' (some b)) : TS w B b k' A n cap zs X t v' := by
  obtain ⟨h1, h2, h3, h4, h5, h6, h7⟩ := h
  exact ⟨hC, h2.trans hg, h3.grown hg (by intro e; injection e with e; omega), h4.grown hg (by intro e; injection e with e; omega), h5, h6, h7⟩
theorem TS.more (h : TS w B b k A n cap zs X t v) (hk : k ≤ k') : TS w B b k' A n cap zs X t v := ⟨cur_more h.1 k' hk, h.2⟩
theorem TS.cells (h : TS w B b k A n cap zs X t v) : v.cell? ⟨X, 0, none⟩ = some (.int .i64 t.id) ∧ v.cell? ⟨X, 1, none⟩ = some (.int .i64 t.kind) ∧ v.cell? ⟨X, 2, none⟩ = some (.int .i64 t.zero) ∧ v.cell? ⟨X, 3, none⟩ = some (.int .i64 t.scale) :=
  ⟨h.2.2.2.1.cell 0, h.2.2.2.1.cell 1, h.2.2.2.1.cell 2, h.2.2.2.1.cell 3⟩
theorem TS.rcells (h : TS w B b k A n cap zs X t v) : v.cell? ⟨w.heap.size, 0, none⟩ = some (.int .i64 0) ∧ v.cell? ⟨w.heap.size, 1, none⟩ = some (.int .i64 0) ∧ v.cell? ⟨w.heap.size, 2, none⟩ = some (.int .i64 0) ∧ v.cell? ⟨w.heap.size, 3, none⟩ = some (.int .i64 0) :=
  ⟨h.2.2.1.cell 0, h.2.2.1.cell 1, h.2.2.1.cell 2, h.2.2.1.cell 3⟩
theorem TS.fro (h : TS w B b k A n cap zs X t v) : ∀ o, v.frozen? ⟨X, o, none⟩ = false := fun o => h.2.2.2.1.frozen o
theorem TS.rfro (h : TS w B b k A n cap zs X t v) : v.frozen? ⟨w.heap.size, 0, none⟩ = false ∧ v.frozen? ⟨w.heap.size, 1, none⟩ = false ∧ v.frozen? ⟨w.heap.size, 2, none⟩ = false ∧ v.frozen? ⟨w.heap.size, 3, none⟩ = false :=
  ⟨h.2.2.1.frozen 0, h.2.2.1.frozen 1, h.2.2.1.frozen 2, h.2.2.1.frozen 3⟩
theorem TS.put (h : TS w B b k A n cap zs X t v) (j : Nat) (y : Int) (t' : Tl) (e : (#[.int .i64 t.id, .int .i64 t.kind, .int .i64 t.zero, .int .i64 t.scale] : Array Value).setIfInBounds j (.int .i64 y) = #[.int .i64 t'.id, .int .i64 t'.kind, .int .i64 t'.zero, .int .i64 t'.scale]) :
    TS w B b k A n cap zs X t' (v.setCell ⟨X, j, none⟩ (.int .i64 y)) := by
  obtain ⟨h1, h2, h3, h4, h5, h6, h7⟩ := h
  refine ⟨cur_set h1 (by show b ≠ X; omega) (by show B ≤ X; omega) _, grown_set h2 (by show _ ≤ X; omega) _, h3.far (by show _ ≠ X; omega) _, ?_, h5, h6, h7⟩
  rw [← e]; exact h4.set_ j _
/-- the tool goes out -/
theorem TS.out (h : TS w B b k A n cap zs X t v) : Cur ((((v.setCell ⟨w.heap.size, 0, none⟩ (.int .i64 t.id)).setCell ⟨w.heap.size, 1, none⟩ (.int .i64 t.kind)).setCell ⟨w.heap.size, 2, none⟩ (.int .i64 t.zero)).setCell ⟨w.heap.size, 3, none⟩ (.int .i64 t.scale)) B b k A n cap zs ∧
    w.grownBy ((((v.setCell ⟨w.heap.size, 0, none⟩ (.int .i64 t.id)).setCell ⟨w.heap.size, 1, none⟩ (.int .i64 t.kind)).setCell ⟨w.heap.size, 2, none⟩ (.int .i64 t.zero)).setCell ⟨w.heap.size, 3, none⟩ (.int .i64 t.scale)) (some b) := by
  obtain ⟨h1, h2, h3, h4, h5, h6, h7⟩ := h
  have hne : b ≠ w.heap.size := by omega
  exact ⟨cur_set (cur_set (cur_set (cur_set h1 hne h7 _) hne h7 _) hne h7 _) hne h7 _, grown_set (grown_set (grown_set (grown_set h2 (Nat.le_refl _) _) (Nat.le_refl _) _) (Nat.le_refl _) _) (Nat.le_refl _) _⟩
end

/-- a drawn tool -/
def TPost (B b k : Nat) (A : Option Addr) (n cap : Nat) (zs : List UInt8) (w : World) (e : Ending) (w' : World) : Prop :=
  ∃ t : Tl, e = .returned (.agg #[.int .i64 t.id, .int .i64 t.kind, .int .i64 t.zero, .int .i64 t.scale]) ∧ Cur w' B b k A n cap zs ∧ w.grownBy w' (some b)

set_option maxHeartbeats 4000000 in
set_option maxRecDepth 100000 in
theorem tool_any (B b k : Nat) (A : Option Addr) (n cap : Nat) (zs : List UInt8) (id : Int) (w : World) (hk : k ≤ 60000) (h : Hid (Cur w B b k A n cap zs)) :
    Calls Try.prog 53 #[.pointer (some ⟨b, 0, none⟩), .int .i64 id] w (TPost B b (k + 5) A n cap zs w) := by
  have hbl := cur_lt h.out
  have HBB := Lib.hid (show B ≤ w.heap.size by have := h.out.1; omega)
  have H0 := Lib.hid (cur_alloc h.out HBB.out (.cells #[.int .i64 0, .int .i64 0, .int .i64 0, .int .i64 0] 25))
  go_enter Try.func53, Try.ntmps53
  go_wp2_with fail
  refine (pick_any B b k A n cap zs _ 3 (by omega) H0.out (by decide) (by decide)).mono ?_
  rintro e w1 ⟨r, rfl, hr, hC, hg⟩
  have HC1 := Lib.hid hC
  have HG1 := Lib.hid hg
  have hr2 : r ≤ 2 := hr
  clear hC hg H0 hr
  go_wp2_with fail
  refine (among_new B b (k + 1) A n cap zs w1 7 _ [-50, -2, 0, 0, 1, 3, 50] (by omega) HC1.out rfl (by decide) (by decide)).mono ?_
  rintro e w2 ⟨z, -, rfl, hC, hg⟩
  have HS := Lib.hid (show ∀ X, w2.heap.size = X → TS w B b (k + 2) A n cap zs X ⟨id, r, z, 1000⟩ (w2.alloc (.cells #[.int .i64 id, .int .i64 (r : Int), .int .i64 z, .int .i64 1000] 25)) from fun X hX => by
    subst hX
    have g0 : (w.alloc (.cells #[.int .i64 0, .int .i64 0, .int .i64 0, .int .i64 0] 25)).grownBy w2 (some b) := HG1.out.trans hg
    have s0 := g0.size
    simp at s0
    have hB2 : B ≤ w2.heap.size := by have := HBB.out; omega
    refine ⟨cur_alloc hC hB2 _, (World.grownBy_alloc w _ (some b)).trans (g0.trans (World.grownBy_alloc w2 _ (some b))), ((Blk.new w _ _).grown g0 (by intro e; injection e with e; omega)).alloc _, Blk.new w2 _ _, by omega, hbl, HBB.out⟩)
  obtain ⟨X, HX⟩ : ∃ X, Hid (w2.heap.size = X) := ⟨_, Lib.hid rfl⟩
  have HT := Lib.hid (HS.out X HX.out)
  clear hC hg HC1 HG1 HS h
  go_upto_if 15 with fail
  rw [HX.out]
  go_cut [19] (fun _ wx => ∃ t : Tl, TS w B b (k + 3) A n cap zs X t wx)
  case first =>
    by_cases r0 : r = 0
    · subst r0
      go_wp2_with fail
      refine (among_at B b (k + 2) A n cap zs _ _ (by simp) 5 _ [900, 995, 1000, 1010, 1100] (by omega) HT.out.1 rfl (by decide) (by decide)).mono ?_
      rintro e w3 ⟨y, -, rfl, hC, hg⟩
      have HT3 := Lib.hid (HT.out.step hC hg)
      obtain ⟨c0, c1, c2, c3⟩ := HT3.out.cells
      have f3 := HT3.out.fro 3
      clear hC hg HT
      go_wp2_with fail
      go_meet
      case rel => exact ⟨⟨id, 0, z, y⟩, HT3.out.put 3 y _ rfl⟩
    · have d0 : ((r : Int) == 0) = false := by simp; omega
      go_wp2_with fail
      go_meet
      case rel => exact ⟨_, HT.out.more (by omega)⟩
  case rest =>
    obtain ⟨t, hT⟩ := hcut
    have HT3 := Lib.hid hT
    clear hT HT HX
    go_wp2_with fail
    refine (pick_any B b (k + 3) A n cap zs _ 50 (by omega) HT3.out.1 (by decide) (by decide)).mono ?_
    rintro e w4 ⟨q, rfl, hq, hC, hg⟩
    have HT4 := Lib.hid (HT3.out.step hC hg)
    clear hC hg hq HT3
    · skip
      by_cases q0 : q = 0
      · subst q0
        go_wp2_with fail
        refine (among_new B b (k + 4) A n cap zs w4 3 _ [0, 99, 100] (by omega) HT4.out.1 rfl (by decide) (by decide)).mono ?_
        rintro e w5 ⟨y, -, rfl, hC, hg⟩
        have HT5 := Lib.hid (HT4.out.step hC hg)
        obtain ⟨c0, c1, c2, c3⟩ := HT5.out.cells
        have f0 := HT5.out.fro 0
        obtain ⟨d0, d1, d2, d3⟩ := HT5.out.rcells
        obtain ⟨e0, e1, e2, e3⟩ := HT5.out.rfro
        have HT6 := Lib.hid (HT5.out.put 0 y ⟨y, t.kind, t.zero, t.scale⟩ rfl)
        have hne : w.heap.size ≠ X := by have := HT6.out.2.2.2.2.1; omega
        clear hC hg HT4
        go_wp2_with fail
        refine bodyPost_ret (v := .agg #[.int .i64 y, .int .i64 t.kind, .int .i64 t.zero, .int .i64 t.scale]) (by simp [results, Try.results53, go_sem, *]) rfl ⟨⟨y, t.kind, t.zero, t.scale⟩, rfl, HT6.out.out⟩
      by_cases q1 : q = 1
      · subst q1
        go_wp2_with fail
        refine (among_new B b (k + 4) A n cap zs w4 2 _ [-1, 3] (by omega) HT4.out.1 rfl (by decide) (by decide)).mono ?_
        rintro e w5 ⟨y, -, rfl, hC, hg⟩
        have HT5 := Lib.hid (HT4.out.step hC hg)
        obtain ⟨c0, c1, c2, c3⟩ := HT5.out.cells
        have f1 := HT5.out.fro 1
        obtain ⟨d0, d1, d2, d3⟩ := HT5.out.rcells
        obtain ⟨e0, e1, e2, e3⟩ := HT5.out.rfro
        have HT6 := Lib.hid (HT5.out.put 1 y ⟨t.id, y, t.zero, t.scale⟩ rfl)
        have hne : w.heap.size ≠ X := by have := HT6.out.2.2.2.2.1; omega
        clear hC hg HT4
        go_wp2_with fail
        refine bodyPost_ret (v := .agg #[.int .i64 t.id, .int .i64 y, .int .i64 t.zero, .int .i64 t.scale]) (by simp [results, Try.results53, go_sem, *]) rfl ⟨⟨t.id, y, t.zero, t.scale⟩, rfl, HT6.out.out⟩
      by_cases q2 : q = 2
      · subst q2
        go_wp2_with fail
        refine (among_new B b (k + 4) A n cap zs w4 2 _ [-51, 51] (by omega) HT4.out.1 rfl (by decide) (by decide)).mono ?_
        rintro e w5 ⟨y, -, rfl, hC, hg⟩
        have HT5 := Lib.hid (HT4.out.step hC hg)
        obtain ⟨c0, c1, c2, c3⟩ := HT5.out.cells
        have f2 := HT5.out.fro 2
        obtain ⟨d0, d1, d2, d3⟩ := HT5.out.rcells
        obtain ⟨e0, e1, e2, e3⟩ := HT5.out.rfro
        have HT6 := Lib.hid (HT5.out.put 2 y ⟨t.id, t.kind, y, t.scale⟩ rfl)
        have hne : w.heap.size ≠ X := by have := HT6.out.2.2.2.2.1; omega
        clear hC hg HT4
        go_wp2_with fail
        refine bodyPost_ret (v := .agg #[.int .i64 t.id, .int .i64 t.kind, .int .i64 y, .int .i64 t.scale]) (by simp [results, Try.results53, go_sem, *]) rfl ⟨⟨t.id, t.kind, y, t.scale⟩, rfl, HT6.out.out⟩
      by_cases q3 : q = 3
      · subst q3
        go_wp2_with fail
        refine (among_new B b (k + 4) A n cap zs w4 3 _ [899, 1001, 1101] (by omega) HT4.out.1 rfl (by decide) (by decide)).mono ?_
        rintro e w5 ⟨y, -, rfl, hC, hg⟩
        have HT5 := Lib.hid (HT4.out.step hC hg)
        obtain ⟨c0, c1, c2, c3⟩ := HT5.out.cells
        have f3 := HT5.out.fro 3
        obtain ⟨d0, d1, d2, d3⟩ := HT5.out.rcells
        obtain ⟨e0, e1, e2, e3⟩ := HT5.out.rfro
        have HT6 := Lib.hid (HT5.out.put 3 y ⟨t.id, t.kind, t.zero, y⟩ rfl)
        have hne : w.heap.size ≠ X := by have := HT6.out.2.2.2.2.1; omega
        clear hC hg HT4
        go_wp2_with fail
        refine bodyPost_ret (v := .agg #[.int .i64 t.id, .int .i64 t.kind, .int .i64 t.zero, .int .i64 y]) (by simp [results, Try.results53, go_sem, *]) rfl ⟨⟨t.id, t.kind, t.zero, y⟩, rfl, HT6.out.out⟩
      have q0' : ((q : Int) == 0) = false := by simp; omega
      have q1' : ((q : Int) == 1) = false := by simp; omega
      have q2' : ((q : Int) == 2) = false := by simp; omega
      have q3' : ((q : Int) == 3) = false := by simp; omega
      have HT5 := Lib.hid (HT4.out.more (show k + 4 ≤ k + 5 by omega))
      obtain ⟨c0, c1, c2, c3⟩ := HT5.out.cells
      obtain ⟨d0, d1, d2, d3⟩ := HT5.out.rcells
      obtain ⟨e0, e1, e2, e3⟩ := HT5.out.rfro
      clear HT4
      go_wp2_with fail
      refine bodyPost_ret (v := .agg #[.int .i64 t.id, .int .i64 t.kind, .int .i64 t.zero, .int .i64 t.scale]) (by simp [results, Try.results53, go_sem, *]) rfl ⟨t, rfl, HT5.out.out⟩
set_option maxHeartbeats 4000000 in
set_option maxRecDepth 100000 in
theorem reading3_any (B b k : Nat) (A : Option Addr) (n cap : Nat) (zs : List UInt8) (q : Int) (w : World) (hk : k ≤ 60000) (h : Hid (Cur w B b k A n cap zs)) :
    Calls Try.prog 54 #[.pointer (some ⟨b, 0, none⟩), .int .i64 q] w (DPost B b (k + 2) A n cap zs (-100) 1100 w) := by
  have hbl := cur_lt h.out
  have HBB := Lib.hid (show B ≤ w.heap.size by have := h.out.1; omega)
  by_cases q0 : q = 0
  · subst q0
    go_enter Try.func54, Try.ntmps54
    go_wp2_with fail
    refine (pick_any B b k A n cap zs _ 24 (by omega) (cur_alloc h.out HBB.out _) (by decide) (by decide)).mono ?_
    rintro e w1 ⟨r, rfl, hr, hC, hg⟩
    have hr2 : r ≤ 23 := hr
    have HC1 := Lib.hid hC
    have HG1 := Lib.hid hg
    have HK := Lib.hid ((Blk.new w 3 (intsV [0, 1, 50, 123, 500, 1000, -1, 1001]).toArray).grown hg (by intro e; injection e with e; omega))
    clear hC hg hr
    obtain ⟨q, hq, hq2⟩ : ∃ q : Nat, (r : Int) / 11 = (q : Int) ∧ (q = 0 ∨ q = 1 ∨ q = 2) := ⟨r / 11, by omega, by omega⟩
    rcases hq2 with rfl | rfl | rfl
    · go_wp2_with fail
      refine (among_pre B b (k + 1) A n cap zs _ _ 6 _ [0, 1, 50, 123, 500, 1000, -1, 1001] (by omega) HC1.out HK.out (by omega) (by decide) (by decide) (by decide)).mono ?_
      rintro e w2 ⟨x, hx, rfl, hC, hg⟩
      have hx1 : -100 ≤ x ∧ x ≤ 1100 := by simp at hx; omega
      have HX := Lib.hid hx1
      have HC2 := Lib.hid hC
      have HG2 := Lib.hid ((World.grownBy_alloc w _ (some b)).trans (HG1.out.trans hg))
      clear hC hg hx hx1 HK
      go_wp2_with fail
      go_ret
      exact ⟨x, rfl, HX.out.1, HX.out.2, HC2.out, HG2.out⟩
    · go_wp2_with fail
      refine (among_pre B b (k + 1) A n cap zs _ _ 7 _ [0, 1, 50, 123, 500, 1000, -1, 1001] (by omega) HC1.out HK.out (by omega) (by decide) (by decide) (by decide)).mono ?_
      rintro e w2 ⟨x, hx, rfl, hC, hg⟩
      have hx1 : -100 ≤ x ∧ x ≤ 1100 := by simp at hx; omega
      have HX := Lib.hid hx1
      have HC2 := Lib.hid hC
      have HG2 := Lib.hid ((World.grownBy_alloc w _ (some b)).trans (HG1.out.trans hg))
      clear hC hg hx hx1 HK
      go_wp2_with fail
      go_ret
      exact ⟨x, rfl, HX.out.1, HX.out.2, HC2.out, HG2.out⟩
    · go_wp2_with fail
      refine (among_pre B b (k + 1) A n cap zs _ _ 8 _ [0, 1, 50, 123, 500, 1000, -1, 1001] (by omega) HC1.out HK.out (by omega) (by decide) (by decide) (by decide)).mono ?_
      rintro e w2 ⟨x, hx, rfl, hC, hg⟩
      have hx1 : -100 ≤ x ∧ x ≤ 1100 := by simp at hx; omega
      have HX := Lib.hid hx1
      have HC2 := Lib.hid hC
      have HG2 := Lib.hid ((World.grownBy_alloc w _ (some b)).trans (HG1.out.trans hg))
      clear hC hg hx hx1 HK
      go_wp2_with fail
      go_ret
      exact ⟨x, rfl, HX.out.1, HX.out.2, HC2.out, HG2.out⟩
  · by_cases q1 : q = 1
    · subst q1
      go_enter Try.func54, Try.ntmps54
      go_wp2_with fail
      refine (pick_any B b k A n cap zs _ 24 (by omega) (cur_alloc h.out HBB.out _) (by decide) (by decide)).mono ?_
      rintro e w1 ⟨r, rfl, hr, hC, hg⟩
      have hr2 : r ≤ 23 := hr
      have HC1 := Lib.hid hC
      have HG1 := Lib.hid hg
      have HK := Lib.hid ((Blk.new w 3 (intsV [0, 1, 90, 180, 358, 359, -1, 360]).toArray).grown hg (by intro e; injection e with e; omega))
      clear hC hg hr
      obtain ⟨q, hq, hq2⟩ : ∃ q : Nat, (r : Int) / 11 = (q : Int) ∧ (q = 0 ∨ q = 1 ∨ q = 2) := ⟨r / 11, by omega, by omega⟩
      rcases hq2 with rfl | rfl | rfl
      · go_wp2_with fail
        refine (among_pre B b (k + 1) A n cap zs _ _ 6 _ [0, 1, 90, 180, 358, 359, -1, 360] (by omega) HC1.out HK.out (by omega) (by decide) (by decide) (by decide)).mono ?_
        rintro e w2 ⟨x, hx, rfl, hC, hg⟩
        have hx1 : -100 ≤ x ∧ x ≤ 1100 := by simp at hx; omega
        have HX := Lib.hid hx1
        have HC2 := Lib.hid hC
        have HG2 := Lib.hid ((World.grownBy_alloc w _ (some b)).trans (HG1.out.trans hg))
        clear hC hg hx hx1 HK
        go_wp2_with fail
        go_ret
        exact ⟨x, rfl, HX.out.1, HX.out.2, HC2.out, HG2.out⟩
      · go_wp2_with fail
        refine (among_pre B b (k + 1) A n cap zs _ _ 7 _ [0, 1, 90, 180, 358, 359, -1, 360] (by omega) HC1.out HK.out (by omega) (by decide) (by decide) (by decide)).mono ?_
        rintro e w2 ⟨x, hx, rfl, hC, hg⟩
        have hx1 : -100 ≤ x ∧ x ≤ 1100 := by simp at hx; omega
        have HX := Lib.hid hx1
        have HC2 := Lib.hid hC
        have HG2 := Lib.hid ((World.grownBy_alloc w _ (some b)).trans (HG1.out.trans hg))
        clear hC hg hx hx1 HK
        go_wp2_with fail
        go_ret
        exact ⟨x, rfl, HX.out.1, HX.out.2, HC2.out, HG2.out⟩
      · go_wp2_with fail
        refine (among_pre B b (k + 1) A n cap zs _ _ 8 _ [0, 1, 90, 180, 358, 359, -1, 360] (by omega) HC1.out HK.out (by omega) (by decide) (by decide) (by decide)).mono ?_
        rintro e w2 ⟨x, hx, rfl, hC, hg⟩
        have hx1 : -100 ≤ x ∧ x ≤ 1100 := by simp at hx; omega
        have HX := Lib.hid hx1
        have HC2 := Lib.hid hC
        have HG2 := Lib.hid ((World.grownBy_alloc w _ (some b)).trans (HG1.out.trans hg))
        clear hC hg hx hx1 HK
        go_wp2_with fail
        go_ret
        exact ⟨x, rfl, HX.out.1, HX.out.2, HC2.out, HG2.out⟩
    · have z0 : (q == 0) = false := by simpa using q0
      have z1 : (q == 1) = false := by simpa using q1
      go_enter Try.func54, Try.ntmps54
      go_wp2_with fail
      refine (pick_any B b k A n cap zs _ 24 (by omega) (cur_alloc h.out HBB.out _) (by decide) (by decide)).mono ?_
      rintro e w1 ⟨r, rfl, hr, hC, hg⟩
      have hr2 : r ≤ 23 := hr
      have HC1 := Lib.hid hC
      have HG1 := Lib.hid hg
      have HK := Lib.hid ((Blk.new w 3 (intsV [-90, -45, 0, 2, 88, 90, -91, 91]).toArray).grown hg (by intro e; injection e with e; omega))
      clear hC hg hr
      obtain ⟨q, hq, hq2⟩ : ∃ q : Nat, (r : Int) / 11 = (q : Int) ∧ (q = 0 ∨ q = 1 ∨ q = 2) := ⟨r / 11, by omega, by omega⟩
      rcases hq2 with rfl | rfl | rfl
      · go_wp2_with fail
        refine (among_pre B b (k + 1) A n cap zs _ _ 6 _ [-90, -45, 0, 2, 88, 90, -91, 91] (by omega) HC1.out HK.out (by omega) (by decide) (by decide) (by decide)).mono ?_
        rintro e w2 ⟨x, hx, rfl, hC, hg⟩
        have hx1 : -100 ≤ x ∧ x ≤ 1100 := by simp at hx; omega
        have HX := Lib.hid hx1
        have HC2 := Lib.hid hC
        have HG2 := Lib.hid ((World.grownBy_alloc w _ (some b)).trans (HG1.out.trans hg))
        clear hC hg hx hx1 HK
        go_wp2_with fail
        go_ret
        exact ⟨x, rfl, HX.out.1, HX.out.2, HC2.out, HG2.out⟩
      · go_wp2_with fail
        refine (among_pre B b (k + 1) A n cap zs _ _ 7 _ [-90, -45, 0, 2, 88, 90, -91, 91] (by omega) HC1.out HK.out (by omega) (by decide) (by decide) (by decide)).mono ?_
        rintro e w2 ⟨x, hx, rfl, hC, hg⟩
        have hx1 : -100 ≤ x ∧ x ≤ 1100 := by simp at hx; omega
        have HX := Lib.hid hx1
        have HC2 := Lib.hid hC
        have HG2 := Lib.hid ((World.grownBy_alloc w _ (some b)).trans (HG1.out.trans hg))
        clear hC hg hx hx1 HK
        go_wp2_with fail
        go_ret
        exact ⟨x, rfl, HX.out.1, HX.out.2, HC2.out, HG2.out⟩
      · go_wp2_with fail
        refine (among_pre B b (k + 1) A n cap zs _ _ 8 _ [-90, -45, 0, 2, 88, 90, -91, 91] (by omega) HC1.out HK.out (by omega) (by decide) (by decide) (by decide)).mono ?_
        rintro e w2 ⟨x, hx, rfl, hC, hg⟩
        have hx1 : -100 ≤ x ∧ x ≤ 1100 := by simp at hx; omega
        have HX := Lib.hid hx1
        have HC2 := Lib.hid hC
        have HG2 := Lib.hid ((World.grownBy_alloc w _ (some b)).trans (HG1.out.trans hg))
        clear hC hg hx hx1 HK
        go_wp2_with fail
        go_ret
        exact ⟨x, rfl, HX.out.1, HX.out.2, HC2.out, HG2.out⟩
end Go.Proofs.Ytekbiapgbhaibaa.tlp
