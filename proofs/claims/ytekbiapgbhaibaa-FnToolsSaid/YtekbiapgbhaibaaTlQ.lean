/-
  What the draws of chapter 3 answer: a tool and a reading, a tool and a check.
  Conditions: the code has at most 65536 bytes.
-/
import Derived.Test.YtekbiapgbhaibaaTlP
import Derived.Deep.RegionWith
namespace Go.Proofs.Ytekbiapgbhaibaa.tlp
open Go.RowKit
open reads curs curd tl
set_option linter.unusedVariables false
set_option linter.unusedSimpArgs false

/-- a draw under way: the cursor, the answer's block, the tool's own -/
def DS (w : World) (R b X k : Nat) (A : Option Addr) (n cap : Nat) (zs : List UInt8) (t : Tl) (v : World) : Prop :=
  Cur v w.heap.size b k A n cap zs ∧ Blk v R 25 #[.int .i64 0, .int .i64 0, .int .i64 0, .int .i64 0] ∧ Blk v X 25 #[.int .i64 t.id, .int .i64 t.kind, .int .i64 t.zero, .int .i64 t.scale] ∧ Below w.heap.size w v ∧ w.heap.size ≤ R ∧ R ≠ b ∧ X ≠ b ∧ R ≠ X
section
variable {w v v' : World} {R b X k k' : Nat} {A : Option Addr} {n cap : Nat} {zs : List UInt8} {t : Tl}
theorem DS.step (h : DS w R b X k A n cap zs t v) (hC : Cur v' w.heap.size b k' A n cap zs) (hg : v.grownBy v' (some b)) : DS w R b X k' A n cap zs t v' := by
  obtain ⟨h1, h2, h3, h4, h5, h6, h7, h8⟩ := h
  exact ⟨hC, h2.grown hg (by intro e; injection e with e; exact h6 e), h3.grown hg (by intro e; injection e with e; exact h7 e), h4.grown hg h4.size (fun g e => by injection e with e; subst e; exact h1.1), h5, h6, h7, h8⟩
theorem DS.drew (h : DS w R b X k A n cap zs t v) : DS w R b X k A n cap zs t v.drew := by
  obtain ⟨⟨c1, c2, c3, pos, sd, c4, c5, c6, c7⟩, h2, h3, h4, h5⟩ := h
  exact ⟨⟨c1, c2.drew, c3, pos, sd, c4, c5, c6, c7.drew⟩, h2.drew, h3.drew, h4.drew, h5⟩
theorem DS.cells (h : DS w R b X k A n cap zs t v) : v.cell? ⟨X, 0, none⟩ = some (.int .i64 t.id) ∧ v.cell? ⟨X, 1, none⟩ = some (.int .i64 t.kind) ∧ v.cell? ⟨X, 2, none⟩ = some (.int .i64 t.zero) ∧ v.cell? ⟨X, 3, none⟩ = some (.int .i64 t.scale) :=
  ⟨h.2.2.1.cell 0, h.2.2.1.cell 1, h.2.2.1.cell 2, h.2.2.1.cell 3⟩
theorem DS.rcells (h : DS w R b X k A n cap zs t v) : v.cell? ⟨R, 0, none⟩ = some (.int .i64 0) ∧ v.cell? ⟨R, 1, none⟩ = some (.int .i64 0) ∧ v.cell? ⟨R, 2, none⟩ = some (.int .i64 0) ∧ v.cell? ⟨R, 3, none⟩ = some (.int .i64 0) :=
  ⟨h.2.1.cell 0, h.2.1.cell 1, h.2.1.cell 2, h.2.1.cell 3⟩
theorem DS.rfro (h : DS w R b X k A n cap zs t v) : v.frozen? ⟨R, 0, none⟩ = false ∧ v.frozen? ⟨R, 1, none⟩ = false ∧ v.frozen? ⟨R, 2, none⟩ = false ∧ v.frozen? ⟨R, 3, none⟩ = false :=
  ⟨h.2.1.frozen 0, h.2.1.frozen 1, h.2.1.frozen 2, h.2.1.frozen 3⟩
end

/-- a drawn tool and a drawn number -/
def TNPost (w : World) (e : Ending) (w' : World) : Prop :=
  ∃ (t : Tl) (r : Int), e = .returned (.tuple #[.agg #[.int .i64 t.id, .int .i64 t.kind, .int .i64 t.zero, .int .i64 t.scale], .int .i64 r]) ∧ -100 ≤ r ∧ r ≤ 1100 ∧ Below w.heap.size w w'

theorem cur_start {w : World} {A : Option Addr} {n : Nat} {zs : List UInt8} (cap : Nat) (h : curs.Code w A n zs) (o : Obj) : Cur ((w.alloc o).alloc (.cells #[.slice A n cap, .int .i64 0, .int .u64 0] 75)) w.heap.size (w.heap.size + 1) 0 A n cap zs := by
  refine ⟨by omega, (h.1.alloc (Nat.le_refl _) o).alloc (by simp) _, h.2, 0, 0, Nat.le_refl _, by decide, by decide, ?_⟩
  have k := Blk.new (w.alloc o) 75 #[.slice A n cap, .int .i64 0, .int .u64 0]
  simpa using k
/-- the tool is drawn: the draw is under way -/
theorem DS.start {w w1 : World} {A : Option Addr} {n cap k : Nat} {zs : List UInt8} {t : Tl} (o : Obj) (hC : Cur w1 w.heap.size (w.heap.size + 1) k A n cap zs)
    (hg : ((w.alloc (.cells #[.int .i64 0, .int .i64 0, .int .i64 0, .int .i64 0] 25)).alloc o).grownBy w1 (some (w.heap.size + 1))) :
    DS w w.heap.size (w.heap.size + 1) w1.heap.size k A n cap zs t (w1.alloc (.cells #[.int .i64 t.id, .int .i64 t.kind, .int .i64 t.zero, .int .i64 t.scale] 25)) := by
  have s := hg.size
  simp at s
  have b0 : Below w.heap.size w w1 := (((Below.refl w.heap.size w).alloc (Nat.le_refl _) _).alloc (by simp) o).grown hg (by simp; omega) (fun g e => by injection e with e; omega)
  exact ⟨cur_alloc hC (by omega) _, ((((Blk.new w _ _).alloc o).grown hg (by intro e; injection e with e; omega)).alloc _), Blk.new w1 _ _, b0.alloc (by omega) _, Nat.le_refl _, by omega, by omega, by omega⟩

set_option maxHeartbeats 4000000 in
set_option maxRecDepth 100000 in
theorem correct_draw (A : Option Addr) (n cap : Nat) (zs : List UInt8) (w : World) (h : Hid (curs.Code w A n zs)) :
    Calls Try.prog 15 #[.slice A n cap] w (TNPost w) := by
  have H0 := Lib.hid (cur_start cap h.out (.cells #[.int .i64 0, .int .i64 0, .int .i64 0, .int .i64 0] 25))
  go_enter Try.func15, Try.ntmps15
  go_wp2_with fail
  refine (tool_any w.heap.size (w.heap.size + 1) 0 A n cap zs 1 _ (by decide) H0).mono ?_
  rintro e w1 ⟨t, rfl, hC, hg⟩
  have HD0 := Lib.hid (DS.start (t := t) _ hC hg)
  obtain ⟨R, HR⟩ : ∃ R, Hid (w.heap.size = R) := ⟨_, Lib.hid rfl⟩
  obtain ⟨X, HX⟩ : ∃ X, Hid (w1.heap.size = X) := ⟨_, Lib.hid rfl⟩
  obtain ⟨b, Hb⟩ : ∃ b, Hid (w.heap.size + 1 = b) := ⟨_, Lib.hid rfl⟩
  have HD := Lib.hid (show DS w R b X (0 + 5) A n cap zs t (w1.alloc (.cells #[.int .i64 t.id, .int .i64 t.kind, .int .i64 t.zero, .int .i64 t.scale] 25)) by rw [← HR.out, ← HX.out, ← Hb.out]; exact HD0.out)
  clear hC hg H0 HD0
  go_wp2_with fail
  obtain ⟨W2, HW2⟩ : ∃ W2, Hid (w1.alloc (.cells #[.int .i64 t.id, .int .i64 t.kind, .int .i64 t.zero, .int .i64 t.scale] 25) = W2) := ⟨_, Lib.hid rfl⟩
  rw [HW2.out] at HD ⊢
  rw [HX.out, Hb.out, HR.out]
  have hd := HD.out.drew
  obtain ⟨c0, c1, c2, c3⟩ := hd.cells
  obtain ⟨d0, d1, d2, d3⟩ := hd.rcells
  obtain ⟨f0, f1, f2, f3⟩ := hd.rfro
  have hne : R ≠ X := hd.2.2.2.2.2.2.2
  have hne2 : X ≠ R := Ne.symm hne
  have HDD := Lib.hid hd
  clear hd HD HW2 HX Hb
  first
    | (go_region_with ((go_at_call 54; refine (reading3_any w.heap.size b (0 + 5) A n cap zs _ _ (by decide) (Lib.hid HDD.out.1)).mono ?_; rintro e w3 ⟨r, rfl, r0, r1, hC, hg⟩; have HE := Lib.hid (HDD.out.step hC hg); have hE := HE.out; obtain ⟨C0, C1, C2, C3⟩ := hE.cells; obtain ⟨D0, D1, D2, D3⟩ := hE.rcells; obtain ⟨F0, F1, F2, F3⟩ := hE.rfro; clear hC hg hE)))
    | fail
  all_goals
    go_wp2_with fail
    refine bodyPost_ret (v := .tuple #[.agg #[.int .i64 t.id, .int .i64 t.kind, .int .i64 t.zero, .int .i64 t.scale], .int .i64 r]) (by simp [results, Try.results15, go_sem, *]) rfl ⟨t, r, rfl, r0, r1, ?_⟩
    have hB := HE.out.2.2.2.1
    have hR := HE.out.2.2.2.2.1
    exact (((hB.setCell hR _).setCell hR _).setCell hR _).setCell hR _
theorem read_draw (A : Option Addr) (n cap : Nat) (zs : List UInt8) (w : World) (h : Hid (curs.Code w A n zs)) :
    Calls Try.prog 37 #[.slice A n cap] w (TNPost w) := by
  have H1 := Lib.hid (h.out.below ((Below.refl _ _).alloc (Nat.le_refl _) (.cells #[.int .i64 0, .int .i64 0, .int .i64 0, .int .i64 0] 25)))
  go_enter Try.func37, Try.ntmps37
  go_wp2_with fail
  refine (correct_draw A n cap zs _ H1).mono ?_
  rintro e w1 ⟨t, r, rfl, r0, r1, b1⟩
  obtain ⟨hc1, hf1⟩ := bcell b1
  have HB := Lib.hid (((Below.refl w.heap.size w).alloc (Nat.le_refl _) _).trans (b1.mono (by simp)))
  clear b1
  go_wp2_with fail
  refine bodyPost_ret (v := .tuple #[.agg #[.int .i64 t.id, .int .i64 t.kind, .int .i64 t.zero, .int .i64 t.scale], .int .i64 r]) (by simp [results, Try.results37, go_sem, hc1]) rfl ⟨t, r, rfl, r0, r1, ?_⟩
  exact (((HB.out.setCell (Nat.le_refl _) _).setCell (Nat.le_refl _) _).setCell (Nat.le_refl _) _).setCell (Nat.le_refl _) _

/-- a drawn tool and a drawn check -/
def TCPost (w : World) (e : Ending) (w' : World) : Prop :=
  ∃ (t : Tl) (c : Ck), e = .returned (.tuple #[.agg #[.int .i64 t.id, .int .i64 t.kind, .int .i64 t.zero, .int .i64 t.scale], .agg #[.int .i64 c.read, .int .i64 c.tru]]) ∧ Below w.heap.size w w'
theorem cur_start2 {w : World} {A : Option Addr} {n : Nat} {zs : List UInt8} (cap : Nat) (h : curs.Code w A n zs) (o o' : Obj) : Cur (((w.alloc o).alloc o').alloc (.cells #[.slice A n cap, .int .i64 0, .int .u64 0] 75)) w.heap.size (w.heap.size + 1 + 1) 0 A n cap zs := by
  refine ⟨by omega, ((h.1.alloc (Nat.le_refl _) o).alloc (by simp) o').alloc (by simp; omega) _, h.2, 0, 0, Nat.le_refl _, by decide, by decide, ?_⟩
  have k := Blk.new ((w.alloc o).alloc o') 75 #[.slice A n cap, .int .i64 0, .int .u64 0]
  simpa using k
/-- the same, beside a check's block -/
def DC (w : World) (Q R b X k : Nat) (A : Option Addr) (n cap : Nat) (zs : List UInt8) (t : Tl) (v : World) : Prop :=
  DS w R b X k A n cap zs t v ∧ Blk v Q 40 #[.int .i64 0, .int .i64 0] ∧ w.heap.size ≤ Q ∧ Q ≠ b ∧ Q ≠ R
theorem DC.step {w v v' : World} {Q R b X k k' : Nat} {A : Option Addr} {n cap : Nat} {zs : List UInt8} {t : Tl} (h : DC w Q R b X k A n cap zs t v) (hC : Cur v' w.heap.size b k' A n cap zs) (hg : v.grownBy v' (some b)) : DC w Q R b X k' A n cap zs t v' :=
  ⟨h.1.step hC hg, h.2.1.grown hg (by intro e; injection e with e; exact h.2.2.2.1 e), h.2.2⟩
theorem DC.drew {w v : World} {Q R b X k : Nat} {A : Option Addr} {n cap : Nat} {zs : List UInt8} {t : Tl} (h : DC w Q R b X k A n cap zs t v) : DC w Q R b X k A n cap zs t v.drew := ⟨h.1.drew, h.2.1.drew, h.2.2⟩
theorem dc_keep {w v : World} {Q R b X k : Nat} {A : Option Addr} {n cap : Nat} {zs : List UInt8} {t : Tl} (hk : k ≤ 100) (h : DC w Q R b X k A n cap zs t v) :
    v.cell? ⟨X, 0, none⟩ = some (.int .i64 t.id) ∧ v.cell? ⟨X, 1, none⟩ = some (.int .i64 t.kind) ∧ v.cell? ⟨X, 2, none⟩ = some (.int .i64 t.zero) ∧ v.cell? ⟨X, 3, none⟩ = some (.int .i64 t.scale) ∧ ∃ k, k ≤ 100 ∧ DC w Q R b X k A n cap zs t v :=
  ⟨h.1.cells.1, h.1.cells.2.1, h.1.cells.2.2.1, h.1.cells.2.2.2, k, hk, h⟩
theorem xfar {v : World} {X g : Nat} {v0 v1 v2 v3 : Value} (h : v.cell? ⟨X, 0, none⟩ = some v0 ∧ v.cell? ⟨X, 1, none⟩ = some v1 ∧ v.cell? ⟨X, 2, none⟩ = some v2 ∧ v.cell? ⟨X, 3, none⟩ = some v3) (hne : X ≠ g) (o : Nat) (u : Value) :
    (v.setCell ⟨g, o, none⟩ u).cell? ⟨X, 0, none⟩ = some v0 ∧ (v.setCell ⟨g, o, none⟩ u).cell? ⟨X, 1, none⟩ = some v1 ∧ (v.setCell ⟨g, o, none⟩ u).cell? ⟨X, 2, none⟩ = some v2 ∧ (v.setCell ⟨g, o, none⟩ u).cell? ⟨X, 3, none⟩ = some v3 := by
  refine ⟨?_, ?_, ?_, ?_⟩ <;> (rw [World.cell?_setCell_other _ _ _ _ (by intro e; injection e with e; exact hne e.symm)])
  · exact h.1
  · exact h.2.1
  · exact h.2.2.1
  · exact h.2.2.2
theorem DC.start {w w1 : World} {A : Option Addr} {n cap k : Nat} {zs : List UInt8} {t : Tl} (o : Obj) (hC : Cur w1 w.heap.size (w.heap.size + 1 + 1) k A n cap zs)
    (hg : (((w.alloc (.cells #[.int .i64 0, .int .i64 0, .int .i64 0, .int .i64 0] 25)).alloc (.cells #[.int .i64 0, .int .i64 0] 40)).alloc o).grownBy w1 (some (w.heap.size + 1 + 1))) :
    DC w (w.heap.size + 1) w.heap.size (w.heap.size + 1 + 1) w1.heap.size k A n cap zs t (w1.alloc (.cells #[.int .i64 t.id, .int .i64 t.kind, .int .i64 t.zero, .int .i64 t.scale] 25)) := by
  have s := hg.size
  simp at s
  have b0 : Below w.heap.size w w1 := ((((Below.refl w.heap.size w).alloc (Nat.le_refl _) _).alloc (by simp) _).alloc (by simp; omega) o).grown hg (by simp; omega) (fun g e => by injection e with e; omega)
  have q0 : Blk ((w.alloc (.cells #[.int .i64 0, .int .i64 0, .int .i64 0, .int .i64 0] 25)).alloc (.cells #[.int .i64 0, .int .i64 0] 40)) (w.heap.size + 1) 40 #[.int .i64 0, .int .i64 0] := by
    have k := Blk.new (w.alloc (.cells #[.int .i64 0, .int .i64 0, .int .i64 0, .int .i64 0] 25)) 40 #[.int .i64 0, .int .i64 0]
    simpa using k
  exact ⟨⟨cur_alloc hC (by omega) _, (((((Blk.new w _ _).alloc _).alloc o).grown hg (by intro e; injection e with e; omega)).alloc _), Blk.new w1 _ _, b0.alloc (by omega) _, Nat.le_refl _, by omega, by omega, by omega⟩,
    ((q0.alloc o).grown hg (by intro e; injection e with e; omega)).alloc _, by omega, by omega, by omega⟩

set_option maxHeartbeats 8000000 in
set_option maxRecDepth 100000 in
theorem error_draw (A : Option Addr) (n cap : Nat) (zs : List UInt8) (w : World) (h : Hid (curs.Code w A n zs)) :
    Calls Try.prog 27 #[.slice A n cap] w (TCPost w) := by
  have H0 := Lib.hid (cur_start2 cap h.out (.cells #[.int .i64 0, .int .i64 0, .int .i64 0, .int .i64 0] 25) (.cells #[.int .i64 0, .int .i64 0] 40))
  go_enter Try.func27, Try.ntmps27
  go_wp2_with fail
  refine (tool_any w.heap.size (w.heap.size + 1 + 1) 0 A n cap zs 1 _ (by decide) H0).mono ?_
  rintro e w1 ⟨t, rfl, hC, hg⟩
  have HD0 := Lib.hid (DC.start (t := t) _ hC hg)
  obtain ⟨R, HR⟩ : ∃ R, Hid (w.heap.size = R) := ⟨_, Lib.hid rfl⟩
  obtain ⟨Q, HQ⟩ : ∃ Q, Hid (w.heap.size + 1 = Q) := ⟨_, Lib.hid rfl⟩
  obtain ⟨X, HX⟩ : ∃ X, Hid (w1.heap.size = X) := ⟨_, Lib.hid rfl⟩
  obtain ⟨b, Hb⟩ : ∃ b, Hid (w.heap.size + 1 + 1 = b) := ⟨_, Lib.hid rfl⟩
  have HD := Lib.hid (show DC w Q R b X (0 + 5) A n cap zs t (w1.alloc (.cells #[.int .i64 t.id, .int .i64 t.kind, .int .i64 t.zero, .int .i64 t.scale] 25)) by rw [← HR.out, ← HX.out, ← Hb.out, ← HQ.out]; exact HD0.out)
  clear hC hg H0 HD0
  go_wp2_with fail
  obtain ⟨W2, HW2⟩ : ∃ W2, Hid (w1.alloc (.cells #[.int .i64 t.id, .int .i64 t.kind, .int .i64 t.zero, .int .i64 t.scale] 25) = W2) := ⟨_, Lib.hid rfl⟩
  rw [HW2.out] at HD ⊢
  rw [HX.out, Hb.out, HQ.out, HR.out]
  clear HW2 HX Hb HQ HR
  refine wp_region_held_drew (S := (fun w' => w'.cell? ⟨X, 0, none⟩ = some (.int .i64 t.id) ∧ w'.cell? ⟨X, 1, none⟩ = some (.int .i64 t.kind) ∧ w'.cell? ⟨X, 2, none⟩ = some (.int .i64 t.zero) ∧ w'.cell? ⟨X, 3, none⟩ = some (.int .i64 t.scale))) (by kernel_rfl) ?_ (fun hHeld => ?_)
  · exact HD.out.drew.1.cells
  refine' wpAnyH_take (i := 0) (v := ?vr1_0) rfl (by kernel_rfl) (by kernel_rfl) (by kernel_rfl) (fun _ _ _ h => h) (Or.inl ⟨by rfl, ?hyr1_0⟩) (by assumption) ?restr1_0
  case hyr1_0 => (intro w hSw; (try dsimp only at hSw); go_simp; try (with_reducible rfl))
  simp only [Act.put, List.getElem_toArray, List.getElem_cons_succ, List.getElem_cons_zero, List.setIfInBounds_toArray, List.set_cons_zero, List.set_cons_succ]
  refine' wpAnyH_take (i := 1) (v := ?vr1_1) rfl (by kernel_rfl) (by kernel_rfl) (by kernel_rfl) (fun _ _ _ h => h) (Or.inl ⟨by rfl, ?hyr1_1⟩) (by assumption) ?restr1_1
  case hyr1_1 => (intro w hSw; (try dsimp only at hSw); go_simp; try (with_reducible rfl))
  simp only [Act.put, List.getElem_toArray, List.getElem_cons_succ, List.getElem_cons_zero, List.setIfInBounds_toArray, List.set_cons_zero, List.set_cons_succ]
  refine' wpAnyH_take (i := 2) (v := ?vr1_2) rfl (by kernel_rfl) (by kernel_rfl) (by kernel_rfl) (fun _ _ _ h => h) (Or.inl ⟨by rfl, ?hyr1_2⟩) (by assumption) ?restr1_2
  case hyr1_2 => (intro w hSw; (try dsimp only at hSw); go_simp; try (with_reducible rfl))
  simp only [Act.put, List.getElem_toArray, List.getElem_cons_succ, List.getElem_cons_zero, List.setIfInBounds_toArray, List.set_cons_zero, List.set_cons_succ]
  refine' wpAnyH_take (i := 3) (v := ?vr1_3) rfl (by kernel_rfl) (by kernel_rfl) (by kernel_rfl) (fun _ _ _ h => h) (Or.inl ⟨by rfl, ?hyr1_3⟩) (by assumption) ?restr1_3
  case hyr1_3 => (intro w hSw; (try dsimp only at hSw); go_simp; try (with_reducible rfl))
  simp only [Act.put, List.getElem_toArray, List.getElem_cons_succ, List.getElem_cons_zero, List.setIfInBounds_toArray, List.set_cons_zero, List.set_cons_succ]
  refine' wpAnyH_take (i := 5) (v := ?vr1_5) rfl (by kernel_rfl) (by kernel_rfl) (by kernel_rfl) (fun _ _ _ h => h) (Or.inl ⟨by rfl, ?hyr1_5⟩) (by assumption) ?restr1_5
  case hyr1_5 => (intro w hSw; (try dsimp only at hSw); go_simp; try (with_reducible rfl))
  simp only [Act.put, List.getElem_toArray, List.getElem_cons_succ, List.getElem_cons_zero, List.setIfInBounds_toArray, List.set_cons_zero, List.set_cons_succ]
  refine' wpAnyH_take (i := 6) (v := ?vr1_6) rfl (by kernel_rfl) (by kernel_rfl) (by kernel_rfl) (fun _ _ _ h => h) (Or.inl ⟨by rfl, ?hyr1_6⟩) (by assumption) ?restr1_6
  case hyr1_6 => (intro w hSw; (try dsimp only at hSw); go_simp; try (with_reducible rfl))
  simp only [Act.put, List.getElem_toArray, List.getElem_cons_succ, List.getElem_cons_zero, List.setIfInBounds_toArray, List.set_cons_zero, List.set_cons_succ]
  refine' wpAnyH_take (i := 7) (v := ?vr1_7) rfl (by kernel_rfl) (by kernel_rfl) (by kernel_rfl) (fun _ _ _ h => h) (Or.inl ⟨by rfl, ?hyr1_7⟩) (by assumption) ?restr1_7
  case hyr1_7 => (intro w hSw; (try dsimp only at hSw); go_simp; try (with_reducible rfl))
  simp only [Act.put, List.getElem_toArray, List.getElem_cons_succ, List.getElem_cons_zero, List.setIfInBounds_toArray, List.set_cons_zero, List.set_cons_succ]
  refine wpAnyH_ready (rs := [4]) (by kernel_rfl) (by simp) ?_
  refine AllReadyH.cons rfl (fun K hK => ?_) AllReadyH.nil
  go_simp
  refine (reading3_any w.heap.size b (0 + 5) A n cap zs _ _ (by decide) (Lib.hid HD.out.drew.1.1)).mono ?_
  rintro e w3 ⟨r, rfl, r0, r1, hC, hg⟩
  have HE := Lib.hid (HD.out.drew.step hC hg)
  clear hC hg
  refine hK.out _ _ (HE.out.1.cells) (fun hHeld1 => ?_)
  clear hK K hHeld
  have hHeld := hHeld1
  clear hHeld1
  try simp only [Act.put, List.getElem_toArray, List.getElem_cons_succ, List.getElem_cons_zero, List.setIfInBounds_toArray, List.set_cons_zero, List.set_cons_succ]
  refine wpAnyH_ready (rs := [8]) (by kernel_rfl) (by simp) ?_
  refine AllReadyH.cons rfl (fun K hK => ?_) AllReadyH.nil
  go_simp
  refine (reading3_any w.heap.size b (0 + 5 + 2) A n cap zs _ _ (by decide) (Lib.hid HE.out.1.1)).mono ?_
  rintro e w4 ⟨s, rfl, s0, s1, hC, hg⟩
  have HF := Lib.hid (HE.out.step hC hg)
  clear hC hg
  refine hK.out _ _ (HF.out.1.cells) (fun hHeld1 => ?_)
  clear hK K hHeld
  have hHeld := hHeld1
  clear hHeld1
  try simp only [Act.put, List.getElem_toArray, List.getElem_cons_succ, List.getElem_cons_zero, List.setIfInBounds_toArray, List.set_cons_zero, List.set_cons_succ]
  refine' wpAnyH_take (i := 9) (v := ?vr1_9) rfl (by kernel_rfl) (by kernel_rfl) (by kernel_rfl) (fun _ _ _ h => h) (Or.inl ⟨by rfl, ?hyr1_9⟩) (by assumption) ?restr1_9
  case hyr1_9 => (intro w hSw; (try dsimp only at hSw); go_simp; try (with_reducible rfl))
  simp only [Act.put, List.getElem_toArray, List.getElem_cons_succ, List.getElem_cons_zero, List.setIfInBounds_toArray, List.set_cons_zero, List.set_cons_succ]
  obtain ⟨D0, D1, D2, D3⟩ := HF.out.1.rcells
  obtain ⟨F0, F1, F2, F3⟩ := HF.out.1.rfro
  have E0 := HF.out.2.1.cell 0
  have E1 := HF.out.2.1.cell 1
  have G0 := HF.out.2.1.frozen 0
  have G1 := HF.out.2.1.frozen 1
  simp at E0 E1
  have hRX : R ≠ X := HF.out.1.2.2.2.2.2.2.2
  have hXR : X ≠ R := Ne.symm hRX
  have hQX : Q ≠ X := Blk.ne_ HF.out.2.1 HF.out.1.2.2.1 (by decide)
  have hXQ : X ≠ Q := Ne.symm hQX
  have hQR : Q ≠ R := HF.out.2.2.2.2
  have hRQ : R ≠ Q := Ne.symm hQR
  have HY := Lib.hid (HF.out.1.cells)
  refine wpAnyH_ready (rs := [10]) (by kernel_rfl) (by simp) ?_
  refine AllReadyH.cons rfl (fun K hK => ?_) AllReadyH.nil
  go_simp
  refine hK.out _ _ (xfar (xfar (xfar (xfar HY.out hXR _ _) hXR _ _) hXR _ _) hXR _ _) (fun hHeld1 => ?_)
  clear hK K hHeld
  have hHeld := hHeld1
  clear hHeld1
  try simp only [Act.put, List.getElem_toArray, List.getElem_cons_succ, List.getElem_cons_zero, List.setIfInBounds_toArray, List.set_cons_zero, List.set_cons_succ]
  refine wpAnyH_ready (rs := [11]) (by kernel_rfl) (by simp) ?_
  refine AllReadyH.cons rfl (fun K hK => ?_) AllReadyH.nil
  go_simp
  refine hK.out _ _ (xfar (xfar hHeld hXQ _ _) hXQ _ _) (fun hHeld1 => ?_)
  clear hK K hHeld
  have hHeld := hHeld1
  clear hHeld1
  try simp only [Act.put, List.getElem_toArray, List.getElem_cons_succ, List.getElem_cons_zero, List.setIfInBounds_toArray, List.set_cons_zero, List.set_cons_succ]
  refine wpAnyH_done (by kernel_rfl) ?_ _
  go_wp2_with fail
  refine bodyPost_ret (v := .tuple #[.agg #[.int .i64 t.id, .int .i64 t.kind, .int .i64 t.zero, .int .i64 t.scale], .agg #[.int .i64 r, .int .i64 s]]) (by simp [results, Try.results27, go_sem, *]) rfl ⟨t, ⟨r, s⟩, rfl, ?_⟩
  have hB := HF.out.1.2.2.2.1
  have hR := HF.out.1.2.2.2.2.1
  have hQ := HF.out.2.2.1
  exact (((((hB.setCell hR _).setCell hR _).setCell hR _).setCell hR _).setCell hQ _).setCell hQ _
end Go.Proofs.Ytekbiapgbhaibaa.tlp
