/-
  Draws that every chapter uses: one among some numbers that are made on the spot, and what draws leave alone.
  What draws of structs share: cursors and lists of one's own, kept.
  The drawn legs.
  The drawn lists of legs.
  The model of the angles: the best bearing.
  The model of the angles: the best slope.
  What the draw of a cave keeps: the cursor, the legs, the places; lengths, bearings and slopes within their bounds.
  The draw of a cave.
  The draws of chapter 6: PlacedStations, ErrorOf.
  The draws of chapter 8 that are chapter 6's.
  Conditions: those that each theorem names.
-/
import Derived.Test.YtnpghhpcloljeabGreatDoorCursq
import Derived.Test.YtnpghhpcloljeabGreatDoorReadsq
import Derived.Test.YtnpghhpcloljeabGreatDoorTyLegq
import Derived.Deep.DeepCutAuto
import Derived.Laws.OwnMore
import Derived.OwnWalk
import Derived.Deep.AppendLies
import Derived.Test.YtnpghhpcloljeabGreatDoorSin
import Derived.Test.YtnpghhpcloljeabGreatDoorLgRaq
import Derived.LoopTactic
import Derived.Test.YtnpghhpcloljeabGreatDoorNtAq
import Derived.Deep.RegionHeld3
namespace Go.Proofs.YtnpghhpcloljeabGreatDoor.curd
open Go.RowKit
open reads curs
set_option linter.unusedVariables false

theorem cur_more {w : World} {B b k : Nat} {A : Option Addr} {n cap : Nat} {zs : List UInt8} (h : Cur w B b k A n cap zs) (m : Nat) (hm : k ≤ m) : Cur w B b m A n cap zs := by
  obtain ⟨c1, c2, c3, pos, sd, c4, c5⟩ := h
  exact ⟨c1, c2, c3, pos, sd, by omega, c5⟩
/-- one among some numbers that are made on the spot -/
theorem among_new (B b k : Nat) (A : Option Addr) (n cap : Nat) (zs : List UInt8) (w : World) (m cp : Nat) (xs : List Int) (hk : k ≤ 80000) (h : Cur w B b k A n cap zs) (hm : xs.length = m) (h0 : 0 < m) (h1 : m ≤ 200) :
    Calls Tryz.prog 85 #[.pointer (some ⟨b, 0, none⟩), .slice (some ⟨w.heap.size, 0, none⟩) m cp] (w.alloc (.cells (intsV xs).toArray 3)) (curs.APost B b (k + 1) A n cap zs xs w) := by
  have hlt := cur_lt h
  have hB : B ≤ w.heap.size := by have := h.1; omega
  refine (among_any B b k A n cap zs _ w.heap.size m cp xs hk (cur_alloc h hB _) (Blk.new w _ _) (by omega) hm h0 h1).mono ?_
  rintro e w1 ⟨x, hx, he, hC, hg⟩
  exact ⟨x, hx, he, hC, (World.grownBy_alloc w _ (some b)).trans hg⟩

theorem among_at (B b k : Nat) (A : Option Addr) (n cap : Nat) (zs : List UInt8) (w : World) (g : Nat) (hg : w.heap.size = g) (m cp : Nat) (xs : List Int) (hk : k ≤ 80000) (h : Cur w B b k A n cap zs) (hm : xs.length = m) (h0 : 0 < m) (h1 : m ≤ 200) :
    Calls Tryz.prog 85 #[.pointer (some ⟨b, 0, none⟩), .slice (some ⟨g, 0, none⟩) m cp] (w.alloc (.cells (intsV xs).toArray 3)) (curs.APost B b (k + 1) A n cap zs xs w) := by
  subst hg
  exact among_new B b k A n cap zs w m cp xs hk h hm h0 h1

/-- one among the first m of some numbers -/
theorem among_pre (B b k : Nat) (A : Option Addr) (n cap : Nat) (zs : List UInt8) (w : World) (g m cp : Nat) (xs : List Int) (hk : k ≤ 80000) (h : Cur w B b k A n cap zs) (hg : Blk w g 3 (intsV xs).toArray) (hne : g ≠ b) (hm : m ≤ xs.length) (h0 : 0 < m) (h1 : m ≤ 200) :
    Calls Tryz.prog 85 #[.pointer (some ⟨b, 0, none⟩), .slice (some ⟨g, 0, none⟩) m cp] w (curs.APost B b (k + 1) A n cap zs xs w) := by
  have H := Lib.hid h
  have HG := Lib.hid hg
  have HM := Lib.hid hm
  have HN := Lib.hid hne
  clear h hg hm hne
  go_enter Tryz.func85, Tryz.ntmps85
  go_wp2_with fail
  refine (pick_any B b k A n cap zs _ m (by omega) H.out h0 h1).mono ?_
  rintro e w1 ⟨r, rfl, hr, hC, hgr⟩
  have hrm : r < m := by omega
  have hb1 := HG.out.grown hgr (by simpa using HN.out)
  have hrp : r < xs.length := by have := HM.out; omega
  have HP := Lib.hid (show xs[r] ∈ xs from List.getElem_mem hrp)
  obtain ⟨p, hp⟩ : ∃ p, xs[r] = p := ⟨_, rfl⟩
  have hcell : w1.cell? ⟨g, r, none⟩ = some (.int .i64 p) := by
    rw [hb1.cell]
    simp [intsV, List.getElem?_eq_getElem hrp, hp]
  rw [hp] at HP
  have hri : (r : Int) < (m : Int) := by omega
  have HC := Lib.hid hC
  have HGR := Lib.hid hgr
  clear hC hgr hb1 hp
  go_wp2_with fail
  go_ret
  exact ⟨p, HP.out, rfl, HC.out, HGR.out⟩

/-- a number that is drawn within two others -/
def DPost (B b k : Nat) (A : Option Addr) (n cap : Nat) (zs : List UInt8) (lo hi : Int) (w : World) (e : Ending) (w' : World) : Prop :=
  ∃ x : Int, e = .returned (.int .i64 x) ∧ lo ≤ x ∧ x ≤ hi ∧ Cur w' B b k A n cap zs ∧ w.grownBy w' (some b)

/-- a drawn number, behind its function -/
def OPost (lo hi : Int) (w : World) (e : Ending) (w' : World) : Prop := ∃ x : Int, e = .returned (.int .i64 x) ∧ lo ≤ x ∧ x ≤ hi ∧ Below w.heap.size w w'
/-- what the draws leave alone -/
theorem low {w w1 : World} {o : Obj} (hg : (w.alloc o).grownBy w1 (some w.heap.size)) : Below w.heap.size w w1 :=
  ((Below.refl _ w).alloc (Nat.le_refl _) o).grown hg (by simp) (fun k hk => by injection hk with hk; omega)

end Go.Proofs.YtnpghhpcloljeabGreatDoor.curd

namespace Go.Proofs.YtnpghhpcloljeabGreatDoor.cure
open Go.RowKit
open reads curs curd
set_option linter.unusedVariables false

section
variable {w v v' : World} {B b k : Nat} {A : Option Addr} {n cap : Nat} {zs : List UInt8}
theorem cur_set (h : Cur v B b k A n cap zs) {p : Addr} (hp : b ≠ p.block) (hB : B ≤ p.block) (u : Value) : Cur (v.setCell p u) B b k A n cap zs := by
  obtain ⟨c1, c2, c3, pos, sd, c4, c5, c6, c7⟩ := h
  exact ⟨c1, c2.setCell hB u, c3, pos, sd, c4, c5, c6, c7.far hp u⟩
theorem grown_set {r : Option Nat} (h : w.grownBy v r) {p : Addr} (hp : w.heap.size ≤ p.block) (u : Value) : w.grownBy (v.setCell p u) r :=
  ⟨h.os, h.tape, h.output, by simpa [World.setCell] using h.size, fun i hi hne => (Below.heap_setCell v p u i (by omega)).trans (h.block i hi hne)⟩
theorem cur_below (h : Cur v B b k A n cap zs) (hb : Below v.heap.size v v') : Cur v' B b k A n cap zs := by
  obtain ⟨c1, c2, c3, pos, sd, c4, c5, c6, c7⟩ := h
  have l := c7.lt
  exact ⟨c1, c2.below (hb.mono (by omega)), c3, pos, sd, c4, c5, c6, c7.below hb l⟩
theorem own_base {base base' size m : Nat} {e : TypeId} {x : Value} {xs : List Value} (hb : base' ≤ base) (h : w.ownsRow base e size x m xs) : w.ownsRow base' e size x m xs := by
  refine ⟨h.1, ?_⟩
  rcases h.2 with ⟨e1, e2⟩ | ⟨g, cp, cur, e1, e2, e3⟩
  · exact .inl ⟨e1, e2⟩
  · exact .inr ⟨g, cp, cur, e1, by omega, e3⟩
/-- a list of one's own that lies beside the cursor is kept by draws -/
theorem own_step {base size m : Nat} {e : TypeId} {x : Value} {xs : List Value} (h : v.ownsRow base e size x m xs) (hg : v.grownBy v' (some b)) (hb : b < base) : v'.ownsRow base e size x m xs :=
  h.kept hg (by
    cases q : x.ownBlock with
    | none => exact .inl rfl
    | some g => exact .inr (fun e => by have := (h.lt g q).1; injection e with e; omega))
end
end Go.Proofs.YtnpghhpcloljeabGreatDoor.cure

namespace Go.Proofs.YtnpghhpcloljeabGreatDoor.drl
open Go.RowKit
open reads curs curd cure ty
set_option linter.unusedVariables false
set_option linter.unusedSimpArgs false

theorem grown_refl (u : World) (r : Option Nat) : u.grownBy u r := ⟨rfl, rfl, rfl, Nat.le_refl _, fun _ _ _ => rfl⟩
/-- bounds that drawn legs keep, valid or not -/
def okD (t : Lg) : Prop := (-1000 ≤ t.frm ∧ t.frm ≤ 1000) ∧ (-1000 ≤ t.to_ ∧ t.to_ ≤ 1000) ∧ (-1000 ≤ t.tape ∧ t.tape ≤ 1000) ∧ (-1000 ≤ t.comp ∧ t.comp ≤ 1000) ∧ (-1000 ≤ t.slope ∧ t.slope ≤ 1000)
/-- a struct in the making: the cursor, the answer's block, the struct's own -/
def DS (w : World) (B b k : Nat) (A : Option Addr) (n cap : Nat) (zs : List UInt8) (X : Nat) (t : Lg) (v : World) : Prop :=
  Cur v B b k A n cap zs ∧ w.grownBy v (some b) ∧ Blk v w.heap.size 87 #[.int .i64 0, .int .i64 0, .int .i64 0, .int .i64 0, .int .i64 0] ∧ Blk v X 87 #[.int .i64 t.frm, .int .i64 t.to_, .int .i64 t.tape, .int .i64 t.comp, .int .i64 t.slope] ∧ w.heap.size < X ∧ b < w.heap.size ∧ B ≤ w.heap.size
section
variable {w v v' : World} {B b k k' : Nat} {A : Option Addr} {n cap : Nat} {zs : List UInt8} {X : Nat} {t : Lg}
theorem DS.step (h : DS w B b k A n cap zs X t v) (hC : Cur v' B b k' A n cap zs) (hg : v.grownBy v' (some b)) : DS w B b k' A n cap zs X t v' := by
  obtain ⟨h1, h2, h3, h4, h5, h6, h7⟩ := h
  exact ⟨hC, h2.trans hg, h3.grown hg (by intro e; injection e with e; omega), h4.grown hg (by intro e; injection e with e; omega), h5, h6, h7⟩
theorem DS.more (h : DS w B b k A n cap zs X t v) (hk : k ≤ k') : DS w B b k' A n cap zs X t v := ⟨cur_more h.1 k' hk, h.2⟩
theorem DS.cells (h : DS w B b k A n cap zs X t v) : v.cell? ⟨X, 0, none⟩ = some (.int .i64 t.frm) ∧ v.cell? ⟨X, 1, none⟩ = some (.int .i64 t.to_) ∧ v.cell? ⟨X, 2, none⟩ = some (.int .i64 t.tape) ∧ v.cell? ⟨X, 3, none⟩ = some (.int .i64 t.comp) ∧ v.cell? ⟨X, 4, none⟩ = some (.int .i64 t.slope) := ⟨h.2.2.2.1.cell 0, h.2.2.2.1.cell 1, h.2.2.2.1.cell 2, h.2.2.2.1.cell 3, h.2.2.2.1.cell 4⟩
theorem DS.rcells (h : DS w B b k A n cap zs X t v) : v.cell? ⟨w.heap.size, 0, none⟩ = some (.int .i64 0) ∧ v.cell? ⟨w.heap.size, 1, none⟩ = some (.int .i64 0) ∧ v.cell? ⟨w.heap.size, 2, none⟩ = some (.int .i64 0) ∧ v.cell? ⟨w.heap.size, 3, none⟩ = some (.int .i64 0) ∧ v.cell? ⟨w.heap.size, 4, none⟩ = some (.int .i64 0) := ⟨h.2.2.1.cell 0, h.2.2.1.cell 1, h.2.2.1.cell 2, h.2.2.1.cell 3, h.2.2.1.cell 4⟩
theorem DS.fro (h : DS w B b k A n cap zs X t v) : ∀ o, v.frozen? ⟨X, o, none⟩ = false := fun o => h.2.2.2.1.frozen o
theorem DS.rfro (h : DS w B b k A n cap zs X t v) : v.frozen? ⟨w.heap.size, 0, none⟩ = false ∧ v.frozen? ⟨w.heap.size, 1, none⟩ = false ∧ v.frozen? ⟨w.heap.size, 2, none⟩ = false ∧ v.frozen? ⟨w.heap.size, 3, none⟩ = false ∧ v.frozen? ⟨w.heap.size, 4, none⟩ = false := ⟨h.2.2.1.frozen 0, h.2.2.1.frozen 1, h.2.2.1.frozen 2, h.2.2.1.frozen 3, h.2.2.1.frozen 4⟩
theorem DS.put (h : DS w B b k A n cap zs X t v) (j : Nat) (y : Value) (t' : Lg) (e : (#[.int .i64 t.frm, .int .i64 t.to_, .int .i64 t.tape, .int .i64 t.comp, .int .i64 t.slope] : Array Value).setIfInBounds j y = #[.int .i64 t'.frm, .int .i64 t'.to_, .int .i64 t'.tape, .int .i64 t'.comp, .int .i64 t'.slope]) :
    DS w B b k A n cap zs X t' (v.setCell ⟨X, j, none⟩ y) := by
  obtain ⟨h1, h2, h3, h4, h5, h6, h7⟩ := h
  refine ⟨cur_set h1 (by show b ≠ X; omega) (by show B ≤ X; omega) _, grown_set h2 (by show _ ≤ X; omega) _, h3.far (by show _ ≠ X; omega) _, ?_, h5, h6, h7⟩
  rw [← e]; exact h4.set_ j _
/-- the struct goes out -/
theorem DS.out (h : DS w B b k A n cap zs X t v) : Cur (((((v.setCell ⟨w.heap.size, 0, none⟩ (.int .i64 t.frm)).setCell ⟨w.heap.size, 1, none⟩ (.int .i64 t.to_)).setCell ⟨w.heap.size, 2, none⟩ (.int .i64 t.tape)).setCell ⟨w.heap.size, 3, none⟩ (.int .i64 t.comp)).setCell ⟨w.heap.size, 4, none⟩ (.int .i64 t.slope)) B b k A n cap zs ∧ w.grownBy (((((v.setCell ⟨w.heap.size, 0, none⟩ (.int .i64 t.frm)).setCell ⟨w.heap.size, 1, none⟩ (.int .i64 t.to_)).setCell ⟨w.heap.size, 2, none⟩ (.int .i64 t.tape)).setCell ⟨w.heap.size, 3, none⟩ (.int .i64 t.comp)).setCell ⟨w.heap.size, 4, none⟩ (.int .i64 t.slope)) (some b) := by
  obtain ⟨h1, h2, h3, h4, h5, h6, h7⟩ := h
  have hne : b ≠ w.heap.size := by omega
  exact ⟨(cur_set (cur_set (cur_set (cur_set (cur_set h1 hne h7 _) hne h7 _) hne h7 _) hne h7 _) hne h7 _), (grown_set (grown_set (grown_set (grown_set (grown_set h2 (Nat.le_refl _) _) (Nat.le_refl _) _) (Nat.le_refl _) _) (Nat.le_refl _) _) (Nat.le_refl _) _)⟩
end
/-- a drawn leg -/
def DPo (B b k : Nat) (A : Option Addr) (n cap : Nat) (zs : List UInt8) (w : World) (e : Ending) (w' : World) : Prop :=
  ∃ t : Lg, e = .returned (.agg #[.int .i64 t.frm, .int .i64 t.to_, .int .i64 t.tape, .int .i64 t.comp, .int .i64 t.slope]) ∧ okD t ∧ Cur w' B b k A n cap zs ∧ w.grownBy w' (some b)
set_option maxHeartbeats 4000000 in
set_option maxRecDepth 100000 in
theorem leg_any (B b k : Nat) (A : Option Addr) (n cap : Nat) (zs : List UInt8) (w : World) (hk : k ≤ 60000) (h : Hid (Cur w B b k A n cap zs)) :
    Calls Tryz.prog 151 #[.pointer (some ⟨b, 0, none⟩)] w (DPo B b (k + 7) A n cap zs w) := by
  have hbl := cur_lt h.out
  have HBB := Lib.hid (show B ≤ w.heap.size by have := h.out.1; omega)
  have HC0 := Lib.hid (cur_alloc h.out HBB.out (.cells #[.int .i64 0, .int .i64 0, .int .i64 0, .int .i64 0, .int .i64 0] 87))
  have HG0 := Lib.hid (grown_refl (w.alloc (.cells #[.int .i64 0, .int .i64 0, .int .i64 0, .int .i64 0, .int .i64 0] 87)) (some b))
  go_enter Tryz.func151, Tryz.ntmps151
  go_wp2_with fail
  refine (pick_any B b k A n cap zs _ 6 (by omega) HC0.out (by decide) (by decide)).mono ?_
  rintro e w1 ⟨r0, rfl, hr0, hC, hg⟩
  have hb0 : r0 ≤ 5 := by omega
  clear hr0
  have HC1 := Lib.hid hC
  have HG1 := Lib.hid (HG0.out.trans hg)
  clear hC hg HC0 HG0
  go_wp2_with fail
  refine (pick_any B b (k + 1) A n cap zs _ 6 (by omega) HC1.out (by decide) (by decide)).mono ?_
  rintro e w2 ⟨r1, rfl, hr1, hC, hg⟩
  have hb1 : r1 ≤ 5 := by omega
  clear hr1
  have HC2 := Lib.hid hC
  have HG2 := Lib.hid (HG1.out.trans hg)
  clear hC hg HC1 HG1
  go_wp2_with fail
  refine (among_new B b (k + 2) A n cap zs w2 7 _ [1, 10, 50, 100, 120, 250, 500] (by omega) HC2.out rfl (by decide) (by decide)).mono ?_
  rintro e w3 ⟨x2, hx2, rfl, hC, hg⟩
  have hb2 : 1 ≤ x2 ∧ x2 ≤ 500 := by simp at hx2; omega
  clear hx2
  have HC3 := Lib.hid hC
  have HG3 := Lib.hid (HG2.out.trans hg)
  clear hC hg HC2 HG2
  go_wp2_with fail
  refine (among_new B b (k + 3) A n cap zs w3 9 _ [0, 45, 90, 135, 180, 270, 359, 17, 222] (by omega) HC3.out rfl (by decide) (by decide)).mono ?_
  rintro e w4 ⟨x3, hx3, rfl, hC, hg⟩
  have hb3 : 0 ≤ x3 ∧ x3 ≤ 359 := by simp at hx3; omega
  clear hx3
  have HC4 := Lib.hid hC
  have HG4 := Lib.hid (HG3.out.trans hg)
  clear hC hg HC3 HG3
  go_wp2_with fail
  refine (among_new B b (k + 4) A n cap zs w4 9 _ [0, 0, 0, 5, -5, 30, -45, 90, -90] (by omega) HC4.out rfl (by decide) (by decide)).mono ?_
  rintro e w5 ⟨x4, hx4, rfl, hC, hg⟩
  have hb4 : -90 ≤ x4 ∧ x4 ≤ 90 := by simp at hx4; omega
  clear hx4
  have HC5 := Lib.hid hC
  have HG5 := Lib.hid (HG4.out.trans hg)
  clear hC hg HC4 HG4
  have HS := Lib.hid (show ∀ X, w5.heap.size = X → DS w B b (k + 5) A n cap zs X ⟨(r0 : Int), (r1 : Int), x2, x3, x4⟩ (w5.alloc (.cells #[.int .i64 (r0 : Int), .int .i64 (r1 : Int), .int .i64 x2, .int .i64 x3, .int .i64 x4] 87)) from fun X hX => by
    subst hX
    have s0 := HG5.out.size
    simp at s0
    have hB2 : B ≤ w5.heap.size := by have := HBB.out; omega
    exact ⟨cur_alloc HC5.out hB2 _, (World.grownBy_alloc w _ (some b)).trans (HG5.out.trans (World.grownBy_alloc w5 _ (some b))), ((Blk.new w _ _).grown HG5.out (by intro e; injection e with e; omega)).alloc _, Blk.new w5 _ _, by omega, hbl, HBB.out⟩)
  obtain ⟨X, HX⟩ : ∃ X, Hid (w5.heap.size = X) := ⟨_, Lib.hid rfl⟩
  have HT := Lib.hid (HS.out X HX.out)
  clear HC5 HG5 HS h
  go_upto_if 22 with fail
  rw [HX.out]
  go_cut [23] (fun _ wx => ∃ t : Lg, okD t ∧ DS w B b (k + 5) A n cap zs X t wx)
  case first =>
    by_cases eq0 : r0 = r1
    · subst eq0
      obtain ⟨c0, c1, c2, c3, c4⟩ := HT.out.cells
      have ff := HT.out.fro 1
      go_wp2_with fail
      go_meet
      case rel => exact ⟨⟨(r0 : Int), ((r0 : Int) + 1) % 6, x2, x3, x4⟩, by unfold okD; (try simp only []); omega, HT.out.put 1 _ _ rfl⟩
    · have d0 : ((r0 : Int) == (r1 : Int)) = false := by simp; omega
      go_wp2_with fail
      go_meet
      case rel => exact ⟨_, by unfold okD; (try simp only []); omega, HT.out⟩
  case rest =>
    obtain ⟨t, hok, hT⟩ := hcut
    have HO := Lib.hid hok
    have HT3 := Lib.hid hT
    clear hT HT HX hok
    go_wp2_with fail
    refine (pick_any B b (k + 5) A n cap zs _ 40 (by omega) HT3.out.1 (by decide) (by decide)).mono ?_
    rintro e w6 ⟨q, rfl, hq, hC, hg⟩
    have HT4 := Lib.hid (HT3.out.step hC hg)
    clear hC hg HT3
    by_cases q0 : q = 0
    · subst q0
      obtain ⟨c0, c1, c2, c3, c4⟩ := HT4.out.cells
      go_wp2_with fail
      refine (among_new B b (k + 6) A n cap zs w6 4 _ [-1, 7, 8, t.frm] (by omega) HT4.out.1 rfl (by decide) (by decide)).mono ?_
      rintro e w7 ⟨y, hy, rfl, hC, hg⟩
      have HO2 := Lib.hid (show okD ⟨t.frm, y, t.tape, t.comp, t.slope⟩ by have := HO.out; unfold okD at this ⊢; simp at hy; (try simp only []); omega)
      have HT5 := Lib.hid (HT4.out.step hC hg)
      clear hC hg HT4 hy c0 c1 c2 c3 c4
      obtain ⟨c0, c1, c2, c3, c4⟩ := HT5.out.cells
      have ff := HT5.out.fro 1
      obtain ⟨d0, d1, d2, d3, d4⟩ := HT5.out.rcells
      obtain ⟨e0, e1, e2, e3, e4⟩ := HT5.out.rfro
      have HT6 := Lib.hid (HT5.out.put 1 (.int .i64 y) ⟨t.frm, y, t.tape, t.comp, t.slope⟩ rfl)
      have hne : w.heap.size ≠ X := by have := HT6.out.2.2.2.2.1; omega
      go_wp2_with fail
      refine bodyPost_ret (v := .agg #[.int .i64 t.frm, .int .i64 y, .int .i64 t.tape, .int .i64 t.comp, .int .i64 t.slope]) (by simp [results, Tryz.results151, go_sem, *]) rfl ⟨⟨t.frm, y, t.tape, t.comp, t.slope⟩, rfl, HO2.out, HT6.out.out⟩
    by_cases q1 : q = 1
    · subst q1
      go_wp2_with fail
      refine (among_new B b (k + 6) A n cap zs w6 2 _ [0, 501] (by omega) HT4.out.1 rfl (by decide) (by decide)).mono ?_
      rintro e w7 ⟨y, hy, rfl, hC, hg⟩
      have HO2 := Lib.hid (show okD ⟨t.frm, t.to_, y, t.comp, t.slope⟩ by have := HO.out; unfold okD at this ⊢; simp at hy; (try simp only []); omega)
      have HT5 := Lib.hid (HT4.out.step hC hg)
      clear hC hg HT4 hy
      obtain ⟨c0, c1, c2, c3, c4⟩ := HT5.out.cells
      have ff := HT5.out.fro 2
      obtain ⟨d0, d1, d2, d3, d4⟩ := HT5.out.rcells
      obtain ⟨e0, e1, e2, e3, e4⟩ := HT5.out.rfro
      have HT6 := Lib.hid (HT5.out.put 2 (.int .i64 y) ⟨t.frm, t.to_, y, t.comp, t.slope⟩ rfl)
      have hne : w.heap.size ≠ X := by have := HT6.out.2.2.2.2.1; omega
      go_wp2_with fail
      refine bodyPost_ret (v := .agg #[.int .i64 t.frm, .int .i64 t.to_, .int .i64 y, .int .i64 t.comp, .int .i64 t.slope]) (by simp [results, Tryz.results151, go_sem, *]) rfl ⟨⟨t.frm, t.to_, y, t.comp, t.slope⟩, rfl, HO2.out, HT6.out.out⟩
    by_cases q2 : q = 2
    · subst q2
      go_wp2_with fail
      refine (among_new B b (k + 6) A n cap zs w6 2 _ [-1, 360] (by omega) HT4.out.1 rfl (by decide) (by decide)).mono ?_
      rintro e w7 ⟨y, hy, rfl, hC, hg⟩
      have HO2 := Lib.hid (show okD ⟨t.frm, t.to_, t.tape, y, t.slope⟩ by have := HO.out; unfold okD at this ⊢; simp at hy; (try simp only []); omega)
      have HT5 := Lib.hid (HT4.out.step hC hg)
      clear hC hg HT4 hy
      obtain ⟨c0, c1, c2, c3, c4⟩ := HT5.out.cells
      have ff := HT5.out.fro 3
      obtain ⟨d0, d1, d2, d3, d4⟩ := HT5.out.rcells
      obtain ⟨e0, e1, e2, e3, e4⟩ := HT5.out.rfro
      have HT6 := Lib.hid (HT5.out.put 3 (.int .i64 y) ⟨t.frm, t.to_, t.tape, y, t.slope⟩ rfl)
      have hne : w.heap.size ≠ X := by have := HT6.out.2.2.2.2.1; omega
      go_wp2_with fail
      refine bodyPost_ret (v := .agg #[.int .i64 t.frm, .int .i64 t.to_, .int .i64 t.tape, .int .i64 y, .int .i64 t.slope]) (by simp [results, Tryz.results151, go_sem, *]) rfl ⟨⟨t.frm, t.to_, t.tape, y, t.slope⟩, rfl, HO2.out, HT6.out.out⟩
    by_cases q3 : q = 3
    · subst q3
      go_wp2_with fail
      refine (among_new B b (k + 6) A n cap zs w6 2 _ [-91, 91] (by omega) HT4.out.1 rfl (by decide) (by decide)).mono ?_
      rintro e w7 ⟨y, hy, rfl, hC, hg⟩
      have HO2 := Lib.hid (show okD ⟨t.frm, t.to_, t.tape, t.comp, y⟩ by have := HO.out; unfold okD at this ⊢; simp at hy; (try simp only []); omega)
      have HT5 := Lib.hid (HT4.out.step hC hg)
      clear hC hg HT4 hy
      obtain ⟨c0, c1, c2, c3, c4⟩ := HT5.out.cells
      have ff := HT5.out.fro 4
      obtain ⟨d0, d1, d2, d3, d4⟩ := HT5.out.rcells
      obtain ⟨e0, e1, e2, e3, e4⟩ := HT5.out.rfro
      have HT6 := Lib.hid (HT5.out.put 4 (.int .i64 y) ⟨t.frm, t.to_, t.tape, t.comp, y⟩ rfl)
      have hne : w.heap.size ≠ X := by have := HT6.out.2.2.2.2.1; omega
      go_wp2_with fail
      refine bodyPost_ret (v := .agg #[.int .i64 t.frm, .int .i64 t.to_, .int .i64 t.tape, .int .i64 t.comp, .int .i64 y]) (by simp [results, Tryz.results151, go_sem, *]) rfl ⟨⟨t.frm, t.to_, t.tape, t.comp, y⟩, rfl, HO2.out, HT6.out.out⟩
    have q0' : ((q : Int) == 0) = false := by simp; omega
    have q1' : ((q : Int) == 1) = false := by simp; omega
    have q2' : ((q : Int) == 2) = false := by simp; omega
    have q3' : ((q : Int) == 3) = false := by simp; omega
    have HT5 := Lib.hid (HT4.out.more (show k + 6 ≤ k + 7 by omega))
    obtain ⟨c0, c1, c2, c3, c4⟩ := HT5.out.cells
    obtain ⟨d0, d1, d2, d3, d4⟩ := HT5.out.rcells
    obtain ⟨e0, e1, e2, e3, e4⟩ := HT5.out.rfro
    clear HT4
    go_wp2_with fail
    refine bodyPost_ret (v := .agg #[.int .i64 t.frm, .int .i64 t.to_, .int .i64 t.tape, .int .i64 t.comp, .int .i64 t.slope]) (by simp [results, Tryz.results151, go_sem, *]) rfl ⟨t, rfl, HO.out, HT5.out.out⟩
end Go.Proofs.YtnpghhpcloljeabGreatDoor.drl

namespace Go.Proofs.YtnpghhpcloljeabGreatDoor.drl
open Go.RowKit
open reads base curs curd cure ty
set_option linter.unusedVariables false
set_option linter.unusedSimpArgs false

/-- a list in the making: the cursor, the list's own block -/
def GS (w : World) (B b k : Nat) (A : Option Addr) (n cap : Nat) (zs : List UInt8) (v : Value) (ts : List Lg) (u : World) : Prop :=
  Cur u B b k A n cap zs ∧ w.grownBy u (some b) ∧ u.ownsRow w.heap.size 87 5 v ts.length (flatLg ts) ∧ (∀ t ∈ ts, okD t) ∧ b < w.heap.size ∧ B ≤ w.heap.size
section
variable {w u u' : World} {B b k k' : Nat} {A : Option Addr} {n cap : Nat} {zs : List UInt8} {v v' : Value} {ts : List Lg}
theorem GS.step (h : GS w B b k A n cap zs v ts u) (hC : Cur u' B b k' A n cap zs) (hg : u.grownBy u' (some b)) : GS w B b k' A n cap zs v ts u' :=
  ⟨hC, h.2.1.trans hg, own_step h.2.2.1 hg h.2.2.2.2.1, h.2.2.2⟩
theorem GS.alloc (h : GS w B b k A n cap zs v ts u) (o : Obj) : GS w B b k A n cap zs v ts (u.alloc o) :=
  ⟨cur_alloc h.1 (by have := h.2.1.size; have := h.2.2.2.2.2; omega) o, h.2.1.trans (World.grownBy_alloc u o (some b)), h.2.2.1.alloc o, h.2.2.2⟩
theorem GS.more (h : GS w B b k A n cap zs v ts u) (hk : k ≤ k') : GS w B b k' A n cap zs v ts u := ⟨cur_more h.1 k' hk, h.2⟩
theorem GS.app (h : GS w B b k A n cap zs v ts u) {t : Lg} (hok : okD t) (ho : u'.ownsRow w.heap.size 87 5 v' (ts.length + 1) (flatLg ts ++ [.int .i64 t.frm, .int .i64 t.to_, .int .i64 t.tape, .int .i64 t.comp, .int .i64 t.slope])) (hg : u.grownBy u' v.ownBlock) : GS w B b k A n cap zs v' (ts ++ [t]) u' := by
  obtain ⟨h1, h2, h3, h4, h5, h6⟩ := h
  have hlo : ∀ g, v.ownBlock = some g → w.heap.size ≤ g := fun g e => (h3.lt g e).1
  obtain ⟨c1, c2, c3, pos, sd, c4, c5, c6, c7⟩ := h1
  have hs := h2.size
  refine ⟨⟨c1, c2.grown hg (by omega) (fun g e => by have := hlo g e; omega), c3, pos, sd, c4, c5, c6, c7.grown hg (fun e => by have := hlo _ e.symm; omega)⟩,
    ⟨hg.os.trans h2.os, hg.tape.trans h2.tape, hg.output.trans h2.output, Nat.le_trans h2.size hg.size, fun i hi hne => (hg.block i (by omega) (fun e => by have := hlo _ e.symm; omega)).trans (h2.block i hi hne)⟩, ?_, ?_, h5, h6⟩
  · rw [List.length_append, List.length_singleton, flatLg_app]; exact ho
  · intro x hx
    rcases List.mem_append.1 hx with q | q
    · exact h4 x q
    · rw [List.mem_singleton.1 q]; exact hok
end
/-- drawn legs -/
def GPo (B b k : Nat) (A : Option Addr) (n cap : Nat) (zs : List UInt8) (w : World) (e : Ending) (w' : World) : Prop :=
  ∃ (v : Value) (ts : List Lg), e = .returned v ∧ ts.length ≤ 13 ∧ GS w B b k A n cap zs v ts w'
/-- drawn legs, behind their function -/
def DLPo (w : World) (e : Ending) (w' : World) : Prop := ∃ (v : Value) (ts : List Lg), e = .returned v ∧ w'.ownsRow w.heap.size 87 5 v ts.length (flatLg ts) ∧ ts.length ≤ 13 ∧ Below w.heap.size w w'
end Go.Proofs.YtnpghhpcloljeabGreatDoor.drl

namespace Go.Proofs.YtnpghhpcloljeabGreatDoor.sb
open Go.RowKit
open reads base sn inn
set_option linter.unusedVariables false

theorem bout {a x b : Int} (h : ¬ (a ≤ x ∧ x ≤ b)) : (decide (a ≤ x) && decide (x ≤ b)) = false := by simp; omega
theorem band {a x b : Int} (h0 : a ≤ x) (h1 : x ≤ b) : (decide (a ≤ x) && decide (x ≤ b)) = true := by simp [h0, h1]

/-- the first greatest one of f 0 .. f n -/
def bst (f : Nat → Int) : Nat → Nat
  | 0 => 0
  | n + 1 => if f (bst f n) < f (n + 1) then n + 1 else bst f n
theorem bst_le (f : Nat → Int) : ∀ n, bst f n ≤ n
  | 0 => Nat.le_refl _
  | n + 1 => by
    have := bst_le f n
    rw [bst]
    split <;> omega
theorem bst_spec (f : Nat → Int) : ∀ n, (∀ j, j ≤ n → f j ≤ f (bst f n)) ∧ ∀ j, j < bst f n → f j < f (bst f n)
  | 0 => ⟨fun j hj => by obtain rfl : j = 0 := by omega
                         exact Int.le_refl _, fun j hj => by rw [bst] at hj; omega⟩
  | n + 1 => by
    obtain ⟨h1, h2⟩ := bst_spec f n
    rw [bst]
    split
    · rename_i h
      refine ⟨fun j hj => ?_, fun j hj => ?_⟩
      · by_cases e : j = n + 1
        · rw [e]; exact Int.le_refl _
        · have := h1 j (by omega); omega
      · have := h1 j (by omega); omega
    · rename_i h
      refine ⟨fun j hj => ?_, h2⟩
      by_cases e : j = n + 1
      · rw [e]; omega
      · exact h1 j (by omega)
theorem bst_uniq (f : Nat → Int) (n m : Nat) (hm : m ≤ n) (h1 : ∀ j, j ≤ n → f j ≤ f m) (h2 : ∀ j, j < m → f j < f m) : bst f n = m := by
  obtain ⟨k1, k2⟩ := bst_spec f n
  have hl := bst_le f n
  rcases Nat.lt_trichotomy (bst f n) m with h | h | h
  · have a := h2 _ h
    have b := k1 m hm
    omega
  · exact h
  · have a := k2 _ h
    have b := h1 _ hl
    omega

/-- how a bearing fits -/
def fitB (e n : Int) (b : Nat) : Int := e * sinZ b + n * cosZ b
def okB (e n : Int) : Prop := (-100000 ≤ e ∧ e ≤ 100000) ∧ (-100000 ≤ n ∧ n ≤ 100000) ∧ ¬ (e = 0 ∧ n = 0)
instance (e n : Int) : Decidable (okB e n) := by unfold okB; exact inferInstance
def bestB (e n : Int) : Nat := bst (fitB e n) 359
/-- what BearingTo answers -/
def ansBearing (e n : Int) : Value := if okB e n then .tuple #[.int .i64 (bestB e n), .bool true] else .tuple #[.int .i64 0, .bool false]

set_option maxHeartbeats 4000000 in
set_option maxRecDepth 100000 in
theorem bearingTo_model (e n : Int) (w : World) : Calls Tryz.prog 149 #[.int .i64 e, .int .i64 n] w (APost (ansBearing e n) w) := by
  by_cases h : -100000 ≤ e ∧ e ≤ 100000
  · by_cases k : -100000 ≤ n ∧ n ≤ 100000
    · have H1 := Lib.hid (band h.1 h.2)
      have H2 := Lib.hid (band k.1 k.2)
      by_cases e0 : e = 0
      · by_cases n0 : n = 0
        · have HA := Lib.hid (show ansBearing e n = .tuple #[.int .i64 0, .bool false] from if_neg (fun c => c.2.2 ⟨e0, n0⟩))
          clear h k
          subst e0 n0
          go_enter Tryz.func149, Tryz.ntmps149
          go_wp2_with fail
          refine (len.long_is _ true H1.out _).mono ?_
          rintro e w' ⟨rfl, rfl⟩
          go_wp2_with fail
          refine (len.long_is _ true H2.out _).mono ?_
          rintro e w' ⟨rfl, rfl⟩
          go_wp2_with fail
          go_ret2
          exact ⟨by rw [HA.out]; rfl, Below.refl _ _⟩
        · have HA := Lib.hid (show ansBearing e n = .tuple #[.int .i64 (bestB e n), .bool true] from if_pos ⟨h, k, fun c => n0 c.2⟩)
          obtain ⟨k0, k1⟩ := k
          have hz : (n == 0) = false := by simpa using n0
          clear h
          subst e0
          go_enter Tryz.func149, Tryz.ntmps149
          go_wp2_with fail
          refine (len.long_is _ true H1.out _).mono ?_
          rintro e w' ⟨rfl, rfl⟩
          go_wp2_with fail
          refine (len.long_is _ true H2.out _).mono ?_
          rintro e w' ⟨rfl, rfl⟩
          go_wp2_with fail
          go_loopw [6, 7] (fun v i wr => ∃ k : Nat, 1 ≤ k ∧ k ≤ 360 ∧ i = .int .i64 k ∧ v = .int .i64 (bst (fitB 0 n) (k - 1) : Nat) ∧ Below w.heap.size w wr) (fun _ i _ => 360 - (intOf i).toNat)
          case atStart => exact ⟨1, Nat.le_refl _, by decide, rfl, rfl, Below.refl _ _⟩
          case round =>
            obtain ⟨k, h1, h2, rfl, rfl, hB⟩ := hrel
            have hm := bst_le (fitB 0 n) (k - 1)
            obtain ⟨m, HM⟩ : ∃ m, Hid (bst (fitB 0 n) (k - 1) = m) := ⟨_, Lib.hid rfl⟩
            rw [HM.out] at hm ⊢
            have HB := Lib.hid hB
            clear hB
            by_cases hlt : k < 360
            · have HK := Lib.hid (show bst (fitB 0 n) (k + 1 - 1) = if fitB 0 n m < fitB 0 n k then k else m by
                obtain ⟨j, rfl⟩ : ∃ j, k = j + 1 := ⟨k - 1, by omega⟩
                have ej : j + 1 - 1 = j := by omega
                rw [ej] at HM
                show bst (fitB 0 n) (j + 1) = _
                rw [bst, HM.out])
              obtain ⟨s1, HS1⟩ : ∃ v, Hid (sinZ (k : Int) = v) := ⟨_, Lib.hid rfl⟩
              obtain ⟨c1, HC1⟩ : ∃ v, Hid (cosZ (k : Int) = v) := ⟨_, Lib.hid rfl⟩
              obtain ⟨s2, HS2⟩ : ∃ v, Hid (sinZ (m : Int) = v) := ⟨_, Lib.hid rfl⟩
              obtain ⟨c2, HC2⟩ : ∃ v, Hid (cosZ (m : Int) = v) := ⟨_, Lib.hid rfl⟩
              have HF1 := Lib.hid (show fitB 0 n k = 0 * s1 + n * c1 by rw [fitB, HS1.out, HC1.out])
              have HF2 := Lib.hid (show fitB 0 n m = 0 * s2 + n * c2 by rw [fitB, HS2.out, HC2.out])
              rw [HF1.out, HF2.out] at HK
              have b1 := sinZ_bd (k : Int)
              have b2 := cosZ_bd (k : Int)
              have b3 := sinZ_bd (m : Int)
              have b4 := cosZ_bd (m : Int)
              rw [HS1.out] at b1
              rw [HC1.out] at b2
              rw [HS2.out] at b3
              rw [HC2.out] at b4
              obtain ⟨p1, q1⟩ := prod_bd 0 s1 (by omega) (by omega) b1.1 b1.2
              obtain ⟨p2, q2⟩ := prod_bd n c1 (by omega) (by omega) b2.1 b2.2
              obtain ⟨p3, q3⟩ := prod_bd 0 s2 (by omega) (by omega) b3.1 b3.2
              obtain ⟨p4, q4⟩ := prod_bd n c2 (by omega) (by omega) b4.1 b4.2
              clear HF1 HF2 b1 b2 b3 b4
              go_wp2_with fail
              refine (sine_is k s1 HS1.out _ (by omega) (by omega)).mono ?_
              rintro e w1 ⟨rfl, x1⟩
              go_wp2_with fail
              refine (cosine_is k c1 HC1.out _ (by omega) (by omega)).mono ?_
              rintro e w2 ⟨rfl, x2⟩
              go_wp2_with fail
              refine (sine_is m s2 HS2.out _ (by omega) (by omega)).mono ?_
              rintro e w3 ⟨rfl, x3⟩
              go_wp2_with fail
              refine (cosine_is m c2 HC2.out _ (by omega) (by omega)).mono ?_
              rintro e w4 ⟨rfl, x4⟩
              have y1 := HB.out.trans (x1.mono HB.out.size)
              have y2 := y1.trans (x2.mono y1.size)
              have y3 := y2.trans (x3.mono y2.size)
              have HB4 := Lib.hid (y3.trans (x4.mono y3.size))
              clear x1 x2 x3 x4 y1 y2 y3
              by_cases hgt : 0 * s2 + n * c2 < 0 * s1 + n * c1
              · have HR := Lib.hid (show bst (fitB 0 n) (k + 1 - 1) = k by rw [HK.out, if_pos hgt])
                go_wp2_with fail
                go_roundw
                case rel => exact ⟨k + 1, by omega, by omega, by go_num, by rw [HR.out], HB4.out⟩
                case measure => simp [intOf]; omega
              · have HR := Lib.hid (show bst (fitB 0 n) (k + 1 - 1) = m by rw [HK.out, if_neg hgt])
                go_wp2_with fail
                go_roundw
                case rel => exact ⟨k + 1, by omega, by omega, by go_num, by rw [HR.out], HB4.out⟩
                case measure => simp [intOf]; omega
            · have HE := Lib.hid (show bestB 0 n = m by rw [← HM.out, bestB]; congr 1; omega)
              go_wp2_with fail
              go_ret2
              exact ⟨by rw [HA.out, HE.out]; rfl, HB.out⟩
      · have HA := Lib.hid (show ansBearing e n = .tuple #[.int .i64 (bestB e n), .bool true] from if_pos ⟨h, k, fun c => e0 c.1⟩)
        obtain ⟨h0, h1⟩ := h
        obtain ⟨k0, k1⟩ := k
        have hz : (e == 0) = false := by simpa using e0
        go_enter Tryz.func149, Tryz.ntmps149
        go_wp2_with fail
        refine (len.long_is _ true H1.out _).mono ?_
        rintro r w' ⟨rfl, rfl⟩
        go_wp2_with fail
        refine (len.long_is _ true H2.out _).mono ?_
        rintro r w' ⟨rfl, rfl⟩
        go_wp2_with fail
        go_loopw [6, 7] (fun v i wr => ∃ k : Nat, 1 ≤ k ∧ k ≤ 360 ∧ i = .int .i64 k ∧ v = .int .i64 (bst (fitB e n) (k - 1) : Nat) ∧ Below w.heap.size w wr) (fun _ i _ => 360 - (intOf i).toNat)
        case atStart => exact ⟨1, Nat.le_refl _, by decide, rfl, rfl, Below.refl _ _⟩
        case round =>
          obtain ⟨k, h1, h2, rfl, rfl, hB⟩ := hrel
          have hm := bst_le (fitB e n) (k - 1)
          obtain ⟨m, HM⟩ : ∃ m, Hid (bst (fitB e n) (k - 1) = m) := ⟨_, Lib.hid rfl⟩
          rw [HM.out] at hm ⊢
          have HB := Lib.hid hB
          clear hB
          by_cases hlt : k < 360
          · have HK := Lib.hid (show bst (fitB e n) (k + 1 - 1) = if fitB e n m < fitB e n k then k else m by
              obtain ⟨j, rfl⟩ : ∃ j, k = j + 1 := ⟨k - 1, by omega⟩
              have ej : j + 1 - 1 = j := by omega
              rw [ej] at HM
              show bst (fitB e n) (j + 1) = _
              rw [bst, HM.out])
            obtain ⟨s1, HS1⟩ : ∃ v, Hid (sinZ (k : Int) = v) := ⟨_, Lib.hid rfl⟩
            obtain ⟨c1, HC1⟩ : ∃ v, Hid (cosZ (k : Int) = v) := ⟨_, Lib.hid rfl⟩
            obtain ⟨s2, HS2⟩ : ∃ v, Hid (sinZ (m : Int) = v) := ⟨_, Lib.hid rfl⟩
            obtain ⟨c2, HC2⟩ : ∃ v, Hid (cosZ (m : Int) = v) := ⟨_, Lib.hid rfl⟩
            have HF1 := Lib.hid (show fitB e n k = e * s1 + n * c1 by rw [fitB, HS1.out, HC1.out])
            have HF2 := Lib.hid (show fitB e n m = e * s2 + n * c2 by rw [fitB, HS2.out, HC2.out])
            rw [HF1.out, HF2.out] at HK
            have b1 := sinZ_bd (k : Int)
            have b2 := cosZ_bd (k : Int)
            have b3 := sinZ_bd (m : Int)
            have b4 := cosZ_bd (m : Int)
            rw [HS1.out] at b1
            rw [HC1.out] at b2
            rw [HS2.out] at b3
            rw [HC2.out] at b4
            obtain ⟨p1, q1⟩ := prod_bd e s1 (by omega) (by omega) b1.1 b1.2
            obtain ⟨p2, q2⟩ := prod_bd n c1 (by omega) (by omega) b2.1 b2.2
            obtain ⟨p3, q3⟩ := prod_bd e s2 (by omega) (by omega) b3.1 b3.2
            obtain ⟨p4, q4⟩ := prod_bd n c2 (by omega) (by omega) b4.1 b4.2
            clear HF1 HF2 b1 b2 b3 b4
            go_wp2_with fail
            refine (sine_is k s1 HS1.out _ (by omega) (by omega)).mono ?_
            rintro r w1 ⟨rfl, x1⟩
            go_wp2_with fail
            refine (cosine_is k c1 HC1.out _ (by omega) (by omega)).mono ?_
            rintro r w2 ⟨rfl, x2⟩
            go_wp2_with fail
            refine (sine_is m s2 HS2.out _ (by omega) (by omega)).mono ?_
            rintro r w3 ⟨rfl, x3⟩
            go_wp2_with fail
            refine (cosine_is m c2 HC2.out _ (by omega) (by omega)).mono ?_
            rintro r w4 ⟨rfl, x4⟩
            have y1 := HB.out.trans (x1.mono HB.out.size)
            have y2 := y1.trans (x2.mono y1.size)
            have y3 := y2.trans (x3.mono y2.size)
            have HB4 := Lib.hid (y3.trans (x4.mono y3.size))
            clear x1 x2 x3 x4 y1 y2 y3
            by_cases hgt : e * s2 + n * c2 < e * s1 + n * c1
            · have HR := Lib.hid (show bst (fitB e n) (k + 1 - 1) = k by rw [HK.out, if_pos hgt])
              go_wp2_with fail
              go_roundw
              case rel => exact ⟨k + 1, by omega, by omega, by go_num, by rw [HR.out], HB4.out⟩
              case measure => simp [intOf]; omega
            · have HR := Lib.hid (show bst (fitB e n) (k + 1 - 1) = m by rw [HK.out, if_neg hgt])
              go_wp2_with fail
              go_roundw
              case rel => exact ⟨k + 1, by omega, by omega, by go_num, by rw [HR.out], HB4.out⟩
              case measure => simp [intOf]; omega
          · have HE := Lib.hid (show bestB e n = m by rw [← HM.out, bestB]; congr 1; omega)
            go_wp2_with fail
            go_ret2
            exact ⟨by rw [HA.out, HE.out]; rfl, HB.out⟩
    · have HA := Lib.hid (show ansBearing e n = .tuple #[.int .i64 0, .bool false] from if_neg (fun c => k c.2.1))
      have H1 := Lib.hid (band h.1 h.2)
      have H2 := Lib.hid (bout k)
      clear h k
      go_enter Tryz.func149, Tryz.ntmps149
      go_wp2_with fail
      refine (len.long_is _ true H1.out _).mono ?_
      rintro r w' ⟨rfl, rfl⟩
      go_wp2_with fail
      refine (len.long_is _ false H2.out _).mono ?_
      rintro r w' ⟨rfl, rfl⟩
      go_wp2_with fail
      go_ret2
      exact ⟨by rw [HA.out]; rfl, Below.refl _ _⟩
  · have HA := Lib.hid (show ansBearing e n = .tuple #[.int .i64 0, .bool false] from if_neg (fun c => h c.1))
    have H1 := Lib.hid (bout h)
    clear h
    go_enter Tryz.func149, Tryz.ntmps149
    go_wp2_with fail
    refine (len.long_is _ false H1.out _).mono ?_
    rintro r w' ⟨rfl, rfl⟩
    go_wp2_with fail
    go_ret2
    exact ⟨by rw [HA.out]; rfl, Below.refl _ _⟩
end Go.Proofs.YtnpghhpcloljeabGreatDoor.sb

namespace Go.Proofs.YtnpghhpcloljeabGreatDoor.sb
open Go.RowKit
open reads base sn inn
set_option linter.unusedVariables false

/-- the slopes in their order: 0, 1, -1, 2, -2 .. -/
def cand (i : Nat) : Int := if i % 2 = 1 then (((i + 1) / 2 : Nat) : Int) else -((i / 2 : Nat) : Int)
theorem cand_odd (j : Nat) (h : 1 ≤ j) : cand (2 * (j - 1) + 1) = (j : Int) := by unfold cand; rw [if_pos (by omega)]; omega
theorem cand_even (j : Nat) (h : 1 ≤ j) : cand (2 * (j - 1) + 2) = -(j : Int) := by unfold cand; rw [if_neg (by omega)]; omega
theorem cand_start (f : Nat → Int) : Value.int .i64 0 = Value.int .i64 (cand (bst f (2 * (1 - 1)))) := by simp [bst, cand]
theorem cand_bd (i : Nat) (h : i ≤ 180) : -90 ≤ cand i ∧ cand i ≤ 90 := by unfold cand; split <;> omega
theorem cos_even : ∀ j : Fin 91, cosZ (-(j.val : Int)) = cosZ (j.val : Int) := by decide +kernel
/-- how a slope fits -/
def fitS (l u : Int) (i : Nat) : Int := l * cosZ (cand i) + u * sinZ (cand i)
def okS (l u : Int) : Prop := (0 ≤ l ∧ l ≤ 100000) ∧ (-100000 ≤ u ∧ u ≤ 100000) ∧ ¬ (l = 0 ∧ u = 0)
instance (l u : Int) : Decidable (okS l u) := by unfold okS; exact inferInstance
def bestS (l u : Int) : Int := cand (bst (fitS l u) 180)
/-- what SlopeTo answers -/
def ansSlope (l u : Int) : Value := if okS l u then .tuple #[.int .i64 (bestS l u), .bool true] else .tuple #[.int .i64 0, .bool false]

set_option maxHeartbeats 4000000 in
set_option maxRecDepth 100000 in
theorem slopeTo_model (l u : Int) (w : World) : Calls Tryz.prog 150 #[.int .i64 l, .int .i64 u] w (APost (ansSlope l u) w) := by
  by_cases h : 0 ≤ l ∧ l ≤ 100000
  · by_cases k : -100000 ≤ u ∧ u ≤ 100000
    · have H1 := Lib.hid (band h.1 h.2)
      have H2 := Lib.hid (band k.1 k.2)
      by_cases e0 : l = 0
      · by_cases n0 : u = 0
        · have HA := Lib.hid (show ansSlope l u = .tuple #[.int .i64 0, .bool false] from if_neg (fun c => c.2.2 ⟨e0, n0⟩))
          clear h k
          subst e0 n0
          go_enter Tryz.func150, Tryz.ntmps150
          go_wp2_with fail
          refine (in_is _ _ _ true H1.out _).mono ?_
          rintro r w' ⟨rfl, rfl⟩
          go_wp2_with fail
          refine (len.long_is _ true H2.out _).mono ?_
          rintro r w' ⟨rfl, rfl⟩
          go_wp2_with fail
          go_ret2
          exact ⟨by rw [HA.out]; rfl, Below.refl _ _⟩
        · have HA := Lib.hid (show ansSlope l u = .tuple #[.int .i64 (bestS l u), .bool true] from if_pos ⟨h, k, fun c => n0 c.2⟩)
          obtain ⟨k0, k1⟩ := k
          have hz : (u == 0) = false := by simpa using n0
          clear h
          subst e0
          go_enter Tryz.func150, Tryz.ntmps150
          go_wp2_with fail
          refine (in_is _ _ _ true H1.out _).mono ?_
          rintro r w' ⟨rfl, rfl⟩
          go_wp2_with fail
          refine (len.long_is _ true H2.out _).mono ?_
          rintro r w' ⟨rfl, rfl⟩
          go_wp2_with fail
          go_loopw [6, 7, 8] (fun v s _ wr => ∃ j : Nat, 1 ≤ j ∧ j ≤ 91 ∧ s = .int .i64 j ∧ v = .int .i64 (cand (bst (fitS 0 u) (2 * (j - 1)))) ∧ Below w.heap.size w wr) (fun _ s _ _ => 91 - (intOf s).toNat)
          case atStart => exact ⟨1, Nat.le_refl _, by decide, rfl, cand_start _, Below.refl _ _⟩
          case round =>
            obtain ⟨j, j1, j2, rfl, rfl, hB⟩ := hrel
            have HB0 := Lib.hid hB
            clear hB
            by_cases hlt : j < 91
            · have hj90 : (j : Int) ≤ 90 := by omega
              have hjn : j ≤ 90 := by omega
              have hjd : decide ((j : Int) ≤ 90) = true := by simpa using hj90
              have hjd2 : decide (j ≤ 90) = true := by simpa using hjn
              go_wp2_with fail
              go_loopw [6, 8] (fun v q wr => ∃ i : Nat, ((i = 0 ∧ q = .int .i64 1) ∨ (i = 1 ∧ q = .int .i64 (-1)) ∨ (i = 2 ∧ q = .int .i64 (-3))) ∧ v = .int .i64 (cand (bst (fitS 0 u) (2 * (j - 1) + i))) ∧ Below w.heap.size w wr) (fun _ q _ => (intOf q + 3).toNat)
              case atStart => exact ⟨0, .inl ⟨rfl, rfl⟩, rfl, HB0.out⟩
              case round =>
                obtain ⟨i, hi, rfl, hB⟩ := hrel
                have HB := Lib.hid hB
                clear hB
                have hm := bst_le (fitS 0 u) (2 * (j - 1) + i)
                obtain ⟨m, HM⟩ : ∃ m, Hid (bst (fitS 0 u) (2 * (j - 1) + i) = m) := ⟨_, Lib.hid rfl⟩
                rw [HM.out] at hm ⊢
                obtain ⟨bb, HBB⟩ : ∃ bb, Hid (cand m = bb) := ⟨_, Lib.hid rfl⟩
                rcases hi with ⟨rfl, rfl⟩ | ⟨rfl, rfl⟩ | ⟨rfl, rfl⟩
                · have hbb := cand_bd m (by omega)
                  rw [HBB.out] at hbb ⊢
                  have HK := Lib.hid (show bst (fitS 0 u) (2 * (j - 1) + 0 + 1) = if fitS 0 u m < fitS 0 u (2 * (j - 1) + 0 + 1) then 2 * (j - 1) + 0 + 1 else m by
                    have h := HM.out
                    show (if fitS 0 u (bst (fitS 0 u) (2 * (j - 1) + 0)) < fitS 0 u (2 * (j - 1) + 0 + 1) then 2 * (j - 1) + 0 + 1 else bst (fitS 0 u) (2 * (j - 1) + 0)) = _
                    rw [h])
                  have HCA := Lib.hid (cand_odd j j1)
                  obtain ⟨s1, HS1⟩ : ∃ v, Hid (sinZ (j : Int) = v) := ⟨_, Lib.hid rfl⟩
                  obtain ⟨c1, HC1⟩ : ∃ v, Hid (cosZ (j : Int) = v) := ⟨_, Lib.hid rfl⟩
                  have HC0 := Lib.hid (show cosZ (j : Int) = c1 by exact HC1.out)
                  obtain ⟨s2, HS2⟩ : ∃ v, Hid (sinZ bb = v) := ⟨_, Lib.hid rfl⟩
                  obtain ⟨c2, HC2⟩ : ∃ v, Hid (cosZ bb = v) := ⟨_, Lib.hid rfl⟩
                  have HF1 := Lib.hid (show fitS 0 u (2 * (j - 1) + 0 + 1) = 0 * c1 + u * s1 by rw [fitS, HCA.out, HS1.out, HC0.out])
                  have HF2 := Lib.hid (show fitS 0 u m = 0 * c2 + u * s2 by rw [fitS, HBB.out, HS2.out, HC2.out])
                  rw [HF1.out, HF2.out] at HK
                  have b1 := sinZ_bd (j : Int)
                  have b2 := cosZ_bd (j : Int)
                  have b3 := sinZ_bd bb
                  have b4 := cosZ_bd bb
                  rw [HS1.out] at b1
                  rw [HC1.out] at b2
                  rw [HS2.out] at b3
                  rw [HC2.out] at b4
                  obtain ⟨p1, q1⟩ := prod_bd u s1 (by omega) (by omega) b1.1 b1.2
                  obtain ⟨p2, q2⟩ := prod_bd 0 c1 (by omega) (by omega) b2.1 b2.2
                  obtain ⟨p3, q3⟩ := prod_bd u s2 (by omega) (by omega) b3.1 b3.2
                  obtain ⟨p4, q4⟩ := prod_bd 0 c2 (by omega) (by omega) b4.1 b4.2
                  clear HF1 HF2 b1 b2 b3 b4
                  go_wp2_with fail
                  refine (cosine_is j c1 HC1.out _ (by omega) (by omega)).mono ?_
                  rintro r w1 ⟨rfl, x1⟩
                  go_wp2_with fail
                  refine (sine_is _ s1 HS1.out _ (by omega) (by omega)).mono ?_
                  rintro r w2 ⟨rfl, x2⟩
                  go_wp2_with fail
                  refine (cosine_is bb c2 HC2.out _ (by omega) (by omega)).mono ?_
                  rintro r w3 ⟨rfl, x3⟩
                  go_wp2_with fail
                  refine (sine_is bb s2 HS2.out _ (by omega) (by omega)).mono ?_
                  rintro r w4 ⟨rfl, x4⟩
                  have y1 := HB.out.trans (x1.mono HB.out.size)
                  have y2 := y1.trans (x2.mono y1.size)
                  have y3 := y2.trans (x3.mono y2.size)
                  have HB4 := Lib.hid (y3.trans (x4.mono y3.size))
                  clear x1 x2 x3 x4 y1 y2 y3
                  by_cases hgt : 0 * c2 + u * s2 < 0 * c1 + u * s1
                  · have HR := Lib.hid (show cand (bst (fitS 0 u) (2 * (j - 1) + 1)) = (j : Int) by rw [show 2 * (j - 1) + 1 = 2 * (j - 1) + 0 + 1 from rfl, HK.out, if_pos hgt]; exact HCA.out)
                    go_wp2_with fail
                    go_roundw
                    case rel => exact ⟨1, .inr (.inl ⟨rfl, rfl⟩), by rw [HR.out], HB4.out⟩
                    case measure => simp [intOf]
                  · have HR := Lib.hid (show cand (bst (fitS 0 u) (2 * (j - 1) + 1)) = bb by rw [show 2 * (j - 1) + 1 = 2 * (j - 1) + 0 + 1 from rfl, HK.out, if_neg hgt]; exact HBB.out)
                    go_wp2_with fail
                    go_roundw
                    case rel => exact ⟨1, .inr (.inl ⟨rfl, rfl⟩), by rw [HR.out], HB4.out⟩
                    case measure => simp [intOf]
                · have hbb := cand_bd m (by omega)
                  rw [HBB.out] at hbb ⊢
                  have HK := Lib.hid (show bst (fitS 0 u) (2 * (j - 1) + 1 + 1) = if fitS 0 u m < fitS 0 u (2 * (j - 1) + 1 + 1) then 2 * (j - 1) + 1 + 1 else m by
                    have h := HM.out
                    show (if fitS 0 u (bst (fitS 0 u) (2 * (j - 1) + 1)) < fitS 0 u (2 * (j - 1) + 1 + 1) then 2 * (j - 1) + 1 + 1 else bst (fitS 0 u) (2 * (j - 1) + 1)) = _
                    rw [h])
                  have HCA := Lib.hid (cand_even j j1)
                  obtain ⟨s1, HS1⟩ : ∃ v, Hid (sinZ (-(j : Int)) = v) := ⟨_, Lib.hid rfl⟩
                  obtain ⟨c1, HC1⟩ : ∃ v, Hid (cosZ (j : Int) = v) := ⟨_, Lib.hid rfl⟩
                  have HC0 := Lib.hid (show cosZ (-(j : Int)) = c1 by rw [← HC1.out]; exact cos_even ⟨j, by omega⟩)
                  obtain ⟨s2, HS2⟩ : ∃ v, Hid (sinZ bb = v) := ⟨_, Lib.hid rfl⟩
                  obtain ⟨c2, HC2⟩ : ∃ v, Hid (cosZ bb = v) := ⟨_, Lib.hid rfl⟩
                  have HF1 := Lib.hid (show fitS 0 u (2 * (j - 1) + 1 + 1) = 0 * c1 + u * s1 by rw [fitS, HCA.out, HS1.out, HC0.out])
                  have HF2 := Lib.hid (show fitS 0 u m = 0 * c2 + u * s2 by rw [fitS, HBB.out, HS2.out, HC2.out])
                  rw [HF1.out, HF2.out] at HK
                  have b1 := sinZ_bd (-(j : Int))
                  have b2 := cosZ_bd (j : Int)
                  have b3 := sinZ_bd bb
                  have b4 := cosZ_bd bb
                  rw [HS1.out] at b1
                  rw [HC1.out] at b2
                  rw [HS2.out] at b3
                  rw [HC2.out] at b4
                  obtain ⟨p1, q1⟩ := prod_bd u s1 (by omega) (by omega) b1.1 b1.2
                  obtain ⟨p2, q2⟩ := prod_bd 0 c1 (by omega) (by omega) b2.1 b2.2
                  obtain ⟨p3, q3⟩ := prod_bd u s2 (by omega) (by omega) b3.1 b3.2
                  obtain ⟨p4, q4⟩ := prod_bd 0 c2 (by omega) (by omega) b4.1 b4.2
                  clear HF1 HF2 b1 b2 b3 b4
                  go_wp2_with fail
                  refine (cosine_is j c1 HC1.out _ (by omega) (by omega)).mono ?_
                  rintro r w1 ⟨rfl, x1⟩
                  go_wp2_with fail
                  refine (sine_is _ s1 HS1.out _ (by omega) (by omega)).mono ?_
                  rintro r w2 ⟨rfl, x2⟩
                  go_wp2_with fail
                  refine (cosine_is bb c2 HC2.out _ (by omega) (by omega)).mono ?_
                  rintro r w3 ⟨rfl, x3⟩
                  go_wp2_with fail
                  refine (sine_is bb s2 HS2.out _ (by omega) (by omega)).mono ?_
                  rintro r w4 ⟨rfl, x4⟩
                  have y1 := HB.out.trans (x1.mono HB.out.size)
                  have y2 := y1.trans (x2.mono y1.size)
                  have y3 := y2.trans (x3.mono y2.size)
                  have HB4 := Lib.hid (y3.trans (x4.mono y3.size))
                  clear x1 x2 x3 x4 y1 y2 y3
                  by_cases hgt : 0 * c2 + u * s2 < 0 * c1 + u * s1
                  · have HR := Lib.hid (show cand (bst (fitS 0 u) (2 * (j - 1) + 2)) = (-(j : Int)) by rw [show 2 * (j - 1) + 2 = 2 * (j - 1) + 1 + 1 from rfl, HK.out, if_pos hgt]; exact HCA.out)
                    go_wp2_with fail
                    go_roundw
                    case rel => exact ⟨2, .inr (.inr ⟨rfl, rfl⟩), by rw [HR.out], HB4.out⟩
                    case measure => simp [intOf]
                  · have HR := Lib.hid (show cand (bst (fitS 0 u) (2 * (j - 1) + 2)) = bb by rw [show 2 * (j - 1) + 2 = 2 * (j - 1) + 1 + 1 from rfl, HK.out, if_neg hgt]; exact HBB.out)
                    go_wp2_with fail
                    go_roundw
                    case rel => exact ⟨2, .inr (.inr ⟨rfl, rfl⟩), by rw [HR.out], HB4.out⟩
                    case measure => simp [intOf]
                · have HE := Lib.hid (show cand (bst (fitS 0 u) (2 * (j + 1 - 1))) = bb by rw [show 2 * (j + 1 - 1) = 2 * (j - 1) + 2 by omega, HM.out]; exact HBB.out)
                  rw [HBB.out]
                  go_wp2_with fail
                  go_roundw
                  case rel => exact ⟨j + 1, by omega, by omega, by go_num, by rw [HE.out], HB.out⟩
                  case measure => simp [intOf]; omega
            · obtain rfl : j = 91 := by omega
              have HE := Lib.hid (show cand (bst (fitS 0 u) (2 * (91 - 1))) = bestS 0 u from rfl)
              rw [HE.out]
              go_wp2_with fail
              go_ret2
              exact ⟨by rw [HA.out]; rfl, HB0.out⟩
      · have HA := Lib.hid (show ansSlope l u = .tuple #[.int .i64 (bestS l u), .bool true] from if_pos ⟨h, k, fun c => e0 c.1⟩)
        obtain ⟨h0, h1⟩ := h
        obtain ⟨k0, k1⟩ := k
        have hz : (l == 0) = false := by simpa using e0
        go_enter Tryz.func150, Tryz.ntmps150
        go_wp2_with fail
        refine (in_is _ _ _ true H1.out _).mono ?_
        rintro r w' ⟨rfl, rfl⟩
        go_wp2_with fail
        refine (len.long_is _ true H2.out _).mono ?_
        rintro r w' ⟨rfl, rfl⟩
        go_wp2_with fail
        go_loopw [6, 7, 8] (fun v s _ wr => ∃ j : Nat, 1 ≤ j ∧ j ≤ 91 ∧ s = .int .i64 j ∧ v = .int .i64 (cand (bst (fitS l u) (2 * (j - 1)))) ∧ Below w.heap.size w wr) (fun _ s _ _ => 91 - (intOf s).toNat)
        case atStart => exact ⟨1, Nat.le_refl _, by decide, rfl, cand_start _, Below.refl _ _⟩
        case round =>
          obtain ⟨j, j1, j2, rfl, rfl, hB⟩ := hrel
          have HB0 := Lib.hid hB
          clear hB
          by_cases hlt : j < 91
          · have hj90 : (j : Int) ≤ 90 := by omega
            have hjn : j ≤ 90 := by omega
            have hjd : decide ((j : Int) ≤ 90) = true := by simpa using hj90
            have hjd2 : decide (j ≤ 90) = true := by simpa using hjn
            go_wp2_with fail
            go_loopw [6, 8] (fun v q wr => ∃ i : Nat, ((i = 0 ∧ q = .int .i64 1) ∨ (i = 1 ∧ q = .int .i64 (-1)) ∨ (i = 2 ∧ q = .int .i64 (-3))) ∧ v = .int .i64 (cand (bst (fitS l u) (2 * (j - 1) + i))) ∧ Below w.heap.size w wr) (fun _ q _ => (intOf q + 3).toNat)
            case atStart => exact ⟨0, .inl ⟨rfl, rfl⟩, rfl, HB0.out⟩
            case round =>
              obtain ⟨i, hi, rfl, hB⟩ := hrel
              have HB := Lib.hid hB
              clear hB
              have hm := bst_le (fitS l u) (2 * (j - 1) + i)
              obtain ⟨m, HM⟩ : ∃ m, Hid (bst (fitS l u) (2 * (j - 1) + i) = m) := ⟨_, Lib.hid rfl⟩
              rw [HM.out] at hm ⊢
              obtain ⟨bb, HBB⟩ : ∃ bb, Hid (cand m = bb) := ⟨_, Lib.hid rfl⟩
              rcases hi with ⟨rfl, rfl⟩ | ⟨rfl, rfl⟩ | ⟨rfl, rfl⟩
              · have hbb := cand_bd m (by omega)
                rw [HBB.out] at hbb ⊢
                have HK := Lib.hid (show bst (fitS l u) (2 * (j - 1) + 0 + 1) = if fitS l u m < fitS l u (2 * (j - 1) + 0 + 1) then 2 * (j - 1) + 0 + 1 else m by
                  have h := HM.out
                  show (if fitS l u (bst (fitS l u) (2 * (j - 1) + 0)) < fitS l u (2 * (j - 1) + 0 + 1) then 2 * (j - 1) + 0 + 1 else bst (fitS l u) (2 * (j - 1) + 0)) = _
                  rw [h])
                have HCA := Lib.hid (cand_odd j j1)
                obtain ⟨s1, HS1⟩ : ∃ v, Hid (sinZ (j : Int) = v) := ⟨_, Lib.hid rfl⟩
                obtain ⟨c1, HC1⟩ : ∃ v, Hid (cosZ (j : Int) = v) := ⟨_, Lib.hid rfl⟩
                have HC0 := Lib.hid (show cosZ (j : Int) = c1 by exact HC1.out)
                obtain ⟨s2, HS2⟩ : ∃ v, Hid (sinZ bb = v) := ⟨_, Lib.hid rfl⟩
                obtain ⟨c2, HC2⟩ : ∃ v, Hid (cosZ bb = v) := ⟨_, Lib.hid rfl⟩
                have HF1 := Lib.hid (show fitS l u (2 * (j - 1) + 0 + 1) = l * c1 + u * s1 by rw [fitS, HCA.out, HS1.out, HC0.out])
                have HF2 := Lib.hid (show fitS l u m = l * c2 + u * s2 by rw [fitS, HBB.out, HS2.out, HC2.out])
                rw [HF1.out, HF2.out] at HK
                have b1 := sinZ_bd (j : Int)
                have b2 := cosZ_bd (j : Int)
                have b3 := sinZ_bd bb
                have b4 := cosZ_bd bb
                rw [HS1.out] at b1
                rw [HC1.out] at b2
                rw [HS2.out] at b3
                rw [HC2.out] at b4
                obtain ⟨p1, q1⟩ := prod_bd u s1 (by omega) (by omega) b1.1 b1.2
                obtain ⟨p2, q2⟩ := prod_bd l c1 (by omega) (by omega) b2.1 b2.2
                obtain ⟨p3, q3⟩ := prod_bd u s2 (by omega) (by omega) b3.1 b3.2
                obtain ⟨p4, q4⟩ := prod_bd l c2 (by omega) (by omega) b4.1 b4.2
                clear HF1 HF2 b1 b2 b3 b4
                go_wp2_with fail
                refine (cosine_is j c1 HC1.out _ (by omega) (by omega)).mono ?_
                rintro r w1 ⟨rfl, x1⟩
                go_wp2_with fail
                refine (sine_is _ s1 HS1.out _ (by omega) (by omega)).mono ?_
                rintro r w2 ⟨rfl, x2⟩
                go_wp2_with fail
                refine (cosine_is bb c2 HC2.out _ (by omega) (by omega)).mono ?_
                rintro r w3 ⟨rfl, x3⟩
                go_wp2_with fail
                refine (sine_is bb s2 HS2.out _ (by omega) (by omega)).mono ?_
                rintro r w4 ⟨rfl, x4⟩
                have y1 := HB.out.trans (x1.mono HB.out.size)
                have y2 := y1.trans (x2.mono y1.size)
                have y3 := y2.trans (x3.mono y2.size)
                have HB4 := Lib.hid (y3.trans (x4.mono y3.size))
                clear x1 x2 x3 x4 y1 y2 y3
                by_cases hgt : l * c2 + u * s2 < l * c1 + u * s1
                · have HR := Lib.hid (show cand (bst (fitS l u) (2 * (j - 1) + 1)) = (j : Int) by rw [show 2 * (j - 1) + 1 = 2 * (j - 1) + 0 + 1 from rfl, HK.out, if_pos hgt]; exact HCA.out)
                  go_wp2_with fail
                  go_roundw
                  case rel => exact ⟨1, .inr (.inl ⟨rfl, rfl⟩), by rw [HR.out], HB4.out⟩
                  case measure => simp [intOf]
                · have HR := Lib.hid (show cand (bst (fitS l u) (2 * (j - 1) + 1)) = bb by rw [show 2 * (j - 1) + 1 = 2 * (j - 1) + 0 + 1 from rfl, HK.out, if_neg hgt]; exact HBB.out)
                  go_wp2_with fail
                  go_roundw
                  case rel => exact ⟨1, .inr (.inl ⟨rfl, rfl⟩), by rw [HR.out], HB4.out⟩
                  case measure => simp [intOf]
              · have hbb := cand_bd m (by omega)
                rw [HBB.out] at hbb ⊢
                have HK := Lib.hid (show bst (fitS l u) (2 * (j - 1) + 1 + 1) = if fitS l u m < fitS l u (2 * (j - 1) + 1 + 1) then 2 * (j - 1) + 1 + 1 else m by
                  have h := HM.out
                  show (if fitS l u (bst (fitS l u) (2 * (j - 1) + 1)) < fitS l u (2 * (j - 1) + 1 + 1) then 2 * (j - 1) + 1 + 1 else bst (fitS l u) (2 * (j - 1) + 1)) = _
                  rw [h])
                have HCA := Lib.hid (cand_even j j1)
                obtain ⟨s1, HS1⟩ : ∃ v, Hid (sinZ (-(j : Int)) = v) := ⟨_, Lib.hid rfl⟩
                obtain ⟨c1, HC1⟩ : ∃ v, Hid (cosZ (j : Int) = v) := ⟨_, Lib.hid rfl⟩
                have HC0 := Lib.hid (show cosZ (-(j : Int)) = c1 by rw [← HC1.out]; exact cos_even ⟨j, by omega⟩)
                obtain ⟨s2, HS2⟩ : ∃ v, Hid (sinZ bb = v) := ⟨_, Lib.hid rfl⟩
                obtain ⟨c2, HC2⟩ : ∃ v, Hid (cosZ bb = v) := ⟨_, Lib.hid rfl⟩
                have HF1 := Lib.hid (show fitS l u (2 * (j - 1) + 1 + 1) = l * c1 + u * s1 by rw [fitS, HCA.out, HS1.out, HC0.out])
                have HF2 := Lib.hid (show fitS l u m = l * c2 + u * s2 by rw [fitS, HBB.out, HS2.out, HC2.out])
                rw [HF1.out, HF2.out] at HK
                have b1 := sinZ_bd (-(j : Int))
                have b2 := cosZ_bd (j : Int)
                have b3 := sinZ_bd bb
                have b4 := cosZ_bd bb
                rw [HS1.out] at b1
                rw [HC1.out] at b2
                rw [HS2.out] at b3
                rw [HC2.out] at b4
                obtain ⟨p1, q1⟩ := prod_bd u s1 (by omega) (by omega) b1.1 b1.2
                obtain ⟨p2, q2⟩ := prod_bd l c1 (by omega) (by omega) b2.1 b2.2
                obtain ⟨p3, q3⟩ := prod_bd u s2 (by omega) (by omega) b3.1 b3.2
                obtain ⟨p4, q4⟩ := prod_bd l c2 (by omega) (by omega) b4.1 b4.2
                clear HF1 HF2 b1 b2 b3 b4
                go_wp2_with fail
                refine (cosine_is j c1 HC1.out _ (by omega) (by omega)).mono ?_
                rintro r w1 ⟨rfl, x1⟩
                go_wp2_with fail
                refine (sine_is _ s1 HS1.out _ (by omega) (by omega)).mono ?_
                rintro r w2 ⟨rfl, x2⟩
                go_wp2_with fail
                refine (cosine_is bb c2 HC2.out _ (by omega) (by omega)).mono ?_
                rintro r w3 ⟨rfl, x3⟩
                go_wp2_with fail
                refine (sine_is bb s2 HS2.out _ (by omega) (by omega)).mono ?_
                rintro r w4 ⟨rfl, x4⟩
                have y1 := HB.out.trans (x1.mono HB.out.size)
                have y2 := y1.trans (x2.mono y1.size)
                have y3 := y2.trans (x3.mono y2.size)
                have HB4 := Lib.hid (y3.trans (x4.mono y3.size))
                clear x1 x2 x3 x4 y1 y2 y3
                by_cases hgt : l * c2 + u * s2 < l * c1 + u * s1
                · have HR := Lib.hid (show cand (bst (fitS l u) (2 * (j - 1) + 2)) = (-(j : Int)) by rw [show 2 * (j - 1) + 2 = 2 * (j - 1) + 1 + 1 from rfl, HK.out, if_pos hgt]; exact HCA.out)
                  go_wp2_with fail
                  go_roundw
                  case rel => exact ⟨2, .inr (.inr ⟨rfl, rfl⟩), by rw [HR.out], HB4.out⟩
                  case measure => simp [intOf]
                · have HR := Lib.hid (show cand (bst (fitS l u) (2 * (j - 1) + 2)) = bb by rw [show 2 * (j - 1) + 2 = 2 * (j - 1) + 1 + 1 from rfl, HK.out, if_neg hgt]; exact HBB.out)
                  go_wp2_with fail
                  go_roundw
                  case rel => exact ⟨2, .inr (.inr ⟨rfl, rfl⟩), by rw [HR.out], HB4.out⟩
                  case measure => simp [intOf]
              · have HE := Lib.hid (show cand (bst (fitS l u) (2 * (j + 1 - 1))) = bb by rw [show 2 * (j + 1 - 1) = 2 * (j - 1) + 2 by omega, HM.out]; exact HBB.out)
                rw [HBB.out]
                go_wp2_with fail
                go_roundw
                case rel => exact ⟨j + 1, by omega, by omega, by go_num, by rw [HE.out], HB.out⟩
                case measure => simp [intOf]; omega
          · obtain rfl : j = 91 := by omega
            have HE := Lib.hid (show cand (bst (fitS l u) (2 * (91 - 1))) = bestS l u from rfl)
            rw [HE.out]
            go_wp2_with fail
            go_ret2
            exact ⟨by rw [HA.out]; rfl, HB0.out⟩
    · have HA := Lib.hid (show ansSlope l u = .tuple #[.int .i64 0, .bool false] from if_neg (fun c => k c.2.1))
      have H1 := Lib.hid (band h.1 h.2)
      have H2 := Lib.hid (bout k)
      clear h k
      go_enter Tryz.func150, Tryz.ntmps150
      go_wp2_with fail
      refine (in_is _ _ _ true H1.out _).mono ?_
      rintro r w' ⟨rfl, rfl⟩
      go_wp2_with fail
      refine (len.long_is _ false H2.out _).mono ?_
      rintro r w' ⟨rfl, rfl⟩
      go_wp2_with fail
      go_ret2
      exact ⟨by rw [HA.out]; rfl, Below.refl _ _⟩
  · have HA := Lib.hid (show ansSlope l u = .tuple #[.int .i64 0, .bool false] from if_neg (fun c => h c.1))
    have H1 := Lib.hid (bout h)
    clear h
    go_enter Tryz.func150, Tryz.ntmps150
    go_wp2_with fail
    refine (in_is _ _ _ false H1.out _).mono ?_
    rintro r w' ⟨rfl, rfl⟩
    go_wp2_with fail
    go_ret2
    exact ⟨by rw [HA.out]; rfl, Below.refl _ _⟩
end Go.Proofs.YtnpghhpcloljeabGreatDoor.sb

namespace Go.Proofs.YtnpghhpcloljeabGreatDoor.dcv
open Go.RowKit
open reads base curs curd cure ty lg nt drl
set_option linter.unusedVariables false
set_option linter.unusedSimpArgs false

theorem grown_of {w v : World} (hb : Below w.heap.size w v) (r : Option Nat) : w.grownBy v r := ⟨hb.os, hb.tape, hb.output, hb.size, fun j hj _ => hb.block j hj⟩
def BdM (m : Int) (p : Sf) : Prop := (-m ≤ p.east ∧ p.east ≤ m) ∧ (-m ≤ p.north ∧ p.north ≤ m) ∧ (-m ≤ p.up ∧ p.up ≤ m)
section
variable {w u u' : World} {B b k k' : Nat} {A : Option Addr} {n cap : Nat} {zs : List UInt8} {v : Value} {ts : List Lg}
theorem keep_GS (h : GS w B b k A n cap zs v ts u) {r : Option Nat} (hg : u.grownBy u' r) (hr : ∀ g, r = some g → w.heap.size ≤ g ∧ ¬ v.ownBlock = some g) : GS w B b k A n cap zs v ts u' := by
  obtain ⟨h1, h2, h3, h4, h5, h6⟩ := h
  obtain ⟨c1, c2, c3, pos, sd, c4, c5, c6, c7⟩ := h1
  have hs := h2.size
  refine ⟨⟨c1, c2.grown hg (by omega) (fun g e => by have := hr g e; omega), c3, pos, sd, c4, c5, c6, c7.grown hg (fun e => by have := hr _ e.symm; omega)⟩,
    ⟨hg.os.trans h2.os, hg.tape.trans h2.tape, hg.output.trans h2.output, Nat.le_trans h2.size hg.size, fun i hi hne => (hg.block i (by omega) (fun e => by have := hr _ e.symm; omega)).trans (h2.block i hi hne)⟩, h3.kept hg ?_, h4, h5, h6⟩
  cases q : v.ownBlock with
  | none => exact .inl rfl
  | some g => exact .inr (fun e => (hr g e.symm).2 q)
end
/-- the cursor, the legs and the places so far -/
def LS (w : World) (B b k : Nat) (A : Option Addr) (n cap : Nat) (zs : List UInt8) (A1 : Option Addr) (m1 c1 : Nat) (ts : List Lg) (A5 : Option Addr) (m5 c5 : Nat) (ps : List Sf) (u : World) : Prop :=
  GS w B b k A n cap zs (.slice A1 m1 c1) ts u ∧ ts.length = m1 ∧ u.ownsRow w.heap.size 72 3 (.slice A5 m5 c5) m5 (flatSf ps) ∧ ps.length = m5 ∧ (∀ p ∈ ps, BdM (500 * (m5 : Int)) p) ∧ (∀ g, (Value.slice A1 m1 c1).ownBlock = some g → ¬ (Value.slice A5 m5 c5).ownBlock = some g)
section
variable {w u u' : World} {B b k k' : Nat} {A : Option Addr} {n cap : Nat} {zs : List UInt8} {A1 A5 : Option Addr} {m1 c1 m5 c5 : Nat} {ts : List Lg} {ps : List Sf}
theorem LS.step (h : LS w B b k A n cap zs A1 m1 c1 ts A5 m5 c5 ps u) (hC : Cur u' B b k' A n cap zs) (hg : u.grownBy u' (some b)) : LS w B b k' A n cap zs A1 m1 c1 ts A5 m5 c5 ps u' :=
  ⟨h.1.step hC hg, h.2.1, own_step h.2.2.1 hg h.1.2.2.2.2.1, h.2.2.2⟩
theorem LS.keep (h : LS w B b k A n cap zs A1 m1 c1 ts A5 m5 c5 ps u) {r : Option Nat} (hg : u.grownBy u' r) (hr : ∀ g, r = some g → w.heap.size ≤ g ∧ ¬ (Value.slice A1 m1 c1).ownBlock = some g ∧ ¬ (Value.slice A5 m5 c5).ownBlock = some g) : LS w B b k A n cap zs A1 m1 c1 ts A5 m5 c5 ps u' := by
  refine ⟨keep_GS h.1 hg (fun g e => ⟨(hr g e).1, (hr g e).2.1⟩), h.2.1, h.2.2.1.kept hg ?_, h.2.2.2⟩
  cases q : (Value.slice A5 m5 c5).ownBlock with
  | none => exact .inl rfl
  | some g => exact .inr (fun e => (hr g e.symm).2.2 q)
theorem LS.below (h : LS w B b k A n cap zs A1 m1 c1 ts A5 m5 c5 ps u) (hb : Below u.heap.size u u') : LS w B b k A n cap zs A1 m1 c1 ts A5 m5 c5 ps u' := h.keep (grown_of hb none) (fun g e => by cases e)
theorem LS.alloc (h : LS w B b k A n cap zs A1 m1 c1 ts A5 m5 c5 ps u) (o : Obj) : LS w B b k A n cap zs A1 m1 c1 ts A5 m5 c5 ps (u.alloc o) := h.below ((Below.refl _ _).alloc (Nat.le_refl _) o)
theorem LS.more (h : LS w B b k A n cap zs A1 m1 c1 ts A5 m5 c5 ps u) (hk : k ≤ k') : LS w B b k' A n cap zs A1 m1 c1 ts A5 m5 c5 ps u := ⟨h.1.more hk, h.2⟩
/-- a block that is made next lies beside both lists -/
theorem LS.new (h : LS w B b k A n cap zs A1 m1 c1 ts A5 m5 c5 ps u) : w.heap.size ≤ u.heap.size ∧ ¬ (Value.slice A1 m1 c1).ownBlock = some u.heap.size ∧ ¬ (Value.slice A5 m5 c5).ownBlock = some u.heap.size :=
  ⟨h.1.2.1.size, fun e => by have := (h.1.2.2.1.lt _ e).2; omega, fun e => by have := (h.2.2.1.lt _ e).2; omega⟩
theorem LS.set (h : LS w B b k A n cap zs A1 m1 c1 ts A5 m5 c5 ps u) {X : Nat} (hX : w.heap.size ≤ X ∧ ¬ (Value.slice A1 m1 c1).ownBlock = some X ∧ ¬ (Value.slice A5 m5 c5).ownBlock = some X) (o : Nat) (y : Value) : LS w B b k A n cap zs A1 m1 c1 ts A5 m5 c5 ps (u.setCell ⟨X, o, none⟩ y) :=
  h.keep (base.grown_set (grown_of (Below.refl _ _) _) o y) (fun g e => by injection e with e; subst e; exact hX)
/-- a leg more -/
theorem LS.leg (h : LS w B b k A n cap zs A1 m1 c1 ts A5 m5 c5 ps u) {t : Lg} (hok : okD t) {g9 c9 : Nat} {o : Obj} (ho : u'.ownsRow w.heap.size 87 5 (.slice (some ⟨g9, 0, none⟩) (m1 + 1) c9) (m1 + 1) (flatLg ts ++ [.int .i64 t.frm, .int .i64 t.to_, .int .i64 t.tape, .int .i64 t.comp, .int .i64 t.slope])) (hg : (u.alloc o).grownBy u' (Value.slice A1 m1 c1).ownBlock) (hat : (Value.slice A1 m1 c1).ownBlock = some g9 ∨ g9 = (u.alloc o).heap.size) : LS w B b k A n cap zs (some ⟨g9, 0, none⟩) (m1 + 1) c9 (ts ++ [t]) A5 m5 c5 ps u' := by
  have ha := h.alloc o
  have l5 := fun g (e : (Value.slice A5 m5 c5).ownBlock = some g) => (h.2.2.1.lt g e).2
  have hl := h.2.1
  refine ⟨ha.1.app hok (by rw [hl]; exact ho) hg, by rw [List.length_append, hl]; rfl, ha.2.2.1.kept hg ?_, h.2.2.2.1, h.2.2.2.2.1, ?_⟩
  · cases q : (Value.slice A5 m5 c5).ownBlock with
    | none => exact .inl rfl
    | some g => exact .inr (fun e => h.2.2.2.2.2 g e.symm q)
  · intro g e q
    have e2 : g9 = g := by simpa [Value.ownBlock] using e
    subst e2
    rcases hat with a | a
    · exact h.2.2.2.2.2 _ a q
    · have := l5 _ q; simp at a; omega
/-- a place more -/
theorem LS.place (h : LS w B b k A n cap zs A1 m1 c1 ts A5 m5 c5 ps u) {p : Sf} (hp : BdM (500 * ((m5 : Int) + 1)) p) {g9 c9 : Nat} {o : Obj} (ho : u'.ownsRow w.heap.size 72 3 (.slice (some ⟨g9, 0, none⟩) (m5 + 1) c9) (m5 + 1) (flatSf ps ++ [.int .i64 p.east, .int .i64 p.north, .int .i64 p.up])) (hg : (u.alloc o).grownBy u' (Value.slice A5 m5 c5).ownBlock) (hat : (Value.slice A5 m5 c5).ownBlock = some g9 ∨ g9 = (u.alloc o).heap.size) : LS w B b k A n cap zs A1 m1 c1 ts (some ⟨g9, 0, none⟩) (m5 + 1) c9 (ps ++ [p]) u' := by
  have ha := h.alloc o
  have l1 := fun g (e : (Value.slice A1 m1 c1).ownBlock = some g) => (h.1.2.2.1.lt g e).2
  have hl := h.2.2.2.1
  refine ⟨keep_GS ha.1 hg (fun g e => ⟨(h.2.2.1.lt g e).1, fun q => h.2.2.2.2.2 g q e⟩), h.2.1, by rw [flatSf_app]; exact ho, by rw [List.length_append, hl]; rfl, ?_, ?_⟩
  · intro x hx
    rcases List.mem_append.1 hx with q | q
    · have := h.2.2.2.2.1 x q; unfold BdM at this ⊢; push_cast; omega
    · rw [List.mem_singleton.1 q]; push_cast; exact hp
  · intro g e q
    have e2 : g9 = g := by simpa [Value.ownBlock] using q
    subst e2
    rcases hat with a | a
    · exact h.2.2.2.2.2 _ e a
    · have := l1 _ e; simp at a; omega
/-- a place's cells -/
theorem LS.cells (h : LS w B b k A n cap zs A1 m1 c1 ts A5 m5 c5 ps u) {a : Nat} {p : Sf} (hp : ps[a]? = some p) : ∃ g, A5 = some ⟨g, 0, none⟩ ∧ u.cell? ⟨g, a * 3, none⟩ = some (.int .i64 p.east) ∧ u.cell? ⟨g, a * 3 + 1, none⟩ = some (.int .i64 p.north) ∧ u.cell? ⟨g, a * 3 + 2, none⟩ = some (.int .i64 p.up) := by
  have hl : a < m5 := by have := (List.getElem?_eq_some_iff.1 hp).1; rw [h.2.2.2.1] at this; exact this
  obtain ⟨g, cap, hv, -, -⟩ := h.2.2.1.form (by omega)
  injection hv with hA _ hc
  subst hA hc
  obtain ⟨k0, k1, k2⟩ := flatSf_at ps a p hp
  exact ⟨g, rfl, (h.2.2.1.cellAt _ (by omega)).trans k0, (h.2.2.1.cellAt _ (by omega)).trans k1, (h.2.2.1.cellAt _ (by omega)).trans k2⟩
end
theorem root_bd {S q : Int} (h : len.IsRoot S q) (hS : S ≤ 30000000000) : 0 ≤ q ∧ q ≤ 200000 := by
  obtain ⟨h0, h1, h2⟩ := h
  refine ⟨h0, ?_⟩
  rcases Int.lt_or_le 200000 q with k | k
  · have := len.sq_mono (show (0 : Int) ≤ 200001 by omega) (show 200001 ≤ q by omega)
    omega
  · exact k
theorem sq_bd {a : Int} (h0 : -100000 ≤ a) (h1 : a ≤ 100000) : a * a ≤ 10000000000 := by
  rcases Int.le_total 0 a with k | k
  · have := len.sq_mono k h1; omega
  · have := len.sq_mono (show 0 ≤ -a by omega) (show -a ≤ 100000 by omega)
    rw [Int.neg_mul_neg] at this; omega
def EPo (lo hi : Int) (w : World) (e : Ending) (w' : World) : Prop := ∃ (q : Int) (ok : Bool), e = .returned (.tuple #[.int .i64 q, .bool ok]) ∧ (lo ≤ q ∧ q ≤ hi) ∧ Below w.heap.size w w'
theorem len_ex (e n u : Int) (w : World) : Calls Tryz.prog 148 #[.int .i64 e, .int .i64 n, .int .i64 u] w (EPo 0 200000 w) :=
  (len.lengthOf_model e n u w).mono fun r w' hh => by
    rcases hh.1 with ⟨ok, q, hq, rfl⟩ | ⟨-, rfl⟩
    · exact ⟨q, true, rfl, root_bd hq (by have a := sq_bd ok.1.1 ok.1.2; have b := sq_bd ok.2.1.1 ok.2.1.2; have c := sq_bd ok.2.2.1 ok.2.2.2; omega), hh.2⟩
    · exact ⟨0, false, rfl, by omega, hh.2⟩
theorem bear_ex (e n : Int) (w : World) : Calls Tryz.prog 149 #[.int .i64 e, .int .i64 n] w (EPo 0 359 w) :=
  (sb.bearingTo_model e n w).mono fun r w' hh => by
    have h := hh.1
    unfold sb.ansBearing at h
    split at h
    · exact ⟨_, _, h, ⟨by omega, by have := sb.bst_le (sb.fitB e n) 359; unfold sb.bestB; omega⟩, hh.2⟩
    · exact ⟨_, _, h, by omega, hh.2⟩
theorem slope_ex (l u : Int) (w : World) : Calls Tryz.prog 150 #[.int .i64 l, .int .i64 u] w (EPo (-90) 90 w) :=
  (sb.slopeTo_model l u w).mono fun r w' hh => by
    have h := hh.1
    unfold sb.ansSlope at h
    split at h
    · exact ⟨_, _, h, sb.cand_bd _ (sb.bst_le (sb.fitS l u) 180), hh.2⟩
    · exact ⟨_, _, h, by omega, hh.2⟩
end Go.Proofs.YtnpghhpcloljeabGreatDoor.dcv

namespace Go.Proofs.YtnpghhpcloljeabGreatDoor.dcv
open Go.RowKit
open reads base curs curd cure ty lg nt drl
set_option linter.unusedVariables false
set_option linter.unusedSimpArgs false

theorem infoLgD : (Tryz.prog.info? 87).map (fun i => (i.zero, i.size, i.bytes)) = some (some (.agg #[.int .i64 0, .int .i64 0, .int .i64 0, .int .i64 0, .int .i64 0]), 5, 40) := by kernel_rfl
theorem infoSfD : (Tryz.prog.info? 72).map (fun i => (i.zero, i.size, i.bytes)) = some (some (.agg #[.int .i64 0, .int .i64 0, .int .i64 0]), 3, 24) := by kernel_rfl
/-- the drawn legs' valid shape: what a cave's legs are ahead of the last change -/
def okE6 (x : Lg) : Prop := okLg x = true
theorem okE6_D {x : Lg} (h : okLg x = true) : okD x := by
  obtain ⟨a, b, c, d, e, f⟩ := okLg_lim h
  unfold okD; omega
theorem rev_ok6 {x : Lg} (h : okLg x = true) : okLg (revLg x) = true := revLg_ok h
/-- a leg in a box that lies beside both lists -/
def BX (w : World) (A1 : Option Addr) (m1 c1 : Nat) (A5 : Option Addr) (m5 c5 X : Nat) (x : Lg) (u : World) : Prop := Blk u X 87 #[.int .i64 x.frm, .int .i64 x.to_, .int .i64 x.tape, .int .i64 x.comp, .int .i64 x.slope] ∧ (w.heap.size ≤ X ∧ ¬ (Value.slice A1 m1 c1).ownBlock = some X ∧ ¬ (Value.slice A5 m5 c5).ownBlock = some X)
theorem lb_mk {X : Nat} {x : Lg} {u : World} (h : Blk u X 87 #[.int .i64 x.frm, .int .i64 x.to_, .int .i64 x.tape, .int .i64 x.comp, .int .i64 x.slope]) : u.cell? ⟨X, 0, none⟩ = some (.int .i64 x.frm) ∧ u.cell? ⟨X, 1, none⟩ = some (.int .i64 x.to_) ∧ u.cell? ⟨X, 2, none⟩ = some (.int .i64 x.tape) ∧ u.cell? ⟨X, 3, none⟩ = some (.int .i64 x.comp) ∧ u.cell? ⟨X, 4, none⟩ = some (.int .i64 x.slope) ∧ Blk u X 87 #[.int .i64 x.frm, .int .i64 x.to_, .int .i64 x.tape, .int .i64 x.comp, .int .i64 x.slope] := ⟨h.cell 0, h.cell 1, h.cell 2, h.cell 3, h.cell 4, h⟩
theorem flatLg_set (t : Lg) : ∀ (ts : List Lg) (i : Nat), i < ts.length → ((((((flatLg ts).set (i * 5) (.int .i64 t.frm)).set (i * 5 + 1) (.int .i64 t.to_)).set (i * 5 + 2) (.int .i64 t.tape)).set (i * 5 + 3) (.int .i64 t.comp)).set (i * 5 + 4) (.int .i64 t.slope)) = flatLg (ts.set i t)
  | [], i, h => by simp at h
  | d :: ts, 0, h => by simp [flatLg]
  | d :: ts, i + 1, h => by
    have ih := flatLg_set t ts i (by simpa using h)
    have e : flatLg (d :: ts) = .int .i64 d.frm :: .int .i64 d.to_ :: .int .i64 d.tape :: .int .i64 d.comp :: .int .i64 d.slope :: flatLg ts := rfl
    have e2 : flatLg ((d :: ts).set (i + 1) t) = .int .i64 d.frm :: .int .i64 d.to_ :: .int .i64 d.tape :: .int .i64 d.comp :: .int .i64 d.slope :: flatLg (ts.set i t) := rfl
    rw [e2, ← ih, e, show (i + 1) * 5 = i * 5 + 1 + 1 + 1 + 1 + 1 by omega, show i * 5 + 1 + 1 + 1 + 1 + 1 + 1 = (i * 5 + 1) + 1 + 1 + 1 + 1 + 1 by omega, show i * 5 + 1 + 1 + 1 + 1 + 1 + 2 = (i * 5 + 2) + 1 + 1 + 1 + 1 + 1 by omega, show i * 5 + 1 + 1 + 1 + 1 + 1 + 3 = (i * 5 + 3) + 1 + 1 + 1 + 1 + 1 by omega, show i * 5 + 1 + 1 + 1 + 1 + 1 + 4 = (i * 5 + 4) + 1 + 1 + 1 + 1 + 1 by omega]
    simp only [List.set_cons_succ]
section
variable {w u : World} {B b k : Nat} {A : Option Addr} {n cap : Nat} {zs : List UInt8} {ts : List Lg} {g L c i : Nat}
theorem GS.put (h : GS w B b k A n cap zs (.slice (some ⟨g, 0, none⟩) L c) ts u) (hL : ts.length = L) (hi : i < L) {t : Lg} (hok : okD t) : GS w B b k A n cap zs (.slice (some ⟨g, 0, none⟩) L c) (ts.set i t) (((((u.setCell ⟨g, i * 5, none⟩ (.int .i64 t.frm)).setCell ⟨g, i * 5 + 1, none⟩ (.int .i64 t.to_)).setCell ⟨g, i * 5 + 2, none⟩ (.int .i64 t.tape)).setCell ⟨g, i * 5 + 3, none⟩ (.int .i64 t.comp)).setCell ⟨g, i * 5 + 4, none⟩ (.int .i64 t.slope)) := by
  obtain ⟨h1, h2, h3, h4, h5, h6⟩ := h
  rw [hL] at h3
  have hg := (h3.lt g rfl).1
  have hne : b ≠ g := by omega
  have hB : B ≤ g := by omega
  have hw : w.heap.size ≤ g := hg
  refine ⟨(cur_set (cur_set (cur_set (cur_set (cur_set h1 hne hB _) hne hB _) hne hB _) hne hB _) hne hB _), (cure.grown_set (cure.grown_set (cure.grown_set (cure.grown_set (cure.grown_set h2 hw _) hw _) hw _) hw _) hw _), ?_, ?_, h5, h6⟩
  · rw [List.length_set, hL, ← flatLg_set t ts i (by omega)]
    exact (((((h3.stored (i * 5) (.int .i64 t.frm)).1.stored (i * 5 + 1) (.int .i64 t.to_)).1.stored (i * 5 + 2) (.int .i64 t.tape)).1.stored (i * 5 + 3) (.int .i64 t.comp)).1.stored (i * 5 + 4) (.int .i64 t.slope)).1
  · intro x hx
    rcases List.mem_or_eq_of_mem_set hx with q | q
    · exact h4 x q
    · rw [q]; exact hok
end
theorem flat_tail (ts : List Lg) : (flatLg ts).drop 5 = flatLg (ts.drop 1) := by cases ts <;> simp [flatLg]
theorem flat_one : ∀ (ts : List Lg) (u : Value), u ∈ flatLg ts → u.oneCell' = true
  | [], u, h => by simp [flatLg] at h
  | t :: ts, u, h => by
    have e : flatLg (t :: ts) = .int .i64 t.frm :: .int .i64 t.to_ :: .int .i64 t.tape :: .int .i64 t.comp :: .int .i64 t.slope :: flatLg ts := rfl
    rw [e] at h
    simp only [List.mem_cons] at h
    rcases h with rfl | rfl | rfl | rfl | rfl | h
    · rfl
    · rfl
    · rfl
    · rfl
    · rfl
    · exact flat_one ts u h
theorem lgo_cap {w : World} {base size n c : Nat} {e : TypeId} {A : Option Addr} {xs : List Value} (h : w.ownsRow base e size (.slice A n c) n xs) : n ≤ c := by
  rcases h.2 with ⟨e1, e2⟩ | ⟨g, cp, cur, e1, _, _, h2, _⟩
  · injection e1 with _ e1 e3; omega
  · injection e1 with _ e1 e3; subst e3; exact h2
section
variable {w u u' : World} {B b k k' : Nat} {A : Option Addr} {n cap : Nat} {zs : List UInt8} {A1 A5 : Option Addr} {m1 c1 m5 c5 g5 : Nat} {ts : List Lg} {ps : List Sf}
theorem LS.row (h : LS w B b k A n cap zs A1 m1 c1 ts A5 m5 c5 ps u) : u.ownsRow w.heap.size 87 5 (.slice A1 m1 c1) m1 (flatLg ts) := by have := h.1.2.2.1; rwa [h.2.1] at this
/-- the leg in its box is written over -/
theorem LS.put5 (h : LS w B b k A n cap zs A1 m1 c1 ts A5 m5 c5 ps u) {X : Nat} (hX : w.heap.size ≤ X ∧ ¬ (Value.slice A1 m1 c1).ownBlock = some X ∧ ¬ (Value.slice A5 m5 c5).ownBlock = some X) (x y : Lg) (hB : Blk u X 87 #[.int .i64 x.frm, .int .i64 x.to_, .int .i64 x.tape, .int .i64 x.comp, .int .i64 x.slope]) : LS w B b k A n cap zs A1 m1 c1 ts A5 m5 c5 ps (((((u.setCell ⟨X, 0, none⟩ (.int .i64 y.frm)).setCell ⟨X, 1, none⟩ (.int .i64 y.to_)).setCell ⟨X, 2, none⟩ (.int .i64 y.tape)).setCell ⟨X, 3, none⟩ (.int .i64 y.comp)).setCell ⟨X, 4, none⟩ (.int .i64 y.slope)) ∧ Blk (((((u.setCell ⟨X, 0, none⟩ (.int .i64 y.frm)).setCell ⟨X, 1, none⟩ (.int .i64 y.to_)).setCell ⟨X, 2, none⟩ (.int .i64 y.tape)).setCell ⟨X, 3, none⟩ (.int .i64 y.comp)).setCell ⟨X, 4, none⟩ (.int .i64 y.slope)) X 87 #[.int .i64 y.frm, .int .i64 y.to_, .int .i64 y.tape, .int .i64 y.comp, .int .i64 y.slope] :=
  ⟨((((h.set hX 0 _).set hX 1 _).set hX 2 _).set hX 3 _).set hX 4 _, ((((hB.set_ 0 (.int .i64 y.frm)).set_ 1 (.int .i64 y.to_)).set_ 2 (.int .i64 y.tape)).set_ 3 (.int .i64 y.comp)).set_ 4 (.int .i64 y.slope)⟩
/-- two places' cells -/
theorem LS.mk6 (h : LS w B b k A n cap zs A1 m1 c1 ts (some ⟨g5, 0, none⟩) m5 c5 ps u) {ra rb : Nat} {p q : Sf} (hp : ps[rb]? = some p) (hq : ps[ra]? = some q) : u.cell? ⟨g5, rb * 3, none⟩ = some (.int .i64 p.east) ∧ u.cell? ⟨g5, rb * 3 + 1, none⟩ = some (.int .i64 p.north) ∧ u.cell? ⟨g5, rb * 3 + 2, none⟩ = some (.int .i64 p.up) ∧ u.cell? ⟨g5, ra * 3, none⟩ = some (.int .i64 q.east) ∧ u.cell? ⟨g5, ra * 3 + 1, none⟩ = some (.int .i64 q.north) ∧ u.cell? ⟨g5, ra * 3 + 2, none⟩ = some (.int .i64 q.up) ∧ LS w B b k A n cap zs A1 m1 c1 ts (some ⟨g5, 0, none⟩) m5 c5 ps u := by
  obtain ⟨g, e, a0, a1, a2⟩ := h.cells hp
  injection e with e; injection e with e; subst e
  obtain ⟨g', e, b0, b1, b2⟩ := h.cells hq
  injection e with e; injection e with e; subst e
  exact ⟨a0, a1, a2, b0, b1, b2, h⟩
end
set_option maxHeartbeats 16000000 in
set_option maxRecDepth 100000 in
theorem cave_any (B b kk : Nat) (A : Option Addr) (n cap : Nat) (zs : List UInt8) (w : World) (hk : kk ≤ 50000) (h : Hid (Cur w B b kk A n cap zs)) :
    Calls Tryz.prog 120 #[.pointer (some ⟨b, 0, none⟩)] w (GPo B b (kk + 200) A n cap zs w) := by
  obtain ⟨i01, hi1, hz01, hz11, hz21⟩ := info_parts infoLgD
  obtain ⟨i05, hi5, hz05, hz15, hz25⟩ := info_parts infoSfD
  have hbl := cur_lt h.out
  have hBB : B ≤ w.heap.size := by have := h.out.1; omega
  have HG0 := Lib.hid (show GS w B b kk A n cap zs (.slice (some ⟨w.heap.size, 0, none⟩) 0 0) [] (w.alloc (.cells #[] 87)) from
    ⟨cur_alloc h.out hBB _, World.grownBy_alloc w _ (some b), World.ownsRow_made w #[] 0 (Nat.le_refl _) (by decide) (by simp), by simp, hbl, hBB⟩)
  go_enter Tryz.func120, Tryz.ntmps120
  go_wp2_with fail
  refine (pick_any B b kk A n cap zs _ 5 (by omega) HG0.out.1 (by decide) (by decide)).mono ?_
  rintro e w1 ⟨nm, rfl, hnm, hC, hg⟩
  have HG1 := Lib.hid (HG0.out.step hC hg)
  clear hC hg HG0 h
  obtain ⟨nn, hnn⟩ : ∃ nn : Nat, nn = nm + 2 := ⟨_, rfl⟩
  have HNN := Lib.hid (show (2 : Int) + (nm : Int) = (nn : Int) by omega)
  have hn2 : 2 ≤ nn := by omega
  have hn6 : nn ≤ 6 := by omega
  clear hnn
  have HLS := Lib.hid (show LS w B b (kk + 1) A n cap zs (some ⟨w.heap.size, 0, none⟩) 0 0 [] (some ⟨w1.heap.size, 0, none⟩) 1 1 [zero3] (w1.alloc (.cells #[.int .i64 0, .int .i64 0, .int .i64 0] 72)) from
    ⟨keep_GS HG1.out (World.grownBy_alloc w1 _ none) (fun g e => by cases e), rfl, ⟨rfl, .inr ⟨w1.heap.size, 1, #[.int .i64 0, .int .i64 0, .int .i64 0], rfl, HG1.out.2.1.size, Blk.new w1 _ _, Nat.le_refl _, by decide, rfl, rfl⟩⟩, rfl, (by intro p hp; rw [List.mem_singleton.1 hp]; unfold BdM zero3; decide), fun g e q => by
      have e1 : w.heap.size = g := by simpa [Value.ownBlock] using e
      have e2 : w1.heap.size = g := by simpa [Value.ownBlock] using q
      have := (HG1.out.2.2.1.lt w.heap.size rfl).2
      omega⟩)
  go_upto_region 4 with fail
  try rw [HNN.out]
  try simp only [HNN.out]
  clear HG1 hnm
  go_wp2_with fail
  go_loopw [3, 5, 6] (fun v p i wr => ∃ (j s c1 c5 : Nat) (A1 A5 : Option Addr) (ts : List Lg) (ps : List Sf), (j < s ∧ s ≤ j + 1 ∧ s ≤ nn) ∧ i = .int .i64 (s : Nat) ∧ v = .slice A1 j c1 ∧ p = .slice A5 s c5 ∧ LS w B b (kk + 1 + 5 * j) A n cap zs A1 j c1 ts A5 s c5 ps wr) (fun _ _ i _ => nn - (intOf i).toNat)
  case atStart => exact ⟨0, 1, 0, 1, _, _, [], [zero3], by omega, rfl, rfl, rfl, HLS.out⟩
  case round =>
    obtain ⟨j, s, c1, c5, A1, A5, ts, ps, ⟨hjs, hsj, hsn⟩, rfl, rfl, rfl, hL⟩ := hrel
    have HL := Lib.hid hL
    clear hL HLS
    have hs0 : (0 : Int) ≤ (s : Int) := by omega
    have hs1 : (0 : Int) < (s : Int) := by omega
    by_cases hlt : s < nn
    · have hki : (s : Int) < (nn : Int) := by omega
      have hkd : decide (s < nn) = true := by simpa using hlt
      go_wp2_with fail
      refine (pick_any B b (kk + 1 + 5 * j) A n cap zs _ s (by omega) HL.out.1.1 (by omega) (by omega)).mono ?_
      rintro e w2 ⟨r0, rfl, hr0, hC, hg⟩
      have hr1 : r0 < s := by omega
      clear hr0
      have HL2 := Lib.hid (HL.out.step hC hg)
      clear hC hg HL
      go_wp2_with fail
      refine (among_new B b (kk + 1 + 5 * j + 1) A n cap zs w2 5 _ [10, 50, 100, 120, 250] (by omega) HL2.out.1.1 rfl (by decide) (by decide)).mono ?_
      rintro e w3 ⟨x2, hx2, rfl, hC, hg⟩
      have hb2 : 1 ≤ x2 ∧ x2 ≤ 500 := by simp at hx2; omega
      clear hx2
      have HL3 := Lib.hid (HL2.out.step hC hg)
      clear hC hg HL2
      go_wp2_with fail
      refine (among_new B b (kk + 1 + 5 * j + 2) A n cap zs w3 7 _ [0, 45, 90, 135, 180, 270, 300] (by omega) HL3.out.1.1 rfl (by decide) (by decide)).mono ?_
      rintro e w4 ⟨x3, hx3, rfl, hC, hg⟩
      have hb3 : 0 ≤ x3 ∧ x3 ≤ 359 := by simp at hx3; omega
      clear hx3
      have HL4 := Lib.hid (HL3.out.step hC hg)
      clear hC hg HL3
      go_wp2_with fail
      refine (among_new B b (kk + 1 + 5 * j + 3) A n cap zs w4 6 _ [0, 0, -10, -30, 20, -90] (by omega) HL4.out.1.1 rfl (by decide) (by decide)).mono ?_
      rintro e w5 ⟨x4, hx4, rfl, hC, hg⟩
      have hb4 : -90 ≤ x4 ∧ x4 ≤ 90 := by simp at hx4; omega
      clear hx4
      have HL5 := Lib.hid (HL4.out.step hC hg)
      clear hC hg HL4
      have HOK := Lib.hid (show okLg ⟨(r0 : Int), (s : Int), x2, x3, x4⟩ = true from okLg_mk ⟨(by show 0 ≤ (r0 : Int) ∧ (r0 : Int) ≤ 7; omega), (by show 0 ≤ (s : Int) ∧ (s : Int) ≤ 7; omega), (by show ¬ (r0 : Int) = (s : Int); omega), hb2, hb3, hb4⟩)
      obtain ⟨X, HXX⟩ : ∃ X, Hid (w5.heap.size = X) := ⟨_, Lib.hid rfl⟩
      obtain ⟨W6, HW6⟩ : ∃ W, Hid (w5.alloc (.cells #[.int .i64 (r0 : Int), .int .i64 (s : Int), .int .i64 x2, .int .i64 x3, .int .i64 x4] 87) = W) := ⟨_, Lib.hid rfl⟩
      have HXN := Lib.hid (show w.heap.size ≤ X ∧ ¬ (Value.slice A1 j c1).ownBlock = some X ∧ ¬ (Value.slice A5 s c5).ownBlock = some X by rw [← HXX.out]; exact HL5.out.new)
      have HXW := Lib.hid (show X < W6.heap.size by rw [← HXX.out, ← HW6.out]; simp)
      have HL6 := Lib.hid (show LS w B b (kk + 1 + 5 * j + 4) A n cap zs A1 j c1 ts A5 s c5 ps W6 by rw [← HW6.out]; exact HL5.out.alloc _)
      have HB6 := Lib.hid (show Blk W6 X 87 #[.int .i64 (r0 : Int), .int .i64 (s : Int), .int .i64 x2, .int .i64 x3, .int .i64 x4] by rw [← HW6.out, ← HXX.out]; exact Blk.new _ _ _)
      go_upto_region 8 with fail
      try rw [HXX.out]
      try simp only [HXX.out]
      rw [HW6.out]
      clear HW6 HXX HL5
      obtain ⟨p, hp⟩ : ∃ p, ps[r0]? = some p := ⟨_, List.getElem?_eq_getElem (by rw [HL6.out.2.2.2.1]; exact hr1)⟩
      obtain ⟨g5, hA5, k0, k1, k2⟩ := HL6.out.cells hp
      have HPS := Lib.hid hp
      have HPM := Lib.hid (HL6.out.2.2.2.2.1 p (List.mem_of_getElem? hp))
      subst hA5
      clear hp
      obtain ⟨d, HD⟩ : ∃ d, Hid (shf ⟨(r0 : Int), (s : Int), x2, x3, x4⟩ = d) := ⟨_, Lib.hid rfl⟩
      obtain ⟨c, HC⟩ : ∃ c, Hid (add3 p d = c) := ⟨_, Lib.hid rfl⟩
      have HDB := Lib.hid (show BdS d by rw [← HD.out]; have k := shf_bd HOK.out; unfold BdS; omega)
      have HPB := Lib.hid (show BdS p by have k := HPM.out; unfold BdM at k; unfold BdS; omega)
      have HCB := Lib.hid (show BdM (500 * ((s : Int) + 1)) c by rw [← HC.out, ← HD.out]; have k := HPM.out; have l := shf_bd HOK.out; unfold BdM at k ⊢; unfold add3; simp only []; omega)
      have hri : (r0 : Int) < (s : Int) := by omega
      have hr00 : (0 : Int) ≤ (r0 : Int) := by omega
      have hrd : decide (r0 < s) = true := by simpa using hr1
      go_cut [5] (fun v wx => ∃ (g9 c9 : Nat) (ps' : List Sf), v = .slice (some ⟨g9, 0, none⟩) (s + 1) c9 ∧ LS w B b (kk + 1 + 5 * j + 4) A n cap zs A1 j c1 ts (some ⟨g9, 0, none⟩) (s + 1) c9 ps' wx ∧ Blk wx X 87 #[.int .i64 (r0 : Int), .int .i64 (s : Int), .int .i64 x2, .int .i64 x3, .int .i64 x4] ∧ (w.heap.size ≤ X ∧ ¬ (Value.slice A1 j c1).ownBlock = some X ∧ ¬ (Value.slice (some ⟨g9, 0, none⟩) (s + 1) c9).ownBlock = some X))
      case first => as_aux_lemma =>
        rename_i J0 K0 hJ0 hK0
        refine wp_region_held_drew (S := (fun u => u.cell? ⟨X, 0, none⟩ = some (.int .i64 (r0 : Int)) ∧ u.cell? ⟨X, 1, none⟩ = some (.int .i64 (s : Int)) ∧ u.cell? ⟨X, 2, none⟩ = some (.int .i64 x2) ∧ u.cell? ⟨X, 3, none⟩ = some (.int .i64 x3) ∧ u.cell? ⟨X, 4, none⟩ = some (.int .i64 x4) ∧ Blk u X 87 #[.int .i64 (r0 : Int), .int .i64 (s : Int), .int .i64 x2, .int .i64 x3, .int .i64 x4])) (by kernel_rfl) ?_ (fun hHeld => ?_)
        · exact lb_mk (x := ⟨(r0 : Int), (s : Int), x2, x3, x4⟩) HB6.out.drew
        refine' wpAnyH_take (i := 0) (v := ?vr1_0) rfl (by kernel_rfl) (by kernel_rfl) (by kernel_rfl) (fun _ _ _ h => h) (Or.inl ⟨by rfl, ?hyr1_0⟩) (by assumption) ?restr1_0
        case hyr1_0 => (intro w hSw; (try dsimp only at hSw); go_simp; try (with_reducible rfl))
        simp only [Act.put, List.getElem_toArray, List.getElem_cons_succ, List.getElem_cons_zero, List.setIfInBounds_toArray, List.set_cons_zero, List.set_cons_succ]
        refine' wpAnyH_take (i := 1) (v := ?vr1_1) rfl (by kernel_rfl) (by kernel_rfl) (by kernel_rfl) (fun _ _ _ h => h) (Or.inl ⟨by rfl, ?hyr1_1⟩) (by assumption) ?restr1_1
        case hyr1_1 => (intro w hSw; (try dsimp only at hSw); go_simp; try (with_reducible rfl))
        simp only [Act.put, List.getElem_toArray, List.getElem_cons_succ, List.getElem_cons_zero, List.setIfInBounds_toArray, List.set_cons_zero, List.set_cons_succ]
        refine' wpAnyH_take (i := 2) (v := ?vr1_2) rfl (by kernel_rfl) (by kernel_rfl) (by kernel_rfl) (fun _ _ _ h => h) (Or.inl ⟨by rfl, ?hyr1_2⟩) (by assumption) ?restr1_2
        case hyr1_2 => (intro w hSw; (try dsimp only at hSw); go_simp; try (with_reducible rfl))
        simp only [Act.put, List.getElem_toArray, List.getElem_cons_succ, List.getElem_cons_zero, List.setIfInBounds_toArray, List.set_cons_zero, List.set_cons_succ]
        refine' wpAnyH_take (i := 3) (v := ?vr1_3) rfl (by kernel_rfl) (by kernel_rfl) (by kernel_rfl) (fun _ _ _ h => h) (Or.inl ⟨by rfl, ?hyr1_3⟩) (by assumption) ?restr1_3
        case hyr1_3 => (intro w hSw; (try dsimp only at hSw); go_simp; try (with_reducible rfl))
        simp only [Act.put, List.getElem_toArray, List.getElem_cons_succ, List.getElem_cons_zero, List.setIfInBounds_toArray, List.set_cons_zero, List.set_cons_succ]
        refine' wpAnyH_take (i := 4) (v := ?vr1_4) rfl (by kernel_rfl) (by kernel_rfl) (by kernel_rfl) (fun _ _ _ h => h) (Or.inl ⟨by rfl, ?hyr1_4⟩) (by assumption) ?restr1_4
        case hyr1_4 => (intro w hSw; (try dsimp only at hSw); go_simp; try (with_reducible rfl))
        simp only [Act.put, List.getElem_toArray, List.getElem_cons_succ, List.getElem_cons_zero, List.setIfInBounds_toArray, List.set_cons_zero, List.set_cons_succ]
        refine' wpAnyH_take (i := 6) (v := ?vr1_6) rfl (by kernel_rfl) (by kernel_rfl) (by kernel_rfl) (fun _ _ _ h => h) (Or.inl ⟨by rfl, ?hyr1_6⟩) (by assumption) ?restr1_6
        case hyr1_6 => (intro w hSw; (try dsimp only at hSw); go_simp; try (with_reducible rfl))
        simp only [Act.put, List.getElem_toArray, List.getElem_cons_succ, List.getElem_cons_zero, List.setIfInBounds_toArray, List.set_cons_zero, List.set_cons_succ]
        refine wpAnyH_ready (rs := [5, 7]) (by kernel_rfl) (by simp) ?_
        refine AllReadyH.cons rfl (fun K hK => ?_) (AllReadyH.cons rfl (fun K hK => ?_) AllReadyH.nil)
        · go_simp
          refine hK.out _ _ hHeld (fun hHeld1 => ?_)
          clear hK K hHeld
          have hHeld := hHeld1
          clear hHeld1
          try simp only [Act.put, List.getElem_toArray, List.getElem_cons_succ, List.getElem_cons_zero, List.setIfInBounds_toArray, List.set_cons_zero, List.set_cons_succ]
          refine wpAnyH_ready (rs := [7]) (by kernel_rfl) (by simp) ?_
          refine AllReadyH.cons rfl (fun K hK => ?_) AllReadyH.nil
          go_simp
          refine (shift_l ⟨(r0 : Int), (s : Int), x2, x3, x4⟩ d HD _ HOK).mono ?_
          rintro e w7 ⟨rfl, b7⟩
          have HL7 := Lib.hid (HL6.out.below ((Below.refl _ _).drew.trans b7))
          refine hK.out _ _ (lb_mk (x := ⟨(r0 : Int), (s : Int), x2, x3, x4⟩) (hHeld.2.2.2.2.2.below b7 hHeld.2.2.2.2.2.lt)) (fun hHeld1 => ?_)
          clear hK K hHeld
          have hHeld := hHeld1
          clear hHeld1
          try simp only [Act.put, List.getElem_toArray, List.getElem_cons_succ, List.getElem_cons_zero, List.setIfInBounds_toArray, List.set_cons_zero, List.set_cons_succ]
          refine wpAnyH_ready (rs := [8]) (by kernel_rfl) (by simp) ?_
          refine AllReadyH.cons rfl (fun K hK => ?_) AllReadyH.nil
          go_simp
          refine (plus_p p d c HC _ HPB HDB).mono ?_
          rintro e w8 ⟨rfl, b8⟩
          have HL8 := Lib.hid (HL7.out.below b8)
          refine hK.out _ _ (lb_mk (x := ⟨(r0 : Int), (s : Int), x2, x3, x4⟩) (hHeld.2.2.2.2.2.below b8 hHeld.2.2.2.2.2.lt)) (fun hHeld1 => ?_)
          clear hK K hHeld
          have hHeld := hHeld1
          clear hHeld1
          try simp only [Act.put, List.getElem_toArray, List.getElem_cons_succ, List.getElem_cons_zero, List.setIfInBounds_toArray, List.set_cons_zero, List.set_cons_succ]
          refine wpAnyH_ready (rs := [9]) (by kernel_rfl) (by simp) ?_
          refine AllReadyH.cons rfl (fun K hK => ?_) AllReadyH.nil
          go_simp
          refine hK.out _ _ (lb_mk (x := ⟨(r0 : Int), (s : Int), x2, x3, x4⟩) (hHeld.2.2.2.2.2.alloc _)) (fun hHeld1 => ?_)
          clear hK K hHeld
          have hHeld := hHeld1
          clear hHeld1
          try simp only [Act.put, List.getElem_toArray, List.getElem_cons_succ, List.getElem_cons_zero, List.setIfInBounds_toArray, List.set_cons_zero, List.set_cons_succ]
          refine wpAnyH_ready (rs := [10]) (by kernel_rfl) (by simp) ?_
          refine AllReadyH.cons rfl (fun K hK => ?_) AllReadyH.nil
          refine step_append_lies _ rfl _ _ 138 rfl w.heap.size 72 i05 (.agg #[.int .i64 0, .int .i64 0, .int .i64 0]) 3 24 Tryz.underlying138 hi5 hz05 hz15 hz25 rfl (by decide) _ _ _ rfl ((HL8.out.alloc _).2.2.1) ⟨w8.heap.size, 0, none⟩ 1 1 [.int .i64 c.east, .int .i64 c.north, .int .i64 c.up] rfl rfl (World.news_of_block (alloc_at rfl)) (by simp [Value.oneCell']) (by decide) (by unfold maxLen; omega) (by omega) (HL8.out.alloc (.cells #[.int .i64 c.east, .int .i64 c.north, .int .i64 c.up] 72)).1.2.1.size _ rfl ?_
          intro g9 c9 w9 hown' hgrow hat hlt9
          have HL9 := Lib.hid (HL8.out.place (p := c) HCB.out hown' hgrow hat)
          have HX9 := Lib.hid (show ¬ g9 = X by
              rcases hat with a | a
              · intro e; subst e; exact HXN.out.2.2 a
              · have k := HXW.out; have k2 : W6.heap.size ≤ w8.heap.size := Nat.le_trans b7.size b8.size; simp at a; intro e; omega)
          have HB9 := Lib.hid (hHeld.2.2.2.2.2.grown hgrow (fun e => HXN.out.2.2 e.symm))
          refine hK.out _ _ (lb_mk (x := ⟨(r0 : Int), (s : Int), x2, x3, x4⟩) HB9.out) (fun hHeld1 => ?_)
          clear hK K hHeld
          have hHeld := hHeld1
          clear hHeld1
          try simp only [Act.put, List.getElem_toArray, List.getElem_cons_succ, List.getElem_cons_zero, List.setIfInBounds_toArray, List.set_cons_zero, List.set_cons_succ]
          refine' wpAnyH_take (i := 11) (v := ?vr4_11) rfl (by kernel_rfl) (by kernel_rfl) (by kernel_rfl) (fun _ _ _ h => h) (Or.inl ⟨by rfl, ?hyr4_11⟩) (by assumption) ?restr4_11
          case hyr4_11 => (intro w hSw; (try dsimp only at hSw); go_simp; try (with_reducible rfl))
          simp only [Act.put, List.getElem_toArray, List.getElem_cons_succ, List.getElem_cons_zero, List.setIfInBounds_toArray, List.set_cons_zero, List.set_cons_succ]
          refine wpAnyH_done (by kernel_rfl) ?_ _
          first | refine hK0 _ _ (Met.intro (hJ0 _ _ ?_)) | refine Met.intro (hK0 _ _ (Met.intro (hJ0 _ _ ?_)))
          (repeat apply Exists.intro)
          exact ⟨⟨g9, c9, _, rfl, HL9.out, HB9.out, HXN.out.1, HXN.out.2.1, fun e => HX9.out (by simpa [Value.ownBlock] using e)⟩, rfl⟩
        · go_simp
          refine (shift_l ⟨(r0 : Int), (s : Int), x2, x3, x4⟩ d HD _ HOK).mono ?_
          rintro e w7 ⟨rfl, b7⟩
          have HL7 := Lib.hid (HL6.out.below ((Below.refl _ _).drew.trans b7))
          refine hK.out _ _ (lb_mk (x := ⟨(r0 : Int), (s : Int), x2, x3, x4⟩) (hHeld.2.2.2.2.2.below b7 hHeld.2.2.2.2.2.lt)) (fun hHeld1 => ?_)
          clear hK K hHeld
          have hHeld := hHeld1
          clear hHeld1
          try simp only [Act.put, List.getElem_toArray, List.getElem_cons_succ, List.getElem_cons_zero, List.setIfInBounds_toArray, List.set_cons_zero, List.set_cons_succ]
          have hcc := (show w7.cell? ⟨g5, r0 * 3, none⟩ = some (.int .i64 p.east) ∧ w7.cell? ⟨g5, r0 * 3 + 1, none⟩ = some (.int .i64 p.north) ∧ w7.cell? ⟨g5, r0 * 3 + 2, none⟩ = some (.int .i64 p.up) by obtain ⟨g, e, c⟩ := HL7.out.cells HPS.out; injection e with e; injection e with e; subst e; exact c)
          obtain ⟨m0, m1, m2⟩ := hcc
          refine wpAnyH_ready (rs := [5]) (by kernel_rfl) (by simp) ?_
          refine AllReadyH.cons rfl (fun K hK => ?_) AllReadyH.nil
          go_simp
          refine hK.out _ _ hHeld (fun hHeld1 => ?_)
          clear hK K hHeld
          have hHeld := hHeld1
          clear hHeld1 m0 m1 m2
          try simp only [Act.put, List.getElem_toArray, List.getElem_cons_succ, List.getElem_cons_zero, List.setIfInBounds_toArray, List.set_cons_zero, List.set_cons_succ]
          refine wpAnyH_ready (rs := [8]) (by kernel_rfl) (by simp) ?_
          refine AllReadyH.cons rfl (fun K hK => ?_) AllReadyH.nil
          go_simp
          refine (plus_p p d c HC _ HPB HDB).mono ?_
          rintro e w8 ⟨rfl, b8⟩
          have HL8 := Lib.hid (HL7.out.below b8)
          refine hK.out _ _ (lb_mk (x := ⟨(r0 : Int), (s : Int), x2, x3, x4⟩) (hHeld.2.2.2.2.2.below b8 hHeld.2.2.2.2.2.lt)) (fun hHeld1 => ?_)
          clear hK K hHeld
          have hHeld := hHeld1
          clear hHeld1
          try simp only [Act.put, List.getElem_toArray, List.getElem_cons_succ, List.getElem_cons_zero, List.setIfInBounds_toArray, List.set_cons_zero, List.set_cons_succ]
          refine wpAnyH_ready (rs := [9]) (by kernel_rfl) (by simp) ?_
          refine AllReadyH.cons rfl (fun K hK => ?_) AllReadyH.nil
          go_simp
          refine hK.out _ _ (lb_mk (x := ⟨(r0 : Int), (s : Int), x2, x3, x4⟩) (hHeld.2.2.2.2.2.alloc _)) (fun hHeld1 => ?_)
          clear hK K hHeld
          have hHeld := hHeld1
          clear hHeld1
          try simp only [Act.put, List.getElem_toArray, List.getElem_cons_succ, List.getElem_cons_zero, List.setIfInBounds_toArray, List.set_cons_zero, List.set_cons_succ]
          refine wpAnyH_ready (rs := [10]) (by kernel_rfl) (by simp) ?_
          refine AllReadyH.cons rfl (fun K hK => ?_) AllReadyH.nil
          refine step_append_lies _ rfl _ _ 138 rfl w.heap.size 72 i05 (.agg #[.int .i64 0, .int .i64 0, .int .i64 0]) 3 24 Tryz.underlying138 hi5 hz05 hz15 hz25 rfl (by decide) _ _ _ rfl ((HL8.out.alloc _).2.2.1) ⟨w8.heap.size, 0, none⟩ 1 1 [.int .i64 c.east, .int .i64 c.north, .int .i64 c.up] rfl rfl (World.news_of_block (alloc_at rfl)) (by simp [Value.oneCell']) (by decide) (by unfold maxLen; omega) (by omega) (HL8.out.alloc (.cells #[.int .i64 c.east, .int .i64 c.north, .int .i64 c.up] 72)).1.2.1.size _ rfl ?_
          intro g9 c9 w9 hown' hgrow hat hlt9
          have HL9 := Lib.hid (HL8.out.place (p := c) HCB.out hown' hgrow hat)
          have HX9 := Lib.hid (show ¬ g9 = X by
              rcases hat with a | a
              · intro e; subst e; exact HXN.out.2.2 a
              · have k := HXW.out; have k2 : W6.heap.size ≤ w8.heap.size := Nat.le_trans b7.size b8.size; simp at a; intro e; omega)
          have HB9 := Lib.hid (hHeld.2.2.2.2.2.grown hgrow (fun e => HXN.out.2.2 e.symm))
          refine hK.out _ _ (lb_mk (x := ⟨(r0 : Int), (s : Int), x2, x3, x4⟩) HB9.out) (fun hHeld1 => ?_)
          clear hK K hHeld
          have hHeld := hHeld1
          clear hHeld1
          try simp only [Act.put, List.getElem_toArray, List.getElem_cons_succ, List.getElem_cons_zero, List.setIfInBounds_toArray, List.set_cons_zero, List.set_cons_succ]
          refine' wpAnyH_take (i := 11) (v := ?vr6_11) rfl (by kernel_rfl) (by kernel_rfl) (by kernel_rfl) (fun _ _ _ h => h) (Or.inl ⟨by rfl, ?hyr6_11⟩) (by assumption) ?restr6_11
          case hyr6_11 => (intro w hSw; (try dsimp only at hSw); go_simp; try (with_reducible rfl))
          simp only [Act.put, List.getElem_toArray, List.getElem_cons_succ, List.getElem_cons_zero, List.setIfInBounds_toArray, List.set_cons_zero, List.set_cons_succ]
          refine wpAnyH_done (by kernel_rfl) ?_ _
          first | refine hK0 _ _ (Met.intro (hJ0 _ _ ?_)) | refine Met.intro (hK0 _ _ (Met.intro (hJ0 _ _ ?_)))
          (repeat apply Exists.intro)
          exact ⟨⟨g9, c9, _, rfl, HL9.out, HB9.out, HXN.out.1, HXN.out.2.1, fun e => HX9.out (by simpa [Value.ownBlock] using e)⟩, rfl⟩
      case rest =>
        obtain ⟨g9, c9, ps9, rfl, hL9, hB9, hX9⟩ := hcut
        have HL9 := Lib.hid hL9
        have HB9 := Lib.hid hB9
        have HX9 := Lib.hid hX9
        clear hL9 hB9 hX9 HL6 HB6 k0 k1 k2 HPS HPM HPB HDB HCB HC HD HXN HXW hri hr00 hrd
        go_wp2_with fail
        refine (one_any B b (kk + 1 + 5 * j + 4) A n cap zs _ 4 (by omega) HL9.out.1.1 (by decide) (by decide)).mono ?_
        rintro e w10 ⟨t1, rfl, hC, hg⟩
        have HL10 := Lib.hid (HL9.out.step hC hg)
        have HB10 := Lib.hid (HB9.out.grown hg (fun e => by injection e with e; have := HX9.out.1; omega))
        have hsz := HL10.out.1.2.1.size
        clear hC hg HL9 HB9
        have y0 := HB10.out.cell 0
        have y1 := HB10.out.cell 1
        have y2 := HB10.out.cell 2
        have y3 := HB10.out.cell 3
        have y4 := HB10.out.cell 4
        have xl := HB10.out.lt
        simp only [List.getElem?_toArray, List.getElem?_cons_zero, List.getElem?_cons_succ] at y0 y1 y2 y3 y4
        cases t1
        · go_wp2_with (at_builtin; refine wpList_append_lies _ rfl _ _ 24 rfl w.heap.size 87 i01 (.agg #[.int .i64 0, .int .i64 0, .int .i64 0, .int .i64 0, .int .i64 0]) 5 40 Tryz.underlying24 hi1 hz01 hz11 hz21 rfl (by decide) _ _ _ rfl ((HL10.out.alloc _).row) ⟨w10.heap.size, 0, none⟩ 1 1 [.int .i64 (r0 : Int), .int .i64 (s : Int), .int .i64 x2, .int .i64 x3, .int .i64 x4] rfl rfl (World.news_of_block (alloc_at rfl)) (by simp [Value.oneCell']) (by decide) (by unfold maxLen; omega) (by omega) (by simp; omega) _ rfl ?_; intro g8 c8 w8 hown' hgrow hat hlt8)
          have HL8 := Lib.hid (HL10.out.leg (t := ⟨(r0 : Int), (s : Int), x2, x3, x4⟩) (okE6_D HOK.out) hown' hgrow hat)
          clear hown' hgrow hat
          go_roundw
          case rel => exact ⟨j + 1, s + 1, c8, c9, _, _, _, ps9, by omega, by first | go_num | (congr 1; omega), rfl, rfl, HL8.out.more (by omega)⟩
          case measure => simp [intOf]; omega
        · obtain ⟨y, HY⟩ : ∃ y, Hid (revLg ⟨(r0 : Int), (s : Int), x2, x3, x4⟩ = y) := ⟨_, Lib.hid rfl⟩
          have HOY := Lib.hid (show okLg y = true by rw [← HY.out]; exact rev_ok6 HOK.out)
          go_wp2_with fail
          refine (rev_is ⟨(r0 : Int), (s : Int), x2, x3, x4⟩ y HY _ (by show 0 ≤ x3; omega) (by show x3 ≤ 100000; omega) (by show -1000 ≤ x4; omega) (by show x4 ≤ 1000; omega)).mono ?_
          rintro e w11 ⟨rfl, b11⟩
          have HL11 := Lib.hid (HL10.out.below b11)
          have HB11 := Lib.hid (HB10.out.below b11 HB10.out.lt)
          clear b11 HL10 HB10 y0 y1 y2 y3 y4 xl hsz
          have z0 := HB11.out.cell 0
          have z1 := HB11.out.cell 1
          have z2 := HB11.out.cell 2
          have z3 := HB11.out.cell 3
          have z4 := HB11.out.cell 4
          have zl := HB11.out.lt
          simp only [List.getElem?_toArray, List.getElem?_cons_zero, List.getElem?_cons_succ] at z0 z1 z2 z3 z4
          have f0 := HB11.out.frozen 0
          have f1 := HB11.out.frozen 1
          have f2 := HB11.out.frozen 2
          have f3 := HB11.out.frozen 3
          have f4 := HB11.out.frozen 4
          go_upto_region 11 with fail
          obtain ⟨w10, HW, HL10, HB10⟩ : ∃ W, Hid ((((((w11.setCell ⟨X, 0, none⟩ (.int .i64 y.frm)).setCell ⟨X, 1, none⟩ (.int .i64 y.to_)).setCell ⟨X, 2, none⟩ (.int .i64 y.tape)).setCell ⟨X, 3, none⟩ (.int .i64 y.comp)).setCell ⟨X, 4, none⟩ (.int .i64 y.slope)) = W) ∧ Hid (LS w B b (kk + 1 + 5 * j + 4 + 1) A n cap zs A1 j c1 ts (some ⟨g9, 0, none⟩) (s + 1) c9 ps9 W) ∧ Hid (Blk W X 87 #[.int .i64 y.frm, .int .i64 y.to_, .int .i64 y.tape, .int .i64 y.comp, .int .i64 y.slope]) := ⟨_, Lib.hid rfl, Lib.hid (HL11.out.put5 HX9.out ⟨(r0 : Int), (s : Int), x2, x3, x4⟩ y HB11.out).1, Lib.hid (HL11.out.put5 HX9.out ⟨(r0 : Int), (s : Int), x2, x3, x4⟩ y HB11.out).2⟩
          rw [HW.out]
          clear HW HL11 HB11 z0 z1 z2 z3 z4 zl f0 f1 f2 f3 f4
          have hsz := HL10.out.1.2.1.size
          have y0 := HB10.out.cell 0
          have y1 := HB10.out.cell 1
          have y2 := HB10.out.cell 2
          have y3 := HB10.out.cell 3
          have y4 := HB10.out.cell 4
          have xl := HB10.out.lt
          simp only [List.getElem?_toArray, List.getElem?_cons_zero, List.getElem?_cons_succ] at y0 y1 y2 y3 y4
          go_wp2_with (at_builtin; refine wpList_append_lies _ rfl _ _ 24 rfl w.heap.size 87 i01 (.agg #[.int .i64 0, .int .i64 0, .int .i64 0, .int .i64 0, .int .i64 0]) 5 40 Tryz.underlying24 hi1 hz01 hz11 hz21 rfl (by decide) _ _ _ rfl ((HL10.out.alloc _).row) ⟨w10.heap.size, 0, none⟩ 1 1 [.int .i64 y.frm, .int .i64 y.to_, .int .i64 y.tape, .int .i64 y.comp, .int .i64 y.slope] rfl rfl (World.news_of_block (alloc_at rfl)) (by simp [Value.oneCell']) (by decide) (by unfold maxLen; omega) (by omega) (by simp; omega) _ rfl ?_; intro g8 c8 w8 hown' hgrow hat hlt8)
          have HL8 := Lib.hid (HL10.out.leg (t := y) (okE6_D HOY.out) hown' hgrow hat)
          clear hown' hgrow hat
          go_roundw
          case rel => exact ⟨j + 1, s + 1, c8, c9, _, _, _, ps9, by omega, by first | go_num | (congr 1; omega), rfl, rfl, HL8.out.more (by omega)⟩
          case measure => simp [intOf]; omega
    · have hse : s = nn := by omega
      subst hse
      have hkd : decide (s < s) = false := by simp
      have hj1 : 1 ≤ j := by omega
      have hj5 : j ≤ 5 := by omega
      obtain ⟨g5, cp5, hv5, -, -⟩ := HL.out.2.2.1.form (by omega)
      injection hv5 with hA5 _ hc5
      subst hA5 hc5
      have HM := Lib.hid (HL.out.more (show kk + 1 + 5 * j ≤ kk + 40 by omega))
      clear HL
      go_wp2_with fail
      refine (pick_any B b (kk + 40) A n cap zs _ 4 (by omega) HM.out.1.1 (by omega) (by omega)).mono ?_
      rintro e w20 ⟨m0, rfl, hm0, hC, hg⟩
      have HM2 := Lib.hid (HM.out.step hC hg)
      clear hC hg HM
      go_wp2_with fail
      go_loopw [3, 8] (fun v i wr => ∃ (q d j2 c2 : Nat) (A2 : Option Addr) (us : List Lg), (q + d = m0 ∧ 1 ≤ j2 ∧ j2 ≤ 5 + d) ∧ i = .int .i64 (q : Nat) ∧ v = .slice A2 j2 c2 ∧ LS w B b (kk + 41 + 5 * d) A n cap zs A2 j2 c2 us (some ⟨g5, 0, none⟩) s c5 ps wr) (fun _ i _ => (intOf i).toNat)
      case atStart => exact ⟨m0, 0, j, c1, A1, ts, by omega, rfl, rfl, HM2.out⟩
      case round =>
        obtain ⟨q, d, j2, c2, A2, us, ⟨hqd, hj21, hj22⟩, rfl, rfl, hL⟩ := hrel
        have HL := Lib.hid hL
        clear hL HM2
        by_cases hq : 0 < q
        · have hqi : (0 : Int) < (q : Int) := by omega
          have hqd1 : decide ((0 : Int) < (q : Int)) = true := by simp; omega
          have hqd2 : decide (0 < q) = true := by simp; omega
          go_wp2_with fail
          refine (pick_any B b (kk + 41 + 5 * d) A n cap zs _ s (by omega) HL.out.1.1 (by omega) (by omega)).mono ?_
          rintro e w2 ⟨ra, rfl, hra, hC, hg⟩
          have HL2 := Lib.hid (HL.out.step hC hg)
          have hra1 : ra < s := by omega
          clear hra hC hg HL
          go_wp2_with fail
          refine (pick_any B b (kk + 41 + 5 * d + 1) A n cap zs _ s (by omega) HL2.out.1.1 (by omega) (by omega)).mono ?_
          rintro e w3 ⟨rb, rfl, hrb, hC, hg⟩
          have HL3 := Lib.hid (HL2.out.step hC hg)
          have hrb1 : rb < s := by omega
          clear hrb hC hg HL2
          go_upto_region 16 with fail
          obtain ⟨p, hp⟩ : ∃ p, ps[rb]? = some p := ⟨_, List.getElem?_eq_getElem (by rw [HL3.out.2.2.2.1]; exact hrb1)⟩
          obtain ⟨q0, hq0⟩ : ∃ q, ps[ra]? = some q := ⟨_, List.getElem?_eq_getElem (by rw [HL3.out.2.2.2.1]; exact hra1)⟩
          have HP := Lib.hid hp
          have HQ := Lib.hid hq0
          have HPM := Lib.hid (show BdS p by have k := HL3.out.2.2.2.2.1 p (List.mem_of_getElem? hp); unfold BdM at k; unfold BdS; omega)
          have HQM := Lib.hid (show BdS q0 by have k := HL3.out.2.2.2.2.1 q0 (List.mem_of_getElem? hq0); unfold BdM at k; unfold BdS; omega)
          obtain ⟨d0, HD⟩ : ∃ d, Hid (sub3 p q0 = d) := ⟨_, Lib.hid rfl⟩
          obtain ⟨k0, k1, k2, l0, l1, l2, -⟩ := HL3.out.mk6 hp hq0
          clear hp hq0
          have hai : (ra : Int) < (s : Int) := by omega
          have ha0 : (0 : Int) ≤ (ra : Int) := by omega
          have had : decide (ra < s) = true := by simpa using hra1
          have hbi : (rb : Int) < (s : Int) := by omega
          have hb0 : (0 : Int) ≤ (rb : Int) := by omega
          have hbd : decide (rb < s) = true := by simpa using hrb1
          go_cut [11] (fun v wx => ∃ X, v = .pointer (some ⟨X, 0, none⟩) ∧ LS w B b (kk + 41 + 5 * d + 2) A n cap zs A2 j2 c2 us (some ⟨g5, 0, none⟩) s c5 ps wx ∧ Blk wx X 72 #[.int .i64 d0.east, .int .i64 d0.north, .int .i64 d0.up])
          case first => as_aux_lemma =>
            rename_i J0 K0 hJ0 hK0
            refine wp_region_held_drew (S := (fun u => u.cell? ⟨g5, rb * 3, none⟩ = some (.int .i64 p.east) ∧ u.cell? ⟨g5, rb * 3 + 1, none⟩ = some (.int .i64 p.north) ∧ u.cell? ⟨g5, rb * 3 + 2, none⟩ = some (.int .i64 p.up) ∧ u.cell? ⟨g5, ra * 3, none⟩ = some (.int .i64 q0.east) ∧ u.cell? ⟨g5, ra * 3 + 1, none⟩ = some (.int .i64 q0.north) ∧ u.cell? ⟨g5, ra * 3 + 2, none⟩ = some (.int .i64 q0.up) ∧ LS w B b (kk + 41 + 5 * d + 2) A n cap zs A2 j2 c2 us (some ⟨g5, 0, none⟩) s c5 ps u)) (by kernel_rfl) ?_ (fun hHeld => ?_)
            · exact (HL3.out.below (Below.refl _ _).drew).mk6 HP.out HQ.out
            obtain ⟨V0, HV0⟩ : ∃ V, Hid (w3.drew = V) := ⟨_, Lib.hid rfl⟩
            rw [HV0.out] at hHeld ⊢
            clear HV0 HL3 k0 k1 k2 l0 l1 l2
            refine' wpAnyH_take (i := 0) (v := ?vx1_0) rfl (by kernel_rfl) (by kernel_rfl) (by kernel_rfl) (fun _ _ _ h => h) (Or.inl ⟨by rfl, ?hyx1_0⟩) (by assumption) ?restx1_0
            case hyx1_0 => (intro w hSw; (try dsimp only at hSw); go_simp; try (with_reducible rfl))
            simp only [Act.put, List.getElem_toArray, List.getElem_cons_succ, List.getElem_cons_zero, List.setIfInBounds_toArray, List.set_cons_zero, List.set_cons_succ]
            refine' wpAnyH_take (i := 1) (v := ?vx2_1) rfl (by kernel_rfl) (by kernel_rfl) (by kernel_rfl) (fun _ _ _ h => h) (Or.inl ⟨by rfl, ?hyx2_1⟩) (by assumption) ?restx2_1
            case hyx2_1 => (intro w hSw; (try dsimp only at hSw); go_simp; try (with_reducible rfl))
            simp only [Act.put, List.getElem_toArray, List.getElem_cons_succ, List.getElem_cons_zero, List.setIfInBounds_toArray, List.set_cons_zero, List.set_cons_succ]
            refine' wpAnyH_take (i := 2) (v := ?vx3_2) rfl (by kernel_rfl) (by kernel_rfl) (by kernel_rfl) (fun _ _ _ h => h) (Or.inl ⟨by rfl, ?hyx3_2⟩) (by assumption) ?restx3_2
            case hyx3_2 => (intro w hSw; (try dsimp only at hSw); go_simp; try (with_reducible rfl))
            simp only [Act.put, List.getElem_toArray, List.getElem_cons_succ, List.getElem_cons_zero, List.setIfInBounds_toArray, List.set_cons_zero, List.set_cons_succ]
            refine' wpAnyH_take (i := 3) (v := ?vx4_3) rfl (by kernel_rfl) (by kernel_rfl) (by kernel_rfl) (fun _ _ _ h => h) (Or.inl ⟨by rfl, ?hyx4_3⟩) (by assumption) ?restx4_3
            case hyx4_3 => (intro w hSw; (try dsimp only at hSw); go_simp; try (with_reducible rfl))
            simp only [Act.put, List.getElem_toArray, List.getElem_cons_succ, List.getElem_cons_zero, List.setIfInBounds_toArray, List.set_cons_zero, List.set_cons_succ]
            refine' wpAnyH_take (i := 4) (v := ?vx5_4) rfl (by kernel_rfl) (by kernel_rfl) (by kernel_rfl) (fun _ _ _ h => h) (Or.inl ⟨by rfl, ?hyx5_4⟩) (by assumption) ?restx5_4
            case hyx5_4 => (intro w hSw; (try dsimp only at hSw); go_simp; try (with_reducible rfl))
            simp only [Act.put, List.getElem_toArray, List.getElem_cons_succ, List.getElem_cons_zero, List.setIfInBounds_toArray, List.set_cons_zero, List.set_cons_succ]
            refine' wpAnyH_take (i := 5) (v := ?vx6_5) rfl (by kernel_rfl) (by kernel_rfl) (by kernel_rfl) (fun _ _ _ h => h) (Or.inl ⟨by rfl, ?hyx6_5⟩) (by assumption) ?restx6_5
            case hyx6_5 => (intro w hSw; (try dsimp only at hSw); go_simp; try (with_reducible rfl))
            simp only [Act.put, List.getElem_toArray, List.getElem_cons_succ, List.getElem_cons_zero, List.setIfInBounds_toArray, List.set_cons_zero, List.set_cons_succ]
            refine' wpAnyH_take (i := 6) (v := ?vx7_6) rfl (by kernel_rfl) (by kernel_rfl) (by kernel_rfl) (fun _ _ _ h => h) (Or.inl ⟨by rfl, ?hyx7_6⟩) (by assumption) ?restx7_6
            case hyx7_6 => (intro w hSw; (try dsimp only at hSw); go_simp; try (with_reducible rfl))
            simp only [Act.put, List.getElem_toArray, List.getElem_cons_succ, List.getElem_cons_zero, List.setIfInBounds_toArray, List.set_cons_zero, List.set_cons_succ]
            refine' wpAnyH_take (i := 7) (v := ?vx8_7) rfl (by kernel_rfl) (by kernel_rfl) (by kernel_rfl) (fun _ _ _ h => h) (Or.inl ⟨by rfl, ?hyx8_7⟩) (by assumption) ?restx8_7
            case hyx8_7 => (intro w hSw; (try dsimp only at hSw); go_simp; try (with_reducible rfl))
            simp only [Act.put, List.getElem_toArray, List.getElem_cons_succ, List.getElem_cons_zero, List.setIfInBounds_toArray, List.set_cons_zero, List.set_cons_succ]
            refine wpAnyH_ready (rs := [8, 9]) (by kernel_rfl) (by simp) ?_
            refine AllReadyH.cons rfl (fun K hK => ?_) (AllReadyH.cons rfl (fun K hK => ?_) AllReadyH.nil)
            · go_simp
              refine (plus_m p q0 d0 HD _ HPM HQM).mono ?_
              rintro e V1 ⟨rfl, b1⟩
              refine hK.out _ _ ((hHeld.2.2.2.2.2.2.below b1).mk6 HP.out HQ.out) (fun hHeld1 => ?_)
              clear hK K hHeld
              have hHeld := hHeld1
              clear hHeld1
              try simp only [Act.put, List.getElem_toArray, List.getElem_cons_succ, List.getElem_cons_zero, List.setIfInBounds_toArray, List.set_cons_zero, List.set_cons_succ]
              clear b1
              refine wpAnyH_ready (rs := [9]) (by kernel_rfl) (by simp) ?_
              refine AllReadyH.cons rfl (fun K hK => ?_) AllReadyH.nil
              go_simp
              have HXN := Lib.hid hHeld.2.2.2.2.2.2.new
              refine hK.out _ _ ((hHeld.2.2.2.2.2.2.alloc _).mk6 HP.out HQ.out) (fun hHeld1 => ?_)
              clear hK K hHeld
              have hHeld := hHeld1
              clear hHeld1
              try simp only [Act.put, List.getElem_toArray, List.getElem_cons_succ, List.getElem_cons_zero, List.setIfInBounds_toArray, List.set_cons_zero, List.set_cons_succ]
              obtain ⟨X, HX⟩ : ∃ X, Hid (V1.heap.size = X) := ⟨_, Lib.hid rfl⟩
              obtain ⟨V2, HVN, HZ⟩ : ∃ V, Hid (V1.alloc (.cells #[.int .i64 0, .int .i64 0, .int .i64 0] 72) = V) ∧ Hid (Blk V V1.heap.size 72 #[.int .i64 0, .int .i64 0, .int .i64 0]) := ⟨_, Lib.hid rfl, Lib.hid (Blk.new _ _ _)⟩
              rw [HX.out] at HZ HXN
              rw [HVN.out] at hHeld ⊢
              try rw [HX.out]
              clear HVN HX
              have z0 := HZ.out.cell 0
              have z1 := HZ.out.cell 1
              have z2 := HZ.out.cell 2
              have zl := HZ.out.lt
              simp only [List.getElem?_toArray, List.getElem?_cons_zero, List.getElem?_cons_succ] at z0 z1 z2
              have f0 := HZ.out.frozen 0
              have f1 := HZ.out.frozen 1
              have f2 := HZ.out.frozen 2
              refine wpAnyH_ready (rs := [10]) (by kernel_rfl) (by simp) ?_
              refine AllReadyH.cons rfl (fun K hK => ?_) AllReadyH.nil
              go_simp
              refine hK.out _ _ ((((hHeld.2.2.2.2.2.2.set HXN.out 0 _).set HXN.out 1 _).set HXN.out 2 _).mk6 HP.out HQ.out) (fun hHeld1 => ?_)
              clear hK K hHeld
              have hHeld := hHeld1
              clear hHeld1
              try simp only [Act.put, List.getElem_toArray, List.getElem_cons_succ, List.getElem_cons_zero, List.setIfInBounds_toArray, List.set_cons_zero, List.set_cons_succ]
              refine wpAnyH_done (by kernel_rfl) ?_ _
              have HL9 := Lib.hid hHeld.2.2.2.2.2.2
              have HB9 := Lib.hid (((HZ.out.set_ 0 (.int .i64 d0.east)).set_ 1 (.int .i64 d0.north)).set_ 2 (.int .i64 d0.up))
              clear hHeld z0 z1 z2 f0 f1 f2 zl
              first | refine hK0 _ _ (Met.intro (hJ0 _ _ ?_)) | refine Met.intro (hK0 _ _ (Met.intro (hJ0 _ _ ?_)))
              (repeat apply Exists.intro)
              exact ⟨⟨X, rfl, HL9.out, HB9.out⟩, rfl⟩
            · go_simp
              have HXN := Lib.hid hHeld.2.2.2.2.2.2.new
              refine hK.out _ _ ((hHeld.2.2.2.2.2.2.alloc _).mk6 HP.out HQ.out) (fun hHeld1 => ?_)
              clear hK K hHeld
              have hHeld := hHeld1
              clear hHeld1
              try simp only [Act.put, List.getElem_toArray, List.getElem_cons_succ, List.getElem_cons_zero, List.setIfInBounds_toArray, List.set_cons_zero, List.set_cons_succ]
              obtain ⟨X, HX⟩ : ∃ X, Hid (V0.heap.size = X) := ⟨_, Lib.hid rfl⟩
              obtain ⟨V1, HVN, HZ⟩ : ∃ V, Hid (V0.alloc (.cells #[.int .i64 0, .int .i64 0, .int .i64 0] 72) = V) ∧ Hid (Blk V V0.heap.size 72 #[.int .i64 0, .int .i64 0, .int .i64 0]) := ⟨_, Lib.hid rfl, Lib.hid (Blk.new _ _ _)⟩
              rw [HX.out] at HZ HXN
              rw [HVN.out] at hHeld ⊢
              try rw [HX.out]
              clear HVN HX
              refine wpAnyH_ready (rs := [8]) (by kernel_rfl) (by simp) ?_
              refine AllReadyH.cons rfl (fun K hK => ?_) AllReadyH.nil
              go_simp
              refine (plus_m p q0 d0 HD _ HPM HQM).mono ?_
              rintro e V2 ⟨rfl, b1⟩
              have HZ2 := Lib.hid (HZ.out.below b1 HZ.out.lt)
              refine hK.out _ _ ((hHeld.2.2.2.2.2.2.below b1).mk6 HP.out HQ.out) (fun hHeld1 => ?_)
              clear hK K hHeld
              have hHeld := hHeld1
              clear hHeld1
              try simp only [Act.put, List.getElem_toArray, List.getElem_cons_succ, List.getElem_cons_zero, List.setIfInBounds_toArray, List.set_cons_zero, List.set_cons_succ]
              clear b1 HZ
              have z0 := HZ2.out.cell 0
              have z1 := HZ2.out.cell 1
              have z2 := HZ2.out.cell 2
              have zl := HZ2.out.lt
              simp only [List.getElem?_toArray, List.getElem?_cons_zero, List.getElem?_cons_succ] at z0 z1 z2
              have f0 := HZ2.out.frozen 0
              have f1 := HZ2.out.frozen 1
              have f2 := HZ2.out.frozen 2
              refine wpAnyH_ready (rs := [10]) (by kernel_rfl) (by simp) ?_
              refine AllReadyH.cons rfl (fun K hK => ?_) AllReadyH.nil
              go_simp
              refine hK.out _ _ ((((hHeld.2.2.2.2.2.2.set HXN.out 0 _).set HXN.out 1 _).set HXN.out 2 _).mk6 HP.out HQ.out) (fun hHeld1 => ?_)
              clear hK K hHeld
              have hHeld := hHeld1
              clear hHeld1
              try simp only [Act.put, List.getElem_toArray, List.getElem_cons_succ, List.getElem_cons_zero, List.setIfInBounds_toArray, List.set_cons_zero, List.set_cons_succ]
              refine wpAnyH_done (by kernel_rfl) ?_ _
              have HL9 := Lib.hid hHeld.2.2.2.2.2.2
              have HB9 := Lib.hid (((HZ2.out.set_ 0 (.int .i64 d0.east)).set_ 1 (.int .i64 d0.north)).set_ 2 (.int .i64 d0.up))
              clear hHeld z0 z1 z2 f0 f1 f2 zl
              first | refine hK0 _ _ (Met.intro (hJ0 _ _ ?_)) | refine Met.intro (hK0 _ _ (Met.intro (hJ0 _ _ ?_)))
              (repeat apply Exists.intro)
              exact ⟨⟨X, rfl, HL9.out, HB9.out⟩, rfl⟩
          case rest =>
            obtain ⟨X, rfl, hL5, hB5⟩ := hcut
            have HL5 := Lib.hid hL5
            have HB5 := Lib.hid hB5
            clear hL5 hB5 HL3 k0 k1 k2 l0 l1 l2 HP HQ HPM HQM HD hai ha0 had hbi hb0 hbd
            have z0 := HB5.out.cell 0
            have z1 := HB5.out.cell 1
            have z2 := HB5.out.cell 2
            have zl := HB5.out.lt
            simp only [List.getElem?_toArray, List.getElem?_cons_zero, List.getElem?_cons_succ] at z0 z1 z2
            go_wp2_with fail
            refine (len_ex d0.east d0.north 0 _).mono ?_
            rintro e w6 ⟨lv, ok1, rfl, hlv, b6⟩
            have HL6 := Lib.hid (HL5.out.below b6)
            have HB6 := Lib.hid (HB5.out.below b6 HB5.out.lt)
            clear b6 HL5 HB5 z0 z1 z2 zl
            have z0 := HB6.out.cell 0
            have z1 := HB6.out.cell 1
            have z2 := HB6.out.cell 2
            have zl := HB6.out.lt
            simp only [List.getElem?_toArray, List.getElem?_cons_zero, List.getElem?_cons_succ] at z0 z1 z2
            go_wp2_with fail
            refine (len_ex d0.east d0.north d0.up _).mono ?_
            rintro e w7 ⟨tp, ok2, rfl, htp, b7⟩
            have HL7 := Lib.hid (HL6.out.below b7)
            have HB7 := Lib.hid (HB6.out.below b7 HB6.out.lt)
            clear b7 HL6 HB6 z0 z1 z2 zl
            have z0 := HB7.out.cell 0
            have z1 := HB7.out.cell 1
            have z2 := HB7.out.cell 2
            have zl := HB7.out.lt
            simp only [List.getElem?_toArray, List.getElem?_cons_zero, List.getElem?_cons_succ] at z0 z1 z2
            by_cases hab : ra = rb
            · have he1 : decide ((ra : Int) = (rb : Int)) = true := by simp; omega
              have he2 : ((ra : Int) == (rb : Int)) = true := by simp; omega
              have he3 : decide (ra = rb) = true := by simpa using hab
              have he4 : (ra == rb) = true := by simpa using hab
              clear hab
              go_wp2_with fail
              go_roundw
              case rel => exact ⟨q - 1, d + 1, j2, c2, A2, us, by omega, by first | go_num | (congr 1; omega), rfl, HL7.out.more (by omega)⟩
              case measure => simp [intOf]; omega
            · have he1 : decide ((ra : Int) = (rb : Int)) = false := by simp; omega
              have he2 : ((ra : Int) == (rb : Int)) = false := by simp; omega
              have he3 : decide (ra = rb) = false := by simpa using hab
              have he4 : (ra == rb) = false := by simpa using hab
              clear hab
              obtain ⟨t, HT⟩ : ∃ t, Hid (btw 4 (tp + 3) 500 = t) := ⟨_, Lib.hid rfl⟩
              go_wp2_with fail
              refine (inn.in_is (tp + 3) 4 500 t HT _).mono ?_
              rintro e w8 ⟨rfl, rfl⟩
              cases t
              · go_wp2_with fail
                go_roundw
                case rel => exact ⟨q - 1, d + 1, j2, c2, A2, us, by omega, by first | go_num | (congr 1; omega), rfl, HL7.out.more (by omega)⟩
                case measure => simp [intOf]; omega
              · have htb : 1 ≤ tp ∧ tp ≤ 497 := by have := HT.out; simp [btw] at this; omega
                go_wp2_with fail
                refine (bear_ex d0.east d0.north _).mono ?_
                rintro e w8 ⟨cm, ok3, rfl, hcm, b8⟩
                have HL8 := Lib.hid (HL7.out.below b8)
                have HB8 := Lib.hid (HB7.out.below b8 HB7.out.lt)
                clear b8 HL7 HB7 z0 z1 z2 zl
                have z0 := HB8.out.cell 0
                have z1 := HB8.out.cell 1
                have z2 := HB8.out.cell 2
                have zl := HB8.out.lt
                simp only [List.getElem?_toArray, List.getElem?_cons_zero, List.getElem?_cons_succ] at z0 z1 z2
                go_wp2_with fail
                refine (slope_ex lv d0.up _).mono ?_
                rintro e w9 ⟨sl, ok4, rfl, hsl, b9⟩
                have HL9 := Lib.hid (HL8.out.below b9)
                clear b9 HL8 HB8 z0 z1 z2 zl
                go_wp2_with fail
                refine (pick_any B b (kk + 41 + 5 * d + 2) A n cap zs _ 4 (by omega) HL9.out.1.1 (by omega) (by omega)).mono ?_
                rintro e w10 ⟨r1, rfl, hr1, hC, hg⟩
                have HL10 := Lib.hid (HL9.out.step hC hg)
                clear hC hg HL9
                go_wp2_with fail
                refine (pick_any B b (kk + 41 + 5 * d + 3) A n cap zs _ 3 (by omega) HL10.out.1.1 (by omega) (by omega)).mono ?_
                rintro e w11 ⟨r2, rfl, hr2, hC, hg⟩
                have HL11 := Lib.hid (HL10.out.step hC hg)
                clear hC hg HL10
                have hsz := HL11.out.1.2.1.size
                have hm0 : 0 ≤ cm + (r2 : Int) := by omega
                have hm1 : 0 ≤ (cm + (r2 : Int)) % 360 ∧ (cm + (r2 : Int)) % 360 < 360 := by omega
                go_wp2_with (at_builtin; refine wpList_append_lies _ rfl _ _ 24 rfl w.heap.size 87 i01 (.agg #[.int .i64 0, .int .i64 0, .int .i64 0, .int .i64 0, .int .i64 0]) 5 40 Tryz.underlying24 hi1 hz01 hz11 hz21 rfl (by decide) _ _ _ rfl ((HL11.out.alloc _).row) ⟨w11.heap.size, 0, none⟩ 1 1 [.int .i64 (ra : Int), .int .i64 (rb : Int), .int .i64 (tp + (r1 : Int)), .int .i64 ((cm + (r2 : Int)) % 360), .int .i64 sl] rfl rfl (World.news_of_block (alloc_at rfl)) (by simp [Value.oneCell']) (by decide) (by unfold maxLen; omega) (by omega) (by simp; omega) _ rfl ?_; intro g8 c8 w8 hown' hgrow hat hlt8)
                have HL12 := Lib.hid (HL11.out.leg (t := ⟨(ra : Int), (rb : Int), tp + (r1 : Int), (cm + (r2 : Int)) % 360, sl⟩) (by unfold okD; simp only []; omega) hown' hgrow hat)
                clear hown' hgrow hat
                go_roundw
                case rel => exact ⟨q - 1, d + 1, j2 + 1, c8, (some ⟨g8, 0, none⟩), _, by omega, by first | go_num | (congr 1; omega), rfl, HL12.out.more (by omega)⟩
                case measure => simp [intOf]; omega
        · obtain rfl : q = 0 := by omega
          have hqd2 : decide ((0 : Int) < ((0 : Nat) : Int)) = false := by simp
          have hd3 : d ≤ 3 := by omega
          have hj28 : j2 ≤ 8 := by omega
          have HX := Lib.hid (HL.out.more (show kk + 41 + 5 * d ≤ kk + 90 by omega))
          obtain ⟨g2, cp2, hv2, -, -⟩ := HL.out.row.form (by omega)
          injection hv2 with hA2 _ hc2
          subst hA2 hc2
          clear HL
          go_wp2_with fail
          refine (pick_any B b (kk + 90) A n cap zs _ 24 (by omega) HX.out.1.1 (by decide) (by decide)).mono ?_
          rintro e w30 ⟨sw, rfl, hsw, hC, hg⟩
          have HY := Lib.hid (HX.out.step hC hg)
          have hlc := lgo_cap HY.out.row
          clear hC hg HX hsw
          by_cases h0 : sw = 0
          · subst h0
            go_wp2_with fail
            refine (leg_any B b (kk + 91) A n cap zs _ (by omega) (Lib.hid HY.out.1.1)).mono ?_
            rintro e w31 ⟨t, rfl, hok, hC, hg⟩
            have HT := Lib.hid hok
            have HZ := Lib.hid (HY.out.step hC hg)
            have hsz := HZ.out.1.2.1.size
            clear hok hC hg HY
            have hrow := HZ.out.row
            have hgl := (hrow.lt g2 rfl).2
            have f0 := hrow.frozenAt 0
            have f1 := hrow.frozenAt 1
            have f2 := hrow.frozenAt 2
            have f3 := hrow.frozenAt 3
            have f4 := hrow.frozenAt 4
            obtain ⟨t0, ht0⟩ := at_lt HZ.out.2.1 (show 0 < j2 by omega)
            obtain ⟨e0, e1, e2, e3, e4⟩ := flatLg_at us 0 t0 ht0
            have z0 := (hrow.cellAt 0 (by omega)).trans e0
            have z1 := (hrow.cellAt 1 (by omega)).trans e1
            have z2 := (hrow.cellAt 2 (by omega)).trans e2
            have z3 := (hrow.cellAt 3 (by omega)).trans e3
            have z4 := (hrow.cellAt 4 (by omega)).trans e4
            have hj2i : (0 : Int) < (j2 : Int) := by omega
            have hj2d : decide (0 < j2) = true := by simp; omega
            have HLJ := Lib.hid (show us.length = j2 from HZ.out.2.1)
            have HG := Lib.hid (GS.put HZ.out.1 HZ.out.2.1 (show 0 < j2 by omega) HT.out)
            clear hrow e0 e1 e2 e3 e4 ht0 HZ
            go_wp2_with fail
            go_ret
            exact ⟨_, us.set 0 t, rfl, by rw [List.length_set, HLJ.out]; omega, by have h := HG.out.more (show kk + 91 + 7 ≤ kk + 200 by omega); simpa using h⟩
          by_cases h1 : sw = 1
          · obtain rfl : sw = 1 := h1
            go_wp2_with fail
            refine (leg_any B b (kk + 91) A n cap zs _ (by omega) (Lib.hid HY.out.1.1)).mono ?_
            rintro e w31 ⟨t, rfl, hok, hC, hg⟩
            have HT := Lib.hid hok
            have HZ := Lib.hid (HY.out.step hC hg)
            have hsz := HZ.out.1.2.1.size
            clear hok hC hg HY
            go_wp2_with (at_builtin; refine wpList_append_lies _ rfl _ _ 24 rfl w.heap.size 87 i01 (.agg #[.int .i64 0, .int .i64 0, .int .i64 0, .int .i64 0, .int .i64 0]) 5 40 Tryz.underlying24 hi1 hz01 hz11 hz21 rfl (by decide) _ _ _ rfl ((HZ.out.alloc _).row) ⟨w31.heap.size, 0, none⟩ 1 1 [.int .i64 t.frm, .int .i64 t.to_, .int .i64 t.tape, .int .i64 t.comp, .int .i64 t.slope] rfl rfl (World.news_of_block (alloc_at rfl)) (by simp [Value.oneCell']) (by decide) (by unfold maxLen; omega) (by omega) (by simp; omega) _ rfl ?_; intro g8 c8 w8 hown' hgrow hat hlt8)
            have HLJ := Lib.hid (show us.length = j2 from HZ.out.2.1)
            have HL8 := Lib.hid (HZ.out.leg (t := t) HT.out hown' hgrow hat)
            clear hown' hgrow hat
            go_ret
            exact ⟨_, us ++ [t], rfl, by rw [List.length_append, HLJ.out]; simp; omega, HL8.out.1.more (by omega)⟩
          by_cases h2 : sw = 2
          · obtain rfl : sw = 2 := h2
            have HLJ := Lib.hid (show us.length = j2 from HY.out.2.1)
            have HDR := Lib.hid (show (us.drop 1).length = j2 - 1 by rw [List.length_drop, HLJ.out])
            have HOKS := Lib.hid (show ∀ t ∈ us.drop 1, okD t from fun t ht => HY.out.1.2.2.2.1 t (List.mem_of_mem_drop ht))
            have hsz := HY.out.1.2.1.size
            have HR0 := Lib.hid (show (w30.alloc (.cells #[] 87)).ownsRow w.heap.size 87 5 (.slice (some ⟨w30.heap.size, 0, none⟩) 0 0) 0 [] from World.ownsRow_made w30 #[] 0 hsz (by decide) (by simp))
            have HNW := Lib.hid (show ∀ (i : Nat) (u : Value), (flatLg (us.drop 1))[i]? = some u → (w30.alloc (.cells #[] 87)).cell? ((⟨g2, 5, none⟩ : Addr).add i) = some u from fun i u hu => by
                    have hi : i < ((us.drop 1).length) * 5 := by have := (List.getElem?_eq_some_iff.1 hu).1; rw [flatLg_len] at this; exact this
                    rw [HDR.out] at hi
                    have h := ((HY.out.alloc (.cells #[] 87)).row).cellAt (5 + i) (by omega)
                    rw [← flat_tail, List.getElem?_drop] at hu
                    rw [← hu, ← h]
                    congr 1
                    unfold Addr.add
                    by_cases h0 : i = 0 <;> simp [h0])
            have HNL := Lib.hid (show (flatLg (us.drop 1)).length = (j2 - 1) * 5 by rw [flatLg_len, HDR.out])
            have h1i : (1 : Int) ≤ (j2 : Int) := by omega
            have h1d : decide (1 ≤ j2) = true := by simp; omega
            by_cases hc : c2 = 1
            · have hj2 : j2 = 1 := by omega
              subst hc
              subst hj2
              have HE0 := Lib.hid (show us.drop 1 = [] from List.eq_nil_of_length_eq_zero (by rw [HDR.out]))
              have HKG := Lib.hid (HY.out.alloc (.cells #[] 87)).1
              have HO2 := Lib.hid (show (w30.alloc (.cells #[] 87)).ownsRow w.heap.size 87 5 (.slice (some ⟨w30.heap.size, 0, none⟩) 0 0) (us.drop 1).length (flatLg (us.drop 1)) by rw [HE0.out]; exact HR0.out)
              go_wp2_with fail
              go_ret
              exact ⟨_, us.drop 1, rfl, by rw [HDR.out]; omega, GS.more ⟨HKG.out.1, HKG.out.2.1, HO2.out, HOKS.out, HKG.out.2.2.2.2⟩ (by omega)⟩
            · go_wp2_with (at_builtin; refine wpList_append_own _ rfl _ _ 24 rfl w.heap.size 87 i01 (.agg #[.int .i64 0, .int .i64 0, .int .i64 0, .int .i64 0, .int .i64 0]) 5 40 Tryz.underlying24 hi1 hz01 hz11 hz21 rfl (by decide) _ 0 [] rfl (HR0.out) ⟨g2, 5, none⟩ (j2 - 1) (c2 - 1) (flatLg (us.drop 1)) rfl HNL.out HNW.out (flat_one _) (by unfold maxLen; omega) (by omega) (by simp; omega) ?_; intro v8 w8 hown' hgrow _)
              have hg2 : (w30.alloc (.cells #[] 87)).grownBy w8 (some w30.heap.size) := hgrow
              have ho2 : w8.ownsRow w.heap.size 87 5 v8 (us.drop 1).length (flatLg (us.drop 1)) := by rw [HDR.out]; simpa using hown'
              clear hown' hgrow
              have HKG := Lib.hid (keep_GS (HY.out.alloc (.cells #[] 87)).1 hg2 (fun g e => ⟨by injection e with e; omega, fun q => by have hlt := (HY.out.row.lt g q).2; injection e with e; omega⟩))
              have HO2 := Lib.hid ho2
              clear hg2 ho2
              go_ret
              exact ⟨v8, us.drop 1, rfl, by rw [HDR.out]; omega, GS.more ⟨HKG.out.1, HKG.out.2.1, HO2.out, HOKS.out, HKG.out.2.2.2.2⟩ (by omega)⟩
          have a0 : ((sw : Int) == 0) = false := by simp; omega
          have a1 : ((sw : Int) == 1) = false := by simp; omega
          have a2 : ((sw : Int) == 2) = false := by simp; omega
          have b0 : decide ((sw : Int) = 0) = false := by simp; omega
          have b1 : decide ((sw : Int) = 1) = false := by simp; omega
          have b2 : decide ((sw : Int) = 2) = false := by simp; omega
          clear h0 h1 h2
          have HLJ := Lib.hid (show us.length = j2 from HY.out.2.1)
          go_wp2_with fail
          go_ret
          exact ⟨_, us, rfl, by rw [HLJ.out]; omega, HY.out.1.more (by omega)⟩
end Go.Proofs.YtnpghhpcloljeabGreatDoor.dcv

namespace Go.Proofs.YtnpghhpcloljeabGreatDoor.dcv
open Go.RowKit
open reads base curs curd cure ty lg nt drl
set_option linter.unusedVariables false
set_option linter.unusedSimpArgs false

/-- drawn legs and a number -/
def CAPo (lo hi : Int) (w : World) (e : Ending) (w' : World) : Prop := ∃ (v : Value) (ts : List Lg) (q : Int), e = .returned (.tuple #[v, .int .i64 q]) ∧ w'.ownsRow w.heap.size 87 5 v ts.length (flatLg ts) ∧ ts.length ≤ 13 ∧ (lo ≤ q ∧ q ≤ hi) ∧ Below w.heap.size w w'
end Go.Proofs.YtnpghhpcloljeabGreatDoor.dcv

namespace Go.Proofs.YtnpghhpcloljeabGreatDoor.dcv
open Go.RowKit
open reads base curs curd cure ty lg nt drl
set_option linter.unusedVariables false
set_option linter.unusedSimpArgs false

end Go.Proofs.YtnpghhpcloljeabGreatDoor.dcv
