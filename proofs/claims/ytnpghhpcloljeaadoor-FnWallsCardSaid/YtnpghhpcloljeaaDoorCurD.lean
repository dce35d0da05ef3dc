/-
  Draws that every chapter uses: one among some numbers that are made on the spot, and what draws leave alone.
  Conditions: the code has at most 65536 bytes.
-/
import Derived.Test.YtnpghhpcloljeaaDoorCurs
namespace Go.Proofs.YtnpghhpcloljeaaDoor.curd
open Go.RowKit
open reads curs
set_option linter.unusedVariables false

theorem cur_more {w : World} {B b k : Nat} {A : Option Addr} {n cap : Nat} {zs : List UInt8} (h : Cur w B b k A n cap zs) (m : Nat) (hm : k ≤ m) : Cur w B b m A n cap zs := by
  obtain ⟨c1, c2, c3, pos, sd, c4, c5⟩ := h
  exact ⟨c1, c2, c3, pos, sd, by omega, c5⟩
/-- one among some numbers that are made on the spot -/
theorem among_new (B b k : Nat) (A : Option Addr) (n cap : Nat) (zs : List UInt8) (w : World) (m cp : Nat) (xs : List Int) (hk : k ≤ 80000) (h : Cur w B b k A n cap zs) (hm : xs.length = m) (h0 : 0 < m) (h1 : m ≤ 200) :
    Calls Tryd.prog 66 #[.pointer (some ⟨b, 0, none⟩), .slice (some ⟨w.heap.size, 0, none⟩) m cp] (w.alloc (.cells (intsV xs).toArray 3)) (curs.APost B b (k + 1) A n cap zs xs w) := by
  have hlt := cur_lt h
  have hB : B ≤ w.heap.size := by have := h.1; omega
  refine (among_any B b k A n cap zs _ w.heap.size m cp xs hk (cur_alloc h hB _) (Blk.new w _ _) (by omega) hm h0 h1).mono ?_
  rintro e w1 ⟨x, hx, he, hC, hg⟩
  exact ⟨x, hx, he, hC, (World.grownBy_alloc w _ (some b)).trans hg⟩

theorem among_at (B b k : Nat) (A : Option Addr) (n cap : Nat) (zs : List UInt8) (w : World) (g : Nat) (hg : w.heap.size = g) (m cp : Nat) (xs : List Int) (hk : k ≤ 80000) (h : Cur w B b k A n cap zs) (hm : xs.length = m) (h0 : 0 < m) (h1 : m ≤ 200) :
    Calls Tryd.prog 66 #[.pointer (some ⟨b, 0, none⟩), .slice (some ⟨g, 0, none⟩) m cp] (w.alloc (.cells (intsV xs).toArray 3)) (curs.APost B b (k + 1) A n cap zs xs w) := by
  subst hg
  exact among_new B b k A n cap zs w m cp xs hk h hm h0 h1

/-- one among the first m of some numbers -/
theorem among_pre (B b k : Nat) (A : Option Addr) (n cap : Nat) (zs : List UInt8) (w : World) (g m cp : Nat) (xs : List Int) (hk : k ≤ 80000) (h : Cur w B b k A n cap zs) (hg : Blk w g 3 (intsV xs).toArray) (hne : g ≠ b) (hm : m ≤ xs.length) (h0 : 0 < m) (h1 : m ≤ 200) :
    Calls Tryd.prog 66 #[.pointer (some ⟨b, 0, none⟩), .slice (some ⟨g, 0, none⟩) m cp] w (curs.APost B b (k + 1) A n cap zs xs w) := by
  have H := Lib.hid h
  have HG := Lib.hid hg
  have HM := Lib.hid hm
  have HN := Lib.hid hne
  clear h hg hm hne
  go_enter Tryd.func66, Tryd.ntmps66
  go_wp2_with fail
  refine (pick_any B b k A n cap zs _ m (by omega) H.out h0 h1).mono ?_
  rintro e w1 ⟨r, rfl, hr, hC, hgr⟩
  have hrm : r < m := by omega
  have hb1 := HG.out.grown hgr (by simpa using HN.out)
  have hrp : r < xs.length := by have := HM.out; omega
  have HP := Lib.hid (show xs[r] ∈ xs from List.getElem_mem hrp)
  obtain ⟨p, hp⟩ : ∃ p, xs[r] = p := ⟨_, rfl⟩
  have hcell : w1.cell? ⟨g, r, none⟩ = some (.int .i64 p) := by
    rw [hb1.cell]
    simp [intsV, List.getElem?_eq_getElem hrp, hp]
  rw [hp] at HP
  have hri : (r : Int) < (m : Int) := by omega
  have HC := Lib.hid hC
  have HGR := Lib.hid hgr
  clear hC hgr hb1 hp
  go_wp2_with fail
  go_ret
  exact ⟨p, HP.out, rfl, HC.out, HGR.out⟩

/-- a number that is drawn within two others -/
def DPost (B b k : Nat) (A : Option Addr) (n cap : Nat) (zs : List UInt8) (lo hi : Int) (w : World) (e : Ending) (w' : World) : Prop :=
  ∃ x : Int, e = .returned (.int .i64 x) ∧ lo ≤ x ∧ x ≤ hi ∧ Cur w' B b k A n cap zs ∧ w.grownBy w' (some b)

/-- a drawn number, behind its function -/
def OPost (lo hi : Int) (w : World) (e : Ending) (w' : World) : Prop := ∃ x : Int, e = .returned (.int .i64 x) ∧ lo ≤ x ∧ x ≤ hi ∧ Below w.heap.size w w'
/-- what the draws leave alone -/
theorem low {w w1 : World} {o : Obj} (hg : (w.alloc o).grownBy w1 (some w.heap.size)) : Below w.heap.size w w1 :=
  ((Below.refl _ w).alloc (Nat.le_refl _) o).grown hg (by simp) (fun k hk => by injection hk with hk; omega)

end Go.Proofs.YtnpghhpcloljeaaDoor.curd
