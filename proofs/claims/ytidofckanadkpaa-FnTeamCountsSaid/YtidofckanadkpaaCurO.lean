/-
  One of some texts, drawn.
  Conditions: the code has at most 65536 bytes.
-/
import Derived.Test.YtidofckanadkpaaCurD
namespace Go.Proofs.Ytidofckanadkpaa.curo
open Go.RowKit
open reads curs curd
set_option linter.unusedVariables false

def strs (ps : List ByteArray) : List Value := ps.map Value.string
/-- what is chosen among some texts -/
def OPost (B b k : Nat) (A : Option Addr) (n cap : Nat) (zs : List UInt8) (ps : List ByteArray) (w : World) (e : Ending) (w' : World) : Prop :=
  ∃ p : ByteArray, p ∈ ps ∧ e = .returned (.string p) ∧ Cur w' B b k A n cap zs ∧ w.grownBy w' (some b)

theorem of_any (B b k : Nat) (A : Option Addr) (n cap : Nat) (zs : List UInt8) (w : World) (g m cp : Nat) (ps : List ByteArray) (hk : k ≤ 80000) (h : Cur w B b k A n cap zs) (hg : Blk w g 9 (strs ps).toArray) (hne : g ≠ b) (hm : ps.length = m) (h0 : 0 < m) (h1 : m ≤ 200) :
    Calls Try.prog 99 #[.pointer (some ⟨b, 0, none⟩), .slice (some ⟨g, 0, none⟩) m cp] w (OPost B b (k + 1) A n cap zs ps w) := by
  have H := Lib.hid h
  have HG := Lib.hid hg
  have HM := Lib.hid hm
  have HN := Lib.hid hne
  clear h hg hm hne
  go_enter Try.func99, Try.ntmps99
  go_wp2_with fail
  refine (pick_any B b k A n cap zs _ m (by omega) H.out h0 h1).mono ?_
  rintro e w1 ⟨r, rfl, hr, hC, hgr⟩
  have hrm : r < m := by omega
  have hb1 := HG.out.grown hgr (by simpa using HN.out)
  have hrp : r < ps.length := by rw [HM.out]; exact hrm
  have HP := Lib.hid (show ps[r] ∈ ps from List.getElem_mem hrp)
  obtain ⟨p, hp⟩ : ∃ p, ps[r] = p := ⟨_, rfl⟩
  have hcell : w1.cell? ⟨g, r, none⟩ = some (.string p) := by
    rw [hb1.cell]
    simp [strs, List.getElem?_eq_getElem hrp, hp]
  rw [hp] at HP
  have hri : (r : Int) < (m : Int) := by omega
  have HC := Lib.hid hC
  have HGR := Lib.hid hgr
  clear hC hgr hb1 hp
  go_wp2_with fail
  go_ret
  exact ⟨p, HP.out, rfl, HC.out, HGR.out⟩

theorem of_new (B b k : Nat) (A : Option Addr) (n cap : Nat) (zs : List UInt8) (w : World) (m cp : Nat) (ps : List ByteArray) (hk : k ≤ 80000) (h : Cur w B b k A n cap zs) (hm : ps.length = m) (h0 : 0 < m) (h1 : m ≤ 200) :
    Calls Try.prog 99 #[.pointer (some ⟨b, 0, none⟩), .slice (some ⟨w.heap.size, 0, none⟩) m cp] (w.alloc (.cells (strs ps).toArray 9)) (OPost B b (k + 1) A n cap zs ps w) := by
  have hlt := cur_lt h
  have hB : B ≤ w.heap.size := by have := h.1; omega
  refine (of_any B b k A n cap zs _ w.heap.size m cp ps hk (cur_alloc h hB _) (Blk.new w _ _) (by omega) hm h0 h1).mono ?_
  rintro e w1 ⟨x, hx, he, hC, hg⟩
  exact ⟨x, hx, he, hC, (World.grownBy_alloc w _ (some b)).trans hg⟩
end Go.Proofs.Ytidofckanadkpaa.curo
