/-
  The model of the legs: do two legs agree?
  Conditions: none but those that a theorem names.
-/
import Derived.Test.YtnlljdepcldibaaLgR0
import Derived.Test.YtnlljdepcldibaaTurn0
import Derived.Test.YtnlljdepcldibaaMost
import Derived.Deep.DeepCutAuto
namespace Go.Proofs.Ytnlljdepcldibaa.lg
open Go.RowKit
open reads base ty inn mst
set_option linter.unusedVariables false
set_option linter.unusedSimpArgs false

/-- the second leg, turned if it leads the other way -/
def aim (a b : Lg) : Lg := if a.frm = b.to_ ∧ a.to_ = b.frm then revLg b else b
def near (a y : Lg) (d q : Int) : Bool := decide (tn.turn a.comp y.comp ≤ d) && decide (mx (a.slope - y.slope) (y.slope - a.slope) ≤ d) && decide (mx (a.tape - y.tape) (y.tape - a.tape) ≤ q)
def agOk (a b : Lg) (d q : Int) : Bool := okLg a && okLg b && decide (0 ≤ d) && decide (0 ≤ q)
def ansAgree (a b : Lg) (d q : Int) : Value := if agOk a b d q = true ∧ (a.frm = (aim a b).frm ∧ a.to_ = (aim a b).to_) then .tuple #[.bool (near a (aim a b) d q), .bool true] else .tuple #[.bool false, .bool false]
theorem aim_ok {a b : Lg} (h : okLg b = true) : okLg (aim a b) = true := by
  unfold aim
  split
  · exact revLg_ok h
  · exact h
/-- two legs in boxes, and nothing old has turned -/
def B2 (w : World) (a y : Lg) (v : World) : Prop := Blk v w.heap.size 29 #[.int .i64 a.frm, .int .i64 a.to_, .int .i64 a.tape, .int .i64 a.comp, .int .i64 a.slope] ∧ Blk v (w.heap.size + 1) 29 #[.int .i64 y.frm, .int .i64 y.to_, .int .i64 y.tape, .int .i64 y.comp, .int .i64 y.slope] ∧ Below w.heap.size w v
theorem B2.start (w : World) (a y : Lg) : B2 w a y ((w.alloc (.cells #[.int .i64 a.frm, .int .i64 a.to_, .int .i64 a.tape, .int .i64 a.comp, .int .i64 a.slope] 29)).alloc (.cells #[.int .i64 y.frm, .int .i64 y.to_, .int .i64 y.tape, .int .i64 y.comp, .int .i64 y.slope] 29)) := by
  refine ⟨(Blk.new w _ _).alloc _, ?_, ((Below.refl _ _).alloc (Nat.le_refl _) _).alloc (by simp) _⟩
  have h := Blk.new (w.alloc (.cells #[.int .i64 a.frm, .int .i64 a.to_, .int .i64 a.tape, .int .i64 a.comp, .int .i64 a.slope] 29)) 29 #[.int .i64 y.frm, .int .i64 y.to_, .int .i64 y.tape, .int .i64 y.comp, .int .i64 y.slope]
  simpa using h
theorem B2.step {w v v' : World} {a y : Lg} (h : B2 w a y v) (hb : Below v.heap.size v v') : B2 w a y v' := ⟨h.1.below hb h.1.lt, h.2.1.below hb h.2.1.lt, h.2.2.trans (hb.mono h.2.2.size)⟩
theorem B2.ca {w v : World} {a y : Lg} (h : B2 w a y v) : v.cell? ⟨w.heap.size, 0, none⟩ = some (.int .i64 a.frm) ∧ v.cell? ⟨w.heap.size, 1, none⟩ = some (.int .i64 a.to_) ∧ v.cell? ⟨w.heap.size, 2, none⟩ = some (.int .i64 a.tape) ∧ v.cell? ⟨w.heap.size, 3, none⟩ = some (.int .i64 a.comp) ∧ v.cell? ⟨w.heap.size, 4, none⟩ = some (.int .i64 a.slope) := ⟨h.1.cell 0, h.1.cell 1, h.1.cell 2, h.1.cell 3, h.1.cell 4⟩
theorem B2.cb {w v : World} {a y : Lg} (h : B2 w a y v) : v.cell? ⟨w.heap.size + 1, 0, none⟩ = some (.int .i64 y.frm) ∧ v.cell? ⟨w.heap.size + 1, 1, none⟩ = some (.int .i64 y.to_) ∧ v.cell? ⟨w.heap.size + 1, 2, none⟩ = some (.int .i64 y.tape) ∧ v.cell? ⟨w.heap.size + 1, 3, none⟩ = some (.int .i64 y.comp) ∧ v.cell? ⟨w.heap.size + 1, 4, none⟩ = some (.int .i64 y.slope) := ⟨h.2.1.cell 0, h.2.1.cell 1, h.2.1.cell 2, h.2.1.cell 3, h.2.1.cell 4⟩
theorem B2.fb {w v : World} {a y : Lg} (h : B2 w a y v) : v.frozen? ⟨w.heap.size + 1, 0, none⟩ = false ∧ v.frozen? ⟨w.heap.size + 1, 1, none⟩ = false ∧ v.frozen? ⟨w.heap.size + 1, 2, none⟩ = false ∧ v.frozen? ⟨w.heap.size + 1, 3, none⟩ = false ∧ v.frozen? ⟨w.heap.size + 1, 4, none⟩ = false := ⟨h.2.1.frozen 0, h.2.1.frozen 1, h.2.1.frozen 2, h.2.1.frozen 3, h.2.1.frozen 4⟩
theorem B2.put {w v : World} {a b : Lg} (h : B2 w a b v) (y : Lg) : B2 w a y (((((v.setCell ⟨w.heap.size + 1, 0, none⟩ (.int .i64 y.frm)).setCell ⟨w.heap.size + 1, 1, none⟩ (.int .i64 y.to_)).setCell ⟨w.heap.size + 1, 2, none⟩ (.int .i64 y.tape)).setCell ⟨w.heap.size + 1, 3, none⟩ (.int .i64 y.comp)).setCell ⟨w.heap.size + 1, 4, none⟩ (.int .i64 y.slope)) := by
  obtain ⟨h1, h2, h3⟩ := h
  refine ⟨(((((h1.far (by show _ ≠ _; simp) _).far (by show _ ≠ _; simp) _).far (by show _ ≠ _; simp) _).far (by show _ ≠ _; simp) _).far (by show _ ≠ _; simp) _), ?_, (((((h3.setCell (by simp) _).setCell (by simp) _).setCell (by simp) _).setCell (by simp) _).setCell (by simp) _)⟩
  have k := ((((h2.set_ 0 (.int .i64 y.frm)).set_ 1 (.int .i64 y.to_)).set_ 2 (.int .i64 y.tape)).set_ 3 (.int .i64 y.comp)).set_ 4 (.int .i64 y.slope)
  simpa using k
end Go.Proofs.Ytnlljdepcldibaa.lg
