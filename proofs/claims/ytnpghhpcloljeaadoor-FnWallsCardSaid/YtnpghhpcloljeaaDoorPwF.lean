/-
  The place of a station in a list of passages (pure).
  Conditions: none but those that a theorem names.
-/
import Derived.Test.YtnpghhpcloljeaaDoorPwE
namespace Go.Proofs.YtnpghhpcloljeaaDoor.pw
open Go.RowKit
open reads base ty rowi win lg
set_option linter.unusedVariables false
set_option linter.unusedSimpArgs false

/-- the first index with a station or one behind it -/
def pos : List Pg → Int → Nat
  | [], _ => 0
  | p :: ts, d => if p.st < d then pos ts d + 1 else 0
theorem pos_lim : ∀ (ts : List Pg) (d : Int), pos ts d ≤ ts.length ∧ (∀ (i : Nat) p, i < pos ts d → ts[i]? = some p → p.st < d) ∧ ∀ p, ts[pos ts d]? = some p → d ≤ p.st
  | [], d => ⟨Nat.le_refl _, fun i p hi => absurd hi (Nat.not_lt_zero _), fun p hp => by simp at hp⟩
  | p :: ts, d => by
    obtain ⟨a, b, c⟩ := pos_lim ts d
    by_cases h : p.st < d
    · have e : pos (p :: ts) d = pos ts d + 1 := by show (if p.st < d then _ else _) = _; rw [if_pos h]
      rw [e]
      refine ⟨by simpa using a, fun i q hi hq => ?_, fun q hq => c q (by simpa using hq)⟩
      cases i with
      | zero => simp at hq; subst hq; exact h
      | succ i => exact b i q (by omega) (by simpa using hq)
    · have e : pos (p :: ts) d = 0 := by show (if p.st < d then _ else _) = _; rw [if_neg h]
      rw [e]
      exact ⟨Nat.zero_le _, fun i q hi => absurd hi (Nat.not_lt_zero _), fun q hq => by simp at hq; subst hq; omega⟩
theorem pos_lt {ts : List Pg} (hu : Up ts) {m : Nat} {x : Pg} {d : Int} (hm : ts[m]? = some x) (h : x.st < d) : m < pos ts d := by
  obtain ⟨a, b, c⟩ := pos_lim ts d
  rcases Nat.lt_or_ge m (pos ts d) with q | q
  · exact q
  · exfalso
    obtain ⟨y, hy⟩ := at_lt rfl (show pos ts d < ts.length by have := lt_at hm; omega)
    have := c y hy
    by_cases e : pos ts d = m
    · rw [e, hm] at hy; obtain rfl := Option.some.inj hy; omega
    · have := hu.lt m (pos ts d) x y (by omega) hy hm; omega
theorem pos_ge {ts : List Pg} {m : Nat} {x : Pg} {d : Int} (hm : ts[m]? = some x) (h : d ≤ x.st) : pos ts d ≤ m := by
  rcases Nat.lt_or_ge m (pos ts d) with q | q
  · have := (pos_lim ts d).2.1 m x q hm; omega
  · exact q
/-- a passage lies at a station -/
def onSt (ts : List Pg) (d : Int) : Bool := match ts[pos ts d]? with
  | some q => q.st == d
  | none => false
theorem on_yes {ts : List Pg} {d : Int} (h : onSt ts d = true) : ∃ q, ts[pos ts d]? = some q ∧ q.st = d ∧ pgAt ts d = some q := by
  unfold onSt at h
  cases e : ts[pos ts d]? with
  | none => rw [e] at h; cases h
  | some q =>
    rw [e] at h
    have hq : q.st = d := by simpa using h
    refine ⟨q, rfl, hq, ?_⟩
    unfold pgAt
    rw [fdN_is ts d (pos ts d) q (fun i p hi hp => by have := (pos_lim ts d).2.1 i p hi hp; omega) e hq]
    exact e
theorem on_no {ts : List Pg} (hu : Up ts) {d : Int} (h : onSt ts d = false) : pgAt ts d = none ∧ (∀ (i : Nat) q, i < pos ts d → ts[i]? = some q → q.st < d) ∧ ∀ (i : Nat) q, pos ts d ≤ i → ts[i]? = some q → d < q.st := by
  have key : ∀ (i : Nat) q, pos ts d ≤ i → ts[i]? = some q → d < q.st := fun i q hi hq => by
    obtain ⟨y, hy⟩ := at_lt rfl (show pos ts d < ts.length by have := lt_at hq; omega)
    have c := (pos_lim ts d).2.2 y hy
    have n : ¬ y.st = d := by unfold onSt at h; rw [hy] at h; simpa using h
    by_cases e : pos ts d = i
    · rw [e, hq] at hy; obtain rfl := Option.some.inj hy; omega
    · have := hu.lt i (pos ts d) q y (by omega) hy hq; omega
  refine ⟨hu.none_ (fun p hp e => ?_), (pos_lim ts d).2.1, key⟩
  obtain ⟨i, hi⟩ := List.mem_iff_getElem?.1 hp
  rcases Nat.lt_or_ge i (pos ts d) with q | q
  · have := (pos_lim ts d).2.1 i p q hi; omega
  · have := key i p q hi; omega
/-- a passage's five cells in memory -/
def C5 (w : World) (g o : Nat) (x : Pg) : Prop := (w.cell? ⟨g, o, none⟩ = some (.int .i64 x.st) ∧ w.cell? ⟨g, o + 1, none⟩ = some (.int .i64 x.lf) ∧ w.cell? ⟨g, o + 2, none⟩ = some (.int .i64 x.rt) ∧ w.cell? ⟨g, o + 3, none⟩ = some (.int .i64 x.ab) ∧ w.cell? ⟨g, o + 4, none⟩ = some (.int .i64 x.be)) ∧ g < w.heap.size
theorem C5.below {w v : World} {g o : Nat} {x : Pg} (h : C5 w g o x) (hb : Below w.heap.size w v) : v.cell? ⟨g, o, none⟩ = some (.int .i64 x.st) ∧ v.cell? ⟨g, o + 1, none⟩ = some (.int .i64 x.lf) ∧ v.cell? ⟨g, o + 2, none⟩ = some (.int .i64 x.rt) ∧ v.cell? ⟨g, o + 3, none⟩ = some (.int .i64 x.ab) ∧ v.cell? ⟨g, o + 4, none⟩ = some (.int .i64 x.be) :=
  ⟨(hb.cell (p := ⟨g, o, none⟩) h.2).trans h.1.1, (hb.cell (p := ⟨g, o + 1, none⟩) h.2).trans h.1.2.1, (hb.cell (p := ⟨g, o + 2, none⟩) h.2).trans h.1.2.2.1, (hb.cell (p := ⟨g, o + 3, none⟩) h.2).trans h.1.2.2.2.1, (hb.cell (p := ⟨g, o + 4, none⟩) h.2).trans h.1.2.2.2.2⟩
theorem c5_mk {w v : World} {g o : Nat} {x : Pg} (h : C5 w g o x) (hb : Below w.heap.size w v) : v.cell? ⟨g, o, none⟩ = some (.int .i64 x.st) ∧ v.cell? ⟨g, o + 1, none⟩ = some (.int .i64 x.lf) ∧ v.cell? ⟨g, o + 2, none⟩ = some (.int .i64 x.rt) ∧ v.cell? ⟨g, o + 3, none⟩ = some (.int .i64 x.ab) ∧ v.cell? ⟨g, o + 4, none⟩ = some (.int .i64 x.be) ∧ Below w.heap.size w v := by
  obtain ⟨a, b, c, d, e⟩ := h.below hb
  exact ⟨a, b, c, d, e, hb⟩
theorem c6_mk {w v : World} {g o p : Nat} {x : Pg} {y : Value} (h : C5 w g o x) (hy : w.cell? ⟨g, p, none⟩ = some y ∧ g < w.heap.size) (hb : Below w.heap.size w v) : v.cell? ⟨g, o, none⟩ = some (.int .i64 x.st) ∧ v.cell? ⟨g, o + 1, none⟩ = some (.int .i64 x.lf) ∧ v.cell? ⟨g, o + 2, none⟩ = some (.int .i64 x.rt) ∧ v.cell? ⟨g, o + 3, none⟩ = some (.int .i64 x.ab) ∧ v.cell? ⟨g, o + 4, none⟩ = some (.int .i64 x.be) ∧ v.cell? ⟨g, p, none⟩ = some y ∧ Below w.heap.size w v := by
  obtain ⟨a, b, c, d, e⟩ := h.below hb
  exact ⟨a, b, c, d, e, (hb.cell (p := ⟨g, p, none⟩) hy.2).trans hy.1, hb⟩
/-- a passage in a box of one's own -/
def WB (w : World) (X : Nat) (q : Pg) (v : World) : Prop := Below w.heap.size w v ∧ Blk v X 43 #[.int .i64 q.st, .int .i64 q.lf, .int .i64 q.rt, .int .i64 q.ab, .int .i64 q.be] ∧ w.heap.size ≤ X
theorem WB.step {w v v' : World} {X : Nat} {q : Pg} (h : WB w X q v) (hb : Below v.heap.size v v') : WB w X q v' := ⟨h.1.trans (hb.mono h.1.size), h.2.1.below hb h.2.1.lt, h.2.2⟩
theorem WB.put {w v : World} {X : Nat} {q : Pg} (h : WB w X q v) (y : Pg) : WB w X y (((((v.setCell ⟨X, 0, none⟩ (.int .i64 y.st)).setCell ⟨X, 1, none⟩ (.int .i64 y.lf)).setCell ⟨X, 2, none⟩ (.int .i64 y.rt)).setCell ⟨X, 3, none⟩ (.int .i64 y.ab)).setCell ⟨X, 4, none⟩ (.int .i64 y.be)) := by
  obtain ⟨h1, h2, h3⟩ := h
  refine ⟨((((h1.setCell h3 _).setCell h3 _).setCell h3 _).setCell h3 _).setCell h3 _, ?_, h3⟩
  have k := ((((h2.set_ 0 (.int .i64 y.st)).set_ 1 (.int .i64 y.lf)).set_ 2 (.int .i64 y.rt)).set_ 3 (.int .i64 y.ab)).set_ 4 (.int .i64 y.be)
  exact k
theorem WB.fro {w v : World} {X : Nat} {q : Pg} (h : WB w X q v) : v.frozen? ⟨X, 0, none⟩ = false ∧ v.frozen? ⟨X, 1, none⟩ = false ∧ v.frozen? ⟨X, 2, none⟩ = false ∧ v.frozen? ⟨X, 3, none⟩ = false ∧ v.frozen? ⟨X, 4, none⟩ = false := ⟨h.2.1.frozen 0, h.2.1.frozen 1, h.2.1.frozen 2, h.2.1.frozen 3, h.2.1.frozen 4⟩
theorem WB.cs {w v : World} {X : Nat} {q : Pg} (h : WB w X q v) : v.cell? ⟨X, 0, none⟩ = some (.int .i64 q.st) ∧ v.cell? ⟨X, 1, none⟩ = some (.int .i64 q.lf) ∧ v.cell? ⟨X, 2, none⟩ = some (.int .i64 q.rt) ∧ v.cell? ⟨X, 3, none⟩ = some (.int .i64 q.ab) ∧ v.cell? ⟨X, 4, none⟩ = some (.int .i64 q.be) := ⟨h.2.1.cell 0, h.2.1.cell 1, h.2.1.cell 2, h.2.1.cell 3, h.2.1.cell 4⟩
theorem wb_mk {w v : World} {X g o : Nat} {q x : Pg} (hc : C5 w g o x) (h : WB w X q v) : v.cell? ⟨g, o, none⟩ = some (.int .i64 x.st) ∧ v.cell? ⟨g, o + 1, none⟩ = some (.int .i64 x.lf) ∧ v.cell? ⟨g, o + 2, none⟩ = some (.int .i64 x.rt) ∧ v.cell? ⟨g, o + 3, none⟩ = some (.int .i64 x.ab) ∧ v.cell? ⟨g, o + 4, none⟩ = some (.int .i64 x.be) ∧ v.cell? ⟨X, 0, none⟩ = some (.int .i64 q.st) ∧ v.cell? ⟨X, 1, none⟩ = some (.int .i64 q.lf) ∧ v.cell? ⟨X, 2, none⟩ = some (.int .i64 q.rt) ∧ v.cell? ⟨X, 3, none⟩ = some (.int .i64 q.ab) ∧ v.cell? ⟨X, 4, none⟩ = some (.int .i64 q.be) ∧ X < v.heap.size ∧ WB w X q v := by
  obtain ⟨a, b, c, d, e⟩ := hc.below h.1
  exact ⟨a, b, c, d, e, h.2.1.cell 0, h.2.1.cell 1, h.2.1.cell 2, h.2.1.cell 3, h.2.1.cell 4, h.2.1.lt, h⟩
/-- numbers of one's own under way -/
def IR (w : World) (A : Option Addr) (m c : Nat) (xs : List Int) (v : World) : Prop := Below w.heap.size w v ∧ v.ownsRow w.heap.size 3 1 (.slice A m c) m (ints.intsV xs) ∧ xs.length = m
theorem IR.step {w v v' : World} {A : Option Addr} {m c : Nat} {xs : List Int} (h : IR w A m c xs v) (hb : Below v.heap.size v v') : IR w A m c xs v' := ⟨h.1.trans (hb.mono h.1.size), row_below h.2.1 hb, h.2.2⟩
theorem made1 (w v : World) (h : w.heap.size ≤ v.heap.size) (e : TypeId) (size : Nat) : (v.alloc (.cells #[] e)).ownsRow w.heap.size e size (.slice (some ⟨v.heap.size, 0, none⟩) 0 0) 0 [] := World.ownsRow_made v #[] 0 h (by decide) (by simp)
theorem IR.mk0 {w v : World} (h : Below w.heap.size w v) : IR w (some ⟨v.heap.size, 0, none⟩) 0 0 [] (v.alloc (.cells #[] 3)) := ⟨h.alloc h.size _, made1 w v h.size 3 1, rfl⟩
end Go.Proofs.YtnpghhpcloljeaaDoor.pw
