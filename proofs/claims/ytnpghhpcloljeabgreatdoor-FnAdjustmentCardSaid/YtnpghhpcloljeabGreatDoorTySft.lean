/-
  The exact laws' helpers at shifts: copies, comparisons, sizes, marks, arguments opened.
  Conditions: those that each theorem names.
-/
import Derived.Test.YtnpghhpcloljeabGreatDoorReadsq
import Derived.ProofKit
import Derived.OpenShut
import Derived.Deep.Slices
import Derived.Deep.Fields
namespace Go.Proofs.YtnpghhpcloljeabGreatDoor.ty
open Go.ChangeShapes Go.WideShapes Go.RowKit Go.Deep
open reads base
set_option linter.unusedVariables false
set_option linter.unusedSimpArgs false

/-- a shift -/
structure Sf where
  east : Int
  north : Int
  up : Int
/-- a list of them in memory, 3 cells an element, from the beginning of a block on -/
def SfAt (w : World) (B : Nat) (A : Option Addr) (n : Nat) (ts : List Sf) : Prop :=
  ts.length = n ∧ ∀ k t, ts[k]? = some t → ∃ g, A = some ⟨g, 0, none⟩ ∧ g < B ∧ w.cell? ⟨g, k * 3, none⟩ = some (.int .i64 t.east) ∧ w.cell? ⟨g, k * 3 + 1, none⟩ = some (.int .i64 t.north) ∧ w.cell? ⟨g, k * 3 + 2, none⟩ = some (.int .i64 t.up)
theorem SfAt.below {w w' : World} {B : Nat} {A : Option Addr} {n : Nat} {ts : List Sf} (h : SfAt w B A n ts) (hb : Below B w w') : SfAt w' B A n ts :=
  ⟨h.1, fun k t ht => by
    obtain ⟨g, e, hg, h0, h1, h2⟩ := h.2 k t ht
    exact ⟨g, e, hg, (hb.cell (p := ⟨g, k * 3, none⟩) hg).trans h0, (hb.cell (p := ⟨g, k * 3 + 1, none⟩) hg).trans h1, (hb.cell (p := ⟨g, k * 3 + 2, none⟩) hg).trans h2⟩⟩
theorem SfAt.more {w : World} {B B' : Nat} {A : Option Addr} {n : Nat} {ts : List Sf} (h : SfAt w B A n ts) (hB : B ≤ B') : SfAt w B' A n ts :=
  ⟨h.1, fun k t ht => by
    obtain ⟨g, e, hg, h0⟩ := h.2 k t ht
    exact ⟨g, e, by omega, h0⟩⟩
theorem SfAt.step {w w' : World} {A : Option Addr} {n : Nat} {ts : List Sf} (h : SfAt w w.heap.size A n ts) (hb : Below w.heap.size w w') : SfAt w' w'.heap.size A n ts := (h.below hb).more hb.size
theorem SfAt.alloc {w : World} {A : Option Addr} {n : Nat} {ts : List Sf} (h : SfAt w w.heap.size A n ts) (o : Obj) : SfAt (w.alloc o) (w.alloc o).heap.size A n ts := h.step ((Below.refl _ _).alloc (Nat.le_refl _) _)
/-- an own row of them -/
def flatSf (ts : List Sf) : List Value := ts.flatMap fun t => [.int .i64 t.east, .int .i64 t.north, .int .i64 t.up]
theorem flatSf_len (ts : List Sf) : (flatSf ts).length = ts.length * 3 := by
  induction ts with
  | nil => rfl
  | cons t ts ih =>
    have e : flatSf (t :: ts) = [.int .i64 t.east, .int .i64 t.north, .int .i64 t.up] ++ flatSf ts := rfl
    rw [e, List.length_append, ih]
    simp only [List.length_cons, List.length_nil]
    omega
theorem flatSf_app (ts : List Sf) (t : Sf) : flatSf (ts ++ [t]) = flatSf ts ++ [.int .i64 t.east, .int .i64 t.north, .int .i64 t.up] := by simp [flatSf]
theorem flatSf_at : ∀ (ts : List Sf) (k : Nat) (t : Sf), ts[k]? = some t → (flatSf ts)[k * 3]? = some (.int .i64 t.east) ∧ (flatSf ts)[k * 3 + 1]? = some (.int .i64 t.north) ∧ (flatSf ts)[k * 3 + 2]? = some (.int .i64 t.up)
  | [], k, t, h => by simp at h
  | d :: ts, 0, t, h => by
    simp at h
    subst h
    exact ⟨rfl, rfl, rfl⟩
  | d :: ts, k + 1, t, h => by
    obtain ⟨k0, k1, k2⟩ := flatSf_at ts k t (by simpa using h)
    have e : flatSf (d :: ts) = .int .i64 d.east :: .int .i64 d.north :: .int .i64 d.up :: flatSf ts := rfl
    rw [e, show (k + 1) * 3 = k * 3 + 1 + 1 + 1 by omega, show k * 3 + 1 + 1 + 1 + 1 = (k * 3 + 1) + 1 + 1 + 1 by omega, show k * 3 + 1 + 1 + 1 + 2 = (k * 3 + 2) + 1 + 1 + 1 by omega]
    exact ⟨by simpa using k0, by simpa using k1, by simpa using k2⟩
theorem own_Sf {w : World} {base c n : Nat} {e : TypeId} {A : Option Addr} {ts : List Sf} (hn : ts.length = n) (h : w.ownsRow base e 3 (.slice A n c) n (flatSf ts)) : SfAt w w.heap.size A n ts := by
  refine ⟨hn, fun k d hd => ?_⟩
  have hk : k < ts.length := (List.getElem?_eq_some_iff.1 hd).1
  obtain ⟨g, cap, hv, -, hg⟩ := h.form (by omega)
  injection hv with hA _ hc
  subst hA hc
  obtain ⟨f0, f1, f2⟩ := flatSf_at ts k d hd
  exact ⟨g, rfl, hg, (h.cellAt (k * 3) (by omega)).trans f0, (h.cellAt (k * 3 + 1) (by omega)).trans f1, (h.cellAt (k * 3 + 2) (by omega)).trans f2⟩
theorem infoSf : (Tryz.prog.info? 72).map (fun i => (i.zero, i.size, i.bytes)) = some (some (.agg #[.int .i64 0, .int .i64 0, .int .i64 0]), 3, 24) := by kernel_rfl
end Go.Proofs.YtnpghhpcloljeabGreatDoor.ty
