/-
  The model's matrix of a network: what lies in memory while it is made.
  Conditions: none but those that a theorem names.
-/
import Derived.Test.YtiimegmaokfpgabGreatDoorMdF
import Derived.Test.YtiimegmaokfpgabGreatDoorMlC
import Derived.Deep.RegionHeld3
import Derived.Deep.RegionWith
import Derived.BigRegion
namespace Go.Proofs.YtiimegmaokfpgabGreatDoor.ml
open Go.RowKit
open reads base ty lg rowi hs nt mt dt
set_option linter.unusedVariables false
set_option linter.unusedSimpArgs false

/-- a list of ints that lies between two blocks -/
def UL (v : World) (A : Option Addr) (n : Nat) (U : List Int) (h1 R : Nat) : Prop := ints.IL v A n U ∧ ∀ g, A = some ⟨g, 0, none⟩ → h1 ≤ g ∧ g < R
/-- the matrix, the right side, the used legs -/
def MS (w : World) (A : Option Addr) (m c : Nat) (P : Nat → Nat) (R : Nat) (U : List Int) (AU : Option Addr) (nu h1 : Nat) (M : Nat → Nat → Int) (r : Nat → Int) (v : World) : Prop :=
  MxB v w.heap.size A m c m P M ∧ RwB v R m r ∧ UL v AU nu U h1 R ∧ Below w.heap.size w v ∧ (∀ i, i < m → P i < h1) ∧ h1 ≤ R ∧ w.heap.size ≤ h1
section
variable {w v v' : World} {A AU : Option Addr} {m c R nu h1 : Nat} {P : Nat → Nat} {U : List Int} {M : Nat → Nat → Int} {r : Nat → Int}
theorem MS.step (h : MS w A m c P R U AU nu h1 M r v) (hb : Below v.heap.size v v') : MS w A m c P R U AU nu h1 M r v' := by
  obtain ⟨a, b, d, e, f⟩ := h
  refine ⟨a.step hb, b.below hb b.lt, ⟨?_, d.2⟩, e.trans (hb.mono e.size), f⟩
  refine d.1.keep (fun g o q => ?_)
  have h2 := (d.2 g q).2
  have h3 := b.lt
  exact hb.cell (p := ⟨g, o, none⟩) (by show g < _; omega)
theorem MS.congr {N : Nat → Nat → Int} {s : Nat → Int} (h : MS w A m c P R U AU nu h1 M r v) (e : ∀ i, i < m → ∀ j, j < m → M i j = N i j) (e2 : ∀ i, i < m → r i = s i) : MS w A m c P R U AU nu h1 N s v :=
  ⟨h.1.congr e, h.2.1.congr e2, h.2.2⟩
theorem MS.setM (h : MS w A m c P R U AU nu h1 M r v) {i j : Nat} (hi : i < m) (hj : j < m) (x : Int) : MS w A m c P R U AU nu h1 (upd2 M i j x) r (v.setCell ⟨P i, j, none⟩ (.int .i64 x)) := by
  obtain ⟨a, b, d, e, f, g, hh⟩ := h
  have hp := f i hi
  refine ⟨a.set hi hj x, Blk.far b (by show R ≠ P i; omega) _, ⟨?_, d.2⟩, e.setCell (p := ⟨P i, j, none⟩) (a.2.1 i hi).2 _, f, g, hh⟩
  refine d.1.keep (fun k o q => ?_)
  have h2 := (d.2 k q).1
  exact World.cell?_setCell_other v _ _ _ (fun z => by injection z with z1 _; omega)
theorem MS.setR (h : MS w A m c P R U AU nu h1 M r v) {i : Nat} (hi : i < m) (x : Int) : MS w A m c P R U AU nu h1 M (upd r i x) (v.setCell ⟨R, i, none⟩ (.int .i64 x)) := by
  obtain ⟨a, b, d, e, f, g, hh⟩ := h
  refine ⟨⟨?_, fun k hk => ⟨Blk.far (a.2.1 k hk).1 (by have := f k hk; show P k ≠ R; omega) _, (a.2.1 k hk).2⟩, a.2.2⟩, b.set hi x, ⟨?_, d.2⟩, e.setCell (p := ⟨R, i, none⟩) (by show w.heap.size ≤ R; omega) _, f, g, hh⟩
  · exact own_far' R a.1 (own_blk_ne a.1 b (by decide)) i _
  · refine d.1.keep (fun k o q => ?_)
    have h2 := (d.2 k q).2
    exact World.cell?_setCell_other v _ _ _ (fun z => by injection z with z1 _; omega)
theorem MS.row (h : MS w A m c P R U AU nu h1 M r v) {i : Nat} (hi : i < m) : (∀ j, j < m → v.cell? ⟨P i, j, none⟩ = some (.int .i64 (M i j))) ∧ (∀ j, v.frozen? ⟨P i, j, none⟩ = false) ∧ P i < v.heap.size :=
  ⟨(h.1.row hi).1, (h.1.row hi).2.1, (h.1.row hi).2.2.2⟩
theorem MS.rt (h : MS w A m c P R U AU nu h1 M r v) : (∀ j, j < m → v.cell? ⟨R, j, none⟩ = some (.int .i64 (r j))) ∧ (∀ j, v.frozen? ⟨R, j, none⟩ = false) ∧ R < v.heap.size :=
  ⟨fun j hj => h.2.1.at_ hj, fun j => h.2.1.fro j, h.2.1.lt⟩
end
theorem infoR : (Tryz.prog.info? 27).map (fun i => (i.zero, i.size, i.bytes)) = some (some (.slice none 0 0), 1, 24) := by kernel_rfl
/-- the matrix of a network -/
def MPo (m : Nat) (M : Nat → Nat → Int) (w : World) (e : Ending) (w' : World) : Prop :=
  ∃ A c P, e = .returned (.slice A m c) ∧ MxB w' w.heap.size A m c m P M ∧ Below w.heap.size w w'
/-- no row yet, and one row more -/
theorem MxB.none_ {w : World} {b c m : Nat} {A : Option Addr} (h : w.ownsRow b 27 1 (.slice A 0 c) 0 []) : MxB w b A 0 c m (fun _ => 0) (fun _ _ => 0) :=
  ⟨h, fun i hi => by omega, fun i j hi => by omega⟩
theorem rp_snoc (k m : Nat) (P : Nat → Nat) (X : Nat) : rp k m P ++ [.slice (some ⟨X, 0, none⟩) m m] = rp (k + 1) m (fun i => if i = k then X else P i) := by
  unfold rp
  rw [List.range_succ, List.map_append]
  congr 1
  · refine List.map_congr_left (fun i hi => ?_)
    have := List.mem_range.1 hi
    show _ = Value.slice (some ⟨if i = k then X else P i, 0, none⟩) m m
    rw [if_neg (by omega)]
  · simp
#print axioms MS.setR
end Go.Proofs.YtiimegmaokfpgabGreatDoor.ml
