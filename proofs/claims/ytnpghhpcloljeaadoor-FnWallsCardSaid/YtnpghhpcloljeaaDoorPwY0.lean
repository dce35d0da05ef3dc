/-
  The walls of a leg: pure.
  Conditions: the passages lie in one block, at most 2000000 of them.
-/
import Derived.Test.YtnpghhpcloljeaaDoorPwI
import Derived.Test.YtnpghhpcloljeaaDoorLgE
import Derived.BigQuiet
import Derived.Deep.QuietTactic
import Derived.Deep.Cut
import Derived.Deep.DeepCutAuto
import Derived.RegionTactic
import Derived.Deep.RegionWith
import Derived.OwnWalk
import Derived.Deep.RegionHeld3
namespace Go.Proofs.YtnpghhpcloljeaaDoor.pw
open Go.RowKit
open reads base ty rowi win inn lg
set_option linter.unusedVariables false
set_option linter.unusedSimpArgs false

/-- the shift of a wall -/
def walS (far deg : Int) : Sf := ⟨sn.rdiv (far * sn.sinZ deg) 1000, sn.rdiv (far * sn.cosZ deg) 1000, 0⟩
theorem walS_lim {far : Int} (h0 : 0 ≤ far) (h1 : far ≤ 200) (deg : Int) : (-500 ≤ (walS far deg).east ∧ (walS far deg).east ≤ 500) ∧ (-500 ≤ (walS far deg).north ∧ (walS far deg).north ≤ 500) ∧ (-500 ≤ (walS far deg).up ∧ (walS far deg).up ≤ 500) := by
  have a := sn.sinZ_bd deg
  have b := sn.cosZ_bd deg
  obtain ⟨p0, p1⟩ := mul_bd far (sn.sinZ deg) 500 (by decide) (by omega) (by omega) a.1 a.2
  obtain ⟨q0, q1⟩ := mul_bd far (sn.cosZ deg) 500 (by decide) (by omega) (by omega) b.1 b.2
  exact ⟨rdiv_k 500 p0 p1 (by decide), rdiv_k 500 q0 q1 (by decide), by simp [walS]⟩
/-- the four walls of a leg -/
structure Wl where
  a : Sf
  b : Sf
  c : Sf
  d : Sf
def walls (p q : Pg) (x : Lg) : Wl := ⟨walS p.lf (x.comp - 90), walS p.rt (x.comp + 90), add3 (shf x) (walS q.lf (x.comp - 90)), add3 (shf x) (walS q.rt (x.comp + 90))⟩
def hasP (ts : List Pg) (s : Int) : Bool := (pgAt ts s).isSome
def waOk (ts : List Pg) (x : Lg) : Bool := goodPg ts && okLg x && hasP ts x.frm && hasP ts x.to_
def ansWl (y : Wl) (t : Bool) : Value := .tuple #[.agg #[.int .i64 y.a.east, .int .i64 y.a.north, .int .i64 y.a.up, .int .i64 y.b.east, .int .i64 y.b.north, .int .i64 y.b.up, .int .i64 y.c.east, .int .i64 y.c.north, .int .i64 y.c.up, .int .i64 y.d.east, .int .i64 y.d.north, .int .i64 y.d.up], .bool t]
def wl0 : Wl := ⟨⟨0, 0, 0⟩, ⟨0, 0, 0⟩, ⟨0, 0, 0⟩, ⟨0, 0, 0⟩⟩
def waV (ts : List Pg) (x : Lg) : Wl := if waOk ts x then walls (pgZ ts x.frm) (pgZ ts x.to_) x else wl0
def ansWa (ts : List Pg) (x : Lg) : Value := ansWl (waV ts x) (waOk ts x)
theorem hasP_at {ts : List Pg} {s : Int} (h : hasP ts s = true) : pgAt ts s = some (pgZ ts s) := by
  unfold hasP at h; unfold pgZ
  cases e : pgAt ts s with
  | none => rw [e] at h; cases h
  | some p => rfl
/-- nothing old has turned -/
def BW (w v : World) : Prop := Below w.heap.size w v
theorem BW.alloc {w v : World} (h : BW w v) (o : Obj) : BW w (v.alloc o) := Below.alloc h h.size o
theorem BW.step {w v v' : World} (h : BW w v) (hb : Below v.heap.size v v') : BW w v' := Below.trans h (hb.mono h.size)
theorem BW.far {w v : World} {R : Nat} (h : BW w v) (hr : w.heap.size ≤ R) (i : Nat) (u : Value) : BW w (v.setCell ⟨R, i, none⟩ u) := Below.setCell h hr u
/-- a shift in a box, and nothing old has turned -/
def NW (w : World) (X : Nat) (s : Sf) (v : World) : Prop := BW w v ∧ Blk v X 27 #[.int .i64 s.east, .int .i64 s.north, .int .i64 s.up]
theorem NW.step {w v v' : World} {X : Nat} {s : Sf} (h : NW w X s v) (hb : Below v.heap.size v v') : NW w X s v' := ⟨h.1.step hb, h.2.below hb h.2.lt⟩
theorem nw_put {w v : World} {X R : Nat} {s : Sf} (h : NW w X s v) (hr : w.heap.size ≤ R) (hx : X ≠ R) (a0 a1 a2 a3 a4 a5 a6 a7 a8 a9 a10 a11 : Value) : NW w X s ((((((((((((v.setCell ⟨R, 0, none⟩ a0).setCell ⟨R, 1, none⟩ a1).setCell ⟨R, 2, none⟩ a2).setCell ⟨R, 3, none⟩ a3).setCell ⟨R, 4, none⟩ a4).setCell ⟨R, 5, none⟩ a5).setCell ⟨R, 6, none⟩ a6).setCell ⟨R, 7, none⟩ a7).setCell ⟨R, 8, none⟩ a8).setCell ⟨R, 9, none⟩ a9).setCell ⟨R, 10, none⟩ a10).setCell ⟨R, 11, none⟩ a11) := by
  obtain ⟨h1, h2⟩ := h
  exact ⟨((((((((((((h1.far hr 0 _).far hr 1 _).far hr 2 _).far hr 3 _).far hr 4 _).far hr 5 _).far hr 6 _).far hr 7 _).far hr 8 _).far hr 9 _).far hr 10 _).far hr 11 _), ((((((((((((h2.far (p := (⟨R, 0, none⟩ : Addr)) hx _).far (p := (⟨R, 1, none⟩ : Addr)) hx _).far (p := (⟨R, 2, none⟩ : Addr)) hx _).far (p := (⟨R, 3, none⟩ : Addr)) hx _).far (p := (⟨R, 4, none⟩ : Addr)) hx _).far (p := (⟨R, 5, none⟩ : Addr)) hx _).far (p := (⟨R, 6, none⟩ : Addr)) hx _).far (p := (⟨R, 7, none⟩ : Addr)) hx _).far (p := (⟨R, 8, none⟩ : Addr)) hx _).far (p := (⟨R, 9, none⟩ : Addr)) hx _).far (p := (⟨R, 10, none⟩ : Addr)) hx _).far (p := (⟨R, 11, none⟩ : Addr)) hx _)⟩
set_option maxHeartbeats 4000000 in
theorem blk_put {v : World} {R : Nat} (h : Blk v R 28 #[.int .i64 0, .int .i64 0, .int .i64 0, .int .i64 0, .int .i64 0, .int .i64 0, .int .i64 0, .int .i64 0, .int .i64 0, .int .i64 0, .int .i64 0, .int .i64 0]) (a0 a1 a2 a3 a4 a5 a6 a7 a8 a9 a10 a11 : Value) : Blk ((((((((((((v.setCell ⟨R, 0, none⟩ a0).setCell ⟨R, 1, none⟩ a1).setCell ⟨R, 2, none⟩ a2).setCell ⟨R, 3, none⟩ a3).setCell ⟨R, 4, none⟩ a4).setCell ⟨R, 5, none⟩ a5).setCell ⟨R, 6, none⟩ a6).setCell ⟨R, 7, none⟩ a7).setCell ⟨R, 8, none⟩ a8).setCell ⟨R, 9, none⟩ a9).setCell ⟨R, 10, none⟩ a10).setCell ⟨R, 11, none⟩ a11) R 28 #[a0, a1, a2, a3, a4, a5, a6, a7, a8, a9, a10, a11] := by
  have k := ((((((((((((h.set_ 0 a0).set_ 1 a1).set_ 2 a2).set_ 3 a3).set_ 4 a4).set_ 5 a5).set_ 6 a6).set_ 7 a7).set_ 8 a8).set_ 9 a9).set_ 10 a10).set_ 11 a11)
  simpa using k
theorem pw_mk {w v : World} {g i k X : Nat} {p q : Pg} {s : Sf} (h1 : C5 w g (i * 5) p) (h2 : C5 w g (k * 5) q) (h : NW w X s v) :
    v.cell? ⟨g, i * 5 + 1, none⟩ = some (.int .i64 p.lf) ∧ v.cell? ⟨g, i * 5 + 2, none⟩ = some (.int .i64 p.rt) ∧ v.cell? ⟨g, k * 5 + 1, none⟩ = some (.int .i64 q.lf) ∧ v.cell? ⟨g, k * 5 + 2, none⟩ = some (.int .i64 q.rt) ∧ v.cell? ⟨X, 0, none⟩ = some (.int .i64 s.east) ∧ v.cell? ⟨X, 1, none⟩ = some (.int .i64 s.north) ∧ v.cell? ⟨X, 2, none⟩ = some (.int .i64 s.up) ∧ X < v.heap.size ∧ NW w X s v := by
  obtain ⟨-, a, b, -⟩ := h1.below h.1
  obtain ⟨-, c, d, -⟩ := h2.below h.1
  exact ⟨a, b, c, d, h.2.cell 0, h.2.cell 1, h.2.cell 2, h.2.lt, h⟩
/-- the boxes of the program -/
def NQ (w : World) (x : Lg) (P : Nat) (p : Pg) (Q : Nat) (q : Pg) (X : Nat) (s : Sf) (v : World) : Prop := BW w v ∧ Blk v w.heap.size 33 #[.int .i64 x.frm, .int .i64 x.to_, .int .i64 x.tape, .int .i64 x.comp, .int .i64 x.slope] ∧ Blk v P 43 #[.int .i64 p.st, .int .i64 p.lf, .int .i64 p.rt, .int .i64 p.ab, .int .i64 p.be] ∧ Blk v Q 43 #[.int .i64 q.st, .int .i64 q.lf, .int .i64 q.rt, .int .i64 q.ab, .int .i64 q.be] ∧ Blk v X 27 #[.int .i64 s.east, .int .i64 s.north, .int .i64 s.up]
theorem NQ.step {w v v' : World} {x : Lg} {P Q X : Nat} {p q : Pg} {s : Sf} (h : NQ w x P p Q q X s v) (hb : Below v.heap.size v v') : NQ w x P p Q q X s v' := ⟨h.1.step hb, h.2.1.below hb h.2.1.lt, h.2.2.1.below hb h.2.2.1.lt, h.2.2.2.1.below hb h.2.2.2.1.lt, h.2.2.2.2.below hb h.2.2.2.2.lt⟩
theorem nq_put {w v : World} {x : Lg} {P Q X R : Nat} {p q : Pg} {s : Sf} (h : NQ w x P p Q q X s v) (hr : w.heap.size < R) (hp : P ≠ R) (hq : Q ≠ R) (hx : X ≠ R) (a0 a1 a2 a3 a4 a5 a6 a7 a8 a9 a10 a11 : Value) : NQ w x P p Q q X s ((((((((((((v.setCell ⟨R, 0, none⟩ a0).setCell ⟨R, 1, none⟩ a1).setCell ⟨R, 2, none⟩ a2).setCell ⟨R, 3, none⟩ a3).setCell ⟨R, 4, none⟩ a4).setCell ⟨R, 5, none⟩ a5).setCell ⟨R, 6, none⟩ a6).setCell ⟨R, 7, none⟩ a7).setCell ⟨R, 8, none⟩ a8).setCell ⟨R, 9, none⟩ a9).setCell ⟨R, 10, none⟩ a10).setCell ⟨R, 11, none⟩ a11) := by
  obtain ⟨h1, h0, h3, h4, h2⟩ := h
  have hl : w.heap.size ≠ R := by omega
  have hr := Nat.le_of_lt hr
  exact ⟨((((((((((((h1.far hr 0 _).far hr 1 _).far hr 2 _).far hr 3 _).far hr 4 _).far hr 5 _).far hr 6 _).far hr 7 _).far hr 8 _).far hr 9 _).far hr 10 _).far hr 11 _), ((((((((((((h0.far (p := (⟨R, 0, none⟩ : Addr)) hl _).far (p := (⟨R, 1, none⟩ : Addr)) hl _).far (p := (⟨R, 2, none⟩ : Addr)) hl _).far (p := (⟨R, 3, none⟩ : Addr)) hl _).far (p := (⟨R, 4, none⟩ : Addr)) hl _).far (p := (⟨R, 5, none⟩ : Addr)) hl _).far (p := (⟨R, 6, none⟩ : Addr)) hl _).far (p := (⟨R, 7, none⟩ : Addr)) hl _).far (p := (⟨R, 8, none⟩ : Addr)) hl _).far (p := (⟨R, 9, none⟩ : Addr)) hl _).far (p := (⟨R, 10, none⟩ : Addr)) hl _).far (p := (⟨R, 11, none⟩ : Addr)) hl _), ((((((((((((h3.far (p := (⟨R, 0, none⟩ : Addr)) hp _).far (p := (⟨R, 1, none⟩ : Addr)) hp _).far (p := (⟨R, 2, none⟩ : Addr)) hp _).far (p := (⟨R, 3, none⟩ : Addr)) hp _).far (p := (⟨R, 4, none⟩ : Addr)) hp _).far (p := (⟨R, 5, none⟩ : Addr)) hp _).far (p := (⟨R, 6, none⟩ : Addr)) hp _).far (p := (⟨R, 7, none⟩ : Addr)) hp _).far (p := (⟨R, 8, none⟩ : Addr)) hp _).far (p := (⟨R, 9, none⟩ : Addr)) hp _).far (p := (⟨R, 10, none⟩ : Addr)) hp _).far (p := (⟨R, 11, none⟩ : Addr)) hp _), ((((((((((((h4.far (p := (⟨R, 0, none⟩ : Addr)) hq _).far (p := (⟨R, 1, none⟩ : Addr)) hq _).far (p := (⟨R, 2, none⟩ : Addr)) hq _).far (p := (⟨R, 3, none⟩ : Addr)) hq _).far (p := (⟨R, 4, none⟩ : Addr)) hq _).far (p := (⟨R, 5, none⟩ : Addr)) hq _).far (p := (⟨R, 6, none⟩ : Addr)) hq _).far (p := (⟨R, 7, none⟩ : Addr)) hq _).far (p := (⟨R, 8, none⟩ : Addr)) hq _).far (p := (⟨R, 9, none⟩ : Addr)) hq _).far (p := (⟨R, 10, none⟩ : Addr)) hq _).far (p := (⟨R, 11, none⟩ : Addr)) hq _), ((((((((((((h2.far (p := (⟨R, 0, none⟩ : Addr)) hx _).far (p := (⟨R, 1, none⟩ : Addr)) hx _).far (p := (⟨R, 2, none⟩ : Addr)) hx _).far (p := (⟨R, 3, none⟩ : Addr)) hx _).far (p := (⟨R, 4, none⟩ : Addr)) hx _).far (p := (⟨R, 5, none⟩ : Addr)) hx _).far (p := (⟨R, 6, none⟩ : Addr)) hx _).far (p := (⟨R, 7, none⟩ : Addr)) hx _).far (p := (⟨R, 8, none⟩ : Addr)) hx _).far (p := (⟨R, 9, none⟩ : Addr)) hx _).far (p := (⟨R, 10, none⟩ : Addr)) hx _).far (p := (⟨R, 11, none⟩ : Addr)) hx _)⟩
theorem qw_mk {w v : World} {x : Lg} {P Q X : Nat} {p q : Pg} {s : Sf} (h : NQ w x P p Q q X s v) :
    v.cell? ⟨P, 1, none⟩ = some (.int .i64 p.lf) ∧ v.cell? ⟨P, 2, none⟩ = some (.int .i64 p.rt) ∧ v.cell? ⟨Q, 1, none⟩ = some (.int .i64 q.lf) ∧ v.cell? ⟨Q, 2, none⟩ = some (.int .i64 q.rt) ∧ v.cell? ⟨X, 0, none⟩ = some (.int .i64 s.east) ∧ v.cell? ⟨X, 1, none⟩ = some (.int .i64 s.north) ∧ v.cell? ⟨X, 2, none⟩ = some (.int .i64 s.up) ∧ v.cell? ⟨w.heap.size, 3, none⟩ = some (.int .i64 x.comp) ∧ (w.heap.size < v.heap.size ∧ P < v.heap.size ∧ Q < v.heap.size ∧ X < v.heap.size) ∧ NQ w x P p Q q X s v :=
  ⟨h.2.2.1.cell 1, h.2.2.1.cell 2, h.2.2.2.1.cell 1, h.2.2.2.1.cell 2, h.2.2.2.2.cell 0, h.2.2.2.2.cell 1, h.2.2.2.2.cell 2, h.2.1.cell 3, ⟨h.2.1.lt, h.2.2.1.lt, h.2.2.2.1.lt, h.2.2.2.2.lt⟩, h⟩
theorem on_has {ts : List Pg} (hg : goodPg ts = true) {s : Int} : onSt ts s = hasP ts s := by
  unfold hasP
  cases h : onSt ts s
  · rw [(on_no (up_of hg) h).1]; rfl
  · obtain ⟨q, -, -, e⟩ := on_yes h
    rw [e]; rfl
end Go.Proofs.YtnpghhpcloljeaaDoor.pw
