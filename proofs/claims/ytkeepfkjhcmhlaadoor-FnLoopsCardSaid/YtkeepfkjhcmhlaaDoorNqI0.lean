/-
  Placed ends and a number between bounds under a name, by the program; a leg and a network in memory.
  Conditions: none but those that a theorem names.
-/
import Derived.Test.YtkeepfkjhcmhlaaDoorNqG0
import Derived.Deep.RegionHeld3
namespace Go.Proofs.YtkeepfkjhcmhlaaDoor.nq
open Go.RowKit
open reads base ty lg lgi win hs nt rowi sn
set_option linter.unusedVariables false
set_option linter.unusedSimpArgs false

theorem ends_c {s : Net} {cl : List Bool} {C : Array Value} (HC : Hid (nv s cl = C)) (x : Lg) (p q : Bool) (w : World) (hx : Hid (okLg x = true)) (hp : Hid (mem s.ps x.frm = p)) (hq : Hid (mem s.ps x.to_ = q)) :
    Calls Tryd.prog 72 #[.agg C, .agg #[.int .i64 x.frm, .int .i64 x.to_, .int .i64 x.tape, .int .i64 x.comp, .int .i64 x.slope]] w (BPost (p && q) w) := by
  rw [← HC.out]; exact ends_any s cl x p q w hx hp hq
theorem within_dr (lo hi z : Int) (b : Bool) (W : World) (g : Nat) (hg : W.heap.size = g) (hb : allIn lo hi [z] = b) :
    Calls Tryd.prog 71 #[.int .i64 lo, .int .i64 hi, .slice (some ⟨g, 0, none⟩) 1 1] (W.alloc (.cells #[.int .i64 z] 3)).drew fun e w' => e = .returned (.bool b) ∧ (W.alloc (.cells #[.int .i64 z] 3)).drew = w' := by
  subst hg
  rw [← hb]
  have h0 : IntsAt (W.alloc (.cells #[.int .i64 z] 3)) W.heap.size [z] := ints_new W 3 [z]
  exact within_any lo hi W.heap.size 1 1 [z] _ (Lib.hid rfl) (by decide) (Lib.hid h0)
/-- a leg in a list, a network -/
def LW (gL k G : Nat) (x : Lg) (C : Array Value) (v : World) : Prop := (v.cell? ⟨gL, k * 5, none⟩ = some (.int .i64 x.frm) ∧ v.cell? ⟨gL, k * 5 + 1, none⟩ = some (.int .i64 x.to_) ∧ v.cell? ⟨gL, k * 5 + 2, none⟩ = some (.int .i64 x.tape) ∧ v.cell? ⟨gL, k * 5 + 3, none⟩ = some (.int .i64 x.comp) ∧ v.cell? ⟨gL, k * 5 + 4, none⟩ = some (.int .i64 x.slope)) ∧ gL < v.heap.size ∧ Blk v G 73 C
theorem LW.step {gL k G : Nat} {x : Lg} {C : Array Value} {v v' : World} (h : LW gL k G x C v) (hb : Below v.heap.size v v') : LW gL k G x C v' := by
  obtain ⟨⟨q0, q1, q2, q3, q4⟩, l, B⟩ := h
  have A : ∀ o, v'.cell? ⟨gL, o, none⟩ = v.cell? ⟨gL, o, none⟩ := fun o => hb.cell (p := ⟨gL, o, none⟩) l
  exact ⟨⟨(A _).trans q0, (A _).trans q1, (A _).trans q2, (A _).trans q3, (A _).trans q4⟩, by have := hb.size; omega, B.below hb B.lt⟩
theorem LW.mk6 {gL k G : Nat} {x : Lg} {C : Array Value} {v : World} (h : LW gL k G x C v) : v.cell? ⟨gL, k * 5, none⟩ = some (.int .i64 x.frm) ∧ v.cell? ⟨gL, k * 5 + 1, none⟩ = some (.int .i64 x.to_) ∧ v.cell? ⟨gL, k * 5 + 2, none⟩ = some (.int .i64 x.tape) ∧ v.cell? ⟨gL, k * 5 + 3, none⟩ = some (.int .i64 x.comp) ∧ v.cell? ⟨gL, k * 5 + 4, none⟩ = some (.int .i64 x.slope) ∧ LW gL k G x C v := ⟨h.1.1, h.1.2.1, h.1.2.2.1, h.1.2.2.2.1, h.1.2.2.2.2, h⟩
/-- a leg in a box, a network -/
def LB (X G : Nat) (x : Lg) (C : Array Value) (v : World) : Prop := Blk v X 51 #[.int .i64 x.frm, .int .i64 x.to_, .int .i64 x.tape, .int .i64 x.comp, .int .i64 x.slope] ∧ Blk v G 73 C
theorem LB.step {X G : Nat} {x : Lg} {C : Array Value} {v v' : World} (h : LB X G x C v) (hb : Below v.heap.size v v') : LB X G x C v' := ⟨h.1.below hb h.1.lt, h.2.below hb h.2.lt⟩
theorem LB.mk6 {X G : Nat} {x : Lg} {C : Array Value} {v : World} (h : LB X G x C v) : v.cell? ⟨X, 0, none⟩ = some (.int .i64 x.frm) ∧ v.cell? ⟨X, 1, none⟩ = some (.int .i64 x.to_) ∧ v.cell? ⟨X, 2, none⟩ = some (.int .i64 x.tape) ∧ v.cell? ⟨X, 3, none⟩ = some (.int .i64 x.comp) ∧ v.cell? ⟨X, 4, none⟩ = some (.int .i64 x.slope) ∧ LB X G x C v := ⟨h.1.cell 0, h.1.cell 1, h.1.cell 2, h.1.cell 3, h.1.cell 4, h⟩
end Go.Proofs.YtkeepfkjhcmhlaaDoor.nq
