/-
  The model of the tools: which are valid, readings, their correction, the error of a check.
  Conditions: none but those that a theorem names.
-/
import Derived.Test.YtekbiapgbhaibaaProg
import Derived.Test.YtekbiapgbhaibaaReads
import Derived.WalkKit
import Derived.Lib.Hide
import Derived.IntWalk
import Derived.Below
import Derived.LoopTactic
namespace Go.Proofs.Ytekbiapgbhaibaa.tl
open Go.RowKit
open reads
set_option linter.unusedVariables false

/-- a tool -/
structure Tl where
  id : Int
  kind : Int
  zero : Int
  scale : Int
/-- a check -/
structure Ck where
  read : Int
  tru : Int
/-- an answer, memory left to the caller -/
def APost (v : Value) (w : World) (e : Ending) (w' : World) : Prop := e = .returned v ∧ Below w.heap.size w w'
def btw (a x b : Int) : Bool := decide (a ≤ x) && decide (x ≤ b)
theorem btw_yes {a x b : Int} (h : btw a x b = true) : a ≤ x ∧ x ≤ b := by simpa [btw] using h
theorem btw_no {a x b : Int} (h : btw a x b = false) : x < a ∨ b < x := by simp [btw] at h; omega
theorem btw_mk {a x b : Int} (h0 : a ≤ x) (h1 : x ≤ b) : btw a x b = true := by simp [btw, h0, h1]
theorem in_is (x a b : Int) (t : Bool) (h : Hid (btw a x b = t)) (w : World) :
    Calls Try.prog 75 #[.int .i64 x, .int .i64 a, .int .i64 b] w fun e w' => e = .returned (.bool t) ∧ w = w' := by
  have hh := h.out
  clear h
  by_cases hx : a ≤ x
  · by_cases hy : x ≤ b
    · obtain rfl : t = true := by rw [← hh]; exact btw_mk hx hy
      clear hh
      go_enter Try.func75, Try.ntmps75
      go_wp2_with fail
      go_ret
      exact ⟨rfl, rfl⟩
    · obtain rfl : t = false := by rw [← hh]; simp [btw]; omega
      have hd : decide (x ≤ b) = false := by simpa using hy
      clear hh
      go_enter Try.func75, Try.ntmps75
      go_wp2_with fail
      go_ret
      exact ⟨rfl, rfl⟩
  · obtain rfl : t = false := by rw [← hh]; simp [btw]; omega
    clear hh
    have hx' : x < a := by omega
    go_enter Try.func75, Try.ntmps75
    go_wp2_with fail
    go_ret
    exact ⟨rfl, rfl⟩
theorem kind_is (x : Int) (t : Bool) (h : Hid (btw 0 x 2 = t)) (w : World) :
    Calls Try.prog 73 #[.int .i64 x] w fun e w' => e = .returned (.bool t) ∧ w = w' := by
  go_enter Try.func73, Try.ntmps73
  go_wp2_with fail
  refine (in_is _ _ _ t h _).mono ?_
  rintro e w' ⟨rfl, rfl⟩
  go_wp2_with fail
  go_ret
  exact ⟨rfl, rfl⟩

/-- a valid tool -/
def okT (x : Tl) : Bool := btw 1 x.id 99 && btw 0 x.kind 2 && btw (-50) x.zero 50 && btw 900 x.scale 1100 && (x.kind == 0 || x.scale == 1000)
theorem okT_lim {x : Tl} (h : okT x = true) : (1 ≤ x.id ∧ x.id ≤ 99) ∧ (0 ≤ x.kind ∧ x.kind ≤ 2) ∧ (-50 ≤ x.zero ∧ x.zero ≤ 50) ∧ (900 ≤ x.scale ∧ x.scale ≤ 1100) ∧ (x.kind = 0 ∨ x.scale = 1000) := by
  simp only [okT, Bool.and_eq_true, Bool.or_eq_true, beq_iff_eq] at h
  obtain ⟨⟨⟨⟨a, b⟩, c⟩, d⟩, e⟩ := h
  exact ⟨btw_yes a, btw_yes b, btw_yes c, btw_yes d, e⟩
/-- a test that makes memory -/
def BPost (t : Bool) (w : World) (e : Ending) (w' : World) : Prop := e = .returned (.bool t) ∧ Below w.heap.size w w'
set_option maxHeartbeats 1000000 in
theorem one_any (x : Tl) (w : World) : Calls Try.prog 58 #[.agg #[.int .i64 x.id, .int .i64 x.kind, .int .i64 x.zero, .int .i64 x.scale]] w (BPost (okT x) w) := by
  obtain ⟨t1, H1⟩ : ∃ t, Hid (btw 1 x.id 99 = t) := ⟨_, Lib.hid rfl⟩
  obtain ⟨t2, H2⟩ : ∃ t, Hid (btw 0 x.kind 2 = t) := ⟨_, Lib.hid rfl⟩
  obtain ⟨t3, H3⟩ : ∃ t, Hid (btw (-50) x.zero 50 = t) := ⟨_, Lib.hid rfl⟩
  obtain ⟨t4, H4⟩ : ∃ t, Hid (btw 900 x.scale 1100 = t) := ⟨_, Lib.hid rfl⟩
  obtain ⟨t5, hq⟩ : ∃ t, (x.kind == 0) = t := ⟨_, rfl⟩
  obtain ⟨t6, hr⟩ : ∃ t, (x.scale == 1000) = t := ⟨_, rfl⟩
  have HA := Lib.hid (show okT x = (t1 && t2 && t3 && t4 && (t5 || t6)) by unfold okT; rw [H1.out, H2.out, H3.out, H4.out, hq, hr])
  go_enter Try.func58, Try.ntmps58
  go_wp2_with fail
  refine (in_is _ _ _ t1 H1 _).mono ?_
  rintro e w' ⟨rfl, rfl⟩
  cases t1
  · go_wp2_with fail
    go_ret
    exact ⟨by rw [HA.out]; rfl, (Below.refl _ _).alloc (Nat.le_refl _) _⟩
  go_wp2_with fail
  refine (kind_is _ t2 H2 _).mono ?_
  rintro e w' ⟨rfl, rfl⟩
  cases t2
  · go_wp2_with fail
    go_ret
    exact ⟨by rw [HA.out]; rfl, (Below.refl _ _).alloc (Nat.le_refl _) _⟩
  go_wp2_with fail
  refine (in_is _ _ _ t3 H3 _).mono ?_
  rintro e w' ⟨rfl, rfl⟩
  cases t3
  · go_wp2_with fail
    go_ret
    exact ⟨by rw [HA.out]; rfl, (Below.refl _ _).alloc (Nat.le_refl _) _⟩
  go_wp2_with fail
  refine (in_is _ _ _ t4 H4 _).mono ?_
  rintro e w' ⟨rfl, rfl⟩
  cases t4
  · go_wp2_with fail
    go_ret
    exact ⟨by rw [HA.out]; rfl, (Below.refl _ _).alloc (Nat.le_refl _) _⟩
  cases t5
  · cases t6
    all_goals
      go_wp2_with fail
      go_ret
      exact ⟨by rw [HA.out]; rfl, (Below.refl _ _).alloc (Nat.le_refl _) _⟩
  · go_wp2_with fail
    go_ret
    exact ⟨by rw [HA.out]; rfl, (Below.refl _ _).alloc (Nat.le_refl _) _⟩
end Go.Proofs.Ytekbiapgbhaibaa.tl
