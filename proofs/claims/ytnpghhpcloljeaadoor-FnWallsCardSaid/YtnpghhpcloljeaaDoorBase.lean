/-
  What every chapter's contracts share: answers, tests, lists of one's own, steps below a block.
  Conditions: none but those that a theorem names.
-/
import Derived.Test.YtnpghhpcloljeaaDoorProg
import Derived.Test.YtnpghhpcloljeaaDoorReads
import Derived.WalkKit
import Derived.Lib.Hide
import Derived.IntWalk
import Derived.Below
import Derived.LoopTactic
import Derived.Deep.RegionHeld3
namespace Go.Proofs.YtnpghhpcloljeaaDoor.base
open Go.RowKit
open reads
set_option linter.unusedVariables false

/-- an answer, memory left to the caller -/
def APost (v : Value) (w : World) (e : Ending) (w' : World) : Prop := e = .returned v ∧ Below w.heap.size w w'
/-- a test that makes memory -/
def BPost (t : Bool) (w : World) (e : Ending) (w' : World) : Prop := e = .returned (.bool t) ∧ Below w.heap.size w w'
theorem ret_bool {a b : Bool} (h : a = b) : Ending.returned (.bool a) = .returned (.bool b) := by rw [h]
theorem ret_int {k : IntKind} {a b : Int} (h : a = b) : Ending.returned (.int k a) = .returned (.int k b) := by rw [h]
theorem bcell {W w1 : World} (hb : Below W.heap.size W w1) : (∀ b o, b < W.heap.size → w1.cell? ⟨b, o, none⟩ = W.cell? ⟨b, o, none⟩) ∧ (∀ b o, b < W.heap.size → w1.frozen? ⟨b, o, none⟩ = W.frozen? ⟨b, o, none⟩) :=
  ⟨fun b o h => hb.cell (p := ⟨b, o, none⟩) h, fun b o h => hb.frozen (p := ⟨b, o, none⟩) h⟩
theorem sb_start {B : Nat} {W0 v : World} (h : Below B W0 v) : (∀ b o, b < B → v.drew.cell? ⟨b, o, none⟩ = W0.cell? ⟨b, o, none⟩) ∧ Below B W0 v.drew :=
  ⟨fun b o hb => h.cell (p := ⟨b, o, none⟩) hb, ⟨h.os, h.tape, h.output, h.size, h.block⟩⟩
theorem sb_step {B : Nat} {W0 a a' : World} (h : (∀ b o, b < B → a.cell? ⟨b, o, none⟩ = W0.cell? ⟨b, o, none⟩) ∧ Below B W0 a) (hB : B ≤ W0.heap.size) (hb : Below a.heap.size a a') : (∀ b o, b < B → a'.cell? ⟨b, o, none⟩ = W0.cell? ⟨b, o, none⟩) ∧ Below B W0 a' := by
  have k := h.2.trans (hb.mono (Nat.le_trans hB h.2.size))
  exact ⟨fun b o hb => k.cell (p := ⟨b, o, none⟩) hb, k⟩
/-- a number lies between two others -/
def btw (a x b : Int) : Bool := decide (a ≤ x) && decide (x ≤ b)
theorem btw_yes {a x b : Int} (h : btw a x b = true) : a ≤ x ∧ x ≤ b := by simpa [btw] using h
theorem btw_no {a x b : Int} (h : btw a x b = false) : x < a ∨ b < x := by simp [btw] at h; omega
theorem btw_mk {a x b : Int} (h0 : a ≤ x) (h1 : x ≤ b) : btw a x b = true := by simp [btw, h0, h1]
theorem btw_out {a x b : Int} (h : x < a ∨ b < x) : btw a x b = false := by simp [btw]; omega
/-- a list of one's own -/
theorem row_below {w w' : World} {base size n : Nat} {e : TypeId} {v : Value} {xs : List Value} (h : w.ownsRow base e size v n xs) (hb : Below w.heap.size w w') : w'.ownsRow base e size v n xs :=
  h.kept (row := none) ⟨hb.os, hb.tape, hb.output, hb.size, fun j hj _ => hb.block j hj⟩ (by cases v.ownBlock <;> simp)
theorem row_drew {w : World} {base size n : Nat} {e : TypeId} {v : Value} {xs : List Value} (h : w.ownsRow base e size v n xs) : w.drew.ownsRow base e size v n xs := h
theorem row_slice {w : World} {base size n : Nat} {e : TypeId} {v : Value} {xs : List Value} (h : w.ownsRow base e size v n xs) : ∃ A c, v = .slice A n c := by
  rcases h.2 with ⟨rfl, rfl⟩ | ⟨g, cap, cur, rfl, _⟩
  · exact ⟨_, _, rfl⟩
  · exact ⟨_, _, rfl⟩
theorem row_blk {w : World} {base size n g : Nat} {e : TypeId} {cs : Array Value} (h : Blk w g e cs) (hb : base ≤ g) (hn : n ≤ maxLen) (hs : cs.size = n * size) : w.ownsRow base e size (.slice (some ⟨g, 0, none⟩) n n) n cs.toList := by
  refine ⟨by simpa using hs, .inr ⟨g, n, cs, rfl, hb, h, Nat.le_refl _, hn, hs, ?_⟩⟩
  rw [List.take_of_length_le (by simp [hs])]
theorem alloc_at {v : World} {g : Nat} {o : Obj} (h : v.heap.size = g) : (v.alloc o).heap[g]? = some o := by subst h; exact heap_alloc_new v o
theorem grown_set {w v : World} {g : Nat} (h : w.grownBy v (some g)) (o : Nat) (u : Value) : w.grownBy (v.setCell ⟨g, o, none⟩ u) (some g) :=
  ⟨h.os, h.tape, h.output, by simpa [World.setCell] using h.size, fun i hi hne => (Below.heap_setCell v ⟨g, o, none⟩ u i (by rintro rfl; exact hne rfl)).trans (h.block i hi hne)⟩
/-- the first j of a list written over -/
def over (f : Nat → Value) (j : Nat) (xs : List Value) : List Value := (List.range j).map f ++ xs.drop j
theorem over_zero (f : Nat → Value) (xs : List Value) : over f 0 xs = xs := by simp [over]
theorem over_len (f : Nat → Value) (j : Nat) (xs : List Value) (h : j ≤ xs.length) : (over f j xs).length = xs.length := by simp [over]; omega
theorem over_set (f : Nat → Value) (j : Nat) (xs : List Value) (h : j < xs.length) : (over f j xs).set j (f j) = over f (j + 1) xs := by
  have e : (xs.drop j).set 0 (f j) = f j :: xs.drop (j + 1) := by rw [List.drop_eq_getElem_cons h]; rfl
  unfold over
  rw [List.set_append_right _ _ (by simp), List.length_map, List.length_range, Nat.sub_self, e, List.range_succ]
  simp
theorem over_all (f : Nat → Value) (xs : List Value) (n : Nat) (h : xs.length = n) : over f n xs = (List.range n).map f := by
  unfold over
  rw [List.drop_of_length_le (by omega), List.append_nil]
theorem choose_list {α : Type} {P : Nat → α → Prop} : ∀ n, (∀ i, i < n → ∃ x, P i x) → ∃ xs : List α, xs.length = n ∧ ∀ i x, xs[i]? = some x → P i x
  | 0, _ => ⟨[], rfl, fun i x h => by simp at h⟩
  | n + 1, h => by
    obtain ⟨xs, hl, hx⟩ := choose_list n (fun i hi => h i (by omega))
    obtain ⟨y, hy⟩ := h n (by omega)
    refine ⟨xs ++ [y], by simp [hl], fun i x hi => ?_⟩
    by_cases e : i < n
    · rw [List.getElem?_append_left (by omega)] at hi
      exact hx i x hi
    · have hlen : i < (xs ++ [y]).length := (List.getElem?_eq_some_iff.1 hi).1
      rw [List.length_append, List.length_singleton, hl] at hlen
      obtain rfl : i = n := by omega
      rw [List.getElem?_append_right (by omega), hl, Nat.sub_self] at hi
      obtain rfl : y = x := by simpa using hi
      exact hy
theorem lt_of_cell {w : World} {a : Addr} {v : Value} (h : w.cell? a = some v) : a.block < w.heap.size := by
  rcases Nat.lt_or_ge a.block w.heap.size with q | q
  · exact q
  · simp [World.cell?, Array.getElem?_eq_none q] at h
theorem all_take {α : Type} {p : α → Bool} {cs : List α} {k : Nat} {c : α} (hc : cs[k]? = some c) (h : (cs.take k).all p = true) (hp : p c = true) : (cs.take (k + 1)).all p = true := by
  obtain ⟨hk, rfl⟩ := List.getElem?_eq_some_iff.1 hc
  rw [List.take_succ_eq_append_getElem hk, List.all_append, h]
  simp [hp]
theorem all_no {α : Type} {p : α → Bool} {cs : List α} {k : Nat} {c : α} (hc : cs[k]? = some c) (hp : p c = false) : cs.all p = false := by
  rw [List.all_eq_false]
  exact ⟨c, List.mem_of_getElem? hc, by rw [hp]; simp⟩
theorem at_lt {α : Type} {cs : List α} {k n : Nat} (hl : cs.length = n) (h : k < n) : ∃ c, cs[k]? = some c := ⟨_, List.getElem?_eq_getElem (by omega)⟩
theorem lt_at {α : Type} {cs : List α} {k : Nat} {c : α} (h : cs[k]? = some c) : k < cs.length := (List.getElem?_eq_some_iff.1 h).1
theorem take_snoc {α : Type} {cs : List α} {k : Nat} {c : α} (h : cs[k]? = some c) : cs.take (k + 1) = cs.take k ++ [c] := by
  obtain ⟨hk, rfl⟩ := List.getElem?_eq_some_iff.1 h
  exact List.take_succ_eq_append_getElem hk
/-- '.. ∧ a new world' by a step of whatever contract -/
theorem drewN_below (w : World) (m : Nat) : Below w.heap.size w (w.drewN m) := ⟨rfl, rfl, rfl, Nat.le_refl _, fun _ _ => rfl⟩
end Go.Proofs.YtnpghhpcloljeaaDoor.base
