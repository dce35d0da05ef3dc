/-
  A slice in memory that reads as a list of values, nil let in.
  What every chapter's contracts share: answers, tests, lists of one's own, steps below a block.
  The exact laws' helpers at lists of ints: equality, marks, marks that are held.
  Answers that are lists of ints of one's own.
  The model's test whether a number lies between two others.
  A list of ints in memory, from the beginning of a block on.
  Conditions: those that each theorem names.
-/
import Derived.Below
import Derived.Laws.OwnMore
import Derived.Deep.AppendLies
import Derived.Deep.Draws
import Derived.Laws.Rows
import Derived.Laws.MakeOwn
import Derived.Laws.Entries
import Derived.Test.YtnpghhpcloljeabGreatDoorProg
import Derived.WalkKit
import Derived.Lib.Hide
import Derived.IntWalk
import Derived.LoopTactic
import Derived.Deep.RegionHeld3
import Derived.Deep.QuietTactic
import Derived.BigQuiet
import Derived.OwnWalk
namespace Go.Proofs.YtnpghhpcloljeabGreatDoor.reads
open Go.RowKit

theorem block_of_add (a : Addr) (n : Nat) : (a.add n).block = a.block := by unfold Addr.add; split <;> rfl
theorem add_of_add (a : Addr) (i j : Nat) : (a.add i).add j = a.add (i + j) := by
  unfold Addr.add
  by_cases hi : i = 0 <;> by_cases hj : j = 0 <;> simp [hi, hj, Nat.add_assoc]

def Reads (w : World) (B size : Nat) (A : Option Addr) (n : Nat) (xs : List Value) : Prop :=
  xs.length = n * size ∧ (0 < n → ∃ ad, A = some ad ∧ ad.block < B ∧ ∀ j u, xs[j]? = some u → w.cell? (ad.add j) = some u)

section
variable {w w' : World} {B B' size n : Nat} {A : Option Addr} {xs : List Value}
theorem Reads.none_ : Reads w B size A 0 [] := ⟨by simp, fun h => absurd h (by omega)⟩
theorem Reads.at_ {k : Nat} (h : Reads w B 1 A n xs) (hk : k < n) : ∃ ad u, A = some ad ∧ ad.block < B ∧ xs[k]? = some u ∧ w.cell? (ad.add k) = some u := by
  obtain ⟨ad, e, hb, hc⟩ := h.2 (by omega)
  have hl : k < xs.length := by have := h.1; omega
  exact ⟨ad, xs[k], e, hb, List.getElem?_eq_getElem hl, hc k _ (List.getElem?_eq_getElem hl)⟩
theorem Reads.keep (h : Reads w B size A n xs) (hk : ∀ p : Addr, p.block < B → w'.cell? p = w.cell? p) : Reads w' B size A n xs :=
  ⟨h.1, fun hn => by
    obtain ⟨ad, e, hb, hc⟩ := h.2 hn
    exact ⟨ad, e, hb, fun j u hu => (hk _ (by rw [block_of_add]; exact hb)).trans (hc j u hu)⟩⟩
theorem Reads.more (h : Reads w B size A n xs) (hB : B ≤ B') : Reads w B' size A n xs :=
  ⟨h.1, fun hn => by
    obtain ⟨ad, e, hb, hc⟩ := h.2 hn
    exact ⟨ad, e, by omega, hc⟩⟩
theorem Reads.below (h : Reads w B size A n xs) (hb : Below B w w') : Reads w' B size A n xs := h.keep fun _ hp => hb.cell hp
theorem Reads.drew (h : Reads w B size A n xs) : Reads w.drew B size A n xs := h
theorem Reads.drewN (h : Reads w B size A n xs) (k : Nat) : Reads (w.drewN k) B size A n xs := h
theorem Reads.alloc (h : Reads w B size A n xs) (hB : B ≤ w.heap.size) (o : Obj) : Reads (w.alloc o) B size A n xs := h.keep fun p hp => World.cell?_alloc_lt w o p (by omega)
theorem Reads.setCell (h : Reads w B size A n xs) {p : Addr} (hB : B ≤ p.block) (u : Value) : Reads (w.setCell p u) B size A n xs :=
  h.keep fun q hq => World.cell?_setCell_other w p q u (fun e => by subst e; omega)
theorem Reads.grown (h : Reads w B size A n xs) {row : Option Nat} (hg : w.grownBy w' row) (hB : B ≤ w.heap.size) (hr : ∀ g, row = some g → B ≤ g) : Reads w' B size A n xs :=
  h.keep fun p hp => World.cell?_of_block (hg.block p.block (by omega) (fun e => by have := hr _ e.symm; omega))
theorem Reads.cut (h : Reads w B size A n xs) {k cap : Nat} (hk : k ≤ n) (hc : n ≤ cap) :
    Reads w B size (if cap = k then A else A.map (·.add (k * size))) (n - k) (xs.drop (k * size)) := by
  refine ⟨by rw [List.length_drop, h.1, Nat.sub_mul], fun hn => ?_⟩
  obtain ⟨ad, rfl, hb, hcell⟩ := h.2 (by omega)
  rw [if_neg (by omega)]
  refine ⟨ad.add (k * size), rfl, by rw [block_of_add]; exact hb, fun j u hu => ?_⟩
  rw [add_of_add]
  exact hcell _ u (by rw [← hu, List.getElem?_drop])
theorem Reads.of_own {base : Nat} {e : TypeId} {c : Nat} (h : w.ownsRow base e size (.slice A n c) n xs) : Reads w w.heap.size size A n xs := by
  refine ⟨h.1, fun hn => ?_⟩
  obtain ⟨g, cap, hv, _, hlt⟩ := h.form hn
  have hA : A = some ⟨g, 0, none⟩ := by injection hv
  subst hA
  exact ⟨_, rfl, hlt, h.cells (g := g) rfl⟩
end

def Blk (w : World) (g : Nat) (t : TypeId) (cs : Array Value) : Prop := w.heap[g]? = some (.cells cs t (0, 0))

section
variable {w w' : World} {g : Nat} {t : TypeId} {cs : Array Value}
theorem Blk.lt (h : Blk w g t cs) : g < w.heap.size := by
  rcases Nat.lt_or_ge g w.heap.size with hlt | hge
  · exact hlt
  · unfold Blk at h; rw [Array.getElem?_eq_none hge] at h; cases h
theorem Blk.cell (h : Blk w g t cs) (i : Nat) : w.cell? ⟨g, i, none⟩ = cs[i]? := cell_of_row w g i cs t (0, 0) h
theorem Blk.frozen (h : Blk w g t cs) (i : Nat) : w.frozen? ⟨g, i, none⟩ = false := by
  unfold Blk at h
  simp [World.frozen?, h]
theorem Blk.new (w : World) (t : TypeId) (cs : Array Value) : Blk (w.alloc (.cells cs t)) w.heap.size t cs := heap_alloc_new w _
theorem Blk.drew (h : Blk w g t cs) : Blk w.drew g t cs := h
theorem Blk.drewN (h : Blk w g t cs) (n : Nat) : Blk (w.drewN n) g t cs := h
theorem Blk.alloc (h : Blk w g t cs) (o : Obj) : Blk (w.alloc o) g t cs := (Below.heap_alloc w o g h.lt).trans h
theorem Blk.set_ (h : Blk w g t cs) (i : Nat) (u : Value) : Blk (w.setCell ⟨g, i, none⟩ u) g t (cs.setIfInBounds i u) := by
  unfold Blk at h ⊢
  simp [World.setCell, Array.getElem?_modify, h]
theorem Blk.far (h : Blk w g t cs) {p : Addr} (hp : g ≠ p.block) (u : Value) : Blk (w.setCell p u) g t cs := (Below.heap_setCell w p u g hp).trans h
theorem Blk.below {B : Nat} (h : Blk w g t cs) (hb : Below B w w') (hg : g < B) : Blk w' g t cs := (hb.block g hg).trans h
theorem Blk.grown {row : Option Nat} (h : Blk w g t cs) (hb : w.grownBy w' row) (hg : some g ≠ row) : Blk w' g t cs := (hb.block g h.lt hg).trans h
theorem Blk.ne_ {g' : Nat} {t' : TypeId} {cs' : Array Value} (h : Blk w g t cs) (h' : Blk w g' t' cs') (hne : t ≠ t') : g ≠ g' := by
  rintro rfl
  unfold Blk at h h'
  rw [h] at h'
  injection h' with h'
  injection h' with _ ht
  exact hne ht
theorem own_blk_ne {base : Nat} {e : TypeId} {size n : Nat} {v : Value} {xs : List Value} (h : w.ownsRow base e size v n xs) (hg : Blk w g t cs) (hne : e ≠ t) : v.ownBlock ≠ some g := by
  rcases h.2 with ⟨rfl, _⟩ | ⟨g', cap, cur, rfl, _, hh, _⟩
  · simp [Value.ownBlock]
  · intro he
    have : g' = g := by simpa [Value.ownBlock] using he
    subst this
    exact Blk.ne_ (t := e) hh hg hne rfl
end

theorem run_make_rowN {P : Program} (t e : TypeId) (i : TypeInfo) (z : Value) (ht : P.underlying t = some (.slice e)) (hi : P.info? e = some i) (hz : i.zero = some z)
    (kl kc : IntKind) (n c : Nat) (hnc : n ≤ c) (hbytes : i.bytes * c ≤ 281474976710656) (h63 : c ≤ 9223372036854775807) (w : World) :
    (Instr.makeSlice t (.int kl (n : Int)) (.int kc (c : Int))).run P w = .ok (.slice (some ⟨w.heap.size, 0, none⟩) n c) (w.alloc (.cells (madeCells z.cells (c * i.size)) e)) := by
  have hb : (i.bytes : Int) * (c : Int) ≤ 281474976710656 := by
    have h : ((i.bytes * c : Nat) : Int) ≤ 281474976710656 := by omega
    rwa [Int.natCast_mul] at h
  have hr := run_make (P := P) w t e i z ht hi hz kl kc n c (by omega) (by omega) hb (by omega)
  simp only [Int.toNat_natCast] at hr
  exact hr

/-- a list of strings as values -/
def strs (ps : List ByteArray) : List Value := ps.map Value.string
theorem strs_len (ps : List ByteArray) : (strs ps).length = ps.length := by simp [strs]
theorem strs_at {ps : List ByteArray} {k : Nat} {u : Value} (h : (strs ps)[k]? = some u) : ∃ p, ps[k]? = some p ∧ u = .string p := by
  simp only [strs, List.getElem?_map, Option.map_eq_some_iff] at h
  obtain ⟨p, h1, h2⟩ := h
  exact ⟨p, h1, h2.symm⟩
theorem strs_one (ps : List ByteArray) : ∀ u ∈ strs ps, u.oneCell' = true := by
  intro u hu
  simp only [strs, List.mem_map] at hu
  obtain ⟨p, _, rfl⟩ := hu
  rfl
theorem Blk.reads {w : World} {g : Nat} {t : TypeId} {xs : List Value} (h : Blk w g t xs.toArray) : Reads w w.heap.size 1 (some ⟨g, 0, none⟩) xs.length xs := by
  refine ⟨by simp, fun _ => ⟨_, rfl, h.lt, fun j u hu => ?_⟩⟩
  have e : (⟨g, 0, none⟩ : Addr).add j = ⟨g, j, none⟩ := by
    unfold Addr.add
    by_cases hj : j = 0 <;> simp [hj]
  rw [e, h.cell]
  simpa using hu
end Go.Proofs.YtnpghhpcloljeabGreatDoor.reads

namespace Go.Proofs.YtnpghhpcloljeabGreatDoor.base
open Go.RowKit
open reads
set_option linter.unusedVariables false

/-- an answer, memory left to the caller -/
def APost (v : Value) (w : World) (e : Ending) (w' : World) : Prop := e = .returned v ∧ Below w.heap.size w w'
/-- a test that makes memory -/
def BPost (t : Bool) (w : World) (e : Ending) (w' : World) : Prop := e = .returned (.bool t) ∧ Below w.heap.size w w'
theorem ret_bool {a b : Bool} (h : a = b) : Ending.returned (.bool a) = .returned (.bool b) := by rw [h]
theorem ret_int {k : IntKind} {a b : Int} (h : a = b) : Ending.returned (.int k a) = .returned (.int k b) := by rw [h]
theorem bcell {W w1 : World} (hb : Below W.heap.size W w1) : (∀ b o, b < W.heap.size → w1.cell? ⟨b, o, none⟩ = W.cell? ⟨b, o, none⟩) ∧ (∀ b o, b < W.heap.size → w1.frozen? ⟨b, o, none⟩ = W.frozen? ⟨b, o, none⟩) :=
  ⟨fun b o h => hb.cell (p := ⟨b, o, none⟩) h, fun b o h => hb.frozen (p := ⟨b, o, none⟩) h⟩
theorem sb_start {B : Nat} {W0 v : World} (h : Below B W0 v) : (∀ b o, b < B → v.drew.cell? ⟨b, o, none⟩ = W0.cell? ⟨b, o, none⟩) ∧ Below B W0 v.drew :=
  ⟨fun b o hb => h.cell (p := ⟨b, o, none⟩) hb, ⟨h.os, h.tape, h.output, h.size, h.block⟩⟩
theorem sb_step {B : Nat} {W0 a a' : World} (h : (∀ b o, b < B → a.cell? ⟨b, o, none⟩ = W0.cell? ⟨b, o, none⟩) ∧ Below B W0 a) (hB : B ≤ W0.heap.size) (hb : Below a.heap.size a a') : (∀ b o, b < B → a'.cell? ⟨b, o, none⟩ = W0.cell? ⟨b, o, none⟩) ∧ Below B W0 a' := by
  have k := h.2.trans (hb.mono (Nat.le_trans hB h.2.size))
  exact ⟨fun b o hb => k.cell (p := ⟨b, o, none⟩) hb, k⟩
/-- a number lies between two others -/
def btw (a x b : Int) : Bool := decide (a ≤ x) && decide (x ≤ b)
theorem btw_yes {a x b : Int} (h : btw a x b = true) : a ≤ x ∧ x ≤ b := by simpa [btw] using h
theorem btw_no {a x b : Int} (h : btw a x b = false) : x < a ∨ b < x := by simp [btw] at h; omega
theorem btw_mk {a x b : Int} (h0 : a ≤ x) (h1 : x ≤ b) : btw a x b = true := by simp [btw, h0, h1]
theorem btw_out {a x b : Int} (h : x < a ∨ b < x) : btw a x b = false := by simp [btw]; omega
/-- a list of one's own -/
theorem row_below {w w' : World} {base size n : Nat} {e : TypeId} {v : Value} {xs : List Value} (h : w.ownsRow base e size v n xs) (hb : Below w.heap.size w w') : w'.ownsRow base e size v n xs :=
  h.kept (row := none) ⟨hb.os, hb.tape, hb.output, hb.size, fun j hj _ => hb.block j hj⟩ (by cases v.ownBlock <;> simp)
theorem row_drew {w : World} {base size n : Nat} {e : TypeId} {v : Value} {xs : List Value} (h : w.ownsRow base e size v n xs) : w.drew.ownsRow base e size v n xs := h
theorem row_slice {w : World} {base size n : Nat} {e : TypeId} {v : Value} {xs : List Value} (h : w.ownsRow base e size v n xs) : ∃ A c, v = .slice A n c := by
  rcases h.2 with ⟨rfl, rfl⟩ | ⟨g, cap, cur, rfl, _⟩
  · exact ⟨_, _, rfl⟩
  · exact ⟨_, _, rfl⟩
theorem row_blk {w : World} {base size n g : Nat} {e : TypeId} {cs : Array Value} (h : Blk w g e cs) (hb : base ≤ g) (hn : n ≤ maxLen) (hs : cs.size = n * size) : w.ownsRow base e size (.slice (some ⟨g, 0, none⟩) n n) n cs.toList := by
  refine ⟨by simpa using hs, .inr ⟨g, n, cs, rfl, hb, h, Nat.le_refl _, hn, hs, ?_⟩⟩
  rw [List.take_of_length_le (by simp [hs])]
theorem alloc_at {v : World} {g : Nat} {o : Obj} (h : v.heap.size = g) : (v.alloc o).heap[g]? = some o := by subst h; exact heap_alloc_new v o
theorem grown_set {w v : World} {g : Nat} (h : w.grownBy v (some g)) (o : Nat) (u : Value) : w.grownBy (v.setCell ⟨g, o, none⟩ u) (some g) :=
  ⟨h.os, h.tape, h.output, by simpa [World.setCell] using h.size, fun i hi hne => (Below.heap_setCell v ⟨g, o, none⟩ u i (by rintro rfl; exact hne rfl)).trans (h.block i hi hne)⟩
/-- the first j of a list written over -/
def over (f : Nat → Value) (j : Nat) (xs : List Value) : List Value := (List.range j).map f ++ xs.drop j
theorem over_zero (f : Nat → Value) (xs : List Value) : over f 0 xs = xs := by simp [over]
theorem over_len (f : Nat → Value) (j : Nat) (xs : List Value) (h : j ≤ xs.length) : (over f j xs).length = xs.length := by simp [over]; omega
theorem over_set (f : Nat → Value) (j : Nat) (xs : List Value) (h : j < xs.length) : (over f j xs).set j (f j) = over f (j + 1) xs := by
  have e : (xs.drop j).set 0 (f j) = f j :: xs.drop (j + 1) := by rw [List.drop_eq_getElem_cons h]; rfl
  unfold over
  rw [List.set_append_right _ _ (by simp), List.length_map, List.length_range, Nat.sub_self, e, List.range_succ]
  simp
theorem over_all (f : Nat → Value) (xs : List Value) (n : Nat) (h : xs.length = n) : over f n xs = (List.range n).map f := by
  unfold over
  rw [List.drop_of_length_le (by omega), List.append_nil]
theorem choose_list {α : Type} {P : Nat → α → Prop} : ∀ n, (∀ i, i < n → ∃ x, P i x) → ∃ xs : List α, xs.length = n ∧ ∀ i x, xs[i]? = some x → P i x
  | 0, _ => ⟨[], rfl, fun i x h => by simp at h⟩
  | n + 1, h => by
    obtain ⟨xs, hl, hx⟩ := choose_list n (fun i hi => h i (by omega))
    obtain ⟨y, hy⟩ := h n (by omega)
    refine ⟨xs ++ [y], by simp [hl], fun i x hi => ?_⟩
    by_cases e : i < n
    · rw [List.getElem?_append_left (by omega)] at hi
      exact hx i x hi
    · have hlen : i < (xs ++ [y]).length := (List.getElem?_eq_some_iff.1 hi).1
      rw [List.length_append, List.length_singleton, hl] at hlen
      obtain rfl : i = n := by omega
      rw [List.getElem?_append_right (by omega), hl, Nat.sub_self] at hi
      obtain rfl : y = x := by simpa using hi
      exact hy
theorem lt_of_cell {w : World} {a : Addr} {v : Value} (h : w.cell? a = some v) : a.block < w.heap.size := by
  rcases Nat.lt_or_ge a.block w.heap.size with q | q
  · exact q
  · simp [World.cell?, Array.getElem?_eq_none q] at h
theorem all_take {α : Type} {p : α → Bool} {cs : List α} {k : Nat} {c : α} (hc : cs[k]? = some c) (h : (cs.take k).all p = true) (hp : p c = true) : (cs.take (k + 1)).all p = true := by
  obtain ⟨hk, rfl⟩ := List.getElem?_eq_some_iff.1 hc
  rw [List.take_succ_eq_append_getElem hk, List.all_append, h]
  simp [hp]
theorem all_no {α : Type} {p : α → Bool} {cs : List α} {k : Nat} {c : α} (hc : cs[k]? = some c) (hp : p c = false) : cs.all p = false := by
  rw [List.all_eq_false]
  exact ⟨c, List.mem_of_getElem? hc, by rw [hp]; simp⟩
theorem at_lt {α : Type} {cs : List α} {k n : Nat} (hl : cs.length = n) (h : k < n) : ∃ c, cs[k]? = some c := ⟨_, List.getElem?_eq_getElem (by omega)⟩
theorem lt_at {α : Type} {cs : List α} {k : Nat} {c : α} (h : cs[k]? = some c) : k < cs.length := (List.getElem?_eq_some_iff.1 h).1
theorem take_snoc {α : Type} {cs : List α} {k : Nat} {c : α} (h : cs[k]? = some c) : cs.take (k + 1) = cs.take k ++ [c] := by
  obtain ⟨hk, rfl⟩ := List.getElem?_eq_some_iff.1 h
  exact List.take_succ_eq_append_getElem hk
/-- '.. ∧ a new world' by a step of whatever contract -/
theorem drewN_below (w : World) (m : Nat) : Below w.heap.size w (w.drewN m) := ⟨rfl, rfl, rfl, Nat.le_refl _, fun _ _ => rfl⟩
end Go.Proofs.YtnpghhpcloljeabGreatDoor.base

namespace Go.Proofs.YtnpghhpcloljeabGreatDoor.ints
open Go.RowKit
open reads
set_option linter.unusedVariables false

def intsV (xs : List Int) : List Value := xs.map (Value.int .i64)
theorem intsV_len (xs : List Int) : (intsV xs).length = xs.length := by simp [intsV]
/-- a list of ints in memory -/
def IL (w : World) (A : Option Addr) (n : Nat) (xs : List Int) : Prop := xs.length = n ∧ ∀ k x, xs[k]? = some x → ∃ g, A = some ⟨g, 0, none⟩ ∧ w.cell? ⟨g, k, none⟩ = some (.int .i64 x)
theorem IL.of_own {w : World} {base n : Nat} {e : TypeId} {A : Option Addr} {c : Nat} {xs : List Int} (h : w.ownsRow base e 1 (.slice A n c) n (intsV xs)) : IL w A n xs := by
  have hl : xs.length = n := by have := h.1; rw [intsV_len] at this; omega
  refine ⟨hl, fun k x hx => ?_⟩
  have hk : k < n := by have := (List.getElem?_eq_some_iff.1 hx).1; omega
  obtain ⟨g, cap, hv, -, -⟩ := h.form (by omega)
  injection hv with hA _ hc
  subst hA hc
  exact ⟨g, rfl, by rw [h.cellAt k (by omega)]; simp [intsV, hx]⟩
theorem IL.keep {w w' : World} {A : Option Addr} {n : Nat} {xs : List Int} (h : IL w A n xs) (hk : ∀ g o, A = some ⟨g, 0, none⟩ → w'.cell? ⟨g, o, none⟩ = w.cell? ⟨g, o, none⟩) : IL w' A n xs :=
  ⟨h.1, fun k x hx => by
    obtain ⟨g, e, hc⟩ := h.2 k x hx
    exact ⟨g, e, (hk g k e).trans hc⟩⟩
theorem own_slice {w : World} {base n : Nat} {e : TypeId} {v : Value} {xs : List Value} (h : w.ownsRow base e 1 v n xs) : ∃ A c, v = .slice A n c := by
  rcases h.2 with ⟨rfl, rfl⟩ | ⟨g, cap, cur, rfl, _⟩
  · exact ⟨_, _, rfl⟩
  · exact ⟨_, _, rfl⟩

end Go.Proofs.YtnpghhpcloljeabGreatDoor.ints

namespace Go.Proofs.YtnpghhpcloljeabGreatDoor.rowi
open Go.RowKit
open reads base
set_option linter.unusedVariables false
theorem infoI : (Tryz.prog.info? 3).map (fun i => (i.zero, i.size, i.bytes)) = some (some (.int .i64 0), 1, 8) := by kernel_rfl
/-- numbers that the call has made, and a word -/
def LPost (xs : List Int) (t : Bool) (w : World) (e : Ending) (w' : World) : Prop :=
  ∃ v, e = .returned (.tuple #[v, .bool t]) ∧ w'.ownsRow w.heap.size 3 1 v xs.length (ints.intsV xs) ∧ Below w.heap.size w w'
theorem intsV_app (xs : List Int) (x : Int) : ints.intsV (xs ++ [x]) = ints.intsV xs ++ [.int .i64 x] := by simp [ints.intsV]
/-- the indices below k at which a test holds -/
def idxs {α : Type} (p : α → Bool) (ts : List α) : Nat → List Int
  | 0 => []
  | k + 1 => match ts[k]? with
    | some t => if p t = true then idxs p ts k ++ [(k : Int)] else idxs p ts k
    | none => idxs p ts k
theorem idxs_yes {α : Type} {p : α → Bool} {ts : List α} {k : Nat} {t : α} (h : ts[k]? = some t) (hp : p t = true) : idxs p ts (k + 1) = idxs p ts k ++ [(k : Int)] := by
  show (match ts[k]? with | some t => _ | none => _) = _
  rw [h]; exact if_pos hp
theorem idxs_no {α : Type} {p : α → Bool} {ts : List α} {k : Nat} {t : α} (h : ts[k]? = some t) (hp : p t = false) : idxs p ts (k + 1) = idxs p ts k := by
  show (match ts[k]? with | some t => _ | none => _) = _
  rw [h]; exact if_neg (by rw [hp]; simp)
theorem idxs_len {α : Type} (p : α → Bool) (ts : List α) : ∀ k, (idxs p ts k).length ≤ k
  | 0 => by simp [idxs]
  | k + 1 => by
    have := idxs_len p ts k
    unfold idxs
    split
    · split
      · rw [List.length_append]; simp; omega
      · omega
    · omega
end Go.Proofs.YtnpghhpcloljeabGreatDoor.rowi

namespace Go.Proofs.YtnpghhpcloljeabGreatDoor.inn
open Go.RowKit
open reads base
set_option linter.unusedVariables false
theorem in_is (x a b : Int) (t : Bool) (h : Hid (btw a x b = t)) (w : World) :
    Calls Tryz.prog 86 #[.int .i64 x, .int .i64 a, .int .i64 b] w fun e w' => e = .returned (.bool t) ∧ w = w' := by
  have hh := h.out
  clear h
  by_cases hx : a ≤ x
  · by_cases hy : x ≤ b
    · obtain rfl : t = true := by rw [← hh]; exact btw_mk hx hy
      clear hh
      go_enter Tryz.func86, Tryz.ntmps86
      go_wp2_with fail
      go_ret
      exact ⟨rfl, rfl⟩
    · obtain rfl : t = false := by rw [← hh]; simp [btw]; omega
      have hd : decide (x ≤ b) = false := by simpa using hy
      clear hh
      go_enter Tryz.func86, Tryz.ntmps86
      go_wp2_with fail
      go_ret
      exact ⟨rfl, rfl⟩
  · obtain rfl : t = false := by rw [← hh]; simp [btw]; omega
    clear hh
    have hx' : x < a := by omega
    go_enter Tryz.func86, Tryz.ntmps86
    go_wp2_with fail
    go_ret
    exact ⟨rfl, rfl⟩
end Go.Proofs.YtnpghhpcloljeabGreatDoor.inn

namespace Go.Proofs.YtnpghhpcloljeabGreatDoor.ty
open Go.RowKit
open reads base
set_option linter.unusedVariables false

/-- a list of ints in memory, from the beginning of a block on -/
def InAt (w : World) (B : Nat) (A : Option Addr) (n : Nat) (xs : List Int) : Prop :=
  xs.length = n ∧ ∀ (k : Nat) x, xs[k]? = some x → ∃ g, A = some ⟨g, 0, none⟩ ∧ g < B ∧ w.cell? ⟨g, k, none⟩ = some (.int .i64 x)
theorem InAt.below {w w' : World} {B : Nat} {A : Option Addr} {n : Nat} {xs : List Int} (h : InAt w B A n xs) (hb : Below B w w') : InAt w' B A n xs :=
  ⟨h.1, fun k x hx => by
    obtain ⟨g, e, hg, h0⟩ := h.2 k x hx
    exact ⟨g, e, hg, (hb.cell (p := ⟨g, k, none⟩) hg).trans h0⟩⟩
theorem InAt.more {w : World} {B B' : Nat} {A : Option Addr} {n : Nat} {xs : List Int} (h : InAt w B A n xs) (hB : B ≤ B') : InAt w B' A n xs :=
  ⟨h.1, fun k x hx => by
    obtain ⟨g, e, hg, h0⟩ := h.2 k x hx
    exact ⟨g, e, by omega, h0⟩⟩
theorem InAt.step {w w' : World} {A : Option Addr} {n : Nat} {xs : List Int} (h : InAt w w.heap.size A n xs) (hb : Below w.heap.size w w') : InAt w' w'.heap.size A n xs := (h.below hb).more hb.size
theorem InAt.alloc {w : World} {A : Option Addr} {n : Nat} {xs : List Int} (h : InAt w w.heap.size A n xs) (o : Obj) : InAt (w.alloc o) (w.alloc o).heap.size A n xs := h.step ((Below.refl _ _).alloc (Nat.le_refl _) o)
theorem InAt.il {w : World} {B : Nat} {A : Option Addr} {n : Nat} {xs : List Int} (h : InAt w B A n xs) : ints.IL w A n xs :=
  ⟨h.1, fun k x hx => by
    obtain ⟨g, e, hg, h0⟩ := h.2 k x hx
    exact ⟨g, e, h0⟩⟩
theorem own_In {w : World} {base c n : Nat} {e : TypeId} {A : Option Addr} {xs : List Int} (hn : xs.length = n) (h : w.ownsRow base e 1 (.slice A n c) n (ints.intsV xs)) : InAt w w.heap.size A n xs := by
  refine ⟨hn, fun k x hx => ?_⟩
  have hk : k < xs.length := (List.getElem?_eq_some_iff.1 hx).1
  obtain ⟨g, cap, hv, -, hg⟩ := h.form (by omega)
  injection hv with hA _ hc
  subst hA hc
  exact ⟨g, rfl, hg, by rw [h.cellAt k (by omega)]; simp [ints.intsV, hx]⟩
end Go.Proofs.YtnpghhpcloljeabGreatDoor.ty
