/-
  Rows of ints and matrices in memory of one's own.
  Conditions: those that each theorem names.
-/
import Derived.Test.YtnpghhpcloljeabGreatDoorReadsq
namespace Go.Proofs.YtnpghhpcloljeabGreatDoor.mt
open Go.RowKit
open reads base rowi
set_option linter.unusedVariables false
set_option linter.unusedSimpArgs false

/-- one entry changed -/
def upd (f : Nat → Int) (j : Nat) (x : Int) : Nat → Int := fun i => if i = j then x else f i
def upd2 (M : Nat → Nat → Int) (i j : Nat) (x : Int) : Nat → Nat → Int := fun r => if r = i then upd (M r) j x else M r
theorem upd2_at (M : Nat → Nat → Int) (i j : Nat) (x : Int) (r c : Nat) : upd2 M i j x r c = if r = i ∧ c = j then x else M r c := by
  unfold upd2 upd
  by_cases h : r = i <;> by_cases k : c = j <;> simp [h, k]
def cs1 (n : Nat) (f : Nat → Int) : Array Value := ((List.range n).map (fun j => Value.int .i64 (f j))).toArray
theorem cs1_size (n : Nat) (f : Nat → Int) : (cs1 n f).size = n := by simp [cs1]
theorem cs1_at {n j : Nat} (f : Nat → Int) (h : j < n) : (cs1 n f)[j]? = some (.int .i64 (f j)) := by simp [cs1, h]
theorem cs1_set {n j : Nat} (f : Nat → Int) (x : Int) (h : j < n) : (cs1 n f).setIfInBounds j (.int .i64 x) = cs1 n (upd f j x) := by
  apply Array.ext_getElem?
  intro i
  rw [Array.getElem?_setIfInBounds]
  by_cases hi : i < n
  · rw [cs1_at (upd f j x) hi]
    by_cases e : j = i
    · subst e; rw [if_pos rfl, cs1_size, if_pos h]; simp [upd]
    · rw [if_neg e, cs1_at _ hi]; simp [upd, show ¬ i = j from fun q => e q.symm]
  · rw [Array.getElem?_eq_none (by rw [cs1_size]; omega)]
    by_cases e : j = i
    · omega
    · rw [if_neg e, Array.getElem?_eq_none (by rw [cs1_size]; omega)]
theorem cs1_congr {n : Nat} {f g : Nat → Int} (h : ∀ j, j < n → f j = g j) : cs1 n f = cs1 n g := by
  unfold cs1
  rw [List.map_congr_left (fun j hj => by rw [h j (List.mem_range.1 hj)])]
theorem cs1_zero (n : Nat) : madeCells #[Value.int .i64 0] (n * 1) = cs1 n (fun _ => 0) := by
  apply Array.ext_getElem?
  intro i
  by_cases hi : i < n
  · rw [cs1_at _ hi]
    simp [madeCells, hi, Nat.mod_one]
  · rw [Array.getElem?_eq_none (xs := madeCells #[Value.int .i64 0] (n * 1)) (by simp [madeCells]; omega), Array.getElem?_eq_none (by rw [cs1_size]; omega)]
/-- a row of ints in a block -/
def RwB (w : World) (p n : Nat) (f : Nat → Int) : Prop := Blk w p 3 (cs1 n f)
section
variable {w w' : World} {p n : Nat} {f : Nat → Int}
theorem RwB.lt (h : RwB w p n f) : p < w.heap.size := Blk.lt h
theorem RwB.at_ (h : RwB w p n f) {j : Nat} (hj : j < n) : w.cell? ⟨p, j, none⟩ = some (.int .i64 (f j)) := by rw [Blk.cell h, cs1_at f hj]
theorem RwB.fro (h : RwB w p n f) (j : Nat) : w.frozen? ⟨p, j, none⟩ = false := Blk.frozen h j
theorem RwB.set (h : RwB w p n f) {j : Nat} (hj : j < n) (x : Int) : RwB (w.setCell ⟨p, j, none⟩ (.int .i64 x)) p n (upd f j x) := by
  have := Blk.set_ h j (.int .i64 x)
  rw [cs1_set f x hj] at this; exact this
theorem RwB.below (h : RwB w p n f) {B : Nat} (hb : Below B w w') (hp : p < B) : RwB w' p n f := Blk.below h hb hp
theorem RwB.congr {g : Nat → Int} (h : RwB w p n f) (e : ∀ j, j < n → f j = g j) : RwB w p n g := by unfold RwB; rw [← cs1_congr e]; exact h
theorem RwB.own {base : Nat} (h : RwB w p n f) (hb : base ≤ p) (hn : n ≤ maxLen) : w.ownsRow base 3 1 (.slice (some ⟨p, 0, none⟩) n n) n (ints.intsV ((List.range n).map f)) := by
  have := row_blk (size := 1) h hb hn (by rw [cs1_size]; omega)
  have e : (cs1 n f).toList = ints.intsV ((List.range n).map f) := by unfold cs1 ints.intsV; rw [List.map_map]; rfl
  rw [e] at this; exact this
end

/-- pointers to rows -/
def rp (n m : Nat) (P : Nat → Nat) : List Value := (List.range n).map (fun i => Value.slice (some ⟨P i, 0, none⟩) m m)
theorem rp_len (n m : Nat) (P : Nat → Nat) : (rp n m P).length = n := by simp [rp]
theorem rp_at {n m i : Nat} (P : Nat → Nat) (h : i < n) : (rp n m P)[i]? = some (.slice (some ⟨P i, 0, none⟩) m m) := by simp [rp, h]
theorem rp_one (n m : Nat) (P : Nat → Nat) : ∀ u ∈ rp n m P, u.oneCell' = true := by
  intro u hu
  obtain ⟨i, -, rfl⟩ := List.mem_map.1 hu; rfl
/-- n rows of m ints -/
def MxB (w : World) (base : Nat) (A : Option Addr) (n c m : Nat) (P : Nat → Nat) (M : Nat → Nat → Int) : Prop :=
  w.ownsRow base 27 1 (.slice A n c) n (rp n m P) ∧ (∀ i, i < n → RwB w (P i) m (M i) ∧ base ≤ P i) ∧ (∀ i j, i < n → j < n → P i = P j → i = j)
theorem own_far' {v : World} (g : Nat) {e : TypeId} {size n c : Nat} {A : Option Addr} {xs : List Value} {bs : Nat} (h : v.ownsRow bs e size (.slice A n c) n xs) (hne : (Value.slice A n c).ownBlock ≠ some g) (i : Nat) (u : Value) : (v.setCell ⟨g, i, none⟩ u).ownsRow bs e size (.slice A n c) n xs :=
  h.kept (row := some g) (grown_set ⟨rfl, rfl, rfl, Nat.le_refl _, fun _ _ _ => rfl⟩ i u) (.inr hne)
section
variable {w w' : World} {b n c m : Nat} {A : Option Addr} {P : Nat → Nat} {M : Nat → Nat → Int}
theorem MxB.step (h : MxB w b A n c m P M) (hb : Below w.heap.size w w') : MxB w' b A n c m P M :=
  ⟨row_below h.1 hb, fun i hi => ⟨(h.2.1 i hi).1.below hb (h.2.1 i hi).1.lt, (h.2.1 i hi).2⟩, h.2.2⟩
theorem MxB.drew (h : MxB w b A n c m P M) : MxB w.drew b A n c m P M := h
theorem MxB.top (h : MxB w b A n c m P M) {i : Nat} (hi : i < n) : ∃ g, A = some ⟨g, 0, none⟩ ∧ b ≤ g ∧ g < w.heap.size ∧ (∀ j, j < n → w.cell? ⟨g, j, none⟩ = some (.slice (some ⟨P j, 0, none⟩) m m)) ∧ (∀ j, w.frozen? ⟨g, j, none⟩ = false) := by
  obtain ⟨g, cap, hv, hb, hg⟩ := h.1.form (by omega)
  injection hv with hA _ hc
  subst hA hc
  refine ⟨g, rfl, hb, hg, fun j hj => ?_, fun j => h.1.frozenAt j⟩
  rw [h.1.cellAt j (by omega), rp_at P hj]
theorem MxB.row (h : MxB w b A n c m P M) {i : Nat} (hi : i < n) : (∀ j, j < m → w.cell? ⟨P i, j, none⟩ = some (.int .i64 (M i j))) ∧ (∀ j, w.frozen? ⟨P i, j, none⟩ = false) ∧ b ≤ P i ∧ P i < w.heap.size :=
  ⟨fun j hj => (h.2.1 i hi).1.at_ hj, fun j => (h.2.1 i hi).1.fro j, (h.2.1 i hi).2, (h.2.1 i hi).1.lt⟩
theorem MxB.set (h : MxB w b A n c m P M) {i j : Nat} (hi : i < n) (hj : j < m) (x : Int) : MxB (w.setCell ⟨P i, j, none⟩ (.int .i64 x)) b A n c m P (upd2 M i j x) := by
  have hne : (Value.slice A n c).ownBlock ≠ some (P i) := own_blk_ne h.1 (h.2.1 i hi).1 (by decide)
  refine ⟨own_far' (P i) h.1 hne j _, fun r hr => ⟨?_, (h.2.1 r hr).2⟩, h.2.2⟩
  by_cases e : r = i
  · subst e
    have := (h.2.1 r hr).1.set hj x
    unfold upd2; rw [if_pos rfl]; exact this
  · unfold upd2; rw [if_neg e]
    exact Blk.far (h.2.1 r hr).1 (fun q => e (h.2.2 r i hr hi q)) _
theorem MxB.congr {N : Nat → Nat → Int} (h : MxB w b A n c m P M) (e : ∀ i, i < n → ∀ j, j < m → M i j = N i j) : MxB w b A n c m P N :=
  ⟨h.1, fun i hi => ⟨(h.2.1 i hi).1.congr (e i hi), (h.2.1 i hi).2⟩, h.2.2⟩
end
theorem rp_swap {n m p k : Nat} (P : Nat → Nat) (hp : p < n) (hk : k < n) (S : Nat → Nat) (h1 : S p = k) (h2 : S k = p) (h3 : ∀ i, i ≠ p → i ≠ k → S i = i) :
    ((rp n m P).set p (.slice (some ⟨P k, 0, none⟩) m m)).set k (.slice (some ⟨P p, 0, none⟩) m m) = rp n m (fun i => P (S i)) := by
  apply List.ext_getElem?
  intro i
  rw [List.getElem?_set, List.getElem?_set, List.length_set, rp_len]
  by_cases hi : i < n
  · rw [rp_at _ hi, rp_at _ hi]
    by_cases e : k = i
    · subst e; rw [if_pos rfl, if_pos hi, h2]
    · rw [if_neg e]
      by_cases e2 : p = i
      · subst e2; rw [if_pos rfl, if_pos hi, h1]
      · rw [if_neg e2, h3 i (fun q => e2 q.symm) (fun q => e q.symm)]
  · rw [if_neg (by omega), if_neg (by omega), List.getElem?_eq_none (by rw [rp_len]; omega), List.getElem?_eq_none (by rw [rp_len]; omega)]
theorem MxB.swap {w : World} {b n c m g p k : Nat} {P : Nat → Nat} {M : Nat → Nat → Int} (h : MxB w b (some ⟨g, 0, none⟩) n c m P M) (hp : p < n) (hk : k < n) (S : Nat → Nat) (h1 : S p = k) (h2 : S k = p) (h3 : ∀ i, i ≠ p → i ≠ k → S i = i) :
    MxB ((w.setCell ⟨g, p, none⟩ (.slice (some ⟨P k, 0, none⟩) m m)).setCell ⟨g, k, none⟩ (.slice (some ⟨P p, 0, none⟩) m m)) b (some ⟨g, 0, none⟩) n c m (fun i => P (S i)) (fun i => M (S i)) := by
  obtain ⟨a1, a2⟩ := h.1.stored p (.slice (some ⟨P k, 0, none⟩) m m)
  obtain ⟨b1, b2⟩ := a1.stored k (.slice (some ⟨P p, 0, none⟩) m m)
  rw [rp_swap P hp hk S h1 h2 h3] at b1
  have hS : ∀ i, i < n → S i < n := fun i hi => by
    by_cases e : i = p
    · rw [e, h1]; exact hk
    · by_cases e2 : i = k
      · rw [e2, h2]; exact hp
      · rw [h3 i e e2]; exact hi
  have hSS : ∀ i, S (S i) = i := fun i => by
    by_cases e : i = p
    · rw [e, h1, h2]
    · by_cases e2 : i = k
      · rw [e2, h2, h1]
      · rw [h3 i e e2, h3 i e e2]
  refine ⟨b1, fun i hi => ?_, fun i j hi hj e => ?_⟩
  · have q := h.2.1 (S i) (hS i hi)
    have hne : P (S i) ≠ g := fun e => by
      have := own_blk_ne h.1 q.1 (by decide)
      exact this (by rw [e]; rfl)
    exact ⟨Blk.far (Blk.far q.1 hne _) hne _, q.2⟩
  · have := h.2.2 _ _ (hS i hi) (hS j hj) e
    have k := congrArg S this
    rwa [hSS, hSS] at k
end Go.Proofs.YtnpghhpcloljeabGreatDoor.mt
