/-
  The exact laws' helpers at legs: copies, comparisons, sizes, marks, arguments opened.
  Conditions: none but those that a theorem names.
-/
import Derived.Test.YtnpghhpcloljeaaDoorBase
import Derived.ProofKit
import Derived.OpenShut
import Derived.Deep.Slices
import Derived.Deep.Fields
namespace Go.Proofs.YtnpghhpcloljeaaDoor.ty
open Go.ChangeShapes Go.WideShapes Go.RowKit Go.Deep
open reads base
set_option linter.unusedVariables false
set_option linter.unusedSimpArgs false

/-- a leg -/
structure Lg where
  frm : Int
  to_ : Int
  tape : Int
  comp : Int
  slope : Int
/-- a list of them in memory, 5 cells an element, from the beginning of a block on -/
def LgAt (w : World) (B : Nat) (A : Option Addr) (n : Nat) (ts : List Lg) : Prop :=
  ts.length = n ∧ ∀ k t, ts[k]? = some t → ∃ g, A = some ⟨g, 0, none⟩ ∧ g < B ∧ w.cell? ⟨g, k * 5, none⟩ = some (.int .i64 t.frm) ∧ w.cell? ⟨g, k * 5 + 1, none⟩ = some (.int .i64 t.to_) ∧ w.cell? ⟨g, k * 5 + 2, none⟩ = some (.int .i64 t.tape) ∧ w.cell? ⟨g, k * 5 + 3, none⟩ = some (.int .i64 t.comp) ∧ w.cell? ⟨g, k * 5 + 4, none⟩ = some (.int .i64 t.slope)
theorem LgAt.below {w w' : World} {B : Nat} {A : Option Addr} {n : Nat} {ts : List Lg} (h : LgAt w B A n ts) (hb : Below B w w') : LgAt w' B A n ts :=
  ⟨h.1, fun k t ht => by
    obtain ⟨g, e, hg, h0, h1, h2, h3, h4⟩ := h.2 k t ht
    exact ⟨g, e, hg, (hb.cell (p := ⟨g, k * 5, none⟩) hg).trans h0, (hb.cell (p := ⟨g, k * 5 + 1, none⟩) hg).trans h1, (hb.cell (p := ⟨g, k * 5 + 2, none⟩) hg).trans h2, (hb.cell (p := ⟨g, k * 5 + 3, none⟩) hg).trans h3, (hb.cell (p := ⟨g, k * 5 + 4, none⟩) hg).trans h4⟩⟩
theorem LgAt.more {w : World} {B B' : Nat} {A : Option Addr} {n : Nat} {ts : List Lg} (h : LgAt w B A n ts) (hB : B ≤ B') : LgAt w B' A n ts :=
  ⟨h.1, fun k t ht => by
    obtain ⟨g, e, hg, h0⟩ := h.2 k t ht
    exact ⟨g, e, by omega, h0⟩⟩
theorem LgAt.step {w w' : World} {A : Option Addr} {n : Nat} {ts : List Lg} (h : LgAt w w.heap.size A n ts) (hb : Below w.heap.size w w') : LgAt w' w'.heap.size A n ts := (h.below hb).more hb.size
theorem LgAt.alloc {w : World} {A : Option Addr} {n : Nat} {ts : List Lg} (h : LgAt w w.heap.size A n ts) (o : Obj) : LgAt (w.alloc o) (w.alloc o).heap.size A n ts := h.step ((Below.refl _ _).alloc (Nat.le_refl _) _)
/-- an own row of them -/
def flatLg (ts : List Lg) : List Value := ts.flatMap fun t => [.int .i64 t.frm, .int .i64 t.to_, .int .i64 t.tape, .int .i64 t.comp, .int .i64 t.slope]
theorem flatLg_len (ts : List Lg) : (flatLg ts).length = ts.length * 5 := by
  induction ts with
  | nil => rfl
  | cons t ts ih =>
    have e : flatLg (t :: ts) = [.int .i64 t.frm, .int .i64 t.to_, .int .i64 t.tape, .int .i64 t.comp, .int .i64 t.slope] ++ flatLg ts := rfl
    rw [e, List.length_append, ih]
    simp only [List.length_cons, List.length_nil]
    omega
theorem flatLg_app (ts : List Lg) (t : Lg) : flatLg (ts ++ [t]) = flatLg ts ++ [.int .i64 t.frm, .int .i64 t.to_, .int .i64 t.tape, .int .i64 t.comp, .int .i64 t.slope] := by simp [flatLg]
theorem flatLg_at : ∀ (ts : List Lg) (k : Nat) (t : Lg), ts[k]? = some t → (flatLg ts)[k * 5]? = some (.int .i64 t.frm) ∧ (flatLg ts)[k * 5 + 1]? = some (.int .i64 t.to_) ∧ (flatLg ts)[k * 5 + 2]? = some (.int .i64 t.tape) ∧ (flatLg ts)[k * 5 + 3]? = some (.int .i64 t.comp) ∧ (flatLg ts)[k * 5 + 4]? = some (.int .i64 t.slope)
  | [], k, t, h => by simp at h
  | d :: ts, 0, t, h => by
    simp at h
    subst h
    exact ⟨rfl, rfl, rfl, rfl, rfl⟩
  | d :: ts, k + 1, t, h => by
    obtain ⟨k0, k1, k2, k3, k4⟩ := flatLg_at ts k t (by simpa using h)
    have e : flatLg (d :: ts) = .int .i64 d.frm :: .int .i64 d.to_ :: .int .i64 d.tape :: .int .i64 d.comp :: .int .i64 d.slope :: flatLg ts := rfl
    rw [e, show (k + 1) * 5 = k * 5 + 1 + 1 + 1 + 1 + 1 by omega, show k * 5 + 1 + 1 + 1 + 1 + 1 + 1 = (k * 5 + 1) + 1 + 1 + 1 + 1 + 1 by omega, show k * 5 + 1 + 1 + 1 + 1 + 1 + 2 = (k * 5 + 2) + 1 + 1 + 1 + 1 + 1 by omega, show k * 5 + 1 + 1 + 1 + 1 + 1 + 3 = (k * 5 + 3) + 1 + 1 + 1 + 1 + 1 by omega, show k * 5 + 1 + 1 + 1 + 1 + 1 + 4 = (k * 5 + 4) + 1 + 1 + 1 + 1 + 1 by omega]
    exact ⟨by simpa using k0, by simpa using k1, by simpa using k2, by simpa using k3, by simpa using k4⟩
theorem own_Lg {w : World} {base c n : Nat} {e : TypeId} {A : Option Addr} {ts : List Lg} (hn : ts.length = n) (h : w.ownsRow base e 5 (.slice A n c) n (flatLg ts)) : LgAt w w.heap.size A n ts := by
  refine ⟨hn, fun k d hd => ?_⟩
  have hk : k < ts.length := (List.getElem?_eq_some_iff.1 hd).1
  obtain ⟨g, cap, hv, -, hg⟩ := h.form (by omega)
  injection hv with hA _ hc
  subst hA hc
  obtain ⟨f0, f1, f2, f3, f4⟩ := flatLg_at ts k d hd
  exact ⟨g, rfl, hg, (h.cellAt (k * 5) (by omega)).trans f0, (h.cellAt (k * 5 + 1) (by omega)).trans f1, (h.cellAt (k * 5 + 2) (by omega)).trans f2, (h.cellAt (k * 5 + 3) (by omega)).trans f3, (h.cellAt (k * 5 + 4) (by omega)).trans f4⟩
theorem infoLg : (Tryd.prog.info? 33).map (fun i => (i.zero, i.size, i.bytes)) = some (some (.agg #[.int .i64 0, .int .i64 0, .int .i64 0, .int .i64 0, .int .i64 0]), 5, 40) := by kernel_rfl
/-- a copy of a leg -/
theorem to_leg (x : Lg) (w : World) : Calls Tryd.prog 8 #[.agg #[.int .i64 x.frm, .int .i64 x.to_, .int .i64 x.tape, .int .i64 x.comp, .int .i64 x.slope]] w fun e w' => e = .returned (.agg #[.int .i64 x.frm, .int .i64 x.to_, .int .i64 x.tape, .int .i64 x.comp, .int .i64 x.slope]) ∧ Below w.heap.size w w' := by
  go_enter Tryd.func8, Tryd.ntmps8
  go_wp2_with fail
  refine bodyPost_ret (v := .agg #[.int .i64 x.frm, .int .i64 x.to_, .int .i64 x.tape, .int .i64 x.comp, .int .i64 x.slope]) (by simp [results, Tryd.results8, go_sem]) rfl ⟨rfl, ?_⟩
  have h := (((Below.refl w.heap.size w).alloc (Nat.le_refl _) (.cells #[.int .i64 x.frm, .int .i64 x.to_, .int .i64 x.tape, .int .i64 x.comp, .int .i64 x.slope] 24)).alloc (by simp) (.cells #[.int .i64 0, .int .i64 0, .int .i64 0, .int .i64 0, .int .i64 0] 33)).alloc (by simp; omega) (.cells #[.int .i64 0, .int .i64 0, .int .i64 0, .int .i64 0, .int .i64 0] 33)
  repeat (first | exact h | refine Below.setCell ?_ (by simp) _ | refine Below.setCell ?_ (by simp; omega) _)
  all_goals (repeat (first | exact (Below.refl _ _) | refine Below.alloc ?_ (by simp; omega) _ | refine Below.alloc ?_ (by simp) _))

set_option maxRecDepth 100000 in
theorem open_leg {H : Type} {enc : TypeId × Value → H} {w : World} {base : Nat} {v : Value} {d : DataW H} {p : List MemPlace}
    (hv : Value.okWide Tryd.prog w .any base 24 v) (h : DataW.Trod enc Tryd.prog w 0 (fun _ => true) true 24 v d p) : ∃ x : Lg, v = .agg #[.int .i64 x.frm, .int .i64 x.to_, .int .i64 x.tape, .int .i64 x.comp, .int .i64 x.slope] := by
  have hC : Tryd.prog.cellsOf 24 = 5 := by kernel_rfl
  have kint : Tryd.prog.cellsOf 3 = 1 := by kernel_rfl
  obtain ⟨cs, rfl, hsz⟩ := okWide_struct Tryd.underlying24 hv
  obtain ⟨fuel, hf⟩ := h
  obtain ⟨xs, n, -, -, -, hlen, hg⟩ := DataW.trod_struct Tryd.underlying24 hf
  rw [hC] at hsz
  obtain ⟨l⟩ := cs
  match l, hsz with
  | [c0, c1, c2, c3, c4], _ =>
    match xs, hlen with
    | [y0, y1, y2, y3, y4], _ =>
      have h0 := hg 0 _ rfl
      simp [Value.cells, kint] at h0
      obtain ⟨x0, e0, -, -⟩ := DataW.trod_int Tryd.underlying3 h0
      obtain rfl : c0 = .int .i64 x0 := by simpa using e0
      have h1 := hg 1 _ rfl
      simp [Value.cells, kint] at h1
      obtain ⟨x1, e1, -, -⟩ := DataW.trod_int Tryd.underlying3 h1
      obtain rfl : c1 = .int .i64 x1 := by simpa using e1
      have h2 := hg 2 _ rfl
      simp [Value.cells, kint] at h2
      obtain ⟨x2, e2, -, -⟩ := DataW.trod_int Tryd.underlying3 h2
      obtain rfl : c2 = .int .i64 x2 := by simpa using e2
      have h3 := hg 3 _ rfl
      simp [Value.cells, kint] at h3
      obtain ⟨x3, e3, -, -⟩ := DataW.trod_int Tryd.underlying3 h3
      obtain rfl : c3 = .int .i64 x3 := by simpa using e3
      have h4 := hg 4 _ rfl
      simp [Value.cells, kint] at h4
      obtain ⟨x4, e4, -, -⟩ := DataW.trod_int Tryd.underlying3 h4
      obtain rfl : c4 = .int .i64 x4 := by simpa using e4
      exact ⟨⟨x0, x1, x2, x3, x4⟩, rfl⟩

/-- a list that came in, 5 cells an element -/
def ArgLg (w : World) (B : Nat) (A : Option Addr) (n : Nat) (ts : List Lg) : Prop :=
  ts.length = n ∧ ∀ k t, ts[k]? = some t → ∃ ad, A = some ad ∧ ad.block < B ∧ w.cell? (ad.add (k * 5)) = some (.int .i64 t.frm) ∧ w.cell? (ad.add (k * 5 + 1)) = some (.int .i64 t.to_) ∧ w.cell? (ad.add (k * 5 + 2)) = some (.int .i64 t.tape) ∧ w.cell? (ad.add (k * 5 + 3)) = some (.int .i64 t.comp) ∧ w.cell? (ad.add (k * 5 + 4)) = some (.int .i64 t.slope)
theorem ArgLg.below {w w' : World} {B : Nat} {A : Option Addr} {n : Nat} {ts : List Lg} (h : ArgLg w B A n ts) (hb : Below B w w') : ArgLg w' B A n ts :=
  ⟨h.1, fun k t ht => by
    obtain ⟨ad, e, hg, h0, h1, h2, h3, h4⟩ := h.2 k t ht
    exact ⟨ad, e, hg, (hb.cell (p := ad.add (k * 5)) (by rw [block_of_add]; exact hg)).trans h0, (hb.cell (p := ad.add (k * 5 + 1)) (by rw [block_of_add]; exact hg)).trans h1, (hb.cell (p := ad.add (k * 5 + 2)) (by rw [block_of_add]; exact hg)).trans h2, (hb.cell (p := ad.add (k * 5 + 3)) (by rw [block_of_add]; exact hg)).trans h3, (hb.cell (p := ad.add (k * 5 + 4)) (by rw [block_of_add]; exact hg)).trans h4⟩⟩
theorem more_leg {w : World} {B B' : Nat} {A : Option Addr} {n : Nat} {ts : List Lg} (h : ArgLg w B A n ts) (hB : B ≤ B') : ArgLg w B' A n ts :=
  ⟨h.1, fun k t ht => by
    obtain ⟨ad, e, hg, h0⟩ := h.2 k t ht
    exact ⟨ad, e, by omega, h0⟩⟩
/-- the first k of a copy are laid -/
def FillLg (n k : Nat) (ts : List Lg) (cs : Array Value) : Prop := cs.size = n * 5 ∧ ∀ i t, i < k → ts[i]? = some t → cs[i * 5]? = some (.int .i64 t.frm) ∧ cs[i * 5 + 1]? = some (.int .i64 t.to_) ∧ cs[i * 5 + 2]? = some (.int .i64 t.tape) ∧ cs[i * 5 + 3]? = some (.int .i64 t.comp) ∧ cs[i * 5 + 4]? = some (.int .i64 t.slope)
theorem FillLg.next {n k : Nat} {ts : List Lg} {cs : Array Value} {t : Lg} (h : FillLg n k ts cs) (hk : k < n) (ht : ts[k]? = some t) : FillLg n (k + 1) ts (((((cs.setIfInBounds (k * 5) (.int .i64 t.frm)).setIfInBounds (k * 5 + 1) (.int .i64 t.to_)).setIfInBounds (k * 5 + 2) (.int .i64 t.tape)).setIfInBounds (k * 5 + 3) (.int .i64 t.comp)).setIfInBounds (k * 5 + 4) (.int .i64 t.slope)) := by
  have hsz := h.1
  refine ⟨by simpa using hsz, fun i u hi hu => ?_⟩
  by_cases e : i = k
  · subst e
    obtain rfl : t = u := Option.some.inj (ht.symm.trans hu)
    refine ⟨?_, ?_, ?_, ?_, ?_⟩ <;> (simp only [Array.getElem?_setIfInBounds, Array.size_setIfInBounds, if_true]; repeat' split) <;> first | rfl | (exfalso; omega)
  · obtain ⟨h0, h1, h2, h3, h4⟩ := h.2 i u (by omega) hu
    refine ⟨?_, ?_, ?_, ?_, ?_⟩ <;> (simp only [Array.getElem?_setIfInBounds, Array.size_setIfInBounds]; repeat' split) <;> first | assumption | (exfalso; omega)
theorem FillLg.at_ {n : Nat} {ts : List Lg} {cs : Array Value} {w : World} {g : Nat} (h : FillLg n n ts cs) (hl : ts.length = n) (hb : Blk w g 33 cs) : LgAt w (g + 1) (some ⟨g, 0, none⟩) n ts :=
  ⟨hl, fun k t ht => by
    have hk : k < n := by have := (List.getElem?_eq_some_iff.1 ht).1; omega
    obtain ⟨h0, h1, h2, h3, h4⟩ := h.2 k t hk ht
    exact ⟨g, rfl, by omega, (hb.cell _).trans h0, (hb.cell _).trans h1, (hb.cell _).trans h2, (hb.cell _).trans h3, (hb.cell _).trans h4⟩⟩
/-- a copy of a list: a block of its own -/
def ToPLg (n : Nat) (ts : List Lg) (w : World) (e : Ending) (w' : World) : Prop :=
  e = .returned (.slice (some ⟨w.heap.size, 0, none⟩) n n) ∧ (∃ cs, Blk w' w.heap.size 33 cs ∧ FillLg n n ts cs) ∧ Below w.heap.size w w'
end Go.Proofs.YtnpghhpcloljeaaDoor.ty
