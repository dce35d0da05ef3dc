/-
  Tools and checks that came into a law: opened to numbers.
  Conditions: none but those that a theorem names.
-/
import Derived.Test.YtekbiapgbhaibaaTlM
import Derived.ProofKit
import Derived.OpenShut
import Derived.Deep.Slices
import Derived.Deep.Fields
namespace Go.Proofs.Ytekbiapgbhaibaa.tlo
open Go.ChangeShapes Go.WideShapes Go.RowKit Go.Deep
open reads tl
set_option linter.unusedVariables false
set_option linter.unusedSimpArgs false

theorem choose_list {α : Type} {P : Nat → α → Prop} : ∀ n, (∀ i, i < n → ∃ x, P i x) → ∃ xs : List α, xs.length = n ∧ ∀ i x, xs[i]? = some x → P i x
  | 0, _ => ⟨[], rfl, fun i x h => by simp at h⟩
  | n + 1, h => by
    obtain ⟨xs, hl, hx⟩ := choose_list n (fun i hi => h i (by omega))
    obtain ⟨y, hy⟩ := h n (by omega)
    refine ⟨xs ++ [y], by simp [hl], fun i x hi => ?_⟩
    by_cases e : i < n
    · rw [List.getElem?_append_left (by omega)] at hi
      exact hx i x hi
    · have hlen : i < (xs ++ [y]).length := (List.getElem?_eq_some_iff.1 hi).1
      rw [List.length_append, List.length_singleton, hl] at hlen
      obtain rfl : i = n := by omega
      rw [List.getElem?_append_right (by omega), hl, Nat.sub_self] at hi
      obtain rfl : y = x := by simpa using hi
      exact hy
theorem lt_of_cell {w : World} {a : Addr} {v : Value} (h : w.cell? a = some v) : a.block < w.heap.size := by
  rcases Nat.lt_or_ge a.block w.heap.size with q | q
  · exact q
  · simp [World.cell?, Array.getElem?_eq_none q] at h

theorem open_tool {H : Type} {enc : TypeId × Value → H} {w : World} {base : Nat} {v : Value} {d : DataW H} {p : List MemPlace}
    (hv : Value.okWide Try.prog w .any base 51 v) (h : DataW.Trod enc Try.prog w 0 (fun _ => true) true 51 v d p) : ∃ x : Tl, v = .agg #[.int .i64 x.id, .int .i64 x.kind, .int .i64 x.zero, .int .i64 x.scale] := by
  have hC : Try.prog.cellsOf 51 = 4 := by kernel_rfl
  have kint : Try.prog.cellsOf 3 = 1 := by kernel_rfl
  obtain ⟨cs, rfl, hsz⟩ := okWide_struct Try.underlying51 hv
  obtain ⟨fuel, hf⟩ := h
  obtain ⟨xs, n, -, -, -, hlen, hg⟩ := DataW.trod_struct Try.underlying51 hf
  rw [hC] at hsz
  obtain ⟨l⟩ := cs
  match l, hsz with
  | [c0, c1, c2, c3], _ =>
    match xs, hlen with
    | [y0, y1, y2, y3], _ =>
      have h0 := hg 0 _ rfl
      simp [Value.cells, kint] at h0
      obtain ⟨x0, e0, -, -⟩ := DataW.trod_int Try.underlying3 h0
      obtain rfl : c0 = .int .i64 x0 := by simpa using e0
      have h1 := hg 1 _ rfl
      simp [Value.cells, kint] at h1
      obtain ⟨x1, e1, -, -⟩ := DataW.trod_int Try.underlying3 h1
      obtain rfl : c1 = .int .i64 x1 := by simpa using e1
      have h2 := hg 2 _ rfl
      simp [Value.cells, kint] at h2
      obtain ⟨x2, e2, -, -⟩ := DataW.trod_int Try.underlying3 h2
      obtain rfl : c2 = .int .i64 x2 := by simpa using e2
      have h3 := hg 3 _ rfl
      simp [Value.cells, kint] at h3
      obtain ⟨x3, e3, -, -⟩ := DataW.trod_int Try.underlying3 h3
      obtain rfl : c3 = .int .i64 x3 := by simpa using e3
      exact ⟨⟨x0, x1, x2, x3⟩, rfl⟩

theorem open_check {H : Type} {enc : TypeId × Value → H} {w : World} {base : Nat} {v : Value} {d : DataW H} {p : List MemPlace}
    (hv : Value.okWide Try.prog w .any base 60 v) (h : DataW.Trod enc Try.prog w 0 (fun _ => true) true 60 v d p) : ∃ x : Ck, v = .agg #[.int .i64 x.read, .int .i64 x.tru] := by
  have hC : Try.prog.cellsOf 60 = 2 := by kernel_rfl
  have kint : Try.prog.cellsOf 3 = 1 := by kernel_rfl
  obtain ⟨cs, rfl, hsz⟩ := okWide_struct Try.underlying60 hv
  obtain ⟨fuel, hf⟩ := h
  obtain ⟨xs, n, -, -, -, hlen, hg⟩ := DataW.trod_struct Try.underlying60 hf
  rw [hC] at hsz
  obtain ⟨l⟩ := cs
  match l, hsz with
  | [c0, c1], _ =>
    match xs, hlen with
    | [y0, y1], _ =>
      have h0 := hg 0 _ rfl
      simp [Value.cells, kint] at h0
      obtain ⟨x0, e0, -, -⟩ := DataW.trod_int Try.underlying3 h0
      obtain rfl : c0 = .int .i64 x0 := by simpa using e0
      have h1 := hg 1 _ rfl
      simp [Value.cells, kint] at h1
      obtain ⟨x1, e1, -, -⟩ := DataW.trod_int Try.underlying3 h1
      obtain rfl : c1 = .int .i64 x1 := by simpa using e1
      exact ⟨⟨x0, x1⟩, rfl⟩

theorem open_toolS {H : Type} {enc : TypeId × Value → H} {w : World} {base : Nat} {v : Value} {d : DataW H} {p : List MemPlace}
    (hv : Value.okWide Try.prog w .any base 54 v) (h : DataW.Trod enc Try.prog w 0 (fun _ => true) true 54 v d p) :
    ∃ (A : Option Addr) (n cap : Nat) (ts : List Tl), v = .slice A n cap ∧ ArgTl w w.heap.size A n ts ∧ n ≤ maxLen := by
  have hC : Try.prog.cellsOf 51 = 4 := by kernel_rfl
  have kint : Try.prog.cellsOf 3 = 1 := by kernel_rfl
  obtain ⟨A, n, cap, rfl⟩ := okWide_slice Try.underlying54 hv
  obtain ⟨fuel, hf⟩ := h
  rcases open_slice Try.underlying54 hf with ⟨hcs, -⟩ | ⟨a, len, c, m, k, D, Pl, hcs, -, hl, hm, hmm, -, hi⟩
  · simp [Value.cells] at hcs
    obtain ⟨rfl, rfl, rfl⟩ := hcs
    exact ⟨none, 0, 0, [], rfl, ⟨rfl, fun k t ht => by simp at ht⟩, by simp⟩
  · simp [Value.cells] at hcs
    obtain ⟨rfl, rfl, rfl⟩ := hcs
    rw [hC] at hi
    have hmn : n ≤ m := by rw [hmm]; simpa using hl
    obtain ⟨ts, hts, hx⟩ := choose_list (P := fun i (t : Tl) => w.cell? (a.add (i * 4)) = some (.int .i64 t.id) ∧ w.cell? (a.add (i * 4 + 1)) = some (.int .i64 t.kind) ∧ w.cell? (a.add (i * 4 + 2)) = some (.int .i64 t.zero) ∧ w.cell? (a.add (i * 4 + 3)) = some (.int .i64 t.scale)) n (fun i hin => by
      obtain ⟨cs, hc, ht⟩ := hi i (by omega)
      obtain ⟨-, hlen, hcell⟩ := World.cells?_some hc
      obtain ⟨xs, n', -, -, -, hxl, hg⟩ := DataW.trod_struct Try.underlying51 ht
      match cs, hlen with
      | [c0, c1, c2, c3], _ =>
        match xs, hxl with
        | [y0, y1, y2, y3], _ =>
          have h0 := hg 0 _ rfl
          simp [kint] at h0
          obtain ⟨x0, e0, -, -⟩ := DataW.trod_int Try.underlying3 h0
          obtain rfl : c0 = .int .i64 x0 := by simpa using e0
          have q0 := hcell 0 (by decide)
          rw [add_of_add] at q0
          have h1 := hg 1 _ rfl
          simp [kint] at h1
          obtain ⟨x1, e1, -, -⟩ := DataW.trod_int Try.underlying3 h1
          obtain rfl : c1 = .int .i64 x1 := by simpa using e1
          have q1 := hcell 1 (by decide)
          rw [add_of_add] at q1
          have h2 := hg 2 _ rfl
          simp [kint] at h2
          obtain ⟨x2, e2, -, -⟩ := DataW.trod_int Try.underlying3 h2
          obtain rfl : c2 = .int .i64 x2 := by simpa using e2
          have q2 := hcell 2 (by decide)
          rw [add_of_add] at q2
          have h3 := hg 3 _ rfl
          simp [kint] at h3
          obtain ⟨x3, e3, -, -⟩ := DataW.trod_int Try.underlying3 h3
          obtain rfl : c3 = .int .i64 x3 := by simpa using e3
          have q3 := hcell 3 (by decide)
          rw [add_of_add] at q3
          exact ⟨⟨x0, x1, x2, x3⟩, q0, q1, q2, q3⟩)
    refine ⟨some a, n, cap, ts, rfl, ⟨hts, fun k t ht => ?_⟩, by omega⟩
    have hk := hx k t ht
    exact ⟨a, rfl, by have := lt_of_cell hk.1; rwa [block_of_add] at this, hk⟩

theorem open_checkS {H : Type} {enc : TypeId × Value → H} {w : World} {base : Nat} {v : Value} {d : DataW H} {p : List MemPlace}
    (hv : Value.okWide Try.prog w .any base 63 v) (h : DataW.Trod enc Try.prog w 0 (fun _ => true) true 63 v d p) :
    ∃ (A : Option Addr) (n cap : Nat) (ts : List Ck), v = .slice A n cap ∧ ArgCk w w.heap.size A n ts ∧ n ≤ maxLen := by
  have hC : Try.prog.cellsOf 60 = 2 := by kernel_rfl
  have kint : Try.prog.cellsOf 3 = 1 := by kernel_rfl
  obtain ⟨A, n, cap, rfl⟩ := okWide_slice Try.underlying63 hv
  obtain ⟨fuel, hf⟩ := h
  rcases open_slice Try.underlying63 hf with ⟨hcs, -⟩ | ⟨a, len, c, m, k, D, Pl, hcs, -, hl, hm, hmm, -, hi⟩
  · simp [Value.cells] at hcs
    obtain ⟨rfl, rfl, rfl⟩ := hcs
    exact ⟨none, 0, 0, [], rfl, ⟨rfl, fun k t ht => by simp at ht⟩, by simp⟩
  · simp [Value.cells] at hcs
    obtain ⟨rfl, rfl, rfl⟩ := hcs
    rw [hC] at hi
    have hmn : n ≤ m := by rw [hmm]; simpa using hl
    obtain ⟨ts, hts, hx⟩ := choose_list (P := fun i (t : Ck) => w.cell? (a.add (i * 2)) = some (.int .i64 t.read) ∧ w.cell? (a.add (i * 2 + 1)) = some (.int .i64 t.tru)) n (fun i hin => by
      obtain ⟨cs, hc, ht⟩ := hi i (by omega)
      obtain ⟨-, hlen, hcell⟩ := World.cells?_some hc
      obtain ⟨xs, n', -, -, -, hxl, hg⟩ := DataW.trod_struct Try.underlying60 ht
      match cs, hlen with
      | [c0, c1], _ =>
        match xs, hxl with
        | [y0, y1], _ =>
          have h0 := hg 0 _ rfl
          simp [kint] at h0
          obtain ⟨x0, e0, -, -⟩ := DataW.trod_int Try.underlying3 h0
          obtain rfl : c0 = .int .i64 x0 := by simpa using e0
          have q0 := hcell 0 (by decide)
          rw [add_of_add] at q0
          have h1 := hg 1 _ rfl
          simp [kint] at h1
          obtain ⟨x1, e1, -, -⟩ := DataW.trod_int Try.underlying3 h1
          obtain rfl : c1 = .int .i64 x1 := by simpa using e1
          have q1 := hcell 1 (by decide)
          rw [add_of_add] at q1
          exact ⟨⟨x0, x1⟩, q0, q1⟩)
    refine ⟨some a, n, cap, ts, rfl, ⟨hts, fun k t ht => ?_⟩, by omega⟩
    have hk := hx k t ht
    exact ⟨a, rfl, by have := lt_of_cell hk.1; rwa [block_of_add] at this, hk⟩

theorem more_tool {w : World} {B B' : Nat} {A : Option Addr} {n : Nat} {ts : List Tl} (h : ArgTl w B A n ts) (hB : B ≤ B') : ArgTl w B' A n ts :=
  ⟨h.1, fun k t ht => by
    obtain ⟨ad, e, hg, h0⟩ := h.2 k t ht
    exact ⟨ad, e, by omega, h0⟩⟩

theorem more_check {w : World} {B B' : Nat} {A : Option Addr} {n : Nat} {ts : List Ck} (h : ArgCk w B A n ts) (hB : B ≤ B') : ArgCk w B' A n ts :=
  ⟨h.1, fun k t ht => by
    obtain ⟨ad, e, hg, h0⟩ := h.2 k t ht
    exact ⟨ad, e, by omega, h0⟩⟩
end Go.Proofs.Ytekbiapgbhaibaa.tlo
