/-
  The exact laws' helpers at passages: copies, comparisons, sizes, marks, arguments opened.
  Conditions: none but those that a theorem names.
-/
import Derived.Test.YtnpghhpcloljeaaDoorBase
import Derived.ProofKit
import Derived.OpenShut
import Derived.Deep.Slices
import Derived.Deep.Fields
namespace Go.Proofs.YtnpghhpcloljeaaDoor.ty
open Go.ChangeShapes Go.WideShapes Go.RowKit Go.Deep
open reads base
set_option linter.unusedVariables false
set_option linter.unusedSimpArgs false
set_option maxRecDepth 100000

/-- a passage -/
structure Pg where
  st : Int
  lf : Int
  rt : Int
  ab : Int
  be : Int
/-- a list of them in memory, 5 cells an element, from the beginning of a block on -/
def PgAt (w : World) (B : Nat) (A : Option Addr) (n : Nat) (ts : List Pg) : Prop :=
  ts.length = n ∧ ∀ k t, ts[k]? = some t → ∃ g, A = some ⟨g, 0, none⟩ ∧ g < B ∧ w.cell? ⟨g, k * 5, none⟩ = some (.int .i64 t.st) ∧ w.cell? ⟨g, k * 5 + 1, none⟩ = some (.int .i64 t.lf) ∧ w.cell? ⟨g, k * 5 + 2, none⟩ = some (.int .i64 t.rt) ∧ w.cell? ⟨g, k * 5 + 3, none⟩ = some (.int .i64 t.ab) ∧ w.cell? ⟨g, k * 5 + 4, none⟩ = some (.int .i64 t.be)
theorem PgAt.below {w w' : World} {B : Nat} {A : Option Addr} {n : Nat} {ts : List Pg} (h : PgAt w B A n ts) (hb : Below B w w') : PgAt w' B A n ts :=
  ⟨h.1, fun k t ht => by
    obtain ⟨g, e, hg, h0, h1, h2, h3, h4⟩ := h.2 k t ht
    exact ⟨g, e, hg, (hb.cell (p := ⟨g, k * 5, none⟩) hg).trans h0, (hb.cell (p := ⟨g, k * 5 + 1, none⟩) hg).trans h1, (hb.cell (p := ⟨g, k * 5 + 2, none⟩) hg).trans h2, (hb.cell (p := ⟨g, k * 5 + 3, none⟩) hg).trans h3, (hb.cell (p := ⟨g, k * 5 + 4, none⟩) hg).trans h4⟩⟩
theorem PgAt.more {w : World} {B B' : Nat} {A : Option Addr} {n : Nat} {ts : List Pg} (h : PgAt w B A n ts) (hB : B ≤ B') : PgAt w B' A n ts :=
  ⟨h.1, fun k t ht => by
    obtain ⟨g, e, hg, h0⟩ := h.2 k t ht
    exact ⟨g, e, by omega, h0⟩⟩
theorem PgAt.step {w w' : World} {A : Option Addr} {n : Nat} {ts : List Pg} (h : PgAt w w.heap.size A n ts) (hb : Below w.heap.size w w') : PgAt w' w'.heap.size A n ts := (h.below hb).more hb.size
theorem PgAt.alloc {w : World} {A : Option Addr} {n : Nat} {ts : List Pg} (h : PgAt w w.heap.size A n ts) (o : Obj) : PgAt (w.alloc o) (w.alloc o).heap.size A n ts := h.step ((Below.refl _ _).alloc (Nat.le_refl _) _)
/-- an own row of them -/
def flatPg (ts : List Pg) : List Value := ts.flatMap fun t => [.int .i64 t.st, .int .i64 t.lf, .int .i64 t.rt, .int .i64 t.ab, .int .i64 t.be]
theorem flatPg_len (ts : List Pg) : (flatPg ts).length = ts.length * 5 := by
  induction ts with
  | nil => rfl
  | cons t ts ih =>
    have e : flatPg (t :: ts) = [.int .i64 t.st, .int .i64 t.lf, .int .i64 t.rt, .int .i64 t.ab, .int .i64 t.be] ++ flatPg ts := rfl
    rw [e, List.length_append, ih]
    simp only [List.length_cons, List.length_nil]
    omega
theorem flatPg_app (ts : List Pg) (t : Pg) : flatPg (ts ++ [t]) = flatPg ts ++ [.int .i64 t.st, .int .i64 t.lf, .int .i64 t.rt, .int .i64 t.ab, .int .i64 t.be] := by simp [flatPg]
theorem flatPg_at : ∀ (ts : List Pg) (k : Nat) (t : Pg), ts[k]? = some t → (flatPg ts)[k * 5]? = some (.int .i64 t.st) ∧ (flatPg ts)[k * 5 + 1]? = some (.int .i64 t.lf) ∧ (flatPg ts)[k * 5 + 2]? = some (.int .i64 t.rt) ∧ (flatPg ts)[k * 5 + 3]? = some (.int .i64 t.ab) ∧ (flatPg ts)[k * 5 + 4]? = some (.int .i64 t.be)
  | [], k, t, h => by simp at h
  | d :: ts, 0, t, h => by
    simp at h
    subst h
    exact ⟨rfl, rfl, rfl, rfl, rfl⟩
  | d :: ts, k + 1, t, h => by
    obtain ⟨k0, k1, k2, k3, k4⟩ := flatPg_at ts k t (by simpa using h)
    have e : flatPg (d :: ts) = .int .i64 d.st :: .int .i64 d.lf :: .int .i64 d.rt :: .int .i64 d.ab :: .int .i64 d.be :: flatPg ts := rfl
    rw [e, show (k + 1) * 5 = k * 5 + 1 + 1 + 1 + 1 + 1 by omega, show k * 5 + 1 + 1 + 1 + 1 + 1 + 1 = (k * 5 + 1) + 1 + 1 + 1 + 1 + 1 by omega, show k * 5 + 1 + 1 + 1 + 1 + 1 + 2 = (k * 5 + 2) + 1 + 1 + 1 + 1 + 1 by omega, show k * 5 + 1 + 1 + 1 + 1 + 1 + 3 = (k * 5 + 3) + 1 + 1 + 1 + 1 + 1 by omega, show k * 5 + 1 + 1 + 1 + 1 + 1 + 4 = (k * 5 + 4) + 1 + 1 + 1 + 1 + 1 by omega]
    exact ⟨by simpa using k0, by simpa using k1, by simpa using k2, by simpa using k3, by simpa using k4⟩
theorem own_Pg {w : World} {base c n : Nat} {e : TypeId} {A : Option Addr} {ts : List Pg} (hn : ts.length = n) (h : w.ownsRow base e 5 (.slice A n c) n (flatPg ts)) : PgAt w w.heap.size A n ts := by
  refine ⟨hn, fun k d hd => ?_⟩
  have hk : k < ts.length := (List.getElem?_eq_some_iff.1 hd).1
  obtain ⟨g, cap, hv, -, hg⟩ := h.form (by omega)
  injection hv with hA _ hc
  subst hA hc
  obtain ⟨f0, f1, f2, f3, f4⟩ := flatPg_at ts k d hd
  exact ⟨g, rfl, hg, (h.cellAt (k * 5) (by omega)).trans f0, (h.cellAt (k * 5 + 1) (by omega)).trans f1, (h.cellAt (k * 5 + 2) (by omega)).trans f2, (h.cellAt (k * 5 + 3) (by omega)).trans f3, (h.cellAt (k * 5 + 4) (by omega)).trans f4⟩
theorem infoPg : (Tryd.prog.info? 43).map (fun i => (i.zero, i.size, i.bytes)) = some (some (.agg #[.int .i64 0, .int .i64 0, .int .i64 0, .int .i64 0, .int .i64 0]), 5, 40) := by kernel_rfl
/-- a comparison of a passage with itself -/
theorem eq_passage (x : Pg) (w : World) : Calls Tryd.prog 39 #[.agg #[.int .i64 x.st, .int .i64 x.lf, .int .i64 x.rt, .int .i64 x.ab, .int .i64 x.be], .agg #[.int .i64 x.st, .int .i64 x.lf, .int .i64 x.rt, .int .i64 x.ab, .int .i64 x.be]] w fun e w' => e = .returned (.bool true) ∧ Below w.heap.size w w' := by
  go_enter Tryd.func39, Tryd.ntmps39
  go_wp2_with fail
  go_ret
  exact ⟨rfl, ((Below.refl _ _).alloc (Nat.le_refl _) _).alloc (by simp) _⟩
/-- a copy of a passage -/
theorem to_passage (x : Pg) (w : World) : Calls Tryd.prog 31 #[.agg #[.int .i64 x.st, .int .i64 x.lf, .int .i64 x.rt, .int .i64 x.ab, .int .i64 x.be]] w fun e w' => e = .returned (.agg #[.int .i64 x.st, .int .i64 x.lf, .int .i64 x.rt, .int .i64 x.ab, .int .i64 x.be]) ∧ Below w.heap.size w w' := by
  go_enter Tryd.func31, Tryd.ntmps31
  go_wp2_with fail
  refine bodyPost_ret (v := .agg #[.int .i64 x.st, .int .i64 x.lf, .int .i64 x.rt, .int .i64 x.ab, .int .i64 x.be]) (by simp [results, Tryd.results31, go_sem]) rfl ⟨rfl, ?_⟩
  have h := (((Below.refl w.heap.size w).alloc (Nat.le_refl _) (.cells #[.int .i64 x.st, .int .i64 x.lf, .int .i64 x.rt, .int .i64 x.ab, .int .i64 x.be] 64)).alloc (by simp) (.cells #[.int .i64 0, .int .i64 0, .int .i64 0, .int .i64 0, .int .i64 0] 43)).alloc (by simp; omega) (.cells #[.int .i64 0, .int .i64 0, .int .i64 0, .int .i64 0, .int .i64 0] 43)
  repeat (first | exact h | refine Below.setCell ?_ (by simp) _ | refine Below.setCell ?_ (by simp; omega) _)
  all_goals (repeat (first | exact (Below.refl _ _) | refine Below.alloc ?_ (by simp; omega) _ | refine Below.alloc ?_ (by simp) _))

theorem open_passage {H : Type} {enc : TypeId × Value → H} {w : World} {base : Nat} {v : Value} {d : DataW H} {p : List MemPlace}
    (hv : Value.okWide Tryd.prog w .any base 64 v) (h : DataW.Trod enc Tryd.prog w 0 (fun _ => true) true 64 v d p) : ∃ x : Pg, v = .agg #[.int .i64 x.st, .int .i64 x.lf, .int .i64 x.rt, .int .i64 x.ab, .int .i64 x.be] := by
  have hC : Tryd.prog.cellsOf 64 = 5 := by kernel_rfl
  have kint : Tryd.prog.cellsOf 3 = 1 := by kernel_rfl
  obtain ⟨cs, rfl, hsz⟩ := okWide_struct Tryd.underlying64 hv
  obtain ⟨fuel, hf⟩ := h
  obtain ⟨xs, n, -, -, -, hlen, hg⟩ := DataW.trod_struct Tryd.underlying64 hf
  rw [hC] at hsz
  obtain ⟨l⟩ := cs
  match l, hsz with
  | [c0, c1, c2, c3, c4], _ =>
    match xs, hlen with
    | [y0, y1, y2, y3, y4], _ =>
      have h0 := hg 0 _ rfl
      simp [Value.cells, kint] at h0
      obtain ⟨x0, e0, -, -⟩ := DataW.trod_int Tryd.underlying3 h0
      obtain rfl : c0 = .int .i64 x0 := by simpa using e0
      have h1 := hg 1 _ rfl
      simp [Value.cells, kint] at h1
      obtain ⟨x1, e1, -, -⟩ := DataW.trod_int Tryd.underlying3 h1
      obtain rfl : c1 = .int .i64 x1 := by simpa using e1
      have h2 := hg 2 _ rfl
      simp [Value.cells, kint] at h2
      obtain ⟨x2, e2, -, -⟩ := DataW.trod_int Tryd.underlying3 h2
      obtain rfl : c2 = .int .i64 x2 := by simpa using e2
      have h3 := hg 3 _ rfl
      simp [Value.cells, kint] at h3
      obtain ⟨x3, e3, -, -⟩ := DataW.trod_int Tryd.underlying3 h3
      obtain rfl : c3 = .int .i64 x3 := by simpa using e3
      have h4 := hg 4 _ rfl
      simp [Value.cells, kint] at h4
      obtain ⟨x4, e4, -, -⟩ := DataW.trod_int Tryd.underlying3 h4
      obtain rfl : c4 = .int .i64 x4 := by simpa using e4
      exact ⟨⟨x0, x1, x2, x3, x4⟩, rfl⟩

/-- a list that came in, 5 cells an element -/
def ArgPg (w : World) (B : Nat) (A : Option Addr) (n : Nat) (ts : List Pg) : Prop :=
  ts.length = n ∧ ∀ k t, ts[k]? = some t → ∃ ad, A = some ad ∧ ad.block < B ∧ w.cell? (ad.add (k * 5)) = some (.int .i64 t.st) ∧ w.cell? (ad.add (k * 5 + 1)) = some (.int .i64 t.lf) ∧ w.cell? (ad.add (k * 5 + 2)) = some (.int .i64 t.rt) ∧ w.cell? (ad.add (k * 5 + 3)) = some (.int .i64 t.ab) ∧ w.cell? (ad.add (k * 5 + 4)) = some (.int .i64 t.be)
theorem ArgPg.below {w w' : World} {B : Nat} {A : Option Addr} {n : Nat} {ts : List Pg} (h : ArgPg w B A n ts) (hb : Below B w w') : ArgPg w' B A n ts :=
  ⟨h.1, fun k t ht => by
    obtain ⟨ad, e, hg, h0, h1, h2, h3, h4⟩ := h.2 k t ht
    exact ⟨ad, e, hg, (hb.cell (p := ad.add (k * 5)) (by rw [block_of_add]; exact hg)).trans h0, (hb.cell (p := ad.add (k * 5 + 1)) (by rw [block_of_add]; exact hg)).trans h1, (hb.cell (p := ad.add (k * 5 + 2)) (by rw [block_of_add]; exact hg)).trans h2, (hb.cell (p := ad.add (k * 5 + 3)) (by rw [block_of_add]; exact hg)).trans h3, (hb.cell (p := ad.add (k * 5 + 4)) (by rw [block_of_add]; exact hg)).trans h4⟩⟩
theorem more_passage {w : World} {B B' : Nat} {A : Option Addr} {n : Nat} {ts : List Pg} (h : ArgPg w B A n ts) (hB : B ≤ B') : ArgPg w B' A n ts :=
  ⟨h.1, fun k t ht => by
    obtain ⟨ad, e, hg, h0⟩ := h.2 k t ht
    exact ⟨ad, e, by omega, h0⟩⟩
/-- the first k of a copy are laid -/
def FillPg (n k : Nat) (ts : List Pg) (cs : Array Value) : Prop := cs.size = n * 5 ∧ ∀ i t, i < k → ts[i]? = some t → cs[i * 5]? = some (.int .i64 t.st) ∧ cs[i * 5 + 1]? = some (.int .i64 t.lf) ∧ cs[i * 5 + 2]? = some (.int .i64 t.rt) ∧ cs[i * 5 + 3]? = some (.int .i64 t.ab) ∧ cs[i * 5 + 4]? = some (.int .i64 t.be)
theorem FillPg.next {n k : Nat} {ts : List Pg} {cs : Array Value} {t : Pg} (h : FillPg n k ts cs) (hk : k < n) (ht : ts[k]? = some t) : FillPg n (k + 1) ts (((((cs.setIfInBounds (k * 5) (.int .i64 t.st)).setIfInBounds (k * 5 + 1) (.int .i64 t.lf)).setIfInBounds (k * 5 + 2) (.int .i64 t.rt)).setIfInBounds (k * 5 + 3) (.int .i64 t.ab)).setIfInBounds (k * 5 + 4) (.int .i64 t.be)) := by
  have hsz := h.1
  refine ⟨by simpa using hsz, fun i u hi hu => ?_⟩
  by_cases e : i = k
  · subst e
    obtain rfl : t = u := Option.some.inj (ht.symm.trans hu)
    refine ⟨?_, ?_, ?_, ?_, ?_⟩ <;> (simp only [Array.getElem?_setIfInBounds, Array.size_setIfInBounds, if_true]; repeat' split) <;> first | rfl | (exfalso; omega)
  · obtain ⟨h0, h1, h2, h3, h4⟩ := h.2 i u (by omega) hu
    refine ⟨?_, ?_, ?_, ?_, ?_⟩ <;> (simp only [Array.getElem?_setIfInBounds, Array.size_setIfInBounds]; repeat' split) <;> first | assumption | (exfalso; omega)
theorem FillPg.at_ {n : Nat} {ts : List Pg} {cs : Array Value} {w : World} {g : Nat} (h : FillPg n n ts cs) (hl : ts.length = n) (hb : Blk w g 43 cs) : PgAt w (g + 1) (some ⟨g, 0, none⟩) n ts :=
  ⟨hl, fun k t ht => by
    have hk : k < n := by have := (List.getElem?_eq_some_iff.1 ht).1; omega
    obtain ⟨h0, h1, h2, h3, h4⟩ := h.2 k t hk ht
    exact ⟨g, rfl, by omega, (hb.cell _).trans h0, (hb.cell _).trans h1, (hb.cell _).trans h2, (hb.cell _).trans h3, (hb.cell _).trans h4⟩⟩
theorem sz_passage (A : Option Addr) (n cap : Nat) (left : Int) (w : World) (hn : n ≤ maxLen) (l0 : 0 ≤ left) (l1 : left ≤ 2000000) :
    Calls Tryd.prog 5 #[.slice A n cap, .int .i64 left] w fun e w' => e = .returned (.int .i64 (if left < n then -1 else left - n)) ∧ w = w' := by
  unfold maxLen at hn
  by_cases h : left < n
  · rw [if_pos h]
    have hd : left - (n : Int) < 0 := by omega
    go_enter Tryd.func5, Tryd.ntmps5
    go_wp2_with fail
    go_ret
    exact ⟨rfl, rfl⟩
  · rw [if_neg h]
    have hd : ¬ left - (n : Int) < 0 := by omega
    go_enter Tryd.func5, Tryd.ntmps5
    go_wp2_with fail
    go_ret
    exact ⟨rfl, rfl⟩
/-- a copy of a list: a block of its own -/
def ToPPg (n : Nat) (ts : List Pg) (w : World) (e : Ending) (w' : World) : Prop :=
  e = .returned (.slice (some ⟨w.heap.size, 0, none⟩) n n) ∧ (∃ cs, Blk w' w.heap.size 43 cs ∧ FillPg n n ts cs) ∧ Below w.heap.size w w'
set_option maxHeartbeats 4000000 in
set_option maxRecDepth 100000 in
theorem to_passageS (A : Option Addr) (n cp : Nat) (ts : List Pg) (w : World) (hn : n ≤ 1048576) (hr : Hid (ArgPg w w.heap.size A n ts)) : Calls Tryd.prog 7 #[.slice A n cp] w (ToPPg n ts w) := by
  obtain ⟨i0, hi0, hz0, hz1, hz2⟩ := info_parts infoPg
  obtain ⟨cs0, HC0⟩ : ∃ cs, Hid (cs = madeCells (Value.agg #[.int .i64 0, .int .i64 0, .int .i64 0, .int .i64 0, .int .i64 0]).cells (n * 5)) := ⟨_, Lib.hid rfl⟩
  have hmk : ∀ W : World, (Instr.makeSlice 31 (.int .i64 (n : Int)) (.int .i64 (n : Int))).run Tryd.prog W = .ok (.slice (some ⟨W.heap.size, 0, none⟩) n n) (W.alloc (.cells cs0 43)) := fun W => by
    have h := run_make_rowN (P := Tryd.prog) 31 43 i0 _ Tryd.underlying31 hi0 hz0 .i64 .i64 n n (Nat.le_refl _) (by rw [hz2]; omega) (by omega) W
    rw [h, hz1, HC0.out]
  have HF0 := Lib.hid (show FillPg n 0 ts cs0 from ⟨by rw [HC0.out, size_madeCells], fun i t hi => by omega⟩)
  have hL : Hid (ts.length = n) := Lib.hid hr.out.1
  clear HC0
  go_enter Tryd.func7, Tryd.ntmps7
  go_wp2_with fail
  clear hmk
  go_loopw [4] (fun i wr => ∃ (k : Nat) (cs : Array Value), k ≤ n ∧ i = .int .i64 k ∧ Hid (FillPg n k ts cs) ∧ Blk wr w.heap.size 43 cs ∧ Below w.heap.size w wr) (fun i _ => n - (intOf i).toNat)
  case atStart => exact ⟨0, cs0, Nat.zero_le _, rfl, HF0, Blk.new w _ _, (Below.refl _ _).alloc (Nat.le_refl _) _⟩
  case round =>
    obtain ⟨k, cs, hk, rfl, HF, hK, hB⟩ := hrel
    have HK := Lib.hid hK
    have HB := Lib.hid hB
    have hlt0 := hK.lt
    clear hK hB
    by_cases hlt : k < n
    · obtain ⟨t, htk⟩ : ∃ t, ts[k]? = some t := ⟨_, List.getElem?_eq_getElem (by rw [hL.out]; exact hlt)⟩
      obtain ⟨ad, rfl, had, h0, h1, h2, h3, h4⟩ := (hr.out.below HB.out).2 k t htk
      have HT := Lib.hid htk
      clear htk
      have e1 : wr.cell? ⟨(ad.add (k * 5)).block, (ad.add (k * 5)).off + 1, none⟩ = some (.int .i64 t.lf) := by rw [← h1, ← add_of_add]; rfl
      have e2 : wr.cell? ⟨(ad.add (k * 5)).block, (ad.add (k * 5)).off + 2, none⟩ = some (.int .i64 t.rt) := by rw [← h2, ← add_of_add]; rfl
      have e3 : wr.cell? ⟨(ad.add (k * 5)).block, (ad.add (k * 5)).off + 3, none⟩ = some (.int .i64 t.ab) := by rw [← h3, ← add_of_add]; rfl
      have e4 : wr.cell? ⟨(ad.add (k * 5)).block, (ad.add (k * 5)).off + 4, none⟩ = some (.int .i64 t.be) := by rw [← h4, ← add_of_add]; rfl
      clear h1 h2 h3 h4
      have hsz := HF.out.1
      have HQZ := Lib.hid hsz
      clear hsz
      have hki : (k : Int) < (n : Int) := by omega
      have hk0 : 0 ≤ (k : Int) := by omega
      have hkd : decide (k < n) = true := by simpa using hlt
      go_wp2_with fail
      refine (to_passage t _).mono ?_
      rintro e w2 ⟨rfl, b2⟩
      have HK2 := Lib.hid (HK.out.below b2 hlt0)
      have HB2 := Lib.hid (HB.out.trans (b2.mono HB.out.size))
      obtain ⟨u0, q0⟩ : ∃ u, w2.cell? ⟨w.heap.size, k * 5, none⟩ = some u := ⟨_, (HK2.out.cell _).trans (Array.getElem?_eq_getElem (by rw [HQZ.out]; omega))⟩
      have f0 := HK2.out.frozen (k * 5)
      obtain ⟨u1, q1⟩ : ∃ u, w2.cell? ⟨w.heap.size, k * 5 + 1, none⟩ = some u := ⟨_, (HK2.out.cell _).trans (Array.getElem?_eq_getElem (by rw [HQZ.out]; omega))⟩
      have f1 := HK2.out.frozen (k * 5 + 1)
      obtain ⟨u2, q2⟩ : ∃ u, w2.cell? ⟨w.heap.size, k * 5 + 2, none⟩ = some u := ⟨_, (HK2.out.cell _).trans (Array.getElem?_eq_getElem (by rw [HQZ.out]; omega))⟩
      have f2 := HK2.out.frozen (k * 5 + 2)
      obtain ⟨u3, q3⟩ : ∃ u, w2.cell? ⟨w.heap.size, k * 5 + 3, none⟩ = some u := ⟨_, (HK2.out.cell _).trans (Array.getElem?_eq_getElem (by rw [HQZ.out]; omega))⟩
      have f3 := HK2.out.frozen (k * 5 + 3)
      obtain ⟨u4, q4⟩ : ∃ u, w2.cell? ⟨w.heap.size, k * 5 + 4, none⟩ = some u := ⟨_, (HK2.out.cell _).trans (Array.getElem?_eq_getElem (by rw [HQZ.out]; omega))⟩
      have f4 := HK2.out.frozen (k * 5 + 4)
      clear b2
      go_wp2_with fail
      go_roundw
      case rel => exact ⟨k + 1, _, by omega, by go_num, Lib.hid (HF.out.next hlt HT.out), ((((HK2.out.set_ (k * 5) _).set_ (k * 5 + 1) _).set_ (k * 5 + 2) _).set_ (k * 5 + 3) _).set_ (k * 5 + 4) _, ((((HB2.out.setCell (Nat.le_refl _) _).setCell (Nat.le_refl _) _).setCell (Nat.le_refl _) _).setCell (Nat.le_refl _) _).setCell (Nat.le_refl _) _⟩
      case measure => simp [intOf]; omega
    · obtain rfl : k = n := by omega
      have hkd : decide (k < k) = false := by simp
      go_wp2_with fail
      go_ret
      exact ⟨rfl, ⟨cs, HK.out, HF.out⟩, HB.out⟩

theorem open_passageS {H : Type} {enc : TypeId × Value → H} {w : World} {base : Nat} {v : Value} {d : DataW H} {p : List MemPlace}
    (hv : Value.okWide Tryd.prog w .any base 22 v) (h : DataW.Trod enc Tryd.prog w 0 (fun _ => true) true 22 v d p) :
    ∃ (A : Option Addr) (n cap : Nat) (ts : List Pg), v = .slice A n cap ∧ ArgPg w w.heap.size A n ts ∧ n ≤ maxLen := by
  have hC : Tryd.prog.cellsOf 64 = 5 := by kernel_rfl
  have kint : Tryd.prog.cellsOf 3 = 1 := by kernel_rfl
  obtain ⟨A, n, cap, rfl⟩ := okWide_slice Tryd.underlying22 hv
  obtain ⟨fuel, hf⟩ := h
  rcases open_slice Tryd.underlying22 hf with ⟨hcs, -⟩ | ⟨a, len, c, m, k, D, Pl, hcs, -, hl, hm, hmm, -, hi⟩
  · simp [Value.cells] at hcs
    obtain ⟨rfl, rfl, rfl⟩ := hcs
    exact ⟨none, 0, 0, [], rfl, ⟨rfl, fun k t ht => by simp at ht⟩, by simp⟩
  · simp [Value.cells] at hcs
    obtain ⟨rfl, rfl, rfl⟩ := hcs
    rw [hC] at hi
    have hmn : n ≤ m := by rw [hmm]; simpa using hl
    obtain ⟨ts, hts, hx⟩ := choose_list (P := fun i (t : Pg) => w.cell? (a.add (i * 5)) = some (.int .i64 t.st) ∧ w.cell? (a.add (i * 5 + 1)) = some (.int .i64 t.lf) ∧ w.cell? (a.add (i * 5 + 2)) = some (.int .i64 t.rt) ∧ w.cell? (a.add (i * 5 + 3)) = some (.int .i64 t.ab) ∧ w.cell? (a.add (i * 5 + 4)) = some (.int .i64 t.be)) n (fun i hin => by
      obtain ⟨cs, hc, ht⟩ := hi i (by omega)
      obtain ⟨-, hlen, hcell⟩ := World.cells?_some hc
      obtain ⟨xs, n', -, -, -, hxl, hg⟩ := DataW.trod_struct Tryd.underlying64 ht
      match cs, hlen with
      | [c0, c1, c2, c3, c4], _ =>
        match xs, hxl with
        | [y0, y1, y2, y3, y4], _ =>
          have h0 := hg 0 _ rfl
          simp [kint] at h0
          obtain ⟨x0, e0, -, -⟩ := DataW.trod_int Tryd.underlying3 h0
          obtain rfl : c0 = .int .i64 x0 := by simpa using e0
          have q0 := hcell 0 (by decide)
          rw [add_of_add] at q0
          have h1 := hg 1 _ rfl
          simp [kint] at h1
          obtain ⟨x1, e1, -, -⟩ := DataW.trod_int Tryd.underlying3 h1
          obtain rfl : c1 = .int .i64 x1 := by simpa using e1
          have q1 := hcell 1 (by decide)
          rw [add_of_add] at q1
          have h2 := hg 2 _ rfl
          simp [kint] at h2
          obtain ⟨x2, e2, -, -⟩ := DataW.trod_int Tryd.underlying3 h2
          obtain rfl : c2 = .int .i64 x2 := by simpa using e2
          have q2 := hcell 2 (by decide)
          rw [add_of_add] at q2
          have h3 := hg 3 _ rfl
          simp [kint] at h3
          obtain ⟨x3, e3, -, -⟩ := DataW.trod_int Tryd.underlying3 h3
          obtain rfl : c3 = .int .i64 x3 := by simpa using e3
          have q3 := hcell 3 (by decide)
          rw [add_of_add] at q3
          have h4 := hg 4 _ rfl
          simp [kint] at h4
          obtain ⟨x4, e4, -, -⟩ := DataW.trod_int Tryd.underlying3 h4
          obtain rfl : c4 = .int .i64 x4 := by simpa using e4
          have q4 := hcell 4 (by decide)
          rw [add_of_add] at q4
          exact ⟨⟨x0, x1, x2, x3, x4⟩, q0, q1, q2, q3, q4⟩)
    refine ⟨some a, n, cap, ts, rfl, ⟨hts, fun k t ht => ?_⟩, by omega⟩
    have hk := hx k t ht
    exact ⟨a, rfl, by have := lt_of_cell hk.1; rwa [block_of_add] at this, hk⟩

set_option maxHeartbeats 4000000 in
set_option maxRecDepth 100000 in
theorem eq_passageS (A A' : Option Addr) (n cp cp' : Nat) (ts : List Pg) (w : World) (hn : n ≤ 2000000) (hr : Hid (PgAt w w.heap.size A n ts)) (hr' : Hid (PgAt w w.heap.size A' n ts)) :
    Calls Tryd.prog 11 #[.slice A n cp, .slice A' n cp'] w (BPost true w) := by
  have hL : Hid (ts.length = n) := Lib.hid hr.out.1
  obtain ⟨B, HBB⟩ : ∃ B, Hid (w.heap.size = B) := ⟨_, Lib.hid rfl⟩
  obtain ⟨W0, HW0⟩ : ∃ W0, Hid (w = W0) := ⟨_, Lib.hid rfl⟩
  have HT := Lib.hid (show PgAt W0 B A n ts by rw [← HBB.out, ← HW0.out]; exact hr.out)
  have HT' := Lib.hid (show PgAt W0 B A' n ts by rw [← HBB.out, ← HW0.out]; exact hr'.out)
  have HWB := Lib.hid (show B ≤ W0.heap.size by rw [← HW0.out, ← HBB.out]; exact Nat.le_refl _)
  have HB1 := Lib.hid (show ∀ v, Below B W0 v → Below w.heap.size w v from fun v hv => by rw [HBB.out, HW0.out]; exact hv)
  go_enter Tryd.func11, Tryd.ntmps11
  go_wp2_with fail
  go_loopw [5] (fun i wr => ∃ k : Nat, k ≤ n ∧ i = .int .i64 k ∧ Below B W0 wr) (fun i _ => n - (intOf i).toNat)
  case atStart => exact ⟨0, Nat.zero_le _, rfl, by rw [HW0.out]; exact Below.refl _ _⟩
  case round =>
    obtain ⟨k, hk, rfl, hBr⟩ := hrel
    have HR := Lib.hid hBr
    clear hBr hr hr'
    by_cases hlt : k < n
    · obtain ⟨t, htk⟩ : ∃ t, ts[k]? = some t := ⟨_, List.getElem?_eq_getElem (by rw [hL.out]; exact hlt)⟩
      obtain ⟨g, rfl, hg, h0, h1, h2, h3, h4⟩ := HT.out.2 k t htk
      obtain ⟨g', rfl, hg', k0, k1, k2, k3, k4⟩ := HT'.out.2 k t htk
      clear htk
      have hki : (k : Int) < (n : Int) := by omega
      have hk0 : 0 ≤ (k : Int) := by omega
      have hkd : decide (k < n) = true := by simpa using hlt
      go_wp2_with fail
      refine wp_region_held_drew (S := (fun w' => (∀ b o, b < B → w'.cell? ⟨b, o, none⟩ = W0.cell? ⟨b, o, none⟩) ∧ Below B W0 w')) (by kernel_rfl) ?_ (fun hHeld => ?_)
      · exact sb_start HR.out
      refine' wpAnyH_take (i := 0) (v := ?vr1_0) rfl (by kernel_rfl) (by kernel_rfl) (by kernel_rfl) (fun _ _ _ h => h) (Or.inl ⟨by rfl, ?hyr1_0⟩) (by assumption) ?restr1_0
      case hyr1_0 => (intro w hSw; (try dsimp only at hSw); go_simp; try (with_reducible rfl))
      simp only [Act.put, List.getElem_toArray, List.getElem_cons_succ, List.getElem_cons_zero, List.setIfInBounds_toArray, List.set_cons_zero, List.set_cons_succ]
      refine' wpAnyH_take (i := 1) (v := ?vr1_1) rfl (by kernel_rfl) (by kernel_rfl) (by kernel_rfl) (fun _ _ _ h => h) (Or.inl ⟨by rfl, ?hyr1_1⟩) (by assumption) ?restr1_1
      case hyr1_1 => (intro w hSw; (try dsimp only at hSw); go_simp; try (with_reducible rfl))
      simp only [Act.put, List.getElem_toArray, List.getElem_cons_succ, List.getElem_cons_zero, List.setIfInBounds_toArray, List.set_cons_zero, List.set_cons_succ]
      refine' wpAnyH_take (i := 2) (v := ?vr1_2) rfl (by kernel_rfl) (by kernel_rfl) (by kernel_rfl) (fun _ _ _ h => h) (Or.inl ⟨by rfl, ?hyr1_2⟩) (by assumption) ?restr1_2
      case hyr1_2 => (intro w hSw; (try dsimp only at hSw); go_simp; try (with_reducible rfl))
      simp only [Act.put, List.getElem_toArray, List.getElem_cons_succ, List.getElem_cons_zero, List.setIfInBounds_toArray, List.set_cons_zero, List.set_cons_succ]
      refine' wpAnyH_take (i := 3) (v := ?vr1_3) rfl (by kernel_rfl) (by kernel_rfl) (by kernel_rfl) (fun _ _ _ h => h) (Or.inl ⟨by rfl, ?hyr1_3⟩) (by assumption) ?restr1_3
      case hyr1_3 => (intro w hSw; (try dsimp only at hSw); go_simp; try (with_reducible rfl))
      simp only [Act.put, List.getElem_toArray, List.getElem_cons_succ, List.getElem_cons_zero, List.setIfInBounds_toArray, List.set_cons_zero, List.set_cons_succ]
      refine' wpAnyH_take (i := 4) (v := ?vr1_4) rfl (by kernel_rfl) (by kernel_rfl) (by kernel_rfl) (fun _ _ _ h => h) (Or.inl ⟨by rfl, ?hyr1_4⟩) (by assumption) ?restr1_4
      case hyr1_4 => (intro w hSw; (try dsimp only at hSw); go_simp; try (with_reducible rfl))
      simp only [Act.put, List.getElem_toArray, List.getElem_cons_succ, List.getElem_cons_zero, List.setIfInBounds_toArray, List.set_cons_zero, List.set_cons_succ]
      refine' wpAnyH_take (i := 5) (v := ?vr1_5) rfl (by kernel_rfl) (by kernel_rfl) (by kernel_rfl) (fun _ _ _ h => h) (Or.inl ⟨by rfl, ?hyr1_5⟩) (by assumption) ?restr1_5
      case hyr1_5 => (intro w hSw; (try dsimp only at hSw); go_simp; try (with_reducible rfl))
      simp only [Act.put, List.getElem_toArray, List.getElem_cons_succ, List.getElem_cons_zero, List.setIfInBounds_toArray, List.set_cons_zero, List.set_cons_succ]
      refine' wpAnyH_take (i := 6) (v := ?vr1_6) rfl (by kernel_rfl) (by kernel_rfl) (by kernel_rfl) (fun _ _ _ h => h) (Or.inl ⟨by rfl, ?hyr1_6⟩) (by assumption) ?restr1_6
      case hyr1_6 => (intro w hSw; (try dsimp only at hSw); go_simp; try (with_reducible rfl))
      simp only [Act.put, List.getElem_toArray, List.getElem_cons_succ, List.getElem_cons_zero, List.setIfInBounds_toArray, List.set_cons_zero, List.set_cons_succ]
      refine' wpAnyH_take (i := 7) (v := ?vr1_7) rfl (by kernel_rfl) (by kernel_rfl) (by kernel_rfl) (fun _ _ _ h => h) (Or.inl ⟨by rfl, ?hyr1_7⟩) (by assumption) ?restr1_7
      case hyr1_7 => (intro w hSw; (try dsimp only at hSw); go_simp; try (with_reducible rfl))
      simp only [Act.put, List.getElem_toArray, List.getElem_cons_succ, List.getElem_cons_zero, List.setIfInBounds_toArray, List.set_cons_zero, List.set_cons_succ]
      refine wpAnyH_ready (rs := [8]) (by kernel_rfl) (by simp) ?_
      refine AllReadyH.cons rfl (fun K hK => ?_) AllReadyH.nil
      go_simp
      refine (eq_passage t _).mono ?_
      rintro e w1 ⟨rfl, b1⟩
      refine hK.out _ _ (sb_step hHeld HWB.out b1) (fun hHeld1 => ?_)
      clear hK K hHeld
      have hHeld := hHeld1
      clear hHeld1
      try simp only [Act.put, List.getElem_toArray, List.getElem_cons_succ, List.getElem_cons_zero, List.setIfInBounds_toArray, List.set_cons_zero, List.set_cons_succ]
      refine' wpAnyH_take (i := 9) (v := ?vr1_9) rfl (by kernel_rfl) (by kernel_rfl) (by kernel_rfl) (fun _ _ _ h => h) (Or.inl ⟨by rfl, ?hyr1_9⟩) (by assumption) ?restr1_9
      case hyr1_9 => (intro w hSw; (try dsimp only at hSw); go_simp; try (with_reducible rfl))
      simp only [Act.put, List.getElem_toArray, List.getElem_cons_succ, List.getElem_cons_zero, List.setIfInBounds_toArray, List.set_cons_zero, List.set_cons_succ]
      refine wpAnyH_done (by kernel_rfl) ?_ _
      have HS := Lib.hid hHeld.2
      clear hHeld
      go_wp2_with fail
      go_roundw
      case rel => exact ⟨k + 1, by omega, by go_num, HS.out⟩
      case measure => simp [intOf]; omega
    · have hkd : decide (k < n) = false := by simpa using hlt
      go_wp2_with fail
      go_ret
      exact ⟨rfl, HB1.out _ HR.out⟩

end Go.Proofs.YtnpghhpcloljeaaDoor.ty
