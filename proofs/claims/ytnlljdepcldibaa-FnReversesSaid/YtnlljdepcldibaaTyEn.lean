/-
  The exact laws' helpers at entries: copies, comparisons, sizes, marks, arguments opened.
  Conditions: none but those that a theorem names.
-/
import Derived.Test.YtnlljdepcldibaaBase
import Derived.ProofKit
import Derived.OpenShut
import Derived.Deep.Slices
import Derived.Deep.Fields
namespace Go.Proofs.Ytnlljdepcldibaa.ty
open Go.ChangeShapes Go.WideShapes Go.RowKit Go.Deep
open reads base
set_option linter.unusedVariables false
set_option linter.unusedSimpArgs false
set_option maxRecDepth 100000

/-- a entry -/
structure En where
  frm : Int
  to_ : Int
  tape : Int
  comp : Int
  slope : Int
  back : Bool
/-- a list of them in memory, 6 cells an element, from the beginning of a block on -/
def EnAt (w : World) (B : Nat) (A : Option Addr) (n : Nat) (ts : List En) : Prop :=
  ts.length = n ∧ ∀ k t, ts[k]? = some t → ∃ g, A = some ⟨g, 0, none⟩ ∧ g < B ∧ w.cell? ⟨g, k * 6, none⟩ = some (.int .i64 t.frm) ∧ w.cell? ⟨g, k * 6 + 1, none⟩ = some (.int .i64 t.to_) ∧ w.cell? ⟨g, k * 6 + 2, none⟩ = some (.int .i64 t.tape) ∧ w.cell? ⟨g, k * 6 + 3, none⟩ = some (.int .i64 t.comp) ∧ w.cell? ⟨g, k * 6 + 4, none⟩ = some (.int .i64 t.slope) ∧ w.cell? ⟨g, k * 6 + 5, none⟩ = some (.bool t.back)
theorem EnAt.below {w w' : World} {B : Nat} {A : Option Addr} {n : Nat} {ts : List En} (h : EnAt w B A n ts) (hb : Below B w w') : EnAt w' B A n ts :=
  ⟨h.1, fun k t ht => by
    obtain ⟨g, e, hg, h0, h1, h2, h3, h4, h5⟩ := h.2 k t ht
    exact ⟨g, e, hg, (hb.cell (p := ⟨g, k * 6, none⟩) hg).trans h0, (hb.cell (p := ⟨g, k * 6 + 1, none⟩) hg).trans h1, (hb.cell (p := ⟨g, k * 6 + 2, none⟩) hg).trans h2, (hb.cell (p := ⟨g, k * 6 + 3, none⟩) hg).trans h3, (hb.cell (p := ⟨g, k * 6 + 4, none⟩) hg).trans h4, (hb.cell (p := ⟨g, k * 6 + 5, none⟩) hg).trans h5⟩⟩
theorem EnAt.more {w : World} {B B' : Nat} {A : Option Addr} {n : Nat} {ts : List En} (h : EnAt w B A n ts) (hB : B ≤ B') : EnAt w B' A n ts :=
  ⟨h.1, fun k t ht => by
    obtain ⟨g, e, hg, h0⟩ := h.2 k t ht
    exact ⟨g, e, by omega, h0⟩⟩
theorem EnAt.step {w w' : World} {A : Option Addr} {n : Nat} {ts : List En} (h : EnAt w w.heap.size A n ts) (hb : Below w.heap.size w w') : EnAt w' w'.heap.size A n ts := (h.below hb).more hb.size
theorem EnAt.alloc {w : World} {A : Option Addr} {n : Nat} {ts : List En} (h : EnAt w w.heap.size A n ts) (o : Obj) : EnAt (w.alloc o) (w.alloc o).heap.size A n ts := h.step ((Below.refl _ _).alloc (Nat.le_refl _) _)
/-- an own row of them -/
def flatEn (ts : List En) : List Value := ts.flatMap fun t => [.int .i64 t.frm, .int .i64 t.to_, .int .i64 t.tape, .int .i64 t.comp, .int .i64 t.slope, .bool t.back]
theorem flatEn_len (ts : List En) : (flatEn ts).length = ts.length * 6 := by
  induction ts with
  | nil => rfl
  | cons t ts ih =>
    have e : flatEn (t :: ts) = [.int .i64 t.frm, .int .i64 t.to_, .int .i64 t.tape, .int .i64 t.comp, .int .i64 t.slope, .bool t.back] ++ flatEn ts := rfl
    rw [e, List.length_append, ih]
    simp only [List.length_cons, List.length_nil]
    omega
theorem flatEn_app (ts : List En) (t : En) : flatEn (ts ++ [t]) = flatEn ts ++ [.int .i64 t.frm, .int .i64 t.to_, .int .i64 t.tape, .int .i64 t.comp, .int .i64 t.slope, .bool t.back] := by simp [flatEn]
theorem flatEn_at : ∀ (ts : List En) (k : Nat) (t : En), ts[k]? = some t → (flatEn ts)[k * 6]? = some (.int .i64 t.frm) ∧ (flatEn ts)[k * 6 + 1]? = some (.int .i64 t.to_) ∧ (flatEn ts)[k * 6 + 2]? = some (.int .i64 t.tape) ∧ (flatEn ts)[k * 6 + 3]? = some (.int .i64 t.comp) ∧ (flatEn ts)[k * 6 + 4]? = some (.int .i64 t.slope) ∧ (flatEn ts)[k * 6 + 5]? = some (.bool t.back)
  | [], k, t, h => by simp at h
  | d :: ts, 0, t, h => by
    simp at h
    subst h
    exact ⟨rfl, rfl, rfl, rfl, rfl, rfl⟩
  | d :: ts, k + 1, t, h => by
    obtain ⟨k0, k1, k2, k3, k4, k5⟩ := flatEn_at ts k t (by simpa using h)
    have e : flatEn (d :: ts) = .int .i64 d.frm :: .int .i64 d.to_ :: .int .i64 d.tape :: .int .i64 d.comp :: .int .i64 d.slope :: .bool d.back :: flatEn ts := rfl
    rw [e, show (k + 1) * 6 = k * 6 + 1 + 1 + 1 + 1 + 1 + 1 by omega, show k * 6 + 1 + 1 + 1 + 1 + 1 + 1 + 1 = (k * 6 + 1) + 1 + 1 + 1 + 1 + 1 + 1 by omega, show k * 6 + 1 + 1 + 1 + 1 + 1 + 1 + 2 = (k * 6 + 2) + 1 + 1 + 1 + 1 + 1 + 1 by omega, show k * 6 + 1 + 1 + 1 + 1 + 1 + 1 + 3 = (k * 6 + 3) + 1 + 1 + 1 + 1 + 1 + 1 by omega, show k * 6 + 1 + 1 + 1 + 1 + 1 + 1 + 4 = (k * 6 + 4) + 1 + 1 + 1 + 1 + 1 + 1 by omega, show k * 6 + 1 + 1 + 1 + 1 + 1 + 1 + 5 = (k * 6 + 5) + 1 + 1 + 1 + 1 + 1 + 1 by omega]
    exact ⟨by simpa using k0, by simpa using k1, by simpa using k2, by simpa using k3, by simpa using k4, by simpa using k5⟩
theorem own_En {w : World} {base c n : Nat} {e : TypeId} {A : Option Addr} {ts : List En} (hn : ts.length = n) (h : w.ownsRow base e 6 (.slice A n c) n (flatEn ts)) : EnAt w w.heap.size A n ts := by
  refine ⟨hn, fun k d hd => ?_⟩
  have hk : k < ts.length := (List.getElem?_eq_some_iff.1 hd).1
  obtain ⟨g, cap, hv, -, hg⟩ := h.form (by omega)
  injection hv with hA _ hc
  subst hA hc
  obtain ⟨f0, f1, f2, f3, f4, f5⟩ := flatEn_at ts k d hd
  exact ⟨g, rfl, hg, (h.cellAt (k * 6) (by omega)).trans f0, (h.cellAt (k * 6 + 1) (by omega)).trans f1, (h.cellAt (k * 6 + 2) (by omega)).trans f2, (h.cellAt (k * 6 + 3) (by omega)).trans f3, (h.cellAt (k * 6 + 4) (by omega)).trans f4, (h.cellAt (k * 6 + 5) (by omega)).trans f5⟩
theorem infoEn : (Try.prog.info? 25).map (fun i => (i.zero, i.size, i.bytes)) = some (some (.agg #[.int .i64 0, .int .i64 0, .int .i64 0, .int .i64 0, .int .i64 0, .bool false]), 6, 48) := by kernel_rfl
/-- a comparison of a entry with itself -/
theorem eq_entry (x : En) (w : World) : Calls Try.prog 45 #[.agg #[.int .i64 x.frm, .int .i64 x.to_, .int .i64 x.tape, .int .i64 x.comp, .int .i64 x.slope, .bool x.back], .agg #[.int .i64 x.frm, .int .i64 x.to_, .int .i64 x.tape, .int .i64 x.comp, .int .i64 x.slope, .bool x.back]] w fun e w' => e = .returned (.bool true) ∧ Below w.heap.size w w' := by
  go_enter Try.func45, Try.ntmps45
  go_wp2_with fail
  go_ret
  exact ⟨rfl, ((Below.refl _ _).alloc (Nat.le_refl _) _).alloc (by simp) _⟩
/-- a copy of a entry -/
theorem to_entry (x : En) (w : World) : Calls Try.prog 11 #[.agg #[.int .i64 x.frm, .int .i64 x.to_, .int .i64 x.tape, .int .i64 x.comp, .int .i64 x.slope, .bool x.back]] w fun e w' => e = .returned (.agg #[.int .i64 x.frm, .int .i64 x.to_, .int .i64 x.tape, .int .i64 x.comp, .int .i64 x.slope, .bool x.back]) ∧ Below w.heap.size w w' := by
  go_enter Try.func11, Try.ntmps11
  go_wp2_with fail
  refine bodyPost_ret (v := .agg #[.int .i64 x.frm, .int .i64 x.to_, .int .i64 x.tape, .int .i64 x.comp, .int .i64 x.slope, .bool x.back]) (by simp [results, Try.results11, go_sem]) rfl ⟨rfl, ?_⟩
  have h := (((Below.refl w.heap.size w).alloc (Nat.le_refl _) (.cells #[.int .i64 x.frm, .int .i64 x.to_, .int .i64 x.tape, .int .i64 x.comp, .int .i64 x.slope, .bool x.back] 23)).alloc (by simp) (.cells #[.int .i64 0, .int .i64 0, .int .i64 0, .int .i64 0, .int .i64 0, .bool false] 25)).alloc (by simp; omega) (.cells #[.int .i64 0, .int .i64 0, .int .i64 0, .int .i64 0, .int .i64 0, .bool false] 25)
  repeat (first | exact h | refine Below.setCell ?_ (by simp) _ | refine Below.setCell ?_ (by simp; omega) _)
  all_goals (repeat (first | exact (Below.refl _ _) | refine Below.alloc ?_ (by simp; omega) _ | refine Below.alloc ?_ (by simp) _))

theorem open_entry {H : Type} {enc : TypeId × Value → H} {w : World} {base : Nat} {v : Value} {d : DataW H} {p : List MemPlace}
    (hv : Value.okWide Try.prog w .any base 23 v) (h : DataW.Trod enc Try.prog w 0 (fun _ => true) true 23 v d p) : ∃ x : En, v = .agg #[.int .i64 x.frm, .int .i64 x.to_, .int .i64 x.tape, .int .i64 x.comp, .int .i64 x.slope, .bool x.back] := by
  have hC : Try.prog.cellsOf 23 = 6 := by kernel_rfl
  have kbool : Try.prog.cellsOf 4 = 1 := by kernel_rfl
  have kint : Try.prog.cellsOf 3 = 1 := by kernel_rfl
  obtain ⟨cs, rfl, hsz⟩ := okWide_struct Try.underlying23 hv
  obtain ⟨fuel, hf⟩ := h
  obtain ⟨xs, n, -, -, -, hlen, hg⟩ := DataW.trod_struct Try.underlying23 hf
  rw [hC] at hsz
  obtain ⟨l⟩ := cs
  match l, hsz with
  | [c0, c1, c2, c3, c4, c5], _ =>
    match xs, hlen with
    | [y0, y1, y2, y3, y4, y5], _ =>
      have h0 := hg 0 _ rfl
      simp [Value.cells, kint] at h0
      obtain ⟨x0, e0, -, -⟩ := DataW.trod_int Try.underlying3 h0
      obtain rfl : c0 = .int .i64 x0 := by simpa using e0
      have h1 := hg 1 _ rfl
      simp [Value.cells, kint] at h1
      obtain ⟨x1, e1, -, -⟩ := DataW.trod_int Try.underlying3 h1
      obtain rfl : c1 = .int .i64 x1 := by simpa using e1
      have h2 := hg 2 _ rfl
      simp [Value.cells, kint] at h2
      obtain ⟨x2, e2, -, -⟩ := DataW.trod_int Try.underlying3 h2
      obtain rfl : c2 = .int .i64 x2 := by simpa using e2
      have h3 := hg 3 _ rfl
      simp [Value.cells, kint] at h3
      obtain ⟨x3, e3, -, -⟩ := DataW.trod_int Try.underlying3 h3
      obtain rfl : c3 = .int .i64 x3 := by simpa using e3
      have h4 := hg 4 _ rfl
      simp [Value.cells, kint] at h4
      obtain ⟨x4, e4, -, -⟩ := DataW.trod_int Try.underlying3 h4
      obtain rfl : c4 = .int .i64 x4 := by simpa using e4
      have h5 := hg 5 _ rfl
      simp [Value.cells, kbool] at h5
      obtain ⟨x5, e5, -⟩ := DataW.trod_bool Try.underlying4 h5
      obtain rfl : c5 = .bool x5 := by simpa using e5
      exact ⟨⟨x0, x1, x2, x3, x4, x5⟩, rfl⟩

/-- a list that came in, 6 cells an element -/
def ArgEn (w : World) (B : Nat) (A : Option Addr) (n : Nat) (ts : List En) : Prop :=
  ts.length = n ∧ ∀ k t, ts[k]? = some t → ∃ ad, A = some ad ∧ ad.block < B ∧ w.cell? (ad.add (k * 6)) = some (.int .i64 t.frm) ∧ w.cell? (ad.add (k * 6 + 1)) = some (.int .i64 t.to_) ∧ w.cell? (ad.add (k * 6 + 2)) = some (.int .i64 t.tape) ∧ w.cell? (ad.add (k * 6 + 3)) = some (.int .i64 t.comp) ∧ w.cell? (ad.add (k * 6 + 4)) = some (.int .i64 t.slope) ∧ w.cell? (ad.add (k * 6 + 5)) = some (.bool t.back)
theorem ArgEn.below {w w' : World} {B : Nat} {A : Option Addr} {n : Nat} {ts : List En} (h : ArgEn w B A n ts) (hb : Below B w w') : ArgEn w' B A n ts :=
  ⟨h.1, fun k t ht => by
    obtain ⟨ad, e, hg, h0, h1, h2, h3, h4, h5⟩ := h.2 k t ht
    exact ⟨ad, e, hg, (hb.cell (p := ad.add (k * 6)) (by rw [block_of_add]; exact hg)).trans h0, (hb.cell (p := ad.add (k * 6 + 1)) (by rw [block_of_add]; exact hg)).trans h1, (hb.cell (p := ad.add (k * 6 + 2)) (by rw [block_of_add]; exact hg)).trans h2, (hb.cell (p := ad.add (k * 6 + 3)) (by rw [block_of_add]; exact hg)).trans h3, (hb.cell (p := ad.add (k * 6 + 4)) (by rw [block_of_add]; exact hg)).trans h4, (hb.cell (p := ad.add (k * 6 + 5)) (by rw [block_of_add]; exact hg)).trans h5⟩⟩
theorem more_entry {w : World} {B B' : Nat} {A : Option Addr} {n : Nat} {ts : List En} (h : ArgEn w B A n ts) (hB : B ≤ B') : ArgEn w B' A n ts :=
  ⟨h.1, fun k t ht => by
    obtain ⟨ad, e, hg, h0⟩ := h.2 k t ht
    exact ⟨ad, e, by omega, h0⟩⟩
/-- the first k of a copy are laid -/
def FillEn (n k : Nat) (ts : List En) (cs : Array Value) : Prop := cs.size = n * 6 ∧ ∀ i t, i < k → ts[i]? = some t → cs[i * 6]? = some (.int .i64 t.frm) ∧ cs[i * 6 + 1]? = some (.int .i64 t.to_) ∧ cs[i * 6 + 2]? = some (.int .i64 t.tape) ∧ cs[i * 6 + 3]? = some (.int .i64 t.comp) ∧ cs[i * 6 + 4]? = some (.int .i64 t.slope) ∧ cs[i * 6 + 5]? = some (.bool t.back)
theorem FillEn.next {n k : Nat} {ts : List En} {cs : Array Value} {t : En} (h : FillEn n k ts cs) (hk : k < n) (ht : ts[k]? = some t) : FillEn n (k + 1) ts ((((((cs.setIfInBounds (k * 6) (.int .i64 t.frm)).setIfInBounds (k * 6 + 1) (.int .i64 t.to_)).setIfInBounds (k * 6 + 2) (.int .i64 t.tape)).setIfInBounds (k * 6 + 3) (.int .i64 t.comp)).setIfInBounds (k * 6 + 4) (.int .i64 t.slope)).setIfInBounds (k * 6 + 5) (.bool t.back)) := by
  have hsz := h.1
  refine ⟨by simpa using hsz, fun i u hi hu => ?_⟩
  by_cases e : i = k
  · subst e
    obtain rfl : t = u := Option.some.inj (ht.symm.trans hu)
    refine ⟨?_, ?_, ?_, ?_, ?_, ?_⟩ <;> (simp only [Array.getElem?_setIfInBounds, Array.size_setIfInBounds, if_true]; repeat' split) <;> first | rfl | (exfalso; omega)
  · obtain ⟨h0, h1, h2, h3, h4, h5⟩ := h.2 i u (by omega) hu
    refine ⟨?_, ?_, ?_, ?_, ?_, ?_⟩ <;> (simp only [Array.getElem?_setIfInBounds, Array.size_setIfInBounds]; repeat' split) <;> first | assumption | (exfalso; omega)
theorem FillEn.at_ {n : Nat} {ts : List En} {cs : Array Value} {w : World} {g : Nat} (h : FillEn n n ts cs) (hl : ts.length = n) (hb : Blk w g 25 cs) : EnAt w (g + 1) (some ⟨g, 0, none⟩) n ts :=
  ⟨hl, fun k t ht => by
    have hk : k < n := by have := (List.getElem?_eq_some_iff.1 ht).1; omega
    obtain ⟨h0, h1, h2, h3, h4, h5⟩ := h.2 k t hk ht
    exact ⟨g, rfl, by omega, (hb.cell _).trans h0, (hb.cell _).trans h1, (hb.cell _).trans h2, (hb.cell _).trans h3, (hb.cell _).trans h4, (hb.cell _).trans h5⟩⟩
theorem sz_entry (A : Option Addr) (n cap : Nat) (left : Int) (w : World) (hn : n ≤ maxLen) (l0 : 0 ≤ left) (l1 : left ≤ 2000000) :
    Calls Try.prog 16 #[.slice A n cap, .int .i64 left] w fun e w' => e = .returned (.int .i64 (if left < n then -1 else left - n)) ∧ w = w' := by
  unfold maxLen at hn
  by_cases h : left < n
  · rw [if_pos h]
    have hd : left - (n : Int) < 0 := by omega
    go_enter Try.func16, Try.ntmps16
    go_wp2_with fail
    go_ret
    exact ⟨rfl, rfl⟩
  · rw [if_neg h]
    have hd : ¬ left - (n : Int) < 0 := by omega
    go_enter Try.func16, Try.ntmps16
    go_wp2_with fail
    go_ret
    exact ⟨rfl, rfl⟩
/-- a copy of a list: a block of its own -/
def ToPEn (n : Nat) (ts : List En) (w : World) (e : Ending) (w' : World) : Prop :=
  e = .returned (.slice (some ⟨w.heap.size, 0, none⟩) n n) ∧ (∃ cs, Blk w' w.heap.size 25 cs ∧ FillEn n n ts cs) ∧ Below w.heap.size w w'
set_option maxHeartbeats 4000000 in
set_option maxRecDepth 100000 in
theorem to_entryS (A : Option Addr) (n cp : Nat) (ts : List En) (w : World) (hn : n ≤ 1048576) (hr : Hid (ArgEn w w.heap.size A n ts)) : Calls Try.prog 18 #[.slice A n cp] w (ToPEn n ts w) := by
  obtain ⟨i0, hi0, hz0, hz1, hz2⟩ := info_parts infoEn
  obtain ⟨cs0, HC0⟩ : ∃ cs, Hid (cs = madeCells (Value.agg #[.int .i64 0, .int .i64 0, .int .i64 0, .int .i64 0, .int .i64 0, .bool false]).cells (n * 6)) := ⟨_, Lib.hid rfl⟩
  have hmk : ∀ W : World, (Instr.makeSlice 37 (.int .i64 (n : Int)) (.int .i64 (n : Int))).run Try.prog W = .ok (.slice (some ⟨W.heap.size, 0, none⟩) n n) (W.alloc (.cells cs0 25)) := fun W => by
    have h := run_make_rowN (P := Try.prog) 37 25 i0 _ Try.underlying37 hi0 hz0 .i64 .i64 n n (Nat.le_refl _) (by rw [hz2]; omega) (by omega) W
    rw [h, hz1, HC0.out]
  have HF0 := Lib.hid (show FillEn n 0 ts cs0 from ⟨by rw [HC0.out, size_madeCells], fun i t hi => by omega⟩)
  have hL : Hid (ts.length = n) := Lib.hid hr.out.1
  clear HC0
  go_enter Try.func18, Try.ntmps18
  go_wp2_with fail
  clear hmk
  go_loopw [4] (fun i wr => ∃ (k : Nat) (cs : Array Value), k ≤ n ∧ i = .int .i64 k ∧ Hid (FillEn n k ts cs) ∧ Blk wr w.heap.size 25 cs ∧ Below w.heap.size w wr) (fun i _ => n - (intOf i).toNat)
  case atStart => exact ⟨0, cs0, Nat.zero_le _, rfl, HF0, Blk.new w _ _, (Below.refl _ _).alloc (Nat.le_refl _) _⟩
  case round =>
    obtain ⟨k, cs, hk, rfl, HF, hK, hB⟩ := hrel
    have HK := Lib.hid hK
    have HB := Lib.hid hB
    have hlt0 := hK.lt
    clear hK hB
    by_cases hlt : k < n
    · obtain ⟨t, htk⟩ : ∃ t, ts[k]? = some t := ⟨_, List.getElem?_eq_getElem (by rw [hL.out]; exact hlt)⟩
      obtain ⟨ad, rfl, had, h0, h1, h2, h3, h4, h5⟩ := (hr.out.below HB.out).2 k t htk
      have HT := Lib.hid htk
      clear htk
      have e1 : wr.cell? ⟨(ad.add (k * 6)).block, (ad.add (k * 6)).off + 1, none⟩ = some (.int .i64 t.to_) := by rw [← h1, ← add_of_add]; rfl
      have e2 : wr.cell? ⟨(ad.add (k * 6)).block, (ad.add (k * 6)).off + 2, none⟩ = some (.int .i64 t.tape) := by rw [← h2, ← add_of_add]; rfl
      have e3 : wr.cell? ⟨(ad.add (k * 6)).block, (ad.add (k * 6)).off + 3, none⟩ = some (.int .i64 t.comp) := by rw [← h3, ← add_of_add]; rfl
      have e4 : wr.cell? ⟨(ad.add (k * 6)).block, (ad.add (k * 6)).off + 4, none⟩ = some (.int .i64 t.slope) := by rw [← h4, ← add_of_add]; rfl
      have e5 : wr.cell? ⟨(ad.add (k * 6)).block, (ad.add (k * 6)).off + 5, none⟩ = some (.bool t.back) := by rw [← h5, ← add_of_add]; rfl
      clear h1 h2 h3 h4 h5
      have hsz := HF.out.1
      have HQZ := Lib.hid hsz
      clear hsz
      have hki : (k : Int) < (n : Int) := by omega
      have hk0 : 0 ≤ (k : Int) := by omega
      have hkd : decide (k < n) = true := by simpa using hlt
      go_wp2_with fail
      refine (to_entry t _).mono ?_
      rintro e w2 ⟨rfl, b2⟩
      have HK2 := Lib.hid (HK.out.below b2 hlt0)
      have HB2 := Lib.hid (HB.out.trans (b2.mono HB.out.size))
      obtain ⟨u0, q0⟩ : ∃ u, w2.cell? ⟨w.heap.size, k * 6, none⟩ = some u := ⟨_, (HK2.out.cell _).trans (Array.getElem?_eq_getElem (by rw [HQZ.out]; omega))⟩
      have f0 := HK2.out.frozen (k * 6)
      obtain ⟨u1, q1⟩ : ∃ u, w2.cell? ⟨w.heap.size, k * 6 + 1, none⟩ = some u := ⟨_, (HK2.out.cell _).trans (Array.getElem?_eq_getElem (by rw [HQZ.out]; omega))⟩
      have f1 := HK2.out.frozen (k * 6 + 1)
      obtain ⟨u2, q2⟩ : ∃ u, w2.cell? ⟨w.heap.size, k * 6 + 2, none⟩ = some u := ⟨_, (HK2.out.cell _).trans (Array.getElem?_eq_getElem (by rw [HQZ.out]; omega))⟩
      have f2 := HK2.out.frozen (k * 6 + 2)
      obtain ⟨u3, q3⟩ : ∃ u, w2.cell? ⟨w.heap.size, k * 6 + 3, none⟩ = some u := ⟨_, (HK2.out.cell _).trans (Array.getElem?_eq_getElem (by rw [HQZ.out]; omega))⟩
      have f3 := HK2.out.frozen (k * 6 + 3)
      obtain ⟨u4, q4⟩ : ∃ u, w2.cell? ⟨w.heap.size, k * 6 + 4, none⟩ = some u := ⟨_, (HK2.out.cell _).trans (Array.getElem?_eq_getElem (by rw [HQZ.out]; omega))⟩
      have f4 := HK2.out.frozen (k * 6 + 4)
      obtain ⟨u5, q5⟩ : ∃ u, w2.cell? ⟨w.heap.size, k * 6 + 5, none⟩ = some u := ⟨_, (HK2.out.cell _).trans (Array.getElem?_eq_getElem (by rw [HQZ.out]; omega))⟩
      have f5 := HK2.out.frozen (k * 6 + 5)
      clear b2
      go_wp2_with fail
      go_roundw
      case rel => exact ⟨k + 1, _, by omega, by go_num, Lib.hid (HF.out.next hlt HT.out), (((((HK2.out.set_ (k * 6) _).set_ (k * 6 + 1) _).set_ (k * 6 + 2) _).set_ (k * 6 + 3) _).set_ (k * 6 + 4) _).set_ (k * 6 + 5) _, (((((HB2.out.setCell (Nat.le_refl _) _).setCell (Nat.le_refl _) _).setCell (Nat.le_refl _) _).setCell (Nat.le_refl _) _).setCell (Nat.le_refl _) _).setCell (Nat.le_refl _) _⟩
      case measure => simp [intOf]; omega
    · obtain rfl : k = n := by omega
      have hkd : decide (k < k) = false := by simp
      go_wp2_with fail
      go_ret
      exact ⟨rfl, ⟨cs, HK.out, HF.out⟩, HB.out⟩

theorem open_entryS {H : Type} {enc : TypeId × Value → H} {w : World} {base : Nat} {v : Value} {d : DataW H} {p : List MemPlace}
    (hv : Value.okWide Try.prog w .any base 33 v) (h : DataW.Trod enc Try.prog w 0 (fun _ => true) true 33 v d p) :
    ∃ (A : Option Addr) (n cap : Nat) (ts : List En), v = .slice A n cap ∧ ArgEn w w.heap.size A n ts ∧ n ≤ maxLen := by
  have hC : Try.prog.cellsOf 23 = 6 := by kernel_rfl
  have kbool : Try.prog.cellsOf 4 = 1 := by kernel_rfl
  have kint : Try.prog.cellsOf 3 = 1 := by kernel_rfl
  obtain ⟨A, n, cap, rfl⟩ := okWide_slice Try.underlying33 hv
  obtain ⟨fuel, hf⟩ := h
  rcases open_slice Try.underlying33 hf with ⟨hcs, -⟩ | ⟨a, len, c, m, k, D, Pl, hcs, -, hl, hm, hmm, -, hi⟩
  · simp [Value.cells] at hcs
    obtain ⟨rfl, rfl, rfl⟩ := hcs
    exact ⟨none, 0, 0, [], rfl, ⟨rfl, fun k t ht => by simp at ht⟩, by simp⟩
  · simp [Value.cells] at hcs
    obtain ⟨rfl, rfl, rfl⟩ := hcs
    rw [hC] at hi
    have hmn : n ≤ m := by rw [hmm]; simpa using hl
    obtain ⟨ts, hts, hx⟩ := choose_list (P := fun i (t : En) => w.cell? (a.add (i * 6)) = some (.int .i64 t.frm) ∧ w.cell? (a.add (i * 6 + 1)) = some (.int .i64 t.to_) ∧ w.cell? (a.add (i * 6 + 2)) = some (.int .i64 t.tape) ∧ w.cell? (a.add (i * 6 + 3)) = some (.int .i64 t.comp) ∧ w.cell? (a.add (i * 6 + 4)) = some (.int .i64 t.slope) ∧ w.cell? (a.add (i * 6 + 5)) = some (.bool t.back)) n (fun i hin => by
      obtain ⟨cs, hc, ht⟩ := hi i (by omega)
      obtain ⟨-, hlen, hcell⟩ := World.cells?_some hc
      obtain ⟨xs, n', -, -, -, hxl, hg⟩ := DataW.trod_struct Try.underlying23 ht
      match cs, hlen with
      | [c0, c1, c2, c3, c4, c5], _ =>
        match xs, hxl with
        | [y0, y1, y2, y3, y4, y5], _ =>
          have h0 := hg 0 _ rfl
          simp [kint] at h0
          obtain ⟨x0, e0, -, -⟩ := DataW.trod_int Try.underlying3 h0
          obtain rfl : c0 = .int .i64 x0 := by simpa using e0
          have q0 := hcell 0 (by decide)
          rw [add_of_add] at q0
          have h1 := hg 1 _ rfl
          simp [kint] at h1
          obtain ⟨x1, e1, -, -⟩ := DataW.trod_int Try.underlying3 h1
          obtain rfl : c1 = .int .i64 x1 := by simpa using e1
          have q1 := hcell 1 (by decide)
          rw [add_of_add] at q1
          have h2 := hg 2 _ rfl
          simp [kint] at h2
          obtain ⟨x2, e2, -, -⟩ := DataW.trod_int Try.underlying3 h2
          obtain rfl : c2 = .int .i64 x2 := by simpa using e2
          have q2 := hcell 2 (by decide)
          rw [add_of_add] at q2
          have h3 := hg 3 _ rfl
          simp [kint] at h3
          obtain ⟨x3, e3, -, -⟩ := DataW.trod_int Try.underlying3 h3
          obtain rfl : c3 = .int .i64 x3 := by simpa using e3
          have q3 := hcell 3 (by decide)
          rw [add_of_add] at q3
          have h4 := hg 4 _ rfl
          simp [kint] at h4
          obtain ⟨x4, e4, -, -⟩ := DataW.trod_int Try.underlying3 h4
          obtain rfl : c4 = .int .i64 x4 := by simpa using e4
          have q4 := hcell 4 (by decide)
          rw [add_of_add] at q4
          have h5 := hg 5 _ rfl
          simp [kbool] at h5
          obtain ⟨x5, e5, -⟩ := DataW.trod_bool Try.underlying4 h5
          obtain rfl : c5 = .bool x5 := by simpa using e5
          have q5 := hcell 5 (by decide)
          rw [add_of_add] at q5
          exact ⟨⟨x0, x1, x2, x3, x4, x5⟩, q0, q1, q2, q3, q4, q5⟩)
    refine ⟨some a, n, cap, ts, rfl, ⟨hts, fun k t ht => ?_⟩, by omega⟩
    have hk := hx k t ht
    exact ⟨a, rfl, by have := lt_of_cell hk.1; rwa [block_of_add] at this, hk⟩

set_option maxHeartbeats 4000000 in
set_option maxRecDepth 100000 in
theorem eq_entryS (A A' : Option Addr) (n cp cp' : Nat) (ts : List En) (w : World) (hn : n ≤ 2000000) (hr : Hid (EnAt w w.heap.size A n ts)) (hr' : Hid (EnAt w w.heap.size A' n ts)) :
    Calls Try.prog 20 #[.slice A n cp, .slice A' n cp'] w (BPost true w) := by
  have hL : Hid (ts.length = n) := Lib.hid hr.out.1
  obtain ⟨B, HBB⟩ : ∃ B, Hid (w.heap.size = B) := ⟨_, Lib.hid rfl⟩
  obtain ⟨W0, HW0⟩ : ∃ W0, Hid (w = W0) := ⟨_, Lib.hid rfl⟩
  have HT := Lib.hid (show EnAt W0 B A n ts by rw [← HBB.out, ← HW0.out]; exact hr.out)
  have HT' := Lib.hid (show EnAt W0 B A' n ts by rw [← HBB.out, ← HW0.out]; exact hr'.out)
  have HWB := Lib.hid (show B ≤ W0.heap.size by rw [← HW0.out, ← HBB.out]; exact Nat.le_refl _)
  have HB1 := Lib.hid (show ∀ v, Below B W0 v → Below w.heap.size w v from fun v hv => by rw [HBB.out, HW0.out]; exact hv)
  go_enter Try.func20, Try.ntmps20
  go_wp2_with fail
  go_loopw [5] (fun i wr => ∃ k : Nat, k ≤ n ∧ i = .int .i64 k ∧ Below B W0 wr) (fun i _ => n - (intOf i).toNat)
  case atStart => exact ⟨0, Nat.zero_le _, rfl, by rw [HW0.out]; exact Below.refl _ _⟩
  case round =>
    obtain ⟨k, hk, rfl, hBr⟩ := hrel
    have HR := Lib.hid hBr
    clear hBr hr hr'
    by_cases hlt : k < n
    · obtain ⟨t, htk⟩ : ∃ t, ts[k]? = some t := ⟨_, List.getElem?_eq_getElem (by rw [hL.out]; exact hlt)⟩
      obtain ⟨g, rfl, hg, h0, h1, h2, h3, h4, h5⟩ := HT.out.2 k t htk
      obtain ⟨g', rfl, hg', k0, k1, k2, k3, k4, k5⟩ := HT'.out.2 k t htk
      clear htk
      have hki : (k : Int) < (n : Int) := by omega
      have hk0 : 0 ≤ (k : Int) := by omega
      have hkd : decide (k < n) = true := by simpa using hlt
      go_wp2_with fail
      refine wp_region_held_drew (S := (fun w' => (∀ b o, b < B → w'.cell? ⟨b, o, none⟩ = W0.cell? ⟨b, o, none⟩) ∧ Below B W0 w')) (by kernel_rfl) ?_ (fun hHeld => ?_)
      · exact sb_start HR.out
      refine' wpAnyH_take (i := 0) (v := ?vr1_0) rfl (by kernel_rfl) (by kernel_rfl) (by kernel_rfl) (fun _ _ _ h => h) (Or.inl ⟨by rfl, ?hyr1_0⟩) (by assumption) ?restr1_0
      case hyr1_0 => (intro w hSw; (try dsimp only at hSw); go_simp; try (with_reducible rfl))
      simp only [Act.put, List.getElem_toArray, List.getElem_cons_succ, List.getElem_cons_zero, List.setIfInBounds_toArray, List.set_cons_zero, List.set_cons_succ]
      refine' wpAnyH_take (i := 1) (v := ?vr1_1) rfl (by kernel_rfl) (by kernel_rfl) (by kernel_rfl) (fun _ _ _ h => h) (Or.inl ⟨by rfl, ?hyr1_1⟩) (by assumption) ?restr1_1
      case hyr1_1 => (intro w hSw; (try dsimp only at hSw); go_simp; try (with_reducible rfl))
      simp only [Act.put, List.getElem_toArray, List.getElem_cons_succ, List.getElem_cons_zero, List.setIfInBounds_toArray, List.set_cons_zero, List.set_cons_succ]
      refine' wpAnyH_take (i := 2) (v := ?vr1_2) rfl (by kernel_rfl) (by kernel_rfl) (by kernel_rfl) (fun _ _ _ h => h) (Or.inl ⟨by rfl, ?hyr1_2⟩) (by assumption) ?restr1_2
      case hyr1_2 => (intro w hSw; (try dsimp only at hSw); go_simp; try (with_reducible rfl))
      simp only [Act.put, List.getElem_toArray, List.getElem_cons_succ, List.getElem_cons_zero, List.setIfInBounds_toArray, List.set_cons_zero, List.set_cons_succ]
      refine' wpAnyH_take (i := 3) (v := ?vr1_3) rfl (by kernel_rfl) (by kernel_rfl) (by kernel_rfl) (fun _ _ _ h => h) (Or.inl ⟨by rfl, ?hyr1_3⟩) (by assumption) ?restr1_3
      case hyr1_3 => (intro w hSw; (try dsimp only at hSw); go_simp; try (with_reducible rfl))
      simp only [Act.put, List.getElem_toArray, List.getElem_cons_succ, List.getElem_cons_zero, List.setIfInBounds_toArray, List.set_cons_zero, List.set_cons_succ]
      refine' wpAnyH_take (i := 4) (v := ?vr1_4) rfl (by kernel_rfl) (by kernel_rfl) (by kernel_rfl) (fun _ _ _ h => h) (Or.inl ⟨by rfl, ?hyr1_4⟩) (by assumption) ?restr1_4
      case hyr1_4 => (intro w hSw; (try dsimp only at hSw); go_simp; try (with_reducible rfl))
      simp only [Act.put, List.getElem_toArray, List.getElem_cons_succ, List.getElem_cons_zero, List.setIfInBounds_toArray, List.set_cons_zero, List.set_cons_succ]
      refine' wpAnyH_take (i := 5) (v := ?vr1_5) rfl (by kernel_rfl) (by kernel_rfl) (by kernel_rfl) (fun _ _ _ h => h) (Or.inl ⟨by rfl, ?hyr1_5⟩) (by assumption) ?restr1_5
      case hyr1_5 => (intro w hSw; (try dsimp only at hSw); go_simp; try (with_reducible rfl))
      simp only [Act.put, List.getElem_toArray, List.getElem_cons_succ, List.getElem_cons_zero, List.setIfInBounds_toArray, List.set_cons_zero, List.set_cons_succ]
      refine' wpAnyH_take (i := 6) (v := ?vr1_6) rfl (by kernel_rfl) (by kernel_rfl) (by kernel_rfl) (fun _ _ _ h => h) (Or.inl ⟨by rfl, ?hyr1_6⟩) (by assumption) ?restr1_6
      case hyr1_6 => (intro w hSw; (try dsimp only at hSw); go_simp; try (with_reducible rfl))
      simp only [Act.put, List.getElem_toArray, List.getElem_cons_succ, List.getElem_cons_zero, List.setIfInBounds_toArray, List.set_cons_zero, List.set_cons_succ]
      refine' wpAnyH_take (i := 7) (v := ?vr1_7) rfl (by kernel_rfl) (by kernel_rfl) (by kernel_rfl) (fun _ _ _ h => h) (Or.inl ⟨by rfl, ?hyr1_7⟩) (by assumption) ?restr1_7
      case hyr1_7 => (intro w hSw; (try dsimp only at hSw); go_simp; try (with_reducible rfl))
      simp only [Act.put, List.getElem_toArray, List.getElem_cons_succ, List.getElem_cons_zero, List.setIfInBounds_toArray, List.set_cons_zero, List.set_cons_succ]
      refine wpAnyH_ready (rs := [8]) (by kernel_rfl) (by simp) ?_
      refine AllReadyH.cons rfl (fun K hK => ?_) AllReadyH.nil
      go_simp
      refine (eq_entry t _).mono ?_
      rintro e w1 ⟨rfl, b1⟩
      refine hK.out _ _ (sb_step hHeld HWB.out b1) (fun hHeld1 => ?_)
      clear hK K hHeld
      have hHeld := hHeld1
      clear hHeld1
      try simp only [Act.put, List.getElem_toArray, List.getElem_cons_succ, List.getElem_cons_zero, List.setIfInBounds_toArray, List.set_cons_zero, List.set_cons_succ]
      refine' wpAnyH_take (i := 9) (v := ?vr1_9) rfl (by kernel_rfl) (by kernel_rfl) (by kernel_rfl) (fun _ _ _ h => h) (Or.inl ⟨by rfl, ?hyr1_9⟩) (by assumption) ?restr1_9
      case hyr1_9 => (intro w hSw; (try dsimp only at hSw); go_simp; try (with_reducible rfl))
      simp only [Act.put, List.getElem_toArray, List.getElem_cons_succ, List.getElem_cons_zero, List.setIfInBounds_toArray, List.set_cons_zero, List.set_cons_succ]
      refine wpAnyH_done (by kernel_rfl) ?_ _
      have HS := Lib.hid hHeld.2
      clear hHeld
      go_wp2_with fail
      go_roundw
      case rel => exact ⟨k + 1, by omega, by go_num, HS.out⟩
      case measure => simp [intOf]; omega
    · have hkd : decide (k < n) = false := by simpa using hlt
      go_wp2_with fail
      go_ret
      exact ⟨rfl, HB1.out _ HR.out⟩
end Go.Proofs.Ytnlljdepcldibaa.ty
