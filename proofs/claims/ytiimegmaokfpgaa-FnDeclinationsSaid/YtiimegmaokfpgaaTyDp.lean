/-
  The exact laws' helpers at points of the declination: copies, comparisons, sizes, marks, arguments opened.
  Conditions: none but those that a theorem names.
-/
import Derived.Test.YtiimegmaokfpgaaBase
import Derived.ProofKit
import Derived.OpenShut
import Derived.Deep.Slices
import Derived.Deep.Fields
namespace Go.Proofs.Ytiimegmaokfpgaa.ty
open Go.ChangeShapes Go.WideShapes Go.RowKit Go.Deep
open reads base
set_option linter.unusedVariables false
set_option linter.unusedSimpArgs false
set_option maxRecDepth 100000

/-- a decPoint -/
structure Dp where
  day : Int
  tn : Int
/-- a list of them in memory, 2 cells an element, from the beginning of a block on -/
def DpAt (w : World) (B : Nat) (A : Option Addr) (n : Nat) (ts : List Dp) : Prop :=
  ts.length = n ∧ ∀ k t, ts[k]? = some t → ∃ g, A = some ⟨g, 0, none⟩ ∧ g < B ∧ w.cell? ⟨g, k * 2, none⟩ = some (.int .i64 t.day) ∧ w.cell? ⟨g, k * 2 + 1, none⟩ = some (.int .i64 t.tn)
theorem DpAt.below {w w' : World} {B : Nat} {A : Option Addr} {n : Nat} {ts : List Dp} (h : DpAt w B A n ts) (hb : Below B w w') : DpAt w' B A n ts :=
  ⟨h.1, fun k t ht => by
    obtain ⟨g, e, hg, h0, h1⟩ := h.2 k t ht
    exact ⟨g, e, hg, (hb.cell (p := ⟨g, k * 2, none⟩) hg).trans h0, (hb.cell (p := ⟨g, k * 2 + 1, none⟩) hg).trans h1⟩⟩
theorem DpAt.more {w : World} {B B' : Nat} {A : Option Addr} {n : Nat} {ts : List Dp} (h : DpAt w B A n ts) (hB : B ≤ B') : DpAt w B' A n ts :=
  ⟨h.1, fun k t ht => by
    obtain ⟨g, e, hg, h0⟩ := h.2 k t ht
    exact ⟨g, e, by omega, h0⟩⟩
theorem DpAt.step {w w' : World} {A : Option Addr} {n : Nat} {ts : List Dp} (h : DpAt w w.heap.size A n ts) (hb : Below w.heap.size w w') : DpAt w' w'.heap.size A n ts := (h.below hb).more hb.size
theorem DpAt.alloc {w : World} {A : Option Addr} {n : Nat} {ts : List Dp} (h : DpAt w w.heap.size A n ts) (o : Obj) : DpAt (w.alloc o) (w.alloc o).heap.size A n ts := h.step ((Below.refl _ _).alloc (Nat.le_refl _) _)
/-- an own row of them -/
def flatDp (ts : List Dp) : List Value := ts.flatMap fun t => [.int .i64 t.day, .int .i64 t.tn]
theorem flatDp_len (ts : List Dp) : (flatDp ts).length = ts.length * 2 := by
  induction ts with
  | nil => rfl
  | cons t ts ih =>
    have e : flatDp (t :: ts) = [.int .i64 t.day, .int .i64 t.tn] ++ flatDp ts := rfl
    rw [e, List.length_append, ih]
    simp only [List.length_cons, List.length_nil]
    omega
theorem flatDp_app (ts : List Dp) (t : Dp) : flatDp (ts ++ [t]) = flatDp ts ++ [.int .i64 t.day, .int .i64 t.tn] := by simp [flatDp]
theorem flatDp_at : ∀ (ts : List Dp) (k : Nat) (t : Dp), ts[k]? = some t → (flatDp ts)[k * 2]? = some (.int .i64 t.day) ∧ (flatDp ts)[k * 2 + 1]? = some (.int .i64 t.tn)
  | [], k, t, h => by simp at h
  | d :: ts, 0, t, h => by
    simp at h
    subst h
    exact ⟨rfl, rfl⟩
  | d :: ts, k + 1, t, h => by
    obtain ⟨k0, k1⟩ := flatDp_at ts k t (by simpa using h)
    have e : flatDp (d :: ts) = .int .i64 d.day :: .int .i64 d.tn :: flatDp ts := rfl
    rw [e, show (k + 1) * 2 = k * 2 + 1 + 1 by omega, show k * 2 + 1 + 1 + 1 = (k * 2 + 1) + 1 + 1 by omega]
    exact ⟨by simpa using k0, by simpa using k1⟩
theorem own_Dp {w : World} {base c n : Nat} {e : TypeId} {A : Option Addr} {ts : List Dp} (hn : ts.length = n) (h : w.ownsRow base e 2 (.slice A n c) n (flatDp ts)) : DpAt w w.heap.size A n ts := by
  refine ⟨hn, fun k d hd => ?_⟩
  have hk : k < ts.length := (List.getElem?_eq_some_iff.1 hd).1
  obtain ⟨g, cap, hv, -, hg⟩ := h.form (by omega)
  injection hv with hA _ hc
  subst hA hc
  obtain ⟨f0, f1⟩ := flatDp_at ts k d hd
  exact ⟨g, rfl, hg, (h.cellAt (k * 2) (by omega)).trans f0, (h.cellAt (k * 2 + 1) (by omega)).trans f1⟩
theorem infoDp : (Try.prog.info? 42).map (fun i => (i.zero, i.size, i.bytes)) = some (some (.agg #[.int .i64 0, .int .i64 0]), 2, 16) := by kernel_rfl
/-- a comparison of a decPoint with itself -/
theorem eq_decPoint (x : Dp) (w : World) : Calls Try.prog 73 #[.agg #[.int .i64 x.day, .int .i64 x.tn], .agg #[.int .i64 x.day, .int .i64 x.tn]] w fun e w' => e = .returned (.bool true) ∧ Below w.heap.size w w' := by
  go_enter Try.func73, Try.ntmps73
  go_wp2_with fail
  go_ret
  exact ⟨rfl, ((Below.refl _ _).alloc (Nat.le_refl _) _).alloc (by simp) _⟩
/-- a copy of a decPoint -/
theorem to_decPoint (x : Dp) (w : World) : Calls Try.prog 50 #[.agg #[.int .i64 x.day, .int .i64 x.tn]] w fun e w' => e = .returned (.agg #[.int .i64 x.day, .int .i64 x.tn]) ∧ Below w.heap.size w w' := by
  go_enter Try.func50, Try.ntmps50
  go_wp2_with fail
  refine bodyPost_ret (v := .agg #[.int .i64 x.day, .int .i64 x.tn]) (by simp [results, Try.results50, go_sem]) rfl ⟨rfl, ?_⟩
  have h := (((Below.refl w.heap.size w).alloc (Nat.le_refl _) (.cells #[.int .i64 x.day, .int .i64 x.tn] 60)).alloc (by simp) (.cells #[.int .i64 0, .int .i64 0] 42)).alloc (by simp; omega) (.cells #[.int .i64 0, .int .i64 0] 42)
  repeat (first | exact h | refine Below.setCell ?_ (by simp) _ | refine Below.setCell ?_ (by simp; omega) _)
  all_goals (repeat (first | exact (Below.refl _ _) | refine Below.alloc ?_ (by simp; omega) _ | refine Below.alloc ?_ (by simp) _))

theorem open_decPoint {H : Type} {enc : TypeId × Value → H} {w : World} {base : Nat} {v : Value} {d : DataW H} {p : List MemPlace}
    (hv : Value.okWide Try.prog w .any base 60 v) (h : DataW.Trod enc Try.prog w 0 (fun _ => true) true 60 v d p) : ∃ x : Dp, v = .agg #[.int .i64 x.day, .int .i64 x.tn] := by
  have hC : Try.prog.cellsOf 60 = 2 := by kernel_rfl
  have kint : Try.prog.cellsOf 3 = 1 := by kernel_rfl
  obtain ⟨cs, rfl, hsz⟩ := okWide_struct Try.underlying60 hv
  obtain ⟨fuel, hf⟩ := h
  obtain ⟨xs, n, -, -, -, hlen, hg⟩ := DataW.trod_struct Try.underlying60 hf
  rw [hC] at hsz
  obtain ⟨l⟩ := cs
  match l, hsz with
  | [c0, c1], _ =>
    match xs, hlen with
    | [y0, y1], _ =>
      have h0 := hg 0 _ rfl
      simp [Value.cells, kint] at h0
      obtain ⟨x0, e0, -, -⟩ := DataW.trod_int Try.underlying3 h0
      obtain rfl : c0 = .int .i64 x0 := by simpa using e0
      have h1 := hg 1 _ rfl
      simp [Value.cells, kint] at h1
      obtain ⟨x1, e1, -, -⟩ := DataW.trod_int Try.underlying3 h1
      obtain rfl : c1 = .int .i64 x1 := by simpa using e1
      exact ⟨⟨x0, x1⟩, rfl⟩

/-- a list that came in, 2 cells an element -/
def ArgDp (w : World) (B : Nat) (A : Option Addr) (n : Nat) (ts : List Dp) : Prop :=
  ts.length = n ∧ ∀ k t, ts[k]? = some t → ∃ ad, A = some ad ∧ ad.block < B ∧ w.cell? (ad.add (k * 2)) = some (.int .i64 t.day) ∧ w.cell? (ad.add (k * 2 + 1)) = some (.int .i64 t.tn)
theorem ArgDp.below {w w' : World} {B : Nat} {A : Option Addr} {n : Nat} {ts : List Dp} (h : ArgDp w B A n ts) (hb : Below B w w') : ArgDp w' B A n ts :=
  ⟨h.1, fun k t ht => by
    obtain ⟨ad, e, hg, h0, h1⟩ := h.2 k t ht
    exact ⟨ad, e, hg, (hb.cell (p := ad.add (k * 2)) (by rw [block_of_add]; exact hg)).trans h0, (hb.cell (p := ad.add (k * 2 + 1)) (by rw [block_of_add]; exact hg)).trans h1⟩⟩
theorem more_decPoint {w : World} {B B' : Nat} {A : Option Addr} {n : Nat} {ts : List Dp} (h : ArgDp w B A n ts) (hB : B ≤ B') : ArgDp w B' A n ts :=
  ⟨h.1, fun k t ht => by
    obtain ⟨ad, e, hg, h0⟩ := h.2 k t ht
    exact ⟨ad, e, by omega, h0⟩⟩
/-- the first k of a copy are laid -/
def FillDp (n k : Nat) (ts : List Dp) (cs : Array Value) : Prop := cs.size = n * 2 ∧ ∀ i t, i < k → ts[i]? = some t → cs[i * 2]? = some (.int .i64 t.day) ∧ cs[i * 2 + 1]? = some (.int .i64 t.tn)
theorem FillDp.next {n k : Nat} {ts : List Dp} {cs : Array Value} {t : Dp} (h : FillDp n k ts cs) (hk : k < n) (ht : ts[k]? = some t) : FillDp n (k + 1) ts ((cs.setIfInBounds (k * 2) (.int .i64 t.day)).setIfInBounds (k * 2 + 1) (.int .i64 t.tn)) := by
  have hsz := h.1
  refine ⟨by simpa using hsz, fun i u hi hu => ?_⟩
  by_cases e : i = k
  · subst e
    obtain rfl : t = u := Option.some.inj (ht.symm.trans hu)
    refine ⟨?_, ?_⟩ <;> (simp only [Array.getElem?_setIfInBounds, Array.size_setIfInBounds, if_true]; repeat' split) <;> first | rfl | (exfalso; omega)
  · obtain ⟨h0, h1⟩ := h.2 i u (by omega) hu
    refine ⟨?_, ?_⟩ <;> (simp only [Array.getElem?_setIfInBounds, Array.size_setIfInBounds]; repeat' split) <;> first | assumption | (exfalso; omega)
theorem FillDp.at_ {n : Nat} {ts : List Dp} {cs : Array Value} {w : World} {g : Nat} (h : FillDp n n ts cs) (hl : ts.length = n) (hb : Blk w g 42 cs) : DpAt w (g + 1) (some ⟨g, 0, none⟩) n ts :=
  ⟨hl, fun k t ht => by
    have hk : k < n := by have := (List.getElem?_eq_some_iff.1 ht).1; omega
    obtain ⟨h0, h1⟩ := h.2 k t hk ht
    exact ⟨g, rfl, by omega, (hb.cell _).trans h0, (hb.cell _).trans h1⟩⟩
theorem sz_decPoint (A : Option Addr) (n cap : Nat) (left : Int) (w : World) (hn : n ≤ maxLen) (l0 : 0 ≤ left) (l1 : left ≤ 2000000) :
    Calls Try.prog 41 #[.slice A n cap, .int .i64 left] w fun e w' => e = .returned (.int .i64 (if left < n then -1 else left - n)) ∧ w = w' := by
  unfold maxLen at hn
  by_cases h : left < n
  · rw [if_pos h]
    have hd : left - (n : Int) < 0 := by omega
    go_enter Try.func41, Try.ntmps41
    go_wp2_with fail
    go_ret
    exact ⟨rfl, rfl⟩
  · rw [if_neg h]
    have hd : ¬ left - (n : Int) < 0 := by omega
    go_enter Try.func41, Try.ntmps41
    go_wp2_with fail
    go_ret
    exact ⟨rfl, rfl⟩
/-- a copy of a list: a block of its own -/
def ToPDp (n : Nat) (ts : List Dp) (w : World) (e : Ending) (w' : World) : Prop :=
  e = .returned (.slice (some ⟨w.heap.size, 0, none⟩) n n) ∧ (∃ cs, Blk w' w.heap.size 42 cs ∧ FillDp n n ts cs) ∧ Below w.heap.size w w'
set_option maxHeartbeats 4000000 in
set_option maxRecDepth 100000 in
theorem to_decPointS (A : Option Addr) (n cp : Nat) (ts : List Dp) (w : World) (hn : n ≤ 1048576) (hr : Hid (ArgDp w w.heap.size A n ts)) : Calls Try.prog 42 #[.slice A n cp] w (ToPDp n ts w) := by
  obtain ⟨i0, hi0, hz0, hz1, hz2⟩ := info_parts infoDp
  obtain ⟨cs0, HC0⟩ : ∃ cs, Hid (cs = madeCells (Value.agg #[.int .i64 0, .int .i64 0]).cells (n * 2)) := ⟨_, Lib.hid rfl⟩
  have hmk : ∀ W : World, (Instr.makeSlice 24 (.int .i64 (n : Int)) (.int .i64 (n : Int))).run Try.prog W = .ok (.slice (some ⟨W.heap.size, 0, none⟩) n n) (W.alloc (.cells cs0 42)) := fun W => by
    have h := run_make_rowN (P := Try.prog) 24 42 i0 _ Try.underlying24 hi0 hz0 .i64 .i64 n n (Nat.le_refl _) (by rw [hz2]; omega) (by omega) W
    rw [h, hz1, HC0.out]
  have HF0 := Lib.hid (show FillDp n 0 ts cs0 from ⟨by rw [HC0.out, size_madeCells], fun i t hi => by omega⟩)
  have hL : Hid (ts.length = n) := Lib.hid hr.out.1
  clear HC0
  go_enter Try.func42, Try.ntmps42
  go_wp2_with fail
  clear hmk
  go_loopw [4] (fun i wr => ∃ (k : Nat) (cs : Array Value), k ≤ n ∧ i = .int .i64 k ∧ Hid (FillDp n k ts cs) ∧ Blk wr w.heap.size 42 cs ∧ Below w.heap.size w wr) (fun i _ => n - (intOf i).toNat)
  case atStart => exact ⟨0, cs0, Nat.zero_le _, rfl, HF0, Blk.new w _ _, (Below.refl _ _).alloc (Nat.le_refl _) _⟩
  case round =>
    obtain ⟨k, cs, hk, rfl, HF, hK, hB⟩ := hrel
    have HK := Lib.hid hK
    have HB := Lib.hid hB
    have hlt0 := hK.lt
    clear hK hB
    by_cases hlt : k < n
    · obtain ⟨t, htk⟩ : ∃ t, ts[k]? = some t := ⟨_, List.getElem?_eq_getElem (by rw [hL.out]; exact hlt)⟩
      obtain ⟨ad, rfl, had, h0, h1⟩ := (hr.out.below HB.out).2 k t htk
      have HT := Lib.hid htk
      clear htk
      have e1 : wr.cell? ⟨(ad.add (k * 2)).block, (ad.add (k * 2)).off + 1, none⟩ = some (.int .i64 t.tn) := by rw [← h1, ← add_of_add]; rfl
      clear h1
      have hsz := HF.out.1
      have HQZ := Lib.hid hsz
      clear hsz
      have hki : (k : Int) < (n : Int) := by omega
      have hk0 : 0 ≤ (k : Int) := by omega
      have hkd : decide (k < n) = true := by simpa using hlt
      go_wp2_with fail
      refine (to_decPoint t _).mono ?_
      rintro e w2 ⟨rfl, b2⟩
      have HK2 := Lib.hid (HK.out.below b2 hlt0)
      have HB2 := Lib.hid (HB.out.trans (b2.mono HB.out.size))
      obtain ⟨u0, q0⟩ : ∃ u, w2.cell? ⟨w.heap.size, k * 2, none⟩ = some u := ⟨_, (HK2.out.cell _).trans (Array.getElem?_eq_getElem (by rw [HQZ.out]; omega))⟩
      have f0 := HK2.out.frozen (k * 2)
      obtain ⟨u1, q1⟩ : ∃ u, w2.cell? ⟨w.heap.size, k * 2 + 1, none⟩ = some u := ⟨_, (HK2.out.cell _).trans (Array.getElem?_eq_getElem (by rw [HQZ.out]; omega))⟩
      have f1 := HK2.out.frozen (k * 2 + 1)
      clear b2
      go_wp2_with fail
      go_roundw
      case rel => exact ⟨k + 1, _, by omega, by go_num, Lib.hid (HF.out.next hlt HT.out), (HK2.out.set_ (k * 2) _).set_ (k * 2 + 1) _, (HB2.out.setCell (Nat.le_refl _) _).setCell (Nat.le_refl _) _⟩
      case measure => simp [intOf]; omega
    · obtain rfl : k = n := by omega
      have hkd : decide (k < k) = false := by simp
      go_wp2_with fail
      go_ret
      exact ⟨rfl, ⟨cs, HK.out, HF.out⟩, HB.out⟩

theorem open_decPointS {H : Type} {enc : TypeId × Value → H} {w : World} {base : Nat} {v : Value} {d : DataW H} {p : List MemPlace}
    (hv : Value.okWide Try.prog w .any base 50 v) (h : DataW.Trod enc Try.prog w 0 (fun _ => true) true 50 v d p) :
    ∃ (A : Option Addr) (n cap : Nat) (ts : List Dp), v = .slice A n cap ∧ ArgDp w w.heap.size A n ts ∧ n ≤ maxLen := by
  have hC : Try.prog.cellsOf 60 = 2 := by kernel_rfl
  have kint : Try.prog.cellsOf 3 = 1 := by kernel_rfl
  obtain ⟨A, n, cap, rfl⟩ := okWide_slice Try.underlying50 hv
  obtain ⟨fuel, hf⟩ := h
  rcases open_slice Try.underlying50 hf with ⟨hcs, -⟩ | ⟨a, len, c, m, k, D, Pl, hcs, -, hl, hm, hmm, -, hi⟩
  · simp [Value.cells] at hcs
    obtain ⟨rfl, rfl, rfl⟩ := hcs
    exact ⟨none, 0, 0, [], rfl, ⟨rfl, fun k t ht => by simp at ht⟩, by simp⟩
  · simp [Value.cells] at hcs
    obtain ⟨rfl, rfl, rfl⟩ := hcs
    rw [hC] at hi
    have hmn : n ≤ m := by rw [hmm]; simpa using hl
    obtain ⟨ts, hts, hx⟩ := choose_list (P := fun i (t : Dp) => w.cell? (a.add (i * 2)) = some (.int .i64 t.day) ∧ w.cell? (a.add (i * 2 + 1)) = some (.int .i64 t.tn)) n (fun i hin => by
      obtain ⟨cs, hc, ht⟩ := hi i (by omega)
      obtain ⟨-, hlen, hcell⟩ := World.cells?_some hc
      obtain ⟨xs, n', -, -, -, hxl, hg⟩ := DataW.trod_struct Try.underlying60 ht
      match cs, hlen with
      | [c0, c1], _ =>
        match xs, hxl with
        | [y0, y1], _ =>
          have h0 := hg 0 _ rfl
          simp [kint] at h0
          obtain ⟨x0, e0, -, -⟩ := DataW.trod_int Try.underlying3 h0
          obtain rfl : c0 = .int .i64 x0 := by simpa using e0
          have q0 := hcell 0 (by decide)
          rw [add_of_add] at q0
          have h1 := hg 1 _ rfl
          simp [kint] at h1
          obtain ⟨x1, e1, -, -⟩ := DataW.trod_int Try.underlying3 h1
          obtain rfl : c1 = .int .i64 x1 := by simpa using e1
          have q1 := hcell 1 (by decide)
          rw [add_of_add] at q1
          exact ⟨⟨x0, x1⟩, q0, q1⟩)
    refine ⟨some a, n, cap, ts, rfl, ⟨hts, fun k t ht => ?_⟩, by omega⟩
    have hk := hx k t ht
    exact ⟨a, rfl, by have := lt_of_cell hk.1; rwa [block_of_add] at this, hk⟩

set_option maxHeartbeats 4000000 in
set_option maxRecDepth 100000 in
theorem eq_decPointS (A A' : Option Addr) (n cp cp' : Nat) (ts : List Dp) (w : World) (hn : n ≤ 2000000) (hr : Hid (DpAt w w.heap.size A n ts)) (hr' : Hid (DpAt w w.heap.size A' n ts)) :
    Calls Try.prog 43 #[.slice A n cp, .slice A' n cp'] w (BPost true w) := by
  have hL : Hid (ts.length = n) := Lib.hid hr.out.1
  obtain ⟨B, HBB⟩ : ∃ B, Hid (w.heap.size = B) := ⟨_, Lib.hid rfl⟩
  obtain ⟨W0, HW0⟩ : ∃ W0, Hid (w = W0) := ⟨_, Lib.hid rfl⟩
  have HT := Lib.hid (show DpAt W0 B A n ts by rw [← HBB.out, ← HW0.out]; exact hr.out)
  have HT' := Lib.hid (show DpAt W0 B A' n ts by rw [← HBB.out, ← HW0.out]; exact hr'.out)
  have HWB := Lib.hid (show B ≤ W0.heap.size by rw [← HW0.out, ← HBB.out]; exact Nat.le_refl _)
  have HB1 := Lib.hid (show ∀ v, Below B W0 v → Below w.heap.size w v from fun v hv => by rw [HBB.out, HW0.out]; exact hv)
  go_enter Try.func43, Try.ntmps43
  go_wp2_with fail
  go_loopw [5] (fun i wr => ∃ k : Nat, k ≤ n ∧ i = .int .i64 k ∧ Below B W0 wr) (fun i _ => n - (intOf i).toNat)
  case atStart => exact ⟨0, Nat.zero_le _, rfl, by rw [HW0.out]; exact Below.refl _ _⟩
  case round =>
    obtain ⟨k, hk, rfl, hBr⟩ := hrel
    have HR := Lib.hid hBr
    clear hBr hr hr'
    by_cases hlt : k < n
    · obtain ⟨t, htk⟩ : ∃ t, ts[k]? = some t := ⟨_, List.getElem?_eq_getElem (by rw [hL.out]; exact hlt)⟩
      obtain ⟨g, rfl, hg, h0, h1⟩ := HT.out.2 k t htk
      obtain ⟨g', rfl, hg', k0, k1⟩ := HT'.out.2 k t htk
      clear htk
      have hki : (k : Int) < (n : Int) := by omega
      have hk0 : 0 ≤ (k : Int) := by omega
      have hkd : decide (k < n) = true := by simpa using hlt
      go_wp2_with fail
      refine wp_region_held_drew (S := (fun w' => (∀ b o, b < B → w'.cell? ⟨b, o, none⟩ = W0.cell? ⟨b, o, none⟩) ∧ Below B W0 w')) (by kernel_rfl) ?_ (fun hHeld => ?_)
      · exact sb_start HR.out
      refine' wpAnyH_take (i := 0) (v := ?vr1_0) rfl (by kernel_rfl) (by kernel_rfl) (by kernel_rfl) (fun _ _ _ h => h) (Or.inl ⟨by rfl, ?hyr1_0⟩) (by assumption) ?restr1_0
      case hyr1_0 => (intro w hSw; (try dsimp only at hSw); go_simp; try (with_reducible rfl))
      simp only [Act.put, List.getElem_toArray, List.getElem_cons_succ, List.getElem_cons_zero, List.setIfInBounds_toArray, List.set_cons_zero, List.set_cons_succ]
      refine' wpAnyH_take (i := 1) (v := ?vr1_1) rfl (by kernel_rfl) (by kernel_rfl) (by kernel_rfl) (fun _ _ _ h => h) (Or.inl ⟨by rfl, ?hyr1_1⟩) (by assumption) ?restr1_1
      case hyr1_1 => (intro w hSw; (try dsimp only at hSw); go_simp; try (with_reducible rfl))
      simp only [Act.put, List.getElem_toArray, List.getElem_cons_succ, List.getElem_cons_zero, List.setIfInBounds_toArray, List.set_cons_zero, List.set_cons_succ]
      refine' wpAnyH_take (i := 2) (v := ?vr1_2) rfl (by kernel_rfl) (by kernel_rfl) (by kernel_rfl) (fun _ _ _ h => h) (Or.inl ⟨by rfl, ?hyr1_2⟩) (by assumption) ?restr1_2
      case hyr1_2 => (intro w hSw; (try dsimp only at hSw); go_simp; try (with_reducible rfl))
      simp only [Act.put, List.getElem_toArray, List.getElem_cons_succ, List.getElem_cons_zero, List.setIfInBounds_toArray, List.set_cons_zero, List.set_cons_succ]
      refine' wpAnyH_take (i := 3) (v := ?vr1_3) rfl (by kernel_rfl) (by kernel_rfl) (by kernel_rfl) (fun _ _ _ h => h) (Or.inl ⟨by rfl, ?hyr1_3⟩) (by assumption) ?restr1_3
      case hyr1_3 => (intro w hSw; (try dsimp only at hSw); go_simp; try (with_reducible rfl))
      simp only [Act.put, List.getElem_toArray, List.getElem_cons_succ, List.getElem_cons_zero, List.setIfInBounds_toArray, List.set_cons_zero, List.set_cons_succ]
      refine' wpAnyH_take (i := 4) (v := ?vr1_4) rfl (by kernel_rfl) (by kernel_rfl) (by kernel_rfl) (fun _ _ _ h => h) (Or.inl ⟨by rfl, ?hyr1_4⟩) (by assumption) ?restr1_4
      case hyr1_4 => (intro w hSw; (try dsimp only at hSw); go_simp; try (with_reducible rfl))
      simp only [Act.put, List.getElem_toArray, List.getElem_cons_succ, List.getElem_cons_zero, List.setIfInBounds_toArray, List.set_cons_zero, List.set_cons_succ]
      refine' wpAnyH_take (i := 5) (v := ?vr1_5) rfl (by kernel_rfl) (by kernel_rfl) (by kernel_rfl) (fun _ _ _ h => h) (Or.inl ⟨by rfl, ?hyr1_5⟩) (by assumption) ?restr1_5
      case hyr1_5 => (intro w hSw; (try dsimp only at hSw); go_simp; try (with_reducible rfl))
      simp only [Act.put, List.getElem_toArray, List.getElem_cons_succ, List.getElem_cons_zero, List.setIfInBounds_toArray, List.set_cons_zero, List.set_cons_succ]
      refine' wpAnyH_take (i := 6) (v := ?vr1_6) rfl (by kernel_rfl) (by kernel_rfl) (by kernel_rfl) (fun _ _ _ h => h) (Or.inl ⟨by rfl, ?hyr1_6⟩) (by assumption) ?restr1_6
      case hyr1_6 => (intro w hSw; (try dsimp only at hSw); go_simp; try (with_reducible rfl))
      simp only [Act.put, List.getElem_toArray, List.getElem_cons_succ, List.getElem_cons_zero, List.setIfInBounds_toArray, List.set_cons_zero, List.set_cons_succ]
      refine' wpAnyH_take (i := 7) (v := ?vr1_7) rfl (by kernel_rfl) (by kernel_rfl) (by kernel_rfl) (fun _ _ _ h => h) (Or.inl ⟨by rfl, ?hyr1_7⟩) (by assumption) ?restr1_7
      case hyr1_7 => (intro w hSw; (try dsimp only at hSw); go_simp; try (with_reducible rfl))
      simp only [Act.put, List.getElem_toArray, List.getElem_cons_succ, List.getElem_cons_zero, List.setIfInBounds_toArray, List.set_cons_zero, List.set_cons_succ]
      refine wpAnyH_ready (rs := [8]) (by kernel_rfl) (by simp) ?_
      refine AllReadyH.cons rfl (fun K hK => ?_) AllReadyH.nil
      go_simp
      refine (eq_decPoint t _).mono ?_
      rintro e w1 ⟨rfl, b1⟩
      refine hK.out _ _ (sb_step hHeld HWB.out b1) (fun hHeld1 => ?_)
      clear hK K hHeld
      have hHeld := hHeld1
      clear hHeld1
      try simp only [Act.put, List.getElem_toArray, List.getElem_cons_succ, List.getElem_cons_zero, List.setIfInBounds_toArray, List.set_cons_zero, List.set_cons_succ]
      refine' wpAnyH_take (i := 9) (v := ?vr1_9) rfl (by kernel_rfl) (by kernel_rfl) (by kernel_rfl) (fun _ _ _ h => h) (Or.inl ⟨by rfl, ?hyr1_9⟩) (by assumption) ?restr1_9
      case hyr1_9 => (intro w hSw; (try dsimp only at hSw); go_simp; try (with_reducible rfl))
      simp only [Act.put, List.getElem_toArray, List.getElem_cons_succ, List.getElem_cons_zero, List.setIfInBounds_toArray, List.set_cons_zero, List.set_cons_succ]
      refine wpAnyH_done (by kernel_rfl) ?_ _
      have HS := Lib.hid hHeld.2
      clear hHeld
      go_wp2_with fail
      go_roundw
      case rel => exact ⟨k + 1, by omega, by go_num, HS.out⟩
      case measure => simp [intOf]; omega
    · have hkd : decide (k < n) = false := by simpa using hlt
      go_wp2_with fail
      go_ret
      exact ⟨rfl, HB1.out _ HR.out⟩

end Go.Proofs.Ytiimegmaokfpgaa.ty
