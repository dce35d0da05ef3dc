/-
  The draws of chapter 9: legs with an axis, legs alone.
  The draw of FnAdjustment's second part: legs, an axis and a leg's number.
  A copy of a list of ints, by the model.
  The draw of FnAdjustment's last part: legs, an axis, coordinates and a denominator.
  Conditions: those that each theorem names.
-/
import Derived.Test.YtnpghhpcloljeabGreatDoorDrV
import Derived.OwnWalk
import Derived.Test.YtnpghhpcloljeabGreatDoorReadsq
import Derived.Test.YtnpghhpcloljeabGreatDoorNtAq
import Derived.Test.YtnpghhpcloljeabGreatDoorMlGq
import Derived.Deep.DeepCutAuto
namespace Go.Proofs.YtnpghhpcloljeabGreatDoor.dcv
open Go.RowKit
open reads base curs curd cure ty lg nt drl
set_option linter.unusedVariables false
set_option linter.unusedSimpArgs false

theorem axis_any (B b k : Nat) (A : Option Addr) (n cap : Nat) (zs : List UInt8) (w : World) (hk : k ≤ 50000) (h : Hid (Cur w B b k A n cap zs)) :
    Calls Tryz.prog 64 #[.pointer (some ⟨b, 0, none⟩)] w fun e w' => ∃ x : Int, (-1 ≤ x ∧ x ≤ 3) ∧ e = .returned (.int .i64 x) ∧ Cur w' B b (k + 1) A n cap zs ∧ w.grownBy w' (some b) := by
  go_enter Tryz.func64, Tryz.ntmps64
  go_wp2_with fail
  refine (among_new B b k A n cap zs w 10 _ [0, 1, 2, 0, 1, 2, 2, 1, -1, 3] (by omega) h.out rfl (by decide) (by decide)).mono ?_
  rintro e w1 ⟨x, hx, rfl, hC, hg⟩
  have HX := Lib.hid (show -1 ≤ x ∧ x ≤ 3 by simp at hx; omega)
  have HC := Lib.hid hC
  have HG := Lib.hid hg
  clear hx hC hg
  go_wp2_with fail
  go_ret
  exact ⟨x, HX.out, rfl, HC.out, HG.out⟩
set_option maxHeartbeats 4000000 in
set_option maxRecDepth 100000 in
theorem axis_draw (A : Option Addr) (n cap : Nat) (zs : List UInt8) (w : World) (h : Hid (curs.Code w A n zs)) : Calls Tryz.prog 8 #[.slice A n cap] w (CAPo (-1) 3 w) := by
  have HC0 := Lib.hid (cur_new cap h.out)
  go_enter Tryz.func8, Tryz.ntmps8
  go_wp2_with fail
  refine (closing_draw w.heap.size w.heap.size 0 A n cap zs _ (by omega) HC0).mono ?_
  rintro e w1 ⟨v, ts, q, rfl, hl, hq, hG⟩
  have HG := Lib.hid hG
  clear hG HC0 h
  go_wp2_with fail
  refine (axis_any w.heap.size w.heap.size (0 + 900) A n cap zs _ (by omega) (Lib.hid HG.out.1)).mono ?_
  rintro e w2 ⟨x, hx, rfl, hC, hg⟩
  have HG2 := Lib.hid (HG.out.step hC hg)
  clear hC hg HG
  go_wp2_with fail
  go_ret2
  exact ⟨v, ts, x, rfl, own_base (by simp) HG2.out.2.2.1, hl, hx, low HG2.out.2.1⟩
set_option maxHeartbeats 4000000 in
set_option maxRecDepth 100000 in
theorem squareSum_draw (A : Option Addr) (n cap : Nat) (zs : List UInt8) (w : World) (h : Hid (curs.Code w A n zs)) : Calls Tryz.prog 23 #[.slice A n cap] w (CAPo (-1) 3 w) := by
  go_enter Tryz.func23, Tryz.ntmps23
  go_wp2_with fail
  refine (axis_draw A n cap zs w h).mono ?_
  rintro e w1 ⟨v, ts, q, rfl, ho⟩
  have HO := Lib.hid ho
  clear ho h
  go_wp2_with fail
  go_ret2
  exact ⟨v, ts, q, rfl, HO.out⟩
set_option maxHeartbeats 4000000 in
set_option maxRecDepth 100000 in
theorem exactLegs_draw (A : Option Addr) (n cap : Nat) (zs : List UInt8) (w : World) (h : Hid (curs.Code w A n zs)) : Calls Tryz.prog 29 #[.slice A n cap] w (DLPo w) := by
  go_enter Tryz.func29, Tryz.ntmps29
  go_wp2_with fail
  refine (worst_draw A n cap zs w h).mono ?_
  rintro e w1 ⟨v, ts, rfl, ho, hl, hb⟩
  have HO := Lib.hid ho
  have HB := Lib.hid hb
  clear ho h hb
  go_wp2_with fail
  go_ret
  exact ⟨v, ts, rfl, HO.out, hl, HB.out⟩
set_option maxHeartbeats 4000000 in
set_option maxRecDepth 100000 in
theorem adjDepth_draw (A : Option Addr) (n cap : Nat) (zs : List UInt8) (w : World) (h : Hid (curs.Code w A n zs)) : Calls Tryz.prog 33 #[.slice A n cap] w (DLPo w) := by
  go_enter Tryz.func33, Tryz.ntmps33
  go_wp2_with fail
  refine (worst_draw A n cap zs w h).mono ?_
  rintro e w1 ⟨v, ts, rfl, ho, hl, hb⟩
  have HO := Lib.hid ho
  have HB := Lib.hid hb
  clear ho h hb
  go_wp2_with fail
  go_ret
  exact ⟨v, ts, rfl, HO.out, hl, HB.out⟩
set_option maxHeartbeats 4000000 in
set_option maxRecDepth 100000 in
theorem treeCount_draw (A : Option Addr) (n cap : Nat) (zs : List UInt8) (w : World) (h : Hid (curs.Code w A n zs)) : Calls Tryz.prog 38 #[.slice A n cap] w (DLPo w) := by
  go_enter Tryz.func38, Tryz.ntmps38
  go_wp2_with fail
  refine (worst_draw A n cap zs w h).mono ?_
  rintro e w1 ⟨v, ts, rfl, ho, hl, hb⟩
  have HO := Lib.hid ho
  have HB := Lib.hid hb
  clear ho h hb
  go_wp2_with fail
  go_ret
  exact ⟨v, ts, rfl, HO.out, hl, HB.out⟩
end Go.Proofs.YtnpghhpcloljeabGreatDoor.dcv

namespace Go.Proofs.YtnpghhpcloljeabGreatDoor.dcv
open Go.RowKit
open reads base curs curd cure ty lg nt drl
set_option linter.unusedVariables false
set_option linter.unusedSimpArgs false

/-- legs, an axis, a leg -/
def CAAPo (w : World) (e : Ending) (w' : World) : Prop := ∃ (v : Value) (ts : List Lg) (x q : Int), e = .returned (.tuple #[v, .int .i64 x, .int .i64 q]) ∧ w'.ownsRow w.heap.size 87 5 v ts.length (flatLg ts) ∧ ts.length ≤ 13 ∧ (-1 ≤ x ∧ x ≤ 3) ∧ (-1 ≤ q ∧ q ≤ 13) ∧ Below w.heap.size w w'
set_option maxHeartbeats 4000000 in
set_option maxRecDepth 100000 in
theorem residualOf_draw (A : Option Addr) (n cap : Nat) (zs : List UInt8) (w : World) (h : Hid (curs.Code w A n zs)) : Calls Tryz.prog 19 #[.slice A n cap] w (CAAPo w) := by
  have HC0 := Lib.hid (cur_new cap h.out)
  go_enter Tryz.func19, Tryz.ntmps19
  go_wp2_with fail
  refine (closing_draw w.heap.size w.heap.size 0 A n cap zs _ (by omega) HC0).mono ?_
  rintro e w1 ⟨v, ts, q, rfl, hl, hq, hG⟩
  have HG := Lib.hid hG
  have HQ := Lib.hid hq
  clear hG HC0 h hq
  go_wp2_with fail
  refine (axis_any w.heap.size w.heap.size (0 + 900) A n cap zs _ (by omega) (Lib.hid HG.out.1)).mono ?_
  rintro e w2 ⟨x, hx, rfl, hC, hg⟩
  have HG2 := Lib.hid (HG.out.step hC hg)
  have HX := Lib.hid hx
  clear hC hg HG hx
  go_wp2_with fail
  go_ret3
  exact ⟨v, ts, x, q, rfl, own_base (by simp) HG2.out.2.2.1, hl, HX.out, by have := HQ.out; omega, low HG2.out.2.1⟩
end Go.Proofs.YtnpghhpcloljeabGreatDoor.dcv

namespace Go.Proofs.YtnpghhpcloljeabGreatDoor.dcv
open Go.RowKit
open reads base curs curd cure ty lg nt drl hs rowi
set_option linter.unusedVariables false
set_option linter.unusedSimpArgs false

/-- a list of ints of its own -/
def OwnPo (xs : List Int) (w : World) (e : Ending) (w' : World) : Prop := ∃ v : Value, e = .returned v ∧ w'.ownsRow w.heap.size 3 1 v xs.length (ints.intsV xs) ∧ Below w.heap.size w w'
theorem ints_src {w : World} {B n : Nat} {ad : Addr} {xs : List Int} (h : InAt w B (some ad) n xs) : ∀ j u, (ints.intsV xs)[j]? = some u → w.cell? (ad.add j) = some u := by
  intro j u hj
  unfold ints.intsV at hj
  rw [List.getElem?_map] at hj
  cases e : xs[j]? with
  | none => rw [e] at hj; simp at hj
  | some y =>
    rw [e] at hj
    obtain rfl : Value.int .i64 y = u := by simpa using hj
    obtain ⟨g, e1, -, h1⟩ := h.2 j y e
    injection e1 with e1
    subst e1
    rw [show (⟨g, 0, none⟩ : Addr).add j = ⟨g, j, none⟩ by unfold Addr.add; split <;> simp_all]
    exact h1
set_option maxHeartbeats 4000000 in
set_option maxRecDepth 100000 in
theorem own_any (A : Option Addr) (n c : Nat) (xs : List Int) (w : World) (hn : n ≤ 1000) (hx : Hid (InAt w w.heap.size A n xs)) :
    Calls Tryz.prog 83 #[.slice A n c] w (OwnPo xs w) := by
  obtain ⟨i0, hi, hz0, hz1, hz2⟩ := info_parts infoI
  have HL := Lib.hid hx.out.1
  have HRow := Lib.hid (show (w.alloc (.cells #[] 3)).ownsRow w.heap.size 3 1 (.slice (some ⟨w.heap.size, 0, none⟩) 0 0) 0 [] from World.ownsRow_made w #[] 0 (Nat.le_refl _) (by decide) (by simp))
  have HB0 := Lib.hid ((Below.refl w.heap.size w).alloc (Nat.le_refl _) (.cells #[] 3))
  cases A with
  | none =>
    have e : xs = [] := by
      cases xs with
      | nil => rfl
      | cons x r => obtain ⟨g, e, -⟩ := hx.out.2 0 x rfl; cases e
    subst e
    obtain rfl : 0 = n := HL.out
    clear hx HL
    go_enter Tryz.func83, Tryz.ntmps83
    go_wp2_with fail
    go_ret
    exact ⟨_, rfl, HRow.out, HB0.out⟩
  | some ad =>
    have HC := Lib.hid (ints_src (hx.out.below HB0.out))
    have HL2 := Lib.hid (show (ints.intsV xs).length = n by rw [ints.intsV_len]; exact HL.out)
    go_enter Tryz.func83, Tryz.ntmps83
    go_wp2_with (at_builtin; refine wpList_append_own _ rfl _ _ 27 rfl w.heap.size 3 i0 (.int .i64 0) 1 8 Tryz.underlying27 hi hz0 hz1 hz2 rfl (by decide) _ _ _ rfl HRow.out ad n c (ints.intsV xs) rfl (by rw [HL2.out]; omega) HC.out (fun u hu => by obtain ⟨y, -, rfl⟩ := List.mem_map.1 hu; rfl) (by unfold maxLen; omega) (by omega) (by simp) ?_; intro v' w3 hown' hgrow _)
    rw [Nat.zero_add, List.nil_append] at hown'
    have HB3 := Lib.hid (HB0.out.grown hgrow (by simp) (fun j ej => (HRow.out.lt j ej).1))
    have HO := Lib.hid hown'
    clear hown' hgrow
    go_wp2_with fail
    go_ret
    exact ⟨_, rfl, by rw [HL.out]; exact HO.out, HB3.out⟩
end Go.Proofs.YtnpghhpcloljeabGreatDoor.dcv

namespace Go.Proofs.YtnpghhpcloljeabGreatDoor.dcv
open Go.RowKit
open reads base curs curd cure ty lg nt drl hs rowi mt ml
set_option linter.unusedVariables false
set_option linter.unusedSimpArgs false

theorem results_tmp4 {fn : Func} {a b c d : Tmp} (h : fn.results = #[.tmp a, .tmp b, .tmp c, .tmp d]) (tmps : Array Value) (P : Program) (w : World) :
    (results fn tmps).run P w = .ok (.tuple #[tmps.getD a undef, tmps.getD b undef, tmps.getD c undef, tmps.getD d undef]) w := by
  simp [results, h]
theorem is_set (xs : List Int) (i : Nat) (y : Int) : (ints.intsV xs).set i (.int .i64 y) = ints.intsV (xs.set i y) := by simp [ints.intsV, List.map_set]
theorem cur_below {u u' : World} {B b k : Nat} {A : Option Addr} {n cap : Nat} {zs : List UInt8} (h : Cur u B b k A n cap zs) (hb : Below u.heap.size u u') : Cur u' B b k A n cap zs := by
  obtain ⟨c1, c2, c3, pos, sd, c4, c5, c6, c7⟩ := h
  have hl := c7.lt
  exact ⟨c1, c2.below (hb.mono (by omega)), c3, pos, sd, c4, c5, c6, c7.below hb hl⟩
/-- the cursor, drawn legs, ints of the draw's own from the block M on -/
def IB (w : World) (b k : Nat) (A : Option Addr) (n cap : Nat) (zs : List UInt8) (v : Value) (L : Nat) (ts : List Lg) (M : Nat) (v2 : Value) (N : Nat) (cs : List Int) (u : World) : Prop :=
  Cur u w.heap.size b k A n cap zs ∧ Below w.heap.size w u ∧ (w.heap.size ≤ b ∧ b < M ∧ M ≤ u.heap.size) ∧ (∀ g, v.ownBlock = some g → b < g ∧ g < M) ∧ u.ownsRow w.heap.size 87 5 v L (flatLg ts) ∧ u.ownsRow M 3 1 v2 N (ints.intsV cs) ∧ cs.length = N
section
variable {w u u' : World} {b k k' : Nat} {A : Option Addr} {n cap : Nat} {zs : List UInt8} {v v2 v3 : Value} {L M N : Nat} {ts : List Lg} {cs : List Int}
theorem IB.step (h : IB w b k A n cap zs v L ts M v2 N cs u) (hC : Cur u' w.heap.size b k' A n cap zs) (hg : u.grownBy u' (some b)) : IB w b k' A n cap zs v L ts M v2 N cs u' := by
  obtain ⟨h1, h2, ⟨h3, h4, h5⟩, h6, h7, h8, h9⟩ := h
  refine ⟨hC, h2.grown hg h2.size (fun g e => by injection e with e; omega), ⟨h3, h4, Nat.le_trans h5 hg.size⟩, h6, h7.kept hg ?_, own_step h8 hg h4, h9⟩
  cases q : v.ownBlock with
  | none => exact .inl rfl
  | some g => exact .inr (fun e => by have := (h6 g q).1; injection e with e; omega)
theorem IB.alloc (h : IB w b k A n cap zs v L ts M v2 N cs u) (o : Obj) : IB w b k A n cap zs v L ts M v2 N cs (u.alloc o) := by
  obtain ⟨h1, h2, ⟨h3, h4, h5⟩, h6, h7, h8, h9⟩ := h
  have q : (u.alloc o).heap.size = u.heap.size + 1 := by simp
  exact ⟨cur_alloc h1 h2.size o, h2.alloc h2.size _, ⟨h3, h4, by omega⟩, h6, h7.alloc o, h8.alloc o, h9⟩
theorem IB.new (h : IB w b k A n cap zs v L ts M v2 N cs u) {v3 : Value} {N' : Nat} {ds : List Int} (o : Obj) (ho : (u.alloc o).ownsRow M 3 1 v3 N' (ints.intsV ds)) (hl : ds.length = N') : IB w b k A n cap zs v L ts M v3 N' ds (u.alloc o) := by
  obtain ⟨h1, h2, h3, h4, h5, -, -⟩ := h.alloc o
  exact ⟨h1, h2, h3, h4, h5, ho, hl⟩
theorem IB.put {g c i : Nat} (h : IB w b k A n cap zs v L ts M (.slice (some ⟨g, 0, none⟩) N c) N cs u) (y : Int) : IB w b k A n cap zs v L ts M (.slice (some ⟨g, 0, none⟩) N c) N (cs.set i y) (u.setCell ⟨g, i, none⟩ (.int .i64 y)) := by
  obtain ⟨h1, h2, ⟨h3, h4, h5⟩, h6, h7, h8, h9⟩ := h
  have hg := (h8.lt g rfl)
  obtain ⟨c1, c2, c3, pos, sd, c4, c5, c6, c7⟩ := h1
  have hs := h8.stored i (.int .i64 y)
  refine ⟨⟨c1, c2.setCell (p := ⟨g, i, none⟩) (by show w.heap.size ≤ g; omega) _, c3, pos, sd, c4, c5, c6, c7.far (p := ⟨g, i, none⟩) (by show b ≠ g; omega) _⟩, h2.setCell (p := ⟨g, i, none⟩) (by show w.heap.size ≤ g; omega) _, ⟨h3, h4, Nat.le_trans h5 hs.2.size⟩, h6, h7.kept hs.2 ?_, by rw [← is_set]; exact hs.1, by rw [List.length_set]; exact h9⟩
  cases q : v.ownBlock with
  | none => exact .inl rfl
  | some g' => exact .inr (fun e => by have := (h6 g' q).2; injection e with e; omega)
theorem IB.app (h : IB w b k A n cap zs v L ts M v2 N cs u) {y : Int} {N' : Nat} (hN : N' = N + 1) (ho : u'.ownsRow M 3 1 v3 N' (ints.intsV cs ++ [.int .i64 y])) (hg : u.grownBy u' v2.ownBlock) : IB w b k A n cap zs v L ts M v3 N' (cs ++ [y]) u' := by
  subst hN
  obtain ⟨h1, h2, ⟨h3, h4, h5⟩, h6, h7, h8, h9⟩ := h
  obtain ⟨c1, c2, c3, pos, sd, c4, c5, c6, c7⟩ := h1
  have hlo : ∀ g, v2.ownBlock = some g → M ≤ g := fun g e => (h8.lt g e).1
  have hsz := h2.size
  refine ⟨⟨c1, c2.grown hg (by omega) (fun g e => by have := hlo g e; omega), c3, pos, sd, c4, c5, c6, c7.grown hg (fun e => by have := hlo _ e.symm; omega)⟩, h2.grown hg h2.size (fun g e => by have := hlo g e; omega), ⟨h3, h4, Nat.le_trans h5 hg.size⟩, h6, h7.kept hg ?_, by unfold ints.intsV at ho ⊢; rw [List.map_append]; exact ho, by rw [List.length_append, h9]; rfl⟩
  cases q : v.ownBlock with
  | none => exact .inl rfl
  | some g => exact .inr (fun e => by have := (h6 g q).2; have := hlo g e.symm; omega)
theorem ib_mk {v5 : Value} {M' : Nat} (hC : Cur u w.heap.size b k A n cap zs) (hw : Below w.heap.size w u) (hb : w.heap.size ≤ b ∧ b < u.heap.size) (ho : u.ownsRow w.heap.size 87 5 v L (flatLg ts)) (hlo : ∀ g, v.ownBlock = some g → b < g) (h2 : Below u.heap.size u u') (hi : u'.ownsRow M' 3 1 v5 N (ints.intsV cs)) (hM : u.heap.size ≤ M') (hl : cs.length = N) : IB w b k A n cap zs v L ts u.heap.size v5 N cs u' :=
  ⟨cur_below hC h2, hw.trans (h2.mono hw.size), ⟨hb.1, hb.2, h2.size⟩, fun g e => ⟨hlo g e, (ho.lt g e).2⟩, row_below ho h2, own_base hM hi, hl⟩
end
theorem ax_l {A : Option Addr} {n cap : Nat} {ts : List Lg} {q d : Int} {I : List Int} {G : Bool} {w : World} (h0 : Hid (axL ts q = I)) (h1 : Hid (axD ts q = d)) (h2 : Hid (axOk ts q = G)) (hn : n ≤ 2000000) (hts : Hid (LgAt w w.heap.size A n ts)) : Calls Tryz.prog 10 #[.slice A n cap, .int .i64 q] w (A3Post I d G w) := by
  rw [← h0.out, ← h1.out, ← h2.out]; exact ml.adjustAxis_model A n cap ts q w hn hts
/-- legs, an axis, coordinates, a denominator -/
def CBPo (w : World) (e : Ending) (w' : World) : Prop := ∃ (v v2 : Value) (ts : List Lg) (x d : Int) (cs : List Int), e = .returned (.tuple #[v, .int .i64 x, v2, .int .i64 d]) ∧ w'.ownsRow w.heap.size 87 5 v ts.length (flatLg ts) ∧ ts.length ≤ 13 ∧ (-1 ≤ x ∧ x ≤ 3) ∧ w'.ownsRow w.heap.size 3 1 v2 cs.length (ints.intsV cs) ∧ cs.length ≤ 9 ∧ Below w.heap.size w w'
theorem cb_end {w u : World} {b k M N L : Nat} {A : Option Addr} {n cap : Nat} {zs : List UInt8} {v v2 : Value} {ts : List Lg} {cs : List Int} {x d : Int} (h : IB w b k A n cap zs v L ts M v2 N cs u) (hL : ts.length = L) (hl : L ≤ 13) (hx : -1 ≤ x ∧ x ≤ 3) (hN : N ≤ 9) : CBPo w (.returned (.tuple #[v, .int .i64 x, v2, .int .i64 d])) u := by
  obtain ⟨h1, h2, ⟨h3, h4, h5⟩, h6, h7, h8, h9⟩ := h
  subst hL h9
  exact ⟨v, v2, ts, x, d, cs, rfl, h7, hl, hx, own_base (by omega) h8, hN, h2⟩
set_option maxHeartbeats 16000000 in
set_option maxRecDepth 100000 in
theorem isBalanced_draw (A : Option Addr) (n cap : Nat) (zs : List UInt8) (w : World) (h : Hid (curs.Code w A n zs)) : Calls Tryz.prog 21 #[.slice A n cap] w (CBPo w) := by
  obtain ⟨i0, hi, hz0, hz1, hz2⟩ := info_parts infoI
  have HC0 := Lib.hid (cur_new cap h.out)
  go_enter Tryz.func21, Tryz.ntmps21
  go_wp2_with fail
  refine (closing_draw w.heap.size w.heap.size 0 A n cap zs _ (by omega) HC0).mono ?_
  rintro e w1 ⟨v, ts, q, rfl, hl, hq, hG⟩
  have HG := Lib.hid hG
  clear hG HC0 h hq
  go_wp2_with fail
  refine (axis_any w.heap.size w.heap.size (0 + 900) A n cap zs _ (by omega) (Lib.hid HG.out.1)).mono ?_
  rintro e w2 ⟨x, hx, rfl, hC, hg⟩
  have HG2 := Lib.hid (HG.out.step hC hg)
  have HX := Lib.hid hx
  clear hC hg HG hx
  obtain ⟨L, HL⟩ : ∃ L, Hid (ts.length = L) := ⟨_, Lib.hid rfl⟩
  have hrow := HG2.out.2.2.1
  rw [HL.out] at hrow hl
  obtain ⟨A1, c1, rfl⟩ := base.row_slice hrow
  have HO1 := Lib.hid (show w2.ownsRow w.heap.size 87 5 (.slice A1 L c1) L (flatLg ts) from own_base (by simp) hrow)
  have HLO := Lib.hid (show ∀ g, (Value.slice A1 L c1).ownBlock = some g → w.heap.size < g from fun g e => by have := (hrow.lt g e).1; simp at this; omega)
  have HCU := Lib.hid HG2.out.1
  have HBW := Lib.hid (low HG2.out.2.1)
  have hbs : w.heap.size < w2.heap.size := cur_lt HCU.out
  clear hrow HG2
  obtain ⟨cs, HCS⟩ : ∃ cs, Hid (axL ts x = cs) := ⟨_, Lib.hid rfl⟩
  obtain ⟨d, HD⟩ : ∃ d, Hid (axD ts x = d) := ⟨_, Lib.hid rfl⟩
  obtain ⟨ok, HOK⟩ : ∃ ok, Hid (axOk ts x = ok) := ⟨_, Lib.hid rfl⟩
  obtain ⟨N, HN⟩ : ∃ N, Hid (cs.length = N) := ⟨_, Lib.hid rfl⟩
  have hN8 : N ≤ 8 := by rw [← HN.out, ← HCS.out]; exact axL_len ts x
  have hNok : ok = true → N = 8 := fun e => by rw [← HN.out, ← HCS.out]; unfold axL; rw [HOK.out, e]; exact xcN_len ts x
  have HNOK := Lib.hid hNok
  clear hNok
  go_wp2_with fail
  refine (ax_l HCS HD HOK (by omega) (Lib.hid (own_Lg HL.out HO1.out))).mono ?_
  rintro e w3 ⟨v3, rfl, ho3, b3⟩
  rw [HN.out] at ho3
  obtain ⟨A3, c3, rfl⟩ := base.row_slice ho3
  have HO3 := Lib.hid ho3
  have HB3 := Lib.hid b3
  clear ho3 b3
  go_wp2_with fail
  refine (own_any A3 N c3 cs _ (by omega) (Lib.hid (own_In HN.out HO3.out))).mono ?_
  rintro e w4 ⟨v4, rfl, ho4, b4⟩
  rw [HN.out] at ho4
  obtain ⟨A4, c4, rfl⟩ := base.row_slice ho4
  have HI := Lib.hid (ib_mk HCU.out HBW.out ⟨Nat.le_refl _, hbs⟩ HO1.out HLO.out (HB3.out.trans (b4.mono HB3.out.size)) ho4 HB3.out.size HN.out)
  obtain ⟨M, HM⟩ : ∃ M, Hid (w2.heap.size = M) := ⟨_, Lib.hid rfl⟩
  rw [HM.out] at HI
  clear ho4 b4 HB3 HO3 HO1 HLO HCU HBW
  go_upto_if 34 with fail
  go_cut [10, 11] (fun p r wx => ∃ (g c5 : Nat) (ds : List Int) (dd : Int), p = .slice (some ⟨g, 0, none⟩) 8 c5 ∧ r = .int .i64 dd ∧ IB w w.heap.size (0 + 900 + 1) A n cap zs (.slice A1 L c1) L ts M (.slice (some ⟨g, 0, none⟩) 8 c5) 8 ds wx)
  case first =>
    cases ok
    · have HZ := Lib.hid (show IB w w.heap.size (0 + 900 + 1) A n cap zs (.slice A1 L c1) L ts M (.slice (some ⟨w4.heap.size, 0, none⟩) 8 8) 8 [0, 0, 0, 0, 0, 0, 0, 0] (w4.alloc (.cells (cs1 8 (fun _ => 0)) 3)) from HI.out.new _ (World.ownsRow_lit w4 (cs1 8 (fun _ => 0)) 8 HI.out.2.2.1.2.2 (by decide) (cs1_size 8 _)) rfl)
      have hmk : ∀ W : World, (Instr.makeSlice 27 (.int .i64 8) (.int .i64 8)).run Tryz.prog W = .ok (.slice (some ⟨W.heap.size, 0, none⟩) 8 8) (W.alloc (.cells (cs1 8 (fun _ => 0)) 3)) := fun W => by
        have h := run_make_rowN (P := Tryz.prog) 27 3 i0 _ Tryz.underlying27 hi hz0 .i64 .i64 8 8 (Nat.le_refl _) (by rw [hz2]; omega) (by omega) W
        rw [hz1] at h
        rw [← cs1_zero]
        exact h
      go_wp2_with fail
      go_meet
      case rel => exact ⟨_, _, _, _, rfl, rfl, HZ.out⟩
    · obtain rfl := HNOK.out rfl
      obtain ⟨g, cp, hv, -, hg⟩ := HI.out.2.2.2.2.2.1.form (by decide)
      injection hv with hA _ hc
      subst hA hc
      clear hg
      go_wp2_with fail
      go_meet
      case rel => exact ⟨_, _, _, _, rfl, rfl, HI.out⟩
  case rest =>
    obtain ⟨g, c5, ds, dd, rfl, rfl, hI⟩ := hcut
    have HJ := Lib.hid hI
    clear hI HI HNOK HN HCS HD HOK hN8
    go_wp2_with fail
    refine (pick_any w.heap.size w.heap.size (0 + 900 + 1) A n cap zs _ 8 (by omega) HJ.out.1 (by decide) (by decide)).mono ?_
    rintro e w5 ⟨r, rfl, hr, hC, hg⟩
    have HK := Lib.hid (HJ.out.step hC hg)
    clear hC hg HJ
    have hr5 : r = 0 ∨ r = 1 ∨ r = 2 ∨ r = 3 ∨ 4 ≤ r := by omega
    rcases hr5 with rfl | rfl | rfl | rfl | hr4
    · go_wp2_with fail
      refine (pick_any w.heap.size w.heap.size (0 + 900 + 1 + 1) A n cap zs _ 8 (by omega) HK.out.1 (by decide) (by decide)).mono ?_
      rintro e w6 ⟨r2, rfl, hr2, hC, hg⟩
      have HK2 := Lib.hid (HK.out.step hC hg)
      clear hC hg HK
      go_wp2_with fail
      refine (among_new w.heap.size w.heap.size (0 + 900 + 1 + 1 + 1) A n cap zs _ 4 _ [0, 1, 5, 100000001] (by omega) HK2.out.1 rfl (by decide) (by decide)).mono ?_
      rintro e w7 ⟨y, -, rfl, hC, hg⟩
      have HK3 := Lib.hid (HK2.out.step hC hg)
      clear hC hg HK2
      have hr8 : r2 < 8 := by omega
      have hr8i : (r2 : Int) < 8 := by omega
      have hr0 : (0 : Int) ≤ (r2 : Int) := by omega
      have hfz := HK3.out.2.2.2.2.2.1.frozenAt r2
      have hgl := (HK3.out.2.2.2.2.2.1.lt g rfl).2
      obtain ⟨y0, hy0⟩ := at_lt HK3.out.2.2.2.2.2.2 hr8
      have hce : w7.cell? ⟨g, r2, none⟩ = some (.int .i64 y0) := by rw [HK3.out.2.2.2.2.2.1.cellAt r2 (by omega)]; simp [ints.intsV, hy0]
      clear hy0
      go_wp2_with fail
      (try simp only [Exit.inBlock, Exit.then])
      refine bodyPost_ret (results_tmp4 rfl _ _ _) rfl ?_
      exact cb_end (HK3.out.put y) HL.out hl HX.out (by omega)
    · go_wp2_with fail
      refine (among_new w.heap.size w.heap.size (0 + 900 + 1 + 1) A n cap zs _ 5 _ [0, 1, 2, 100000, 100001] (by omega) HK.out.1 rfl (by decide) (by decide)).mono ?_
      rintro e w6 ⟨y, -, rfl, hC, hg⟩
      have HK3 := Lib.hid (HK.out.step hC hg)
      clear hC hg HK
      go_wp2_with fail
      (try simp only [Exit.inBlock, Exit.then])
      refine bodyPost_ret (results_tmp4 rfl _ _ _) rfl ?_
      exact cb_end HK3.out HL.out hl HX.out (by omega)
    · go_wp2_with (at_builtin; refine wpList_append_own _ rfl _ _ 27 rfl M 3 i0 (.int .i64 0) 1 8 Tryz.underlying27 hi hz0 hz1 hz2 rfl (by decide) _ _ _ rfl (HK.out.2.2.2.2.2.1.alloc _) ⟨_, 0, none⟩ 1 1 [.int .i64 0] rfl rfl (World.news_of_block (alloc_at rfl)) (fun u hu => by simp at hu; subst hu; rfl) (by unfold maxLen; omega) (by omega) (by have := HK.out.2.2.1.2.2; simp; omega) ?_; intro v' w9 hown' hgrow _; obtain ⟨A9, c9, rfl⟩ := row_slice hown')
      (try simp only [Exit.inBlock, Exit.then])
      refine bodyPost_ret (results_tmp4 rfl _ _ _) rfl ?_
      exact cb_end (IB.app (HK.out.alloc _) (N' := 9) rfl hown' hgrow) HL.out hl HX.out (by omega)
    · go_wp2_with fail
      go_loopw [13] (fun i wr => ∃ (k : Nat) (es : List Int), k ≤ 8 ∧ i = .int .i64 (k : Nat) ∧ IB w w.heap.size (0 + 900 + 1 + 1) A n cap zs (.slice A1 L c1) L ts M (.slice (some ⟨g, 0, none⟩) 8 c5) 8 es wr) (fun i _ => 8 - (intOf i).toNat)
      case atStart => exact ⟨0, ds, by omega, rfl, HK.out⟩
      case round =>
        clear HK
        obtain ⟨k, es, hk, rfl, hI⟩ := hrel
        have HK := Lib.hid hI
        clear hI
        have hk0 : (0 : Int) ≤ (k : Int) := by omega
        by_cases hlt : k < 8
        · have hki : (k : Int) < 8 := by omega
          have hkd : decide (k < 8) = true := by simpa using hlt
          obtain ⟨y, hy⟩ := at_lt HK.out.2.2.2.2.2.2 hlt
          have hce : wr.cell? ⟨g, k, none⟩ = some (.int .i64 y) := by rw [HK.out.2.2.2.2.2.1.cellAt k (by omega)]; simp [ints.intsV, hy]
          have hfz := HK.out.2.2.2.2.2.1.frozenAt k
          have hgl := (HK.out.2.2.2.2.2.1.lt g rfl).2
          clear hy
          go_wp2_with fail
          go_roundw
          case rel => exact ⟨k + 1, _, by omega, by go_num, HK.out.put _⟩
          case measure => simp [intOf]; omega
        · obtain rfl : k = 8 := by omega
          have hkd : decide (((8 : Nat) : Int) < 8) = false := by decide
          go_wp2_with fail
          (try simp only [Exit.inBlock, Exit.then])
          refine bodyPost_ret (results_tmp4 rfl _ _ _) rfl ?_
          exact cb_end HK.out HL.out hl HX.out (by omega)
    · have q0 : ((r : Int) == 0) = false := by simp; omega
      have q1 : ((r : Int) == 1) = false := by simp; omega
      have q2 : ((r : Int) == 2) = false := by simp; omega
      have q3 : ((r : Int) == 3) = false := by simp; omega
      have p0 : (r == 0) = false := by simp; omega
      have p1 : (r == 1) = false := by simp; omega
      have p2 : (r == 2) = false := by simp; omega
      have p3 : (r == 3) = false := by simp; omega
      go_wp2_with fail
      (try simp only [Exit.inBlock, Exit.then])
      refine bodyPost_ret (results_tmp4 rfl _ _ _) rfl ?_
      exact cb_end HK.out HL.out hl HX.out (by omega)
end Go.Proofs.YtnpghhpcloljeabGreatDoor.dcv
