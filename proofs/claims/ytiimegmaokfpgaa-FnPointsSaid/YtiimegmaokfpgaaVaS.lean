/-
  The drawn points, days and bearings.
  Conditions: the code has at most 65536 bytes.
-/
import Derived.Test.YtiimegmaokfpgaaCurE
import Derived.Test.YtiimegmaokfpgaaVaQ
import Derived.Deep.DeepCutAuto
import Derived.Deep.RegionHeld3
import Derived.Laws.OwnMore
import Derived.OwnWalk
import Derived.Deep.AppendLies
namespace Go.Proofs.Ytiimegmaokfpgaa.drp
open Go.RowKit
open reads base curs curd cure ty va
set_option linter.unusedVariables false
set_option linter.unusedSimpArgs false

theorem grown_refl (u : World) (r : Option Nat) : u.grownBy u r := ⟨rfl, rfl, rfl, Nat.le_refl _, fun _ _ _ => rfl⟩
theorem flatDp_set (t : Dp) : ∀ (ts : List Dp) (i : Nat), i < ts.length → ((flatDp ts).set (i * 2) (.int .i64 t.day)).set (i * 2 + 1) (.int .i64 t.tn) = flatDp (ts.set i t)
  | [], i, h => by simp at h
  | d :: ts, 0, h => by simp [flatDp]
  | d :: ts, i + 1, h => by
    have ih := flatDp_set t ts i (by simpa using h)
    have e : flatDp (d :: ts) = .int .i64 d.day :: .int .i64 d.tn :: flatDp ts := rfl
    have e2 : flatDp ((d :: ts).set (i + 1) t) = .int .i64 d.day :: .int .i64 d.tn :: flatDp (ts.set i t) := rfl
    rw [e2, ← ih, e, show (i + 1) * 2 = i * 2 + 1 + 1 by omega, show i * 2 + 1 + 1 + 1 = (i * 2 + 1) + 1 + 1 by omega]
    simp only [List.set_cons_succ]
/-- a list cut to nothing -/
theorem own_cut0 {w : World} {base size L c g : Nat} {e : TypeId} {xs : List Value} (h : w.ownsRow base e size (.slice (some ⟨g, 0, none⟩) L c) L xs) : w.ownsRow base e size (.slice (some ⟨g, 0, none⟩) 0 c) 0 [] := by
  refine ⟨by simp, .inr ?_⟩
  rcases h.2 with ⟨e1, -⟩ | ⟨g', cp, cur, e1, h1, h2, h3, h4, h5, h6⟩
  · cases e1
  · injection e1 with a b c'
    injection a with a
    injection a with a
    subst a c'
    exact ⟨g, c, cur, rfl, h1, h2, Nat.zero_le _, h4, h5, by simp⟩
/-- a list of two points or more is no box of one -/
theorem ne_box {u : World} {base X L : Nat} {v : Value} {xs : List Value} {cs : Array Value} (ho : u.ownsRow base 42 2 v L xs) (hb : Blk u X 42 cs) (hc : cs.size = 2) (hL : 2 ≤ L) : ¬ v.ownBlock = some X := by
  rcases ho.2 with ⟨rfl, -⟩ | ⟨g, cp, cur, rfl, h1, h2, h3, h4, h5, h6⟩
  · simp [Value.ownBlock]
  · intro e
    obtain rfl : g = X := by simpa [Value.ownBlock] using e
    unfold Blk at hb
    rw [hb] at h2
    injection h2 with h2
    injection h2 with h2
    subst h2
    omega
/-- a list in the making: the cursor, the list's own block -/
def GS (w : World) (B b k : Nat) (A : Option Addr) (n cap : Nat) (zs : List UInt8) (v : Value) (L : Nat) (ts : List Dp) (u : World) : Prop :=
  Cur u B b k A n cap zs ∧ w.grownBy u (some b) ∧ u.ownsRow w.heap.size 42 2 v L (flatDp ts) ∧ ts.length = L ∧ b < w.heap.size ∧ B ≤ w.heap.size
/-- and a point in a box beside it -/
def GB (w : World) (B b k : Nat) (A : Option Addr) (n cap : Nat) (zs : List UInt8) (v : Value) (L : Nat) (ts : List Dp) (X : Nat) (t : Dp) (u : World) : Prop :=
  GS w B b k A n cap zs v L ts u ∧ Blk u X 42 #[.int .i64 t.day, .int .i64 t.tn] ∧ w.heap.size ≤ X ∧ ¬ v.ownBlock = some X
section
variable {w u u' : World} {B b k k' : Nat} {A : Option Addr} {n cap L X : Nat} {zs : List UInt8} {v v' : Value} {ts : List Dp} {t : Dp}
theorem GS.step (h : GS w B b k A n cap zs v L ts u) (hC : Cur u' B b k' A n cap zs) (hg : u.grownBy u' (some b)) : GS w B b k' A n cap zs v L ts u' :=
  ⟨hC, h.2.1.trans hg, own_step h.2.2.1 hg h.2.2.2.2.1, h.2.2.2⟩
theorem GS.alloc (h : GS w B b k A n cap zs v L ts u) (o : Obj) : GS w B b k A n cap zs v L ts (u.alloc o) :=
  ⟨cur_alloc h.1 (by have := h.2.1.size; have := h.2.2.2.2.2; omega) o, h.2.1.trans (World.grownBy_alloc u o (some b)), h.2.2.1.alloc o, h.2.2.2⟩
theorem GS.more (h : GS w B b k A n cap zs v L ts u) (hk : k ≤ k') : GS w B b k' A n cap zs v L ts u := ⟨cur_more h.1 k' hk, h.2⟩
theorem GS.app (h : GS w B b k A n cap zs v L ts u) (ho : u'.ownsRow w.heap.size 42 2 v' (L + 1) (flatDp ts ++ [.int .i64 t.day, .int .i64 t.tn])) (hg : u.grownBy u' v.ownBlock) : GS w B b k A n cap zs v' (L + 1) (ts ++ [t]) u' := by
  obtain ⟨h1, h2, h3, h4, h5, h6⟩ := h
  have hlo : ∀ g, v.ownBlock = some g → w.heap.size ≤ g := fun g e => (h3.lt g e).1
  obtain ⟨c1, c2, c3, pos, sd, c4, c5, c6, c7⟩ := h1
  have hs := h2.size
  refine ⟨⟨c1, c2.grown hg (by omega) (fun g e => by have := hlo g e; omega), c3, pos, sd, c4, c5, c6, c7.grown hg (fun e => by have := hlo _ e.symm; omega)⟩,
    ⟨hg.os.trans h2.os, hg.tape.trans h2.tape, hg.output.trans h2.output, Nat.le_trans h2.size hg.size, fun i hi hne => (hg.block i (by omega) (fun e => by have := hlo _ e.symm; omega)).trans (h2.block i hi hne)⟩, ?_, ?_, h5, h6⟩
  · rw [flatDp_app]; exact ho
  · rw [List.length_append, List.length_singleton, h4]
theorem GS.put {g c i : Nat} (h : GS w B b k A n cap zs (.slice (some ⟨g, 0, none⟩) L c) L ts u) (hi : i < L) (t : Dp) : GS w B b k A n cap zs (.slice (some ⟨g, 0, none⟩) L c) L (ts.set i t) ((u.setCell ⟨g, i * 2, none⟩ (.int .i64 t.day)).setCell ⟨g, i * 2 + 1, none⟩ (.int .i64 t.tn)) := by
  obtain ⟨h1, h2, h3, h4, h5, h6⟩ := h
  have hg := (h3.lt g rfl).1
  have hne : b ≠ g := by omega
  have hB : B ≤ g := by omega
  refine ⟨cur_set (cur_set h1 hne hB _) hne hB _, cure.grown_set (cure.grown_set h2 hg _) hg _, ?_, by rw [List.length_set, h4], h5, h6⟩
  rw [← flatDp_set t ts i (by omega)]
  exact ((h3.stored (i * 2) _).1.stored (i * 2 + 1) _).1
theorem GB.step (h : GB w B b k A n cap zs v L ts X t u) (hC : Cur u' B b k' A n cap zs) (hg : u.grownBy u' (some b)) : GB w B b k' A n cap zs v L ts X t u' :=
  ⟨h.1.step hC hg, h.2.1.grown hg (by intro e; injection e with e; have := h.1.2.2.2.2.1; have := h.2.2.1; omega), h.2.2⟩
theorem GB.alloc (h : GB w B b k A n cap zs v L ts X t u) (o : Obj) : GB w B b k A n cap zs v L ts X t (u.alloc o) := ⟨h.1.alloc o, h.2.1.alloc o, h.2.2⟩
theorem GB.more (h : GB w B b k A n cap zs v L ts X t u) (hk : k ≤ k') : GB w B b k' A n cap zs v L ts X t u := ⟨h.1.more hk, h.2⟩
theorem GB.app {x : Dp} (h : GB w B b k A n cap zs v L ts X t u) (hL : 1 ≤ L) (ho : u'.ownsRow w.heap.size 42 2 v' (L + 1) (flatDp ts ++ [.int .i64 x.day, .int .i64 x.tn])) (hg : u.grownBy u' v.ownBlock) : GB w B b k A n cap zs v' (L + 1) (ts ++ [x]) X t u' := by
  have hb := h.2.1.grown hg (fun e => h.2.2.2 e.symm)
  exact ⟨h.1.app (t := x) ho hg, hb, h.2.2.1, ne_box ho hb rfl (by omega)⟩
theorem GB.put (h : GB w B b k A n cap zs v L ts X t u) (j : Nat) (y : Value) (t' : Dp) (e : (#[.int .i64 t.day, .int .i64 t.tn] : Array Value).setIfInBounds j y = #[.int .i64 t'.day, .int .i64 t'.tn]) : GB w B b k A n cap zs v L ts X t' (u.setCell ⟨X, j, none⟩ y) := by
  obtain ⟨⟨h1, h2, h3, h4, h5, h6⟩, h7, h8, h9⟩ := h
  refine ⟨⟨cur_set h1 (by show b ≠ X; omega) (by show B ≤ X; omega) _, grown_set h2 h8 _, ?_, h4, h5, h6⟩, ?_, h8, h9⟩
  · exact h3.kept (row := some X) (grown_cell (grown_refl _ _) _ _) (.inr (fun q => h9 (by simpa using q)))
  · rw [← e]; exact h7.set_ j _
theorem GB.cells (h : GB w B b k A n cap zs v L ts X t u) : (u.cell? ⟨X, 0, none⟩ = some (.int .i64 t.day) ∧ u.cell? ⟨X, 1, none⟩ = some (.int .i64 t.tn)) ∧ (u.frozen? ⟨X, 0, none⟩ = false ∧ u.frozen? ⟨X, 1, none⟩ = false) ∧ X < u.heap.size := ⟨⟨h.2.1.cell 0, h.2.1.cell 1⟩, ⟨h.2.1.frozen 0, h.2.1.frozen 1⟩, h.2.1.lt⟩
/-- the list's cells at an index -/
theorem GS.row_at {g c i : Nat} (h : GS w B b k A n cap zs (.slice (some ⟨g, 0, none⟩) L c) L ts u) (hi : i < L) : ∃ x : Dp, u.cell? ⟨g, i * 2, none⟩ = some (.int .i64 x.day) ∧ u.cell? ⟨g, i * 2 + 1, none⟩ = some (.int .i64 x.tn) ∧ u.frozen? ⟨g, i * 2, none⟩ = false ∧ u.frozen? ⟨g, i * 2 + 1, none⟩ = false ∧ g < u.heap.size := by
  obtain ⟨x, hx⟩ := at_lt h.2.2.2.1 hi
  obtain ⟨f0, f1⟩ := flatDp_at ts i x hx
  exact ⟨x, (h.2.2.1.cellAt (i * 2) (by omega)).trans f0, (h.2.2.1.cellAt (i * 2 + 1) (by omega)).trans f1, h.2.2.1.frozenAt _, h.2.2.1.frozenAt _, (h.2.2.1.lt g rfl).2⟩
end
def lenV : Value → Nat
  | .slice _ n _ => n
  | _ => 0
/-- drawn points -/
def GPo (B b k : Nat) (A : Option Addr) (n cap : Nat) (zs : List UInt8) (w : World) (e : Ending) (w' : World) : Prop :=
  ∃ (v : Value) (L : Nat) (ts : List Dp), e = .returned v ∧ L ≤ 9 ∧ GS w B b k A n cap zs v L ts w'
set_option maxHeartbeats 16000000 in
set_option maxRecDepth 100000 in
theorem points_any (B b k : Nat) (A : Option Addr) (n cap : Nat) (zs : List UInt8) (w : World) (hk : k ≤ 40000) (h : Hid (Cur w B b k A n cap zs)) :
    Calls Try.prog 52 #[.pointer (some ⟨b, 0, none⟩)] w (GPo B b (k + 80) A n cap zs w) := by
  obtain ⟨i0, hi, hz0, hz1, hz2⟩ := info_parts infoDp
  have hbl := cur_lt h.out
  have hBB : B ≤ w.heap.size := by have := h.out.1; omega
  obtain ⟨W0, HW0⟩ : ∃ W, Hid (w.alloc (.cells #[] 42) = W) := ⟨_, Lib.hid rfl⟩
  have HS0 := Lib.hid (show GS w B b k A n cap zs (.slice (some ⟨w.heap.size, 0, none⟩) 0 0) 0 [] W0 by
    rw [← HW0.out]
    exact ⟨cur_alloc h.out hBB _, World.grownBy_alloc w _ (some b), World.ownsRow_made w #[] 0 (Nat.le_refl _) (by decide) (by simp), rfl, hbl, hBB⟩)
  go_enter Try.func52, Try.ntmps52
  go_upto_region 2 with fail
  rw [HW0.out]
  clear HW0
  go_wp2_with fail
  refine (among_new B b k A n cap zs _ 3 _ [0, 100, 500] (by omega) HS0.out.1 rfl (by decide) (by decide)).mono ?_
  rintro e w1 ⟨d0, hd, rfl, hC, hg⟩
  have hdb : 0 ≤ d0 ∧ d0 ≤ 500 := by simp at hd; omega
  have HS1 := Lib.hid (HS0.out.step hC hg)
  clear hC hg HS0 hd h
  go_wp2_with fail
  refine (pick_any B b (k + 1) A n cap zs _ 5 (by omega) HS1.out.1 (by decide) (by decide)).mono ?_
  rintro e w2 ⟨m0, rfl, hm, hC, hg⟩
  have hm0 : m0 ≤ 4 := by omega
  have HS2 := Lib.hid (HS1.out.step hC hg)
  clear hC hg HS1 hm
  obtain ⟨m, hmm⟩ : ∃ m, m = m0 + 1 := ⟨_, rfl⟩
  have hmi : 1 + (m0 : Int) = (m : Int) := by omega
  have hm5 : m ≤ 5 := by omega
  have hm1 : 1 ≤ m := by omega
  clear hmm hm0
  go_wp2_with fail
  go_loopw [3, 4, 5] (fun v dv i wr => ∃ (j q L : Nat) (d : Int) (ts : List Dp), j + q = m ∧ i = .int .i64 q ∧ dv = .int .i64 d ∧ 0 ≤ d ∧ d ≤ 500 + 100 * (j : Int) ∧ L = j ∧ GS w B b (k + 2 + 10 * j) A n cap zs v L ts wr) (fun _ _ i _ => (intOf i).toNat)
  case atStart => exact ⟨0, m, 0, d0, [], by omega, by first | rfl | rw [hmi], rfl, hdb.1, by omega, rfl, HS2.out⟩
  case round =>
    clear hdb hmi
    obtain ⟨j, q, L, d, ts, hjq, rfl, rfl, hd0, hd1, hLj, hS⟩ := hrel
    obtain ⟨v, hv⟩ : ∃ v, u3 = v := ⟨_, rfl⟩
    subst hv
    obtain ⟨A', c, rfl⟩ := row_slice hS.2.2.1
    have HLJ := Lib.hid hLj
    have HS := Lib.hid hS
    have hLb : L ≤ 5 := by omega
    have hjb : j ≤ 5 := by omega
    clear hS HS2 hLj
    by_cases hq : 0 < q
    · have hqd : decide ((0 : Int) < (q : Int)) = true := by simp; omega
      have hqd2 : decide (0 < q) = true := by simp; omega
      have hLb4 : L ≤ 4 := by have := HLJ.out; omega
      go_wp2_with fail
      refine (among_new B b (k + 2 + 10 * j) A n cap zs _ 8 _ [-900, -15, 0, 0, 10, 10, 27, 900] (by omega) HS.out.1 rfl (by decide) (by decide)).mono ?_
      rintro e w4 ⟨tn, htn, rfl, hC, hg⟩
      have HS4 := Lib.hid (HS.out.step hC hg)
      have hs4 := HS4.out.2.1.size
      have HRW := Lib.hid HS4.out.2.2.1
      clear hC hg HS htn
      go_wp2_with (at_builtin; refine wpList_append_own _ rfl _ _ 24 rfl w.heap.size 42 i0 _ 2 16 Try.underlying24 hi hz0 hz1 hz2 rfl (by decide) _ _ _ rfl (HRW.out.alloc _) ⟨w4.heap.size, 0, none⟩ 1 1 [.int .i64 d, .int .i64 tn] rfl rfl (World.news_of_block (alloc_at rfl)) (by simp [Value.oneCell']) (by unfold maxLen; omega) (by omega) (by simp; omega) ?_; intro v' w9 hown' hgrow _; obtain ⟨A2, c2, rfl⟩ := row_slice hown')
      have HS5 := Lib.hid ((HS4.out.alloc _).app (t := ⟨d, tn⟩) hown' hgrow)
      clear hown' hgrow HS4 HRW hs4
      go_wp2_with fail
      refine (among_new B b (k + 2 + 10 * j + 1) A n cap zs _ 5 _ [1, 3, 10, 50, 100] (by omega) HS5.out.1 rfl (by decide) (by decide)).mono ?_
      rintro e w6 ⟨a, ha, rfl, hC, hg⟩
      have hab : 1 ≤ a ∧ a ≤ 100 := by simp at ha; omega
      have HS6 := Lib.hid (HS5.out.step hC hg)
      clear hC hg HS5 ha
      go_wp2_with fail
      go_roundw
      case rel => exact ⟨j + 1, q - 1, L + 1, d + a, ts ++ [⟨d, tn⟩], by omega, by first | go_num | (congr 1; omega), rfl, by omega, by omega, by have := HLJ.out; omega, HS6.out.more (by omega)⟩
      case measure => simp [intOf]; omega
    · obtain rfl : q = 0 := by omega
      have hqd : decide ((0 : Int) < ((0 : Nat) : Int)) = false := by simp
      have hL0 : 0 < L := by have := HLJ.out; omega
      obtain rfl : j = m := by omega
      have hrow := HS.out.2.2.1
      obtain ⟨g, c', hv', -⟩ := hrow.form hL0
      injection hv' with hA hn2 hc2
      subst hA
      clear hc2 hn2 hrow
      go_wp2_with fail
      refine (pick_any B b (k + 2 + 10 * j) A n cap zs _ L (by omega) HS.out.1 hL0 (by omega)).mono ?_
      rintro e w5 ⟨r, rfl, hr, hC, hg⟩
      have hrL : r < L := by omega
      have hri : (r : Int) < (L : Int) := by omega
      have hr0 : (0 : Int) ≤ (r : Int) := by omega
      have HS5 := Lib.hid (HS.out.step hC hg)
      clear hC hg hr HS hqd
      obtain ⟨t, c0, c1, f0, f1, gl⟩ := HS5.out.row_at hrL
      obtain ⟨X, HX⟩ : ∃ X, Hid (w5.heap.size = X) := ⟨_, Lib.hid rfl⟩
      obtain ⟨W, HW⟩ : ∃ W, Hid (w5.alloc (.cells #[.int .i64 t.day, .int .i64 t.tn] 42) = W) := ⟨_, Lib.hid rfl⟩
      have HB := Lib.hid (show GB w B b (k + 2 + 10 * j + 1) A n cap zs (.slice (some ⟨g, 0, none⟩) L c) L ts X t W by
        rw [← HW.out, ← HX.out]
        exact ⟨HS5.out.alloc _, Blk.new _ _ _, HS5.out.2.1.size, fun e => by have := (HS5.out.2.2.1.lt _ e).2; omega⟩)
      go_upto_region 10 with fail
      rw [HW.out, HX.out]
      clear HW HX
      clear HS5 c0 c1 f0 f1 gl
      go_wp2_with fail
      refine (pick_any B b (k + 2 + 10 * j + 1) A n cap zs _ 50 (by omega) HB.out.1.1 (by decide) (by decide)).mono ?_
      rintro e w9 ⟨s, rfl, hs, hC, hg⟩
      have HB9 := Lib.hid (HB.out.step hC hg)
      clear hC hg HB
      by_cases q0 : s = 0
      · subst q0
        obtain ⟨y0, c0, c1, f0, f1, gl0⟩ := HB9.out.1.row_at hL0
        simp only [Nat.zero_mul, Nat.zero_add] at c0 c1 f0 f1
        go_wp2_with fail
        refine (among_new B b (k + 2 + 10 * j + 2) A n cap zs w9 3 _ [-1, 1000, y0.day] (by omega) HB9.out.1.1 rfl (by decide) (by decide)).mono ?_
        rintro e w10 ⟨y, hy, rfl, hC, hg⟩
        have HB10 := Lib.hid (HB9.out.step hC hg)
        clear hC hg HB9 hy c0 c1 f0 f1 gl0
        obtain ⟨⟨x0, x1⟩, ⟨z0, z1⟩, xl⟩ := HB10.out.cells
        have HB11 := Lib.hid (HB10.out.put 0 (.int .i64 y) ⟨y, t.tn⟩ rfl)
        go_upto_region 20 with fail
        obtain ⟨W5, HW5⟩ : ∃ W, Hid (w10.setCell ⟨X, 0, none⟩ (.int .i64 y) = W) := ⟨_, Lib.hid rfl⟩
        rw [HW5.out] at HB11 ⊢
        clear HW5 HB10 x0 x1 z0 z1 xl
        obtain ⟨yy, d0, d1, e0, e1, gl⟩ := HB11.out.1.row_at hrL
        obtain ⟨⟨x0, x1⟩, ⟨z0, z1⟩, xl⟩ := HB11.out.cells
        have HE := Lib.hid ((HB11.out.1.put hrL ⟨y, t.tn⟩).more (show k + 2 + 10 * j + 2 + 1 ≤ k + 80 by omega))
        go_wp2_with fail
        go_ret
        exact ⟨_, _, _, rfl, by omega, HE.out⟩
      have q0' : ((s : Int) == 0) = false := by rw [beq_eq_false_iff_ne]; omega
      by_cases q1 : s = 1
      · subst q1
        go_wp2_with fail
        refine (among_new B b (k + 2 + 10 * j + 2) A n cap zs w9 2 _ [-901, 901] (by omega) HB9.out.1.1 rfl (by decide) (by decide)).mono ?_
        rintro e w10 ⟨y, hy, rfl, hC, hg⟩
        have HB10 := Lib.hid (HB9.out.step hC hg)
        clear hC hg HB9 hy
        obtain ⟨⟨x0, x1⟩, ⟨z0, z1⟩, xl⟩ := HB10.out.cells
        have HB11 := Lib.hid (HB10.out.put 1 (.int .i64 y) ⟨t.day, y⟩ rfl)
        go_upto_region 20 with fail
        obtain ⟨W5, HW5⟩ : ∃ W, Hid (w10.setCell ⟨X, 1, none⟩ (.int .i64 y) = W) := ⟨_, Lib.hid rfl⟩
        rw [HW5.out] at HB11 ⊢
        clear HW5 HB10 x0 x1 z0 z1 xl
        obtain ⟨yy, d0, d1, e0, e1, gl⟩ := HB11.out.1.row_at hrL
        obtain ⟨⟨x0, x1⟩, ⟨z0, z1⟩, xl⟩ := HB11.out.cells
        have HE := Lib.hid ((HB11.out.1.put hrL ⟨t.day, y⟩).more (show k + 2 + 10 * j + 2 + 1 ≤ k + 80 by omega))
        go_wp2_with fail
        go_ret
        exact ⟨_, _, _, rfl, by omega, HE.out⟩
      have q1' : ((s : Int) == 1) = false := by rw [beq_eq_false_iff_ne]; omega
      by_cases q2 : s = 2
      · subst q2
        have HB10 := Lib.hid (HB9.out.more (show k + 2 + 10 * j + 2 ≤ k + 60 + L by omega))
        clear HB9
        go_wp2_with fail
        go_loopw [3] (fun v wr => ∃ (L : Nat) (us : List Dp) (c : Nat) (A' : Option Addr), v = .slice A' L c ∧ L ≤ 9 ∧ r < L ∧ GB w B b (k + 60 + L) A n cap zs v L us X t wr) (fun v _ => 10 - lenV v)
        case atStart => exact ⟨L, ts, c, _, rfl, by omega, hrL, HB10.out⟩
        case round =>
          obtain ⟨L, us, c, A', rfl, hu, hrL, hS⟩ := hrel
          have HS8 := Lib.hid hS
          clear hS HB10
          go_wp2_with fail
          refine (pick_any B b (k + 60 + L) A n cap zs _ 2 (by omega) HS8.out.1.1 (by decide) (by decide)).mono ?_
          rintro e w8 ⟨r8, rfl, hr8, hC, hg⟩
          have hr1 : r8 ≤ 1 := by omega
          have HS9 := Lib.hid (HS8.out.step hC hg)
          have hs9 := HS9.out.1.2.1.size
          have HRW := Lib.hid HS9.out.1.2.2.1
          clear hC hg hr8 HS8
          by_cases hlt : L < 8 + r8
          · have hd1 : decide ((L : Int) < 8 + (r8 : Int)) = true := by simp; omega
            go_wp2_with (at_builtin; refine wpList_append_own _ rfl _ _ 24 rfl w.heap.size 42 i0 _ 2 16 Try.underlying24 hi hz0 hz1 hz2 rfl (by decide) _ _ _ rfl (HRW.out.alloc _) ⟨w8.heap.size, 0, none⟩ 1 1 [.int .i64 (985 + (L : Nat)), .int .i64 (L : Nat)] rfl rfl (World.news_of_block (alloc_at rfl)) (by simp [Value.oneCell']) (by unfold maxLen; omega) (by omega) (by simp; omega) ?_; intro v' w9 hown' hgrow _; obtain ⟨A2, c2, rfl⟩ := row_slice hown')
            go_roundw
            case rel => exact ⟨L + 1, us ++ [⟨985 + (L : Nat), (L : Nat)⟩], c2, A2, rfl, by omega, by omega, ((HS9.out.alloc _).app (x := ⟨985 + (L : Nat), (L : Nat)⟩) (by omega) hown' hgrow).more (by omega)⟩
            case measure => simp [lenV]; omega
          · have hd1 : decide ((L : Int) < 8 + (r8 : Int)) = false := by simp; omega
            obtain ⟨g', c', hv', -⟩ := HRW.out.form (by omega)
            injection hv' with hA hn2 hc2
            subst hA
            clear hc2 hn2
            go_upto_region 20 with fail
            clear hd1 HRW hs9
            have hri : (r : Int) < (L : Int) := by omega
            obtain ⟨yy, d0, d1, e0, e1, gl⟩ := HS9.out.1.row_at hrL
            obtain ⟨⟨x0, x1⟩, ⟨z0, z1⟩, xl⟩ := HS9.out.cells
            have HE := Lib.hid ((HS9.out.1.put hrL t).more (show k + 60 + L + 1 ≤ k + 80 by omega))
            go_wp2_with fail
            go_ret
            exact ⟨_, _, _, rfl, by omega, HE.out⟩
      have q2' : ((s : Int) == 2) = false := by rw [beq_eq_false_iff_ne]; omega
      by_cases q3 : s = 3
      · subst q3
        have HE := Lib.hid (own_cut0 HB9.out.1.2.2.1)
        have hc0 : (0 : Int) ≤ (c : Int) := by omega
        go_wp2_with fail
        go_ret
        exact ⟨_, 0, [], rfl, by omega, cur_more HB9.out.1.1 (k + 80) (by omega), HB9.out.1.2.1, HE.out, rfl, HB9.out.1.2.2.2.2⟩
      have q3' : ((s : Int) == 3) = false := by rw [beq_eq_false_iff_ne]; omega
      go_upto_region 20 with fail
      obtain ⟨yy, d0, d1, e0, e1, gl⟩ := HB9.out.1.row_at hrL
      obtain ⟨⟨x0, x1⟩, ⟨z0, z1⟩, xl⟩ := HB9.out.cells
      have HE := Lib.hid ((HB9.out.1.put hrL t).more (show k + 2 + 10 * j + 2 ≤ k + 80 by omega))
      go_wp2_with fail
      go_ret
      exact ⟨_, _, _, rfl, by omega, HE.out⟩
end Go.Proofs.Ytiimegmaokfpgaa.drp
