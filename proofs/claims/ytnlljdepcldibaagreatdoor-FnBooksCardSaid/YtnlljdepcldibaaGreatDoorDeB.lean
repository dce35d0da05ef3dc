/-
  The drawn books.
  Conditions: the code has at most 65536 bytes.
-/
import Derived.Test.YtnlljdepcldibaaGreatDoorDeA
import Derived.Test.YtnlljdepcldibaaGreatDoorLeast
import Derived.Deep.DeepCutAuto
import Derived.Deep.RegionHeld3
import Derived.Laws.OwnMore
import Derived.OwnWalk
import Derived.Deep.AppendLies
namespace Go.Proofs.YtnlljdepcldibaaGreatDoor.dre
open Go.RowKit
open reads base curs curd cure ty
set_option linter.unusedVariables false
set_option linter.unusedSimpArgs false

/-- a list in the making: the cursor, the list's own block -/
def GS (w : World) (B b k : Nat) (A : Option Addr) (n cap : Nat) (zs : List UInt8) (v : Value) (L : Nat) (ts : List En) (u : World) : Prop :=
  Cur u B b k A n cap zs ∧ w.grownBy u (some b) ∧ u.ownsRow w.heap.size 25 6 v L (flatEn ts) ∧ ts.length = L ∧ b < w.heap.size ∧ B ≤ w.heap.size
/-- and an entry in a box beside it -/
def GB (w : World) (B b k : Nat) (A : Option Addr) (n cap : Nat) (zs : List UInt8) (v : Value) (L : Nat) (ts : List En) (X : Nat) (t : En) (u : World) : Prop :=
  GS w B b k A n cap zs v L ts u ∧ Blk u X 25 #[.int .i64 t.frm, .int .i64 t.to_, .int .i64 t.tape, .int .i64 t.comp, .int .i64 t.slope, .bool t.back] ∧ w.heap.size ≤ X ∧ ¬ v.ownBlock = some X
section
variable {w u u' : World} {B b k k' : Nat} {A : Option Addr} {n cap L X : Nat} {zs : List UInt8} {v v' : Value} {ts : List En} {t : En}
theorem GS.step (h : GS w B b k A n cap zs v L ts u) (hC : Cur u' B b k' A n cap zs) (hg : u.grownBy u' (some b)) : GS w B b k' A n cap zs v L ts u' :=
  ⟨hC, h.2.1.trans hg, own_step h.2.2.1 hg h.2.2.2.2.1, h.2.2.2⟩
theorem GS.alloc (h : GS w B b k A n cap zs v L ts u) (o : Obj) : GS w B b k A n cap zs v L ts (u.alloc o) :=
  ⟨cur_alloc h.1 (by have := h.2.1.size; have := h.2.2.2.2.2; omega) o, h.2.1.trans (World.grownBy_alloc u o (some b)), h.2.2.1.alloc o, h.2.2.2⟩
theorem GS.more (h : GS w B b k A n cap zs v L ts u) (hk : k ≤ k') : GS w B b k' A n cap zs v L ts u := ⟨cur_more h.1 k' hk, h.2⟩
theorem GS.app (h : GS w B b k A n cap zs v L ts u) (ho : u'.ownsRow w.heap.size 25 6 v' (L + 1) (flatEn ts ++ [.int .i64 t.frm, .int .i64 t.to_, .int .i64 t.tape, .int .i64 t.comp, .int .i64 t.slope, .bool t.back])) (hg : u.grownBy u' v.ownBlock) : GS w B b k A n cap zs v' (L + 1) (ts ++ [t]) u' := by
  obtain ⟨h1, h2, h3, h4, h5, h6⟩ := h
  have hlo : ∀ g, v.ownBlock = some g → w.heap.size ≤ g := fun g e => (h3.lt g e).1
  obtain ⟨c1, c2, c3, pos, sd, c4, c5, c6, c7⟩ := h1
  have hs := h2.size
  refine ⟨⟨c1, c2.grown hg (by omega) (fun g e => by have := hlo g e; omega), c3, pos, sd, c4, c5, c6, c7.grown hg (fun e => by have := hlo _ e.symm; omega)⟩,
    ⟨hg.os.trans h2.os, hg.tape.trans h2.tape, hg.output.trans h2.output, Nat.le_trans h2.size hg.size, fun i hi hne => (hg.block i (by omega) (fun e => by have := hlo _ e.symm; omega)).trans (h2.block i hi hne)⟩, ?_, ?_, h5, h6⟩
  · rw [flatEn_app]; exact ho
  · rw [List.length_append, List.length_singleton, h4]
theorem GB.step (h : GB w B b k A n cap zs v L ts X t u) (hC : Cur u' B b k' A n cap zs) (hg : u.grownBy u' (some b)) : GB w B b k' A n cap zs v L ts X t u' :=
  ⟨h.1.step hC hg, h.2.1.grown hg (by intro e; injection e with e; have := h.1.2.2.2.2.1; have := h.2.2.1; omega), h.2.2⟩
theorem GB.drew (h : GB w B b k A n cap zs v L ts X t u) : GB w B b k A n cap zs v L ts X t u.drew := h.step (cur_below h.1.1 (base.drewN_below _ 1)) (grown_draw (drl.grown_refl _ _) 1)
theorem GB.alloc (h : GB w B b k A n cap zs v L ts X t u) (o : Obj) : GB w B b k A n cap zs v L ts X t (u.alloc o) := ⟨h.1.alloc o, h.2.1.alloc o, h.2.2⟩
theorem GB.more (h : GB w B b k A n cap zs v L ts X t u) (hk : k ≤ k') : GB w B b k' A n cap zs v L ts X t u := ⟨h.1.more hk, h.2⟩
theorem GB.put (h : GB w B b k A n cap zs v L ts X t u) (j : Nat) (y : Value) (t' : En) (e : (#[.int .i64 t.frm, .int .i64 t.to_, .int .i64 t.tape, .int .i64 t.comp, .int .i64 t.slope, .bool t.back] : Array Value).setIfInBounds j y = #[.int .i64 t'.frm, .int .i64 t'.to_, .int .i64 t'.tape, .int .i64 t'.comp, .int .i64 t'.slope, .bool t'.back]) : GB w B b k A n cap zs v L ts X t' (u.setCell ⟨X, j, none⟩ y) := by
  obtain ⟨⟨h1, h2, h3, h4, h5, h6⟩, h7, h8, h9⟩ := h
  refine ⟨⟨cur_set h1 (by show b ≠ X; omega) (by show B ≤ X; omega) _, grown_set h2 h8 _, ?_, h4, h5, h6⟩, ?_, h8, h9⟩
  · exact h3.kept (row := some X) (grown_cell (drl.grown_refl _ _) _ _) (.inr (fun q => h9 (by simpa using q)))
  · rw [← e]; exact h7.set_ j _
theorem GB.put6 (h : GB w B b k A n cap zs v L ts X t u) (a b' c d e : Int) (f : Bool) : GB w B b k A n cap zs v L ts X ⟨a, b', c, d, e, f⟩ ((((((u.setCell ⟨X, 0, none⟩ (.int .i64 a)).setCell ⟨X, 1, none⟩ (.int .i64 b')).setCell ⟨X, 2, none⟩ (.int .i64 c)).setCell ⟨X, 3, none⟩ (.int .i64 d)).setCell ⟨X, 4, none⟩ (.int .i64 e)).setCell ⟨X, 5, none⟩ (.bool f)) := by
  have h0 := h.put 0 (.int .i64 a) ⟨a, t.to_, t.tape, t.comp, t.slope, t.back⟩ rfl
  have h1 := h0.put 1 (.int .i64 b') ⟨a, b', t.tape, t.comp, t.slope, t.back⟩ rfl
  have h2 := h1.put 2 (.int .i64 c) ⟨a, b', c, t.comp, t.slope, t.back⟩ rfl
  have h3 := h2.put 3 (.int .i64 d) ⟨a, b', c, d, t.slope, t.back⟩ rfl
  have h4 := h3.put 4 (.int .i64 e) ⟨a, b', c, d, e, t.back⟩ rfl
  exact h4.put 5 (.bool f) ⟨a, b', c, d, e, f⟩ rfl
theorem GB.put_2 (h : GB w B b k A n cap zs v L ts X t u) (y : Int) : GB w B b k A n cap zs v L ts X ⟨t.frm, t.to_, y, t.comp, t.slope, t.back⟩ (u.setCell ⟨X, 2, none⟩ (.int .i64 y)) := h.put 2 _ _ rfl
theorem GB.put_3 (h : GB w B b k A n cap zs v L ts X t u) (y : Int) : GB w B b k A n cap zs v L ts X ⟨t.frm, t.to_, t.tape, y, t.slope, t.back⟩ (u.setCell ⟨X, 3, none⟩ (.int .i64 y)) := h.put 3 _ _ rfl
theorem GB.put_4 (h : GB w B b k A n cap zs v L ts X t u) (y : Int) : GB w B b k A n cap zs v L ts X ⟨t.frm, t.to_, t.tape, t.comp, y, t.back⟩ (u.setCell ⟨X, 4, none⟩ (.int .i64 y)) := h.put 4 _ _ rfl
theorem GB.new (h : GS w B b k A n cap zs v L ts u) (t : En) : GB w B b k A n cap zs v L ts u.heap.size t (u.alloc (.cells #[.int .i64 t.frm, .int .i64 t.to_, .int .i64 t.tape, .int .i64 t.comp, .int .i64 t.slope, .bool t.back] 25)) :=
  ⟨h.alloc _, Blk.new _ _ _, h.2.1.size, fun e => by have := (h.2.2.1.lt _ e).2; omega⟩
theorem GB.cells (h : GB w B b k A n cap zs v L ts X t u) : (u.cell? ⟨X, 0, none⟩ = some (.int .i64 t.frm) ∧ u.cell? ⟨X, 1, none⟩ = some (.int .i64 t.to_) ∧ u.cell? ⟨X, 2, none⟩ = some (.int .i64 t.tape) ∧ u.cell? ⟨X, 3, none⟩ = some (.int .i64 t.comp) ∧ u.cell? ⟨X, 4, none⟩ = some (.int .i64 t.slope) ∧ u.cell? ⟨X, 5, none⟩ = some (.bool t.back)) ∧ (u.frozen? ⟨X, 0, none⟩ = false ∧ u.frozen? ⟨X, 1, none⟩ = false ∧ u.frozen? ⟨X, 2, none⟩ = false ∧ u.frozen? ⟨X, 3, none⟩ = false ∧ u.frozen? ⟨X, 4, none⟩ = false ∧ u.frozen? ⟨X, 5, none⟩ = false) ∧ X < u.heap.size := ⟨⟨h.2.1.cell 0, h.2.1.cell 1, h.2.1.cell 2, h.2.1.cell 3, h.2.1.cell 4, h.2.1.cell 5⟩, ⟨h.2.1.frozen 0, h.2.1.frozen 1, h.2.1.frozen 2, h.2.1.frozen 3, h.2.1.frozen 4, h.2.1.frozen 5⟩, h.2.1.lt⟩
end
def lenV : Value → Nat
  | .slice _ n _ => n
  | _ => 0
/-- a drawn book -/
def GPo (B b k : Nat) (A : Option Addr) (n cap : Nat) (zs : List UInt8) (w : World) (e : Ending) (w' : World) : Prop :=
  ∃ (v : Value) (L : Nat) (ts : List En), e = .returned v ∧ L ≤ 13 ∧ GS w B b k A n cap zs v L ts w'
set_option maxHeartbeats 16000000 in
set_option maxRecDepth 100000 in
theorem book_any (B b k : Nat) (A : Option Addr) (n cap : Nat) (zs : List UInt8) (w : World) (hk : k ≤ 40000) (h : Hid (Cur w B b k A n cap zs)) :
    Calls Tryz.prog 36 #[.pointer (some ⟨b, 0, none⟩)] w (GPo B b (k + 300) A n cap zs w) := by
  obtain ⟨i0, hi, hz0, hz1, hz2⟩ := info_parts infoEn
  have hbl := cur_lt h.out
  have hBB : B ≤ w.heap.size := by have := h.out.1; omega
  have HS0 := Lib.hid (show GS w B b k A n cap zs (.slice (some ⟨w.heap.size, 0, none⟩) 0 0) 0 [] (w.alloc (.cells #[] 25)) from
    ⟨cur_alloc h.out hBB _, World.grownBy_alloc w _ (some b), World.ownsRow_made w #[] 0 (Nat.le_refl _) (by decide) (by simp), rfl, hbl, hBB⟩)
  go_enter Tryz.func36, Tryz.ntmps36
  go_wp2_with fail
  refine (pick_any B b k A n cap zs _ 6 (by omega) HS0.out.1 (by decide) (by decide)).mono ?_
  rintro e w1 ⟨m, rfl, hm, hC, hg⟩
  have hm7 : m ≤ 5 := by omega
  have HS1 := Lib.hid (HS0.out.step hC hg)
  clear hC hg HS0 hm h
  go_wp2_with fail
  go_loopw [3, 4] (fun v i wr => ∃ (j q L : Nat) (ts : List En), j + q = m ∧ i = .int .i64 q ∧ L = j ∧ GS w B b (k + 1 + 20 * j) A n cap zs v L ts wr) (fun _ i _ => (intOf i).toNat)
  case atStart => exact ⟨0, m, 0, [], by omega, rfl, rfl, HS1.out⟩
  case round =>
    obtain ⟨j, q, L, ts, hjq, rfl, hLj, hS⟩ := hrel
    obtain ⟨v, hv⟩ : ∃ v, u3 = v := ⟨_, rfl⟩
    subst hv
    obtain ⟨A', c, rfl⟩ := row_slice hS.2.2.1
    have HLJ := Lib.hid hLj
    have HS := Lib.hid hS
    have hLb : L ≤ 5 := by omega
    clear hS HS1 hLj
    by_cases hq : 0 < q
    · have hqd : decide ((0 : Int) < (q : Int)) = true := by simp; omega
      have hqd2 : decide (0 < q) = true := by simp; omega
      have hLb4 : L ≤ 4 := by have := HLJ.out; omega
      go_wp2_with fail
      refine (entry_any B b (k + 1 + 20 * j) A n cap zs _ (by omega) (Lib.hid HS.out.1)).mono ?_
      rintro e w4 ⟨t, rfl, hC, hg⟩
      have HS4 := Lib.hid (HS.out.step hC hg)
      clear hC hg HS
      obtain ⟨X, HX⟩ : ∃ X, Hid (w4.heap.size = X) := ⟨_, Lib.hid rfl⟩
      obtain ⟨W, HW⟩ : ∃ W, Hid (w4.alloc (.cells #[.int .i64 t.frm, .int .i64 t.to_, .int .i64 t.tape, .int .i64 t.comp, .int .i64 t.slope, .bool t.back] 25) = W) := ⟨_, Lib.hid rfl⟩
      have HB := Lib.hid (show GB w B b (k + 1 + 20 * j + 10) A n cap zs (.slice A' L c) L ts X t W by rw [← HW.out, ← HX.out]; exact GB.new HS4.out t)
      clear HS4
      go_upto_region 6 with fail
      rw [HW.out, HX.out]
      clear HW HX
      by_cases hL0 : L = 0
      · have z1 : decide ((0 : Int) < (L : Int)) = false := by simp; omega
        have z2 : decide (0 < L) = false := by simp; omega
        clear hL0
        obtain ⟨⟨c0, c1, c2, c3, c4, c5⟩, ⟨f0, f1, f2, f3, f4, f5⟩, xl⟩ := HB.out.cells
        have HRW := Lib.hid HB.out.1.2.2.1
        have hsW := HB.out.1.2.1.size
        have HGS := Lib.hid HB.out.1
        have hL12 : L ≤ 12 := by omega
        go_wp2_with (at_builtin; refine wpList_append_own _ rfl _ _ 33 rfl w.heap.size 25 i0 _ 6 48 Tryz.underlying33 hi hz0 hz1 hz2 rfl (by decide) _ _ _ rfl (HRW.out.alloc _) ⟨W.heap.size, 0, none⟩ 1 1 [.int .i64 t.frm, .int .i64 t.to_, .int .i64 t.tape, .int .i64 t.comp, .int .i64 t.slope, .bool t.back] rfl rfl (World.news_of_block (alloc_at rfl)) (by simp [Value.oneCell']) (by unfold maxLen; omega) (by omega) (by simp; omega) ?_; intro v' w9 hown' hgrow _; obtain ⟨A2, c2, rfl⟩ := row_slice hown')
        go_roundw
        case rel => exact ⟨j + 1, q - 1, L + 1, ts ++ [t], by omega, by first | go_num | (congr 1; omega), by have := HLJ.out; omega, GS.more (k' := k + 1 + 20 * (j + 1)) ((HGS.out.alloc _).app hown' hgrow) (by omega)⟩
        case measure => simp [intOf]; omega
      have z1 : decide ((0 : Int) < (L : Int)) = true := by simp; omega
      have z2 : decide (0 < L) = true := by simp; omega
      have hL1 : 0 < L := by omega
      go_wp2_with fail
      refine (one_any B b (k + 1 + 20 * j + 10) A n cap zs _ 3 (by omega) HB.out.1.1 (by decide) (by decide)).mono ?_
      rintro e w5 ⟨t1, rfl, hC, hg⟩
      have HB5 := Lib.hid (HB.out.step hC hg)
      clear hC hg HB
      go_upto_if 21 with fail
      go_cut [22] (fun _ wx => ∃ t3 : En, GB w B b (k + 1 + 20 * j + 16) A n cap zs (.slice A' L c) L ts X t3 wx)
      case first =>
        cases t1
        · go_wp2_with fail
          go_meet
          case rel => exact ⟨t, HB5.out.more (by omega)⟩
        · go_wp2_with fail
          refine (pick_any B b (k + 1 + 20 * j + 11) A n cap zs _ L (by omega) HB5.out.1.1 hL1 (by omega)).mono ?_
          rintro e w6 ⟨r, rfl, hr, hC, hg⟩
          have hrL : r < L := by omega
          have hri : (r : Int) < (L : Int) := by omega
          have hr0 : (0 : Int) ≤ (r : Int) := by omega
          have HB6 := Lib.hid (HB5.out.step hC hg)
          clear hC hg hr HB5
          obtain ⟨t', htr⟩ := at_lt HB6.out.1.2.2.2.1 hrL
          obtain ⟨g, rfl, hgl, d0, d1, d2, d3, d4, d5⟩ := (own_En HB6.out.1.2.2.2.1 HB6.out.1.2.2.1).2 r t' htr
          obtain ⟨⟨c0, c1, c2, c3, c4, c5⟩, ⟨f0, f1, f2, f3, f4, f5⟩, xl⟩ := HB6.out.cells
          clear htr
          go_upto_region 8 with fail
          have HB7 := HB6.out.put6 t'.frm t'.to_ t'.tape t'.comp t'.slope t'.back
          obtain ⟨W, HW⟩ : ∃ W, Hid (((((((w6.setCell ⟨X, 0, none⟩ (.int .i64 t'.frm)).setCell ⟨X, 1, none⟩ (.int .i64 t'.to_)).setCell ⟨X, 2, none⟩ (.int .i64 t'.tape)).setCell ⟨X, 3, none⟩ (.int .i64 t'.comp)).setCell ⟨X, 4, none⟩ (.int .i64 t'.slope)).setCell ⟨X, 5, none⟩ (.bool t'.back)) = W) := ⟨_, Lib.hid rfl⟩
          rw [HW.out] at HB7
          rw [HW.out]
          have HB := Lib.hid HB7
          clear HB7 HB6 HW d0 d1 d2 d3 d4 d5 hgl c0 c1 c2 c3 c4 c5 f0 f1 f2 f3 f4 f5 xl
          go_cut [29] (fun _ wx => ∃ t2 : En, GB w B b (k + 1 + 20 * j + 12 + 1) A n cap zs (.slice (some ⟨g, 0, none⟩) L c) L ts X t2 wx)
          case first =>
            rename_i J0 K0 hJ0 hK0
            have HB0 := Lib.hid HB.out.drew
            have cj := HB0.out.cells.1.2.2.1
            have xl := HB0.out.2.1.lt
            refine wp_region_held_drew (S := fun _ => True) (by kernel_rfl) ?_ (fun hHeld => ?_)
            · trivial
            refine' wpAnyH_take (i := 0) (v := ?vr4_0) rfl (by kernel_rfl) (by kernel_rfl) (by kernel_rfl) (fun _ _ _ h => h) (Or.inl ⟨by rfl, ?hyr4_0⟩) (by assumption) ?restr4_0
            case hyr4_0 => (intro w hSw; (try dsimp only at hSw); go_simp; try (with_reducible rfl))
            simp only [Act.put, List.getElem_toArray, List.getElem_cons_succ, List.getElem_cons_zero, List.setIfInBounds_toArray, List.set_cons_zero, List.set_cons_succ]
            refine' wpAnyH_take (i := 2) (v := ?vr4_2) rfl (by kernel_rfl) (by kernel_rfl) (by kernel_rfl) (fun _ _ _ h => h) (Or.inl ⟨by rfl, ?hyr4_2⟩) (by assumption) ?restr4_2
            case hyr4_2 => (intro w hSw; (try dsimp only at hSw); go_simp; try (with_reducible rfl))
            simp only [Act.put, List.getElem_toArray, List.getElem_cons_succ, List.getElem_cons_zero, List.setIfInBounds_toArray, List.set_cons_zero, List.set_cons_succ]
            refine wpAnyH_ready (rs := [1, 3]) (by kernel_rfl) (by simp) ?_
            refine AllReadyH.cons rfl (fun K hK => ?_) (AllReadyH.cons rfl (fun K hK => ?_) AllReadyH.nil)
            · go_simp
              refine hK.out _ _ trivial (fun hHeld1 => ?_)
              clear hK K hHeld
              have hHeld := hHeld1
              clear hHeld1
              try simp only [Act.put, List.getElem_toArray, List.getElem_cons_succ, List.getElem_cons_zero, List.setIfInBounds_toArray, List.set_cons_zero, List.set_cons_succ]
              refine wpAnyH_ready (rs := [3]) (by kernel_rfl) (by simp) ?_
              refine AllReadyH.cons rfl (fun K hK => ?_) AllReadyH.nil
              go_simp
              refine hK.out _ _ trivial (fun hHeld1 => ?_)
              clear hK K hHeld
              have hHeld := hHeld1
              clear hHeld1
              try simp only [Act.put, List.getElem_toArray, List.getElem_cons_succ, List.getElem_cons_zero, List.setIfInBounds_toArray, List.set_cons_zero, List.set_cons_succ]
              refine wpAnyH_ready (rs := [4]) (by kernel_rfl) (by simp) ?_
              refine AllReadyH.cons rfl (fun K hK => ?_) AllReadyH.nil
              go_simp
              refine (among_at B b (k + 1 + 20 * j + 12) A n cap zs W.drew W.heap.size rfl 3 _ [0, 2, 3] (by omega) HB0.out.1.1 rfl (by decide) (by decide)).mono ?_
              rintro e w4 ⟨y, hy, rfl, hC, hg⟩
              have HB4 := Lib.hid (HB0.out.step hC hg)
              clear hC hg hy
              refine hK.out _ _ trivial (fun hHeld1 => ?_)
              clear hK K hHeld
              have hHeld := hHeld1
              clear hHeld1
              try simp only [Act.put, List.getElem_toArray, List.getElem_cons_succ, List.getElem_cons_zero, List.setIfInBounds_toArray, List.set_cons_zero, List.set_cons_succ]
              refine' wpAnyH_take (i := 5) (v := ?vr5_5) rfl (by kernel_rfl) (by kernel_rfl) (by kernel_rfl) (fun _ _ _ h => h) (Or.inl ⟨by rfl, ?hyr5_5⟩) (by assumption) ?restr5_5
              case hyr5_5 => (intro w hSw; (try dsimp only at hSw); go_simp; try (with_reducible rfl))
              simp only [Act.put, List.getElem_toArray, List.getElem_cons_succ, List.getElem_cons_zero, List.setIfInBounds_toArray, List.set_cons_zero, List.set_cons_succ]
              refine' wpAnyH_take (i := 6) (v := ?vr6_6) rfl (by kernel_rfl) (by kernel_rfl) (by kernel_rfl) (fun _ _ _ h => h) (Or.inl ⟨by rfl, ?hyr6_6⟩) (by assumption) ?restr6_6
              case hyr6_6 => (intro w hSw; (try dsimp only at hSw); go_simp; try (with_reducible rfl))
              simp only [Act.put, List.getElem_toArray, List.getElem_cons_succ, List.getElem_cons_zero, List.setIfInBounds_toArray, List.set_cons_zero, List.set_cons_succ]
              obtain ⟨⟨e0, e1, e2, e3, e4, e5⟩, ⟨g0, g1, g2, g3, g4, g5⟩, yl⟩ := HB4.out.cells
              refine wpAnyH_ready (rs := [7]) (by kernel_rfl) (by simp) ?_
              refine AllReadyH.cons rfl (fun K hK => ?_) AllReadyH.nil
              go_simp
              refine hK.out _ _ trivial (fun hHeld1 => ?_)
              clear hK K hHeld hHeld1
              try simp only [Act.put, List.getElem_toArray, List.getElem_cons_succ, List.getElem_cons_zero, List.setIfInBounds_toArray, List.set_cons_zero, List.set_cons_succ]
              refine wpAnyH_done (by kernel_rfl) ?_ _
              first | refine hK0 _ _ (Met.intro (hJ0 _ _ ?_)) | refine Met.intro (hK0 _ _ (Met.intro (hJ0 _ _ ?_)))
              (repeat apply Exists.intro)
              exact ⟨⟨_, HB4.out.put_2 _⟩, rfl⟩
            · have HBa := Lib.hid (HB.out.alloc (.cells #[.int .i64 0, .int .i64 2, .int .i64 3] 3))
              clear cj xl
              have cj := HBa.out.cells.1.2.2.1
              have xl := HBa.out.2.1.lt
              go_simp
              refine hK.out _ _ trivial (fun hHeld1 => ?_)
              clear hK K hHeld
              have hHeld := hHeld1
              clear hHeld1
              try simp only [Act.put, List.getElem_toArray, List.getElem_cons_succ, List.getElem_cons_zero, List.setIfInBounds_toArray, List.set_cons_zero, List.set_cons_succ]
              refine wpAnyH_ready (rs := [1, 4]) (by kernel_rfl) (by simp) ?_
              refine AllReadyH.cons rfl (fun K hK => ?_) (AllReadyH.cons rfl (fun K hK => ?_) AllReadyH.nil)
              · go_simp
                refine hK.out _ _ trivial (fun hHeld1 => ?_)
                clear hK K hHeld
                have hHeld := hHeld1
                clear hHeld1
                try simp only [Act.put, List.getElem_toArray, List.getElem_cons_succ, List.getElem_cons_zero, List.setIfInBounds_toArray, List.set_cons_zero, List.set_cons_succ]
                refine wpAnyH_ready (rs := [4]) (by kernel_rfl) (by simp) ?_
                refine AllReadyH.cons rfl (fun K hK => ?_) AllReadyH.nil
                go_simp
                refine (among_at B b (k + 1 + 20 * j + 12) A n cap zs W.drew W.heap.size rfl 3 _ [0, 2, 3] (by omega) HB0.out.1.1 rfl (by decide) (by decide)).mono ?_
                rintro e w4 ⟨y, hy, rfl, hC, hg⟩
                have HB4 := Lib.hid (HB0.out.step hC hg)
                clear hC hg hy
                refine hK.out _ _ trivial (fun hHeld1 => ?_)
                clear hK K hHeld
                have hHeld := hHeld1
                clear hHeld1
                try simp only [Act.put, List.getElem_toArray, List.getElem_cons_succ, List.getElem_cons_zero, List.setIfInBounds_toArray, List.set_cons_zero, List.set_cons_succ]
                refine' wpAnyH_take (i := 5) (v := ?vr7_5) rfl (by kernel_rfl) (by kernel_rfl) (by kernel_rfl) (fun _ _ _ h => h) (Or.inl ⟨by rfl, ?hyr7_5⟩) (by assumption) ?restr7_5
                case hyr7_5 => (intro w hSw; (try dsimp only at hSw); go_simp; try (with_reducible rfl))
                simp only [Act.put, List.getElem_toArray, List.getElem_cons_succ, List.getElem_cons_zero, List.setIfInBounds_toArray, List.set_cons_zero, List.set_cons_succ]
                refine' wpAnyH_take (i := 6) (v := ?vr8_6) rfl (by kernel_rfl) (by kernel_rfl) (by kernel_rfl) (fun _ _ _ h => h) (Or.inl ⟨by rfl, ?hyr8_6⟩) (by assumption) ?restr8_6
                case hyr8_6 => (intro w hSw; (try dsimp only at hSw); go_simp; try (with_reducible rfl))
                simp only [Act.put, List.getElem_toArray, List.getElem_cons_succ, List.getElem_cons_zero, List.setIfInBounds_toArray, List.set_cons_zero, List.set_cons_succ]
                obtain ⟨⟨e0, e1, e2, e3, e4, e5⟩, ⟨g0, g1, g2, g3, g4, g5⟩, yl⟩ := HB4.out.cells
                refine wpAnyH_ready (rs := [7]) (by kernel_rfl) (by simp) ?_
                refine AllReadyH.cons rfl (fun K hK => ?_) AllReadyH.nil
                go_simp
                refine hK.out _ _ trivial (fun hHeld1 => ?_)
                clear hK K hHeld hHeld1
                try simp only [Act.put, List.getElem_toArray, List.getElem_cons_succ, List.getElem_cons_zero, List.setIfInBounds_toArray, List.set_cons_zero, List.set_cons_succ]
                refine wpAnyH_done (by kernel_rfl) ?_ _
                first | refine hK0 _ _ (Met.intro (hJ0 _ _ ?_)) | refine Met.intro (hK0 _ _ (Met.intro (hJ0 _ _ ?_)))
                (repeat apply Exists.intro)
                exact ⟨⟨_, HB4.out.put_2 _⟩, rfl⟩
              · go_simp
                refine (among_at B b (k + 1 + 20 * j + 12) A n cap zs W.drew W.heap.size rfl 3 _ [0, 2, 3] (by omega) HB0.out.1.1 rfl (by decide) (by decide)).mono ?_
                rintro e w4 ⟨y, hy, rfl, hC, hg⟩
                have HB4 := Lib.hid (HB0.out.step hC hg)
                clear hC hg hy
                refine hK.out _ _ trivial (fun hHeld1 => ?_)
                clear hK K hHeld
                have hHeld := hHeld1
                clear hHeld1
                try simp only [Act.put, List.getElem_toArray, List.getElem_cons_succ, List.getElem_cons_zero, List.setIfInBounds_toArray, List.set_cons_zero, List.set_cons_succ]
                clear cj xl
                have cj := HB4.out.cells.1.2.2.1
                have xl := HB4.out.2.1.lt
                refine wpAnyH_ready (rs := [1]) (by kernel_rfl) (by simp) ?_
                refine AllReadyH.cons rfl (fun K hK => ?_) AllReadyH.nil
                go_simp
                refine hK.out _ _ trivial (fun hHeld1 => ?_)
                clear hK K hHeld
                have hHeld := hHeld1
                clear hHeld1
                try simp only [Act.put, List.getElem_toArray, List.getElem_cons_succ, List.getElem_cons_zero, List.setIfInBounds_toArray, List.set_cons_zero, List.set_cons_succ]
                refine' wpAnyH_take (i := 5) (v := ?vr9_5) rfl (by kernel_rfl) (by kernel_rfl) (by kernel_rfl) (fun _ _ _ h => h) (Or.inl ⟨by rfl, ?hyr9_5⟩) (by assumption) ?restr9_5
                case hyr9_5 => (intro w hSw; (try dsimp only at hSw); go_simp; try (with_reducible rfl))
                simp only [Act.put, List.getElem_toArray, List.getElem_cons_succ, List.getElem_cons_zero, List.setIfInBounds_toArray, List.set_cons_zero, List.set_cons_succ]
                refine' wpAnyH_take (i := 6) (v := ?vr10_6) rfl (by kernel_rfl) (by kernel_rfl) (by kernel_rfl) (fun _ _ _ h => h) (Or.inl ⟨by rfl, ?hyr10_6⟩) (by assumption) ?restr10_6
                case hyr10_6 => (intro w hSw; (try dsimp only at hSw); go_simp; try (with_reducible rfl))
                simp only [Act.put, List.getElem_toArray, List.getElem_cons_succ, List.getElem_cons_zero, List.setIfInBounds_toArray, List.set_cons_zero, List.set_cons_succ]
                obtain ⟨⟨e0, e1, e2, e3, e4, e5⟩, ⟨g0, g1, g2, g3, g4, g5⟩, yl⟩ := HB4.out.cells
                refine wpAnyH_ready (rs := [7]) (by kernel_rfl) (by simp) ?_
                refine AllReadyH.cons rfl (fun K hK => ?_) AllReadyH.nil
                go_simp
                refine hK.out _ _ trivial (fun hHeld1 => ?_)
                clear hK K hHeld hHeld1
                try simp only [Act.put, List.getElem_toArray, List.getElem_cons_succ, List.getElem_cons_zero, List.setIfInBounds_toArray, List.set_cons_zero, List.set_cons_succ]
                refine wpAnyH_done (by kernel_rfl) ?_ _
                first | refine hK0 _ _ (Met.intro (hJ0 _ _ ?_)) | refine Met.intro (hK0 _ _ (Met.intro (hJ0 _ _ ?_)))
                (repeat apply Exists.intro)
                exact ⟨⟨_, HB4.out.put_2 _⟩, rfl⟩
          case rest =>
            clear HB
            obtain ⟨t2, hB2⟩ := hcut
            have HB := Lib.hid hB2
            clear hB2
            go_upto_region 9 with fail
            go_cut [36] (fun _ wx => ∃ t2 : En, GB w B b (k + 1 + 20 * j + 13 + 1) A n cap zs (.slice (some ⟨g, 0, none⟩) L c) L ts X t2 wx)
            case first =>
              rename_i J0 K0 hJ0 hK0
              have HB0 := Lib.hid HB.out.drew
              have cj := HB0.out.cells.1.2.2.2.1
              have xl := HB0.out.2.1.lt
              refine wp_region_held_drew (S := fun _ => True) (by kernel_rfl) ?_ (fun hHeld => ?_)
              · trivial
              refine' wpAnyH_take (i := 0) (v := ?vr11_0) rfl (by kernel_rfl) (by kernel_rfl) (by kernel_rfl) (fun _ _ _ h => h) (Or.inl ⟨by rfl, ?hyr11_0⟩) (by assumption) ?restr11_0
              case hyr11_0 => (intro w hSw; (try dsimp only at hSw); go_simp; try (with_reducible rfl))
              simp only [Act.put, List.getElem_toArray, List.getElem_cons_succ, List.getElem_cons_zero, List.setIfInBounds_toArray, List.set_cons_zero, List.set_cons_succ]
              refine' wpAnyH_take (i := 2) (v := ?vr11_2) rfl (by kernel_rfl) (by kernel_rfl) (by kernel_rfl) (fun _ _ _ h => h) (Or.inl ⟨by rfl, ?hyr11_2⟩) (by assumption) ?restr11_2
              case hyr11_2 => (intro w hSw; (try dsimp only at hSw); go_simp; try (with_reducible rfl))
              simp only [Act.put, List.getElem_toArray, List.getElem_cons_succ, List.getElem_cons_zero, List.setIfInBounds_toArray, List.set_cons_zero, List.set_cons_succ]
              refine wpAnyH_ready (rs := [1, 3]) (by kernel_rfl) (by simp) ?_
              refine AllReadyH.cons rfl (fun K hK => ?_) (AllReadyH.cons rfl (fun K hK => ?_) AllReadyH.nil)
              · go_simp
                refine hK.out _ _ trivial (fun hHeld1 => ?_)
                clear hK K hHeld
                have hHeld := hHeld1
                clear hHeld1
                try simp only [Act.put, List.getElem_toArray, List.getElem_cons_succ, List.getElem_cons_zero, List.setIfInBounds_toArray, List.set_cons_zero, List.set_cons_succ]
                refine wpAnyH_ready (rs := [3]) (by kernel_rfl) (by simp) ?_
                refine AllReadyH.cons rfl (fun K hK => ?_) AllReadyH.nil
                go_simp
                refine hK.out _ _ trivial (fun hHeld1 => ?_)
                clear hK K hHeld
                have hHeld := hHeld1
                clear hHeld1
                try simp only [Act.put, List.getElem_toArray, List.getElem_cons_succ, List.getElem_cons_zero, List.setIfInBounds_toArray, List.set_cons_zero, List.set_cons_succ]
                refine wpAnyH_ready (rs := [4]) (by kernel_rfl) (by simp) ?_
                refine AllReadyH.cons rfl (fun K hK => ?_) AllReadyH.nil
                go_simp
                refine (among_at B b (k + 1 + 20 * j + 13) A n cap zs wc.drew wc.heap.size rfl 6 _ [0, 0, 2, 3, 357, 358] (by omega) HB0.out.1.1 rfl (by decide) (by decide)).mono ?_
                rintro e w4 ⟨y, hy, rfl, hC, hg⟩
                have HB4 := Lib.hid (HB0.out.step hC hg)
                clear hC hg hy
                refine hK.out _ _ trivial (fun hHeld1 => ?_)
                clear hK K hHeld
                have hHeld := hHeld1
                clear hHeld1
                try simp only [Act.put, List.getElem_toArray, List.getElem_cons_succ, List.getElem_cons_zero, List.setIfInBounds_toArray, List.set_cons_zero, List.set_cons_succ]
                refine' wpAnyH_take (i := 5) (v := ?vr12_5) rfl (by kernel_rfl) (by kernel_rfl) (by kernel_rfl) (fun _ _ _ h => h) (Or.inl ⟨by rfl, ?hyr12_5⟩) (by assumption) ?restr12_5
                case hyr12_5 => (intro w hSw; (try dsimp only at hSw); go_simp; try (with_reducible rfl))
                simp only [Act.put, List.getElem_toArray, List.getElem_cons_succ, List.getElem_cons_zero, List.setIfInBounds_toArray, List.set_cons_zero, List.set_cons_succ]
                refine' wpAnyH_take (i := 6) (v := ?vr13_6) rfl (by kernel_rfl) (by kernel_rfl) (by kernel_rfl) (fun _ _ _ h => h) (Or.inl ⟨by rfl, ?hyr13_6⟩) (by assumption) ?restr13_6
                case hyr13_6 => (intro w hSw; (try dsimp only at hSw); go_simp; try (with_reducible rfl))
                simp only [Act.put, List.getElem_toArray, List.getElem_cons_succ, List.getElem_cons_zero, List.setIfInBounds_toArray, List.set_cons_zero, List.set_cons_succ]
                refine' wpAnyH_take (i := 7) (v := ?vr14_7) rfl (by kernel_rfl) (by kernel_rfl) (by kernel_rfl) (fun _ _ _ h => h) (Or.inl ⟨by rfl, ?hyr14_7⟩) (by assumption) ?restr14_7
                case hyr14_7 => (intro w hSw; (try dsimp only at hSw); go_simp; try (with_reducible rfl))
                simp only [Act.put, List.getElem_toArray, List.getElem_cons_succ, List.getElem_cons_zero, List.setIfInBounds_toArray, List.set_cons_zero, List.set_cons_succ]
                obtain ⟨⟨e0, e1, e2, e3, e4, e5⟩, ⟨g0, g1, g2, g3, g4, g5⟩, yl⟩ := HB4.out.cells
                refine wpAnyH_ready (rs := [8]) (by kernel_rfl) (by simp) ?_
                refine AllReadyH.cons rfl (fun K hK => ?_) AllReadyH.nil
                go_simp
                refine hK.out _ _ trivial (fun hHeld1 => ?_)
                clear hK K hHeld hHeld1
                try simp only [Act.put, List.getElem_toArray, List.getElem_cons_succ, List.getElem_cons_zero, List.setIfInBounds_toArray, List.set_cons_zero, List.set_cons_succ]
                refine wpAnyH_done (by kernel_rfl) ?_ _
                first | refine hK0 _ _ (Met.intro (hJ0 _ _ ?_)) | refine Met.intro (hK0 _ _ (Met.intro (hJ0 _ _ ?_)))
                (repeat apply Exists.intro)
                exact ⟨⟨_, HB4.out.put_3 _⟩, rfl⟩
              · have HBa := Lib.hid (HB.out.alloc (.cells #[.int .i64 0, .int .i64 0, .int .i64 2, .int .i64 3, .int .i64 357, .int .i64 358] 3))
                clear cj xl
                have cj := HBa.out.cells.1.2.2.2.1
                have xl := HBa.out.2.1.lt
                go_simp
                refine hK.out _ _ trivial (fun hHeld1 => ?_)
                clear hK K hHeld
                have hHeld := hHeld1
                clear hHeld1
                try simp only [Act.put, List.getElem_toArray, List.getElem_cons_succ, List.getElem_cons_zero, List.setIfInBounds_toArray, List.set_cons_zero, List.set_cons_succ]
                refine wpAnyH_ready (rs := [1, 4]) (by kernel_rfl) (by simp) ?_
                refine AllReadyH.cons rfl (fun K hK => ?_) (AllReadyH.cons rfl (fun K hK => ?_) AllReadyH.nil)
                · go_simp
                  refine hK.out _ _ trivial (fun hHeld1 => ?_)
                  clear hK K hHeld
                  have hHeld := hHeld1
                  clear hHeld1
                  try simp only [Act.put, List.getElem_toArray, List.getElem_cons_succ, List.getElem_cons_zero, List.setIfInBounds_toArray, List.set_cons_zero, List.set_cons_succ]
                  refine wpAnyH_ready (rs := [4]) (by kernel_rfl) (by simp) ?_
                  refine AllReadyH.cons rfl (fun K hK => ?_) AllReadyH.nil
                  go_simp
                  refine (among_at B b (k + 1 + 20 * j + 13) A n cap zs wc.drew wc.heap.size rfl 6 _ [0, 0, 2, 3, 357, 358] (by omega) HB0.out.1.1 rfl (by decide) (by decide)).mono ?_
                  rintro e w4 ⟨y, hy, rfl, hC, hg⟩
                  have HB4 := Lib.hid (HB0.out.step hC hg)
                  clear hC hg hy
                  refine hK.out _ _ trivial (fun hHeld1 => ?_)
                  clear hK K hHeld
                  have hHeld := hHeld1
                  clear hHeld1
                  try simp only [Act.put, List.getElem_toArray, List.getElem_cons_succ, List.getElem_cons_zero, List.setIfInBounds_toArray, List.set_cons_zero, List.set_cons_succ]
                  refine' wpAnyH_take (i := 5) (v := ?vr15_5) rfl (by kernel_rfl) (by kernel_rfl) (by kernel_rfl) (fun _ _ _ h => h) (Or.inl ⟨by rfl, ?hyr15_5⟩) (by assumption) ?restr15_5
                  case hyr15_5 => (intro w hSw; (try dsimp only at hSw); go_simp; try (with_reducible rfl))
                  simp only [Act.put, List.getElem_toArray, List.getElem_cons_succ, List.getElem_cons_zero, List.setIfInBounds_toArray, List.set_cons_zero, List.set_cons_succ]
                  refine' wpAnyH_take (i := 6) (v := ?vr16_6) rfl (by kernel_rfl) (by kernel_rfl) (by kernel_rfl) (fun _ _ _ h => h) (Or.inl ⟨by rfl, ?hyr16_6⟩) (by assumption) ?restr16_6
                  case hyr16_6 => (intro w hSw; (try dsimp only at hSw); go_simp; try (with_reducible rfl))
                  simp only [Act.put, List.getElem_toArray, List.getElem_cons_succ, List.getElem_cons_zero, List.setIfInBounds_toArray, List.set_cons_zero, List.set_cons_succ]
                  refine' wpAnyH_take (i := 7) (v := ?vr17_7) rfl (by kernel_rfl) (by kernel_rfl) (by kernel_rfl) (fun _ _ _ h => h) (Or.inl ⟨by rfl, ?hyr17_7⟩) (by assumption) ?restr17_7
                  case hyr17_7 => (intro w hSw; (try dsimp only at hSw); go_simp; try (with_reducible rfl))
                  simp only [Act.put, List.getElem_toArray, List.getElem_cons_succ, List.getElem_cons_zero, List.setIfInBounds_toArray, List.set_cons_zero, List.set_cons_succ]
                  obtain ⟨⟨e0, e1, e2, e3, e4, e5⟩, ⟨g0, g1, g2, g3, g4, g5⟩, yl⟩ := HB4.out.cells
                  refine wpAnyH_ready (rs := [8]) (by kernel_rfl) (by simp) ?_
                  refine AllReadyH.cons rfl (fun K hK => ?_) AllReadyH.nil
                  go_simp
                  refine hK.out _ _ trivial (fun hHeld1 => ?_)
                  clear hK K hHeld hHeld1
                  try simp only [Act.put, List.getElem_toArray, List.getElem_cons_succ, List.getElem_cons_zero, List.setIfInBounds_toArray, List.set_cons_zero, List.set_cons_succ]
                  refine wpAnyH_done (by kernel_rfl) ?_ _
                  first | refine hK0 _ _ (Met.intro (hJ0 _ _ ?_)) | refine Met.intro (hK0 _ _ (Met.intro (hJ0 _ _ ?_)))
                  (repeat apply Exists.intro)
                  exact ⟨⟨_, HB4.out.put_3 _⟩, rfl⟩
                · go_simp
                  refine (among_at B b (k + 1 + 20 * j + 13) A n cap zs wc.drew wc.heap.size rfl 6 _ [0, 0, 2, 3, 357, 358] (by omega) HB0.out.1.1 rfl (by decide) (by decide)).mono ?_
                  rintro e w4 ⟨y, hy, rfl, hC, hg⟩
                  have HB4 := Lib.hid (HB0.out.step hC hg)
                  clear hC hg hy
                  refine hK.out _ _ trivial (fun hHeld1 => ?_)
                  clear hK K hHeld
                  have hHeld := hHeld1
                  clear hHeld1
                  try simp only [Act.put, List.getElem_toArray, List.getElem_cons_succ, List.getElem_cons_zero, List.setIfInBounds_toArray, List.set_cons_zero, List.set_cons_succ]
                  clear cj xl
                  have cj := HB4.out.cells.1.2.2.2.1
                  have xl := HB4.out.2.1.lt
                  refine wpAnyH_ready (rs := [1]) (by kernel_rfl) (by simp) ?_
                  refine AllReadyH.cons rfl (fun K hK => ?_) AllReadyH.nil
                  go_simp
                  refine hK.out _ _ trivial (fun hHeld1 => ?_)
                  clear hK K hHeld
                  have hHeld := hHeld1
                  clear hHeld1
                  try simp only [Act.put, List.getElem_toArray, List.getElem_cons_succ, List.getElem_cons_zero, List.setIfInBounds_toArray, List.set_cons_zero, List.set_cons_succ]
                  refine' wpAnyH_take (i := 5) (v := ?vr18_5) rfl (by kernel_rfl) (by kernel_rfl) (by kernel_rfl) (fun _ _ _ h => h) (Or.inl ⟨by rfl, ?hyr18_5⟩) (by assumption) ?restr18_5
                  case hyr18_5 => (intro w hSw; (try dsimp only at hSw); go_simp; try (with_reducible rfl))
                  simp only [Act.put, List.getElem_toArray, List.getElem_cons_succ, List.getElem_cons_zero, List.setIfInBounds_toArray, List.set_cons_zero, List.set_cons_succ]
                  refine' wpAnyH_take (i := 6) (v := ?vr19_6) rfl (by kernel_rfl) (by kernel_rfl) (by kernel_rfl) (fun _ _ _ h => h) (Or.inl ⟨by rfl, ?hyr19_6⟩) (by assumption) ?restr19_6
                  case hyr19_6 => (intro w hSw; (try dsimp only at hSw); go_simp; try (with_reducible rfl))
                  simp only [Act.put, List.getElem_toArray, List.getElem_cons_succ, List.getElem_cons_zero, List.setIfInBounds_toArray, List.set_cons_zero, List.set_cons_succ]
                  refine' wpAnyH_take (i := 7) (v := ?vr20_7) rfl (by kernel_rfl) (by kernel_rfl) (by kernel_rfl) (fun _ _ _ h => h) (Or.inl ⟨by rfl, ?hyr20_7⟩) (by assumption) ?restr20_7
                  case hyr20_7 => (intro w hSw; (try dsimp only at hSw); go_simp; try (with_reducible rfl))
                  simp only [Act.put, List.getElem_toArray, List.getElem_cons_succ, List.getElem_cons_zero, List.setIfInBounds_toArray, List.set_cons_zero, List.set_cons_succ]
                  obtain ⟨⟨e0, e1, e2, e3, e4, e5⟩, ⟨g0, g1, g2, g3, g4, g5⟩, yl⟩ := HB4.out.cells
                  refine wpAnyH_ready (rs := [8]) (by kernel_rfl) (by simp) ?_
                  refine AllReadyH.cons rfl (fun K hK => ?_) AllReadyH.nil
                  go_simp
                  refine hK.out _ _ trivial (fun hHeld1 => ?_)
                  clear hK K hHeld hHeld1
                  try simp only [Act.put, List.getElem_toArray, List.getElem_cons_succ, List.getElem_cons_zero, List.setIfInBounds_toArray, List.set_cons_zero, List.set_cons_succ]
                  refine wpAnyH_done (by kernel_rfl) ?_ _
                  first | refine hK0 _ _ (Met.intro (hJ0 _ _ ?_)) | refine Met.intro (hK0 _ _ (Met.intro (hJ0 _ _ ?_)))
                  (repeat apply Exists.intro)
                  exact ⟨⟨_, HB4.out.put_3 _⟩, rfl⟩
            case rest =>
              clear HB
              obtain ⟨t2, hB2⟩ := hcut
              have HB := Lib.hid hB2
              clear hB2
              go_upto_region 10 with fail
              go_cut [44] (fun _ wx => ∃ t2 : En, GB w B b (k + 1 + 20 * j + 14 + 1) A n cap zs (.slice (some ⟨g, 0, none⟩) L c) L ts X t2 wx)
              case first =>
                rename_i J0 K0 hJ0 hK0
                have HB0 := Lib.hid HB.out.drew
                have cj := HB0.out.cells.1.2.2.2.2.1
                have xl := HB0.out.2.1.lt
                refine wp_region_held_drew (S := fun _ => True) (by kernel_rfl) ?_ (fun hHeld => ?_)
                · trivial
                refine' wpAnyH_take (i := 0) (v := ?vr21_0) rfl (by kernel_rfl) (by kernel_rfl) (by kernel_rfl) (fun _ _ _ h => h) (Or.inl ⟨by rfl, ?hyr21_0⟩) (by assumption) ?restr21_0
                case hyr21_0 => (intro w hSw; (try dsimp only at hSw); go_simp; try (with_reducible rfl))
                simp only [Act.put, List.getElem_toArray, List.getElem_cons_succ, List.getElem_cons_zero, List.setIfInBounds_toArray, List.set_cons_zero, List.set_cons_succ]
                refine' wpAnyH_take (i := 2) (v := ?vr21_2) rfl (by kernel_rfl) (by kernel_rfl) (by kernel_rfl) (fun _ _ _ h => h) (Or.inl ⟨by rfl, ?hyr21_2⟩) (by assumption) ?restr21_2
                case hyr21_2 => (intro w hSw; (try dsimp only at hSw); go_simp; try (with_reducible rfl))
                simp only [Act.put, List.getElem_toArray, List.getElem_cons_succ, List.getElem_cons_zero, List.setIfInBounds_toArray, List.set_cons_zero, List.set_cons_succ]
                refine wpAnyH_ready (rs := [1, 3]) (by kernel_rfl) (by simp) ?_
                refine AllReadyH.cons rfl (fun K hK => ?_) (AllReadyH.cons rfl (fun K hK => ?_) AllReadyH.nil)
                · go_simp
                  refine hK.out _ _ trivial (fun hHeld1 => ?_)
                  clear hK K hHeld
                  have hHeld := hHeld1
                  clear hHeld1
                  try simp only [Act.put, List.getElem_toArray, List.getElem_cons_succ, List.getElem_cons_zero, List.setIfInBounds_toArray, List.set_cons_zero, List.set_cons_succ]
                  refine wpAnyH_ready (rs := [3]) (by kernel_rfl) (by simp) ?_
                  refine AllReadyH.cons rfl (fun K hK => ?_) AllReadyH.nil
                  go_simp
                  refine hK.out _ _ trivial (fun hHeld1 => ?_)
                  clear hK K hHeld
                  have hHeld := hHeld1
                  clear hHeld1
                  try simp only [Act.put, List.getElem_toArray, List.getElem_cons_succ, List.getElem_cons_zero, List.setIfInBounds_toArray, List.set_cons_zero, List.set_cons_succ]
                  refine wpAnyH_ready (rs := [4]) (by kernel_rfl) (by simp) ?_
                  refine AllReadyH.cons rfl (fun K hK => ?_) AllReadyH.nil
                  go_simp
                  refine (among_at B b (k + 1 + 20 * j + 14) A n cap zs wc.drew wc.heap.size rfl 4 _ [0, 0, 2, 3] (by omega) HB0.out.1.1 rfl (by decide) (by decide)).mono ?_
                  rintro e w4 ⟨y, hy, rfl, hC, hg⟩
                  have HB4 := Lib.hid (HB0.out.step hC hg)
                  clear hC hg hy
                  refine hK.out _ _ trivial (fun hHeld1 => ?_)
                  clear hK K hHeld
                  have hHeld := hHeld1
                  clear hHeld1
                  try simp only [Act.put, List.getElem_toArray, List.getElem_cons_succ, List.getElem_cons_zero, List.setIfInBounds_toArray, List.set_cons_zero, List.set_cons_succ]
                  refine' wpAnyH_take (i := 5) (v := ?vr22_5) rfl (by kernel_rfl) (by kernel_rfl) (by kernel_rfl) (fun _ _ _ h => h) (Or.inl ⟨by rfl, ?hyr22_5⟩) (by assumption) ?restr22_5
                  case hyr22_5 => (intro w hSw; (try dsimp only at hSw); go_simp; try (with_reducible rfl))
                  simp only [Act.put, List.getElem_toArray, List.getElem_cons_succ, List.getElem_cons_zero, List.setIfInBounds_toArray, List.set_cons_zero, List.set_cons_succ]
                  refine wpAnyH_ready (rs := [6]) (by kernel_rfl) (by simp) ?_
                  refine AllReadyH.cons rfl (fun K hK => ?_) AllReadyH.nil
                  go_simp
                  obtain ⟨z, HZ⟩ : ∃ z, Hid (lst.mn 90 (IntKind.i64.wrap (t2.slope + y)) = z) := ⟨_, Lib.hid rfl⟩
                  refine (lst.least_is _ _ z HZ _).mono ?_
                  rintro e w5 ⟨rfl, rfl⟩
                  refine hK.out _ _ trivial (fun hHeld1 => ?_)
                  clear hK K hHeld
                  have hHeld := hHeld1
                  clear hHeld1
                  try simp only [Act.put, List.getElem_toArray, List.getElem_cons_succ, List.getElem_cons_zero, List.setIfInBounds_toArray, List.set_cons_zero, List.set_cons_succ]
                  refine' wpAnyH_take (i := 7) (v := ?vr23_7) rfl (by kernel_rfl) (by kernel_rfl) (by kernel_rfl) (fun _ _ _ h => h) (Or.inl ⟨by rfl, ?hyr23_7⟩) (by assumption) ?restr23_7
                  case hyr23_7 => (intro w hSw; (try dsimp only at hSw); go_simp; try (with_reducible rfl))
                  simp only [Act.put, List.getElem_toArray, List.getElem_cons_succ, List.getElem_cons_zero, List.setIfInBounds_toArray, List.set_cons_zero, List.set_cons_succ]
                  obtain ⟨⟨e0, e1, e2, e3, e4, e5⟩, ⟨g0, g1, g2, g3, g4, g5⟩, yl⟩ := HB4.out.cells
                  refine wpAnyH_ready (rs := [8]) (by kernel_rfl) (by simp) ?_
                  refine AllReadyH.cons rfl (fun K hK => ?_) AllReadyH.nil
                  go_simp
                  refine hK.out _ _ trivial (fun hHeld1 => ?_)
                  clear hK K hHeld hHeld1
                  try simp only [Act.put, List.getElem_toArray, List.getElem_cons_succ, List.getElem_cons_zero, List.setIfInBounds_toArray, List.set_cons_zero, List.set_cons_succ]
                  refine wpAnyH_done (by kernel_rfl) ?_ _
                  first | refine hK0 _ _ (Met.intro (hJ0 _ _ ?_)) | refine Met.intro (hK0 _ _ (Met.intro (hJ0 _ _ ?_)))
                  (repeat apply Exists.intro)
                  exact ⟨⟨_, HB4.out.put_4 _⟩, rfl⟩
                · have HBa := Lib.hid (HB.out.alloc (.cells #[.int .i64 0, .int .i64 0, .int .i64 2, .int .i64 3] 3))
                  clear cj xl
                  have cj := HBa.out.cells.1.2.2.2.2.1
                  have xl := HBa.out.2.1.lt
                  go_simp
                  refine hK.out _ _ trivial (fun hHeld1 => ?_)
                  clear hK K hHeld
                  have hHeld := hHeld1
                  clear hHeld1
                  try simp only [Act.put, List.getElem_toArray, List.getElem_cons_succ, List.getElem_cons_zero, List.setIfInBounds_toArray, List.set_cons_zero, List.set_cons_succ]
                  refine wpAnyH_ready (rs := [1, 4]) (by kernel_rfl) (by simp) ?_
                  refine AllReadyH.cons rfl (fun K hK => ?_) (AllReadyH.cons rfl (fun K hK => ?_) AllReadyH.nil)
                  · go_simp
                    refine hK.out _ _ trivial (fun hHeld1 => ?_)
                    clear hK K hHeld
                    have hHeld := hHeld1
                    clear hHeld1
                    try simp only [Act.put, List.getElem_toArray, List.getElem_cons_succ, List.getElem_cons_zero, List.setIfInBounds_toArray, List.set_cons_zero, List.set_cons_succ]
                    refine wpAnyH_ready (rs := [4]) (by kernel_rfl) (by simp) ?_
                    refine AllReadyH.cons rfl (fun K hK => ?_) AllReadyH.nil
                    go_simp
                    refine (among_at B b (k + 1 + 20 * j + 14) A n cap zs wc.drew wc.heap.size rfl 4 _ [0, 0, 2, 3] (by omega) HB0.out.1.1 rfl (by decide) (by decide)).mono ?_
                    rintro e w4 ⟨y, hy, rfl, hC, hg⟩
                    have HB4 := Lib.hid (HB0.out.step hC hg)
                    clear hC hg hy
                    refine hK.out _ _ trivial (fun hHeld1 => ?_)
                    clear hK K hHeld
                    have hHeld := hHeld1
                    clear hHeld1
                    try simp only [Act.put, List.getElem_toArray, List.getElem_cons_succ, List.getElem_cons_zero, List.setIfInBounds_toArray, List.set_cons_zero, List.set_cons_succ]
                    refine' wpAnyH_take (i := 5) (v := ?vr24_5) rfl (by kernel_rfl) (by kernel_rfl) (by kernel_rfl) (fun _ _ _ h => h) (Or.inl ⟨by rfl, ?hyr24_5⟩) (by assumption) ?restr24_5
                    case hyr24_5 => (intro w hSw; (try dsimp only at hSw); go_simp; try (with_reducible rfl))
                    simp only [Act.put, List.getElem_toArray, List.getElem_cons_succ, List.getElem_cons_zero, List.setIfInBounds_toArray, List.set_cons_zero, List.set_cons_succ]
                    refine wpAnyH_ready (rs := [6]) (by kernel_rfl) (by simp) ?_
                    refine AllReadyH.cons rfl (fun K hK => ?_) AllReadyH.nil
                    go_simp
                    obtain ⟨z, HZ⟩ : ∃ z, Hid (lst.mn 90 (IntKind.i64.wrap (t2.slope + y)) = z) := ⟨_, Lib.hid rfl⟩
                    refine (lst.least_is _ _ z HZ _).mono ?_
                    rintro e w5 ⟨rfl, rfl⟩
                    refine hK.out _ _ trivial (fun hHeld1 => ?_)
                    clear hK K hHeld
                    have hHeld := hHeld1
                    clear hHeld1
                    try simp only [Act.put, List.getElem_toArray, List.getElem_cons_succ, List.getElem_cons_zero, List.setIfInBounds_toArray, List.set_cons_zero, List.set_cons_succ]
                    refine' wpAnyH_take (i := 7) (v := ?vr25_7) rfl (by kernel_rfl) (by kernel_rfl) (by kernel_rfl) (fun _ _ _ h => h) (Or.inl ⟨by rfl, ?hyr25_7⟩) (by assumption) ?restr25_7
                    case hyr25_7 => (intro w hSw; (try dsimp only at hSw); go_simp; try (with_reducible rfl))
                    simp only [Act.put, List.getElem_toArray, List.getElem_cons_succ, List.getElem_cons_zero, List.setIfInBounds_toArray, List.set_cons_zero, List.set_cons_succ]
                    obtain ⟨⟨e0, e1, e2, e3, e4, e5⟩, ⟨g0, g1, g2, g3, g4, g5⟩, yl⟩ := HB4.out.cells
                    refine wpAnyH_ready (rs := [8]) (by kernel_rfl) (by simp) ?_
                    refine AllReadyH.cons rfl (fun K hK => ?_) AllReadyH.nil
                    go_simp
                    refine hK.out _ _ trivial (fun hHeld1 => ?_)
                    clear hK K hHeld hHeld1
                    try simp only [Act.put, List.getElem_toArray, List.getElem_cons_succ, List.getElem_cons_zero, List.setIfInBounds_toArray, List.set_cons_zero, List.set_cons_succ]
                    refine wpAnyH_done (by kernel_rfl) ?_ _
                    first | refine hK0 _ _ (Met.intro (hJ0 _ _ ?_)) | refine Met.intro (hK0 _ _ (Met.intro (hJ0 _ _ ?_)))
                    (repeat apply Exists.intro)
                    exact ⟨⟨_, HB4.out.put_4 _⟩, rfl⟩
                  · go_simp
                    refine (among_at B b (k + 1 + 20 * j + 14) A n cap zs wc.drew wc.heap.size rfl 4 _ [0, 0, 2, 3] (by omega) HB0.out.1.1 rfl (by decide) (by decide)).mono ?_
                    rintro e w4 ⟨y, hy, rfl, hC, hg⟩
                    have HB4 := Lib.hid (HB0.out.step hC hg)
                    clear hC hg hy
                    refine hK.out _ _ trivial (fun hHeld1 => ?_)
                    clear hK K hHeld
                    have hHeld := hHeld1
                    clear hHeld1
                    try simp only [Act.put, List.getElem_toArray, List.getElem_cons_succ, List.getElem_cons_zero, List.setIfInBounds_toArray, List.set_cons_zero, List.set_cons_succ]
                    clear cj xl
                    have cj := HB4.out.cells.1.2.2.2.2.1
                    have xl := HB4.out.2.1.lt
                    refine wpAnyH_ready (rs := [1]) (by kernel_rfl) (by simp) ?_
                    refine AllReadyH.cons rfl (fun K hK => ?_) AllReadyH.nil
                    go_simp
                    refine hK.out _ _ trivial (fun hHeld1 => ?_)
                    clear hK K hHeld
                    have hHeld := hHeld1
                    clear hHeld1
                    try simp only [Act.put, List.getElem_toArray, List.getElem_cons_succ, List.getElem_cons_zero, List.setIfInBounds_toArray, List.set_cons_zero, List.set_cons_succ]
                    refine' wpAnyH_take (i := 5) (v := ?vr26_5) rfl (by kernel_rfl) (by kernel_rfl) (by kernel_rfl) (fun _ _ _ h => h) (Or.inl ⟨by rfl, ?hyr26_5⟩) (by assumption) ?restr26_5
                    case hyr26_5 => (intro w hSw; (try dsimp only at hSw); go_simp; try (with_reducible rfl))
                    simp only [Act.put, List.getElem_toArray, List.getElem_cons_succ, List.getElem_cons_zero, List.setIfInBounds_toArray, List.set_cons_zero, List.set_cons_succ]
                    refine wpAnyH_ready (rs := [6]) (by kernel_rfl) (by simp) ?_
                    refine AllReadyH.cons rfl (fun K hK => ?_) AllReadyH.nil
                    go_simp
                    obtain ⟨z, HZ⟩ : ∃ z, Hid (lst.mn 90 (IntKind.i64.wrap (t2.slope + y)) = z) := ⟨_, Lib.hid rfl⟩
                    refine (lst.least_is _ _ z HZ _).mono ?_
                    rintro e w5 ⟨rfl, rfl⟩
                    refine hK.out _ _ trivial (fun hHeld1 => ?_)
                    clear hK K hHeld
                    have hHeld := hHeld1
                    clear hHeld1
                    try simp only [Act.put, List.getElem_toArray, List.getElem_cons_succ, List.getElem_cons_zero, List.setIfInBounds_toArray, List.set_cons_zero, List.set_cons_succ]
                    refine' wpAnyH_take (i := 7) (v := ?vr27_7) rfl (by kernel_rfl) (by kernel_rfl) (by kernel_rfl) (fun _ _ _ h => h) (Or.inl ⟨by rfl, ?hyr27_7⟩) (by assumption) ?restr27_7
                    case hyr27_7 => (intro w hSw; (try dsimp only at hSw); go_simp; try (with_reducible rfl))
                    simp only [Act.put, List.getElem_toArray, List.getElem_cons_succ, List.getElem_cons_zero, List.setIfInBounds_toArray, List.set_cons_zero, List.set_cons_succ]
                    obtain ⟨⟨e0, e1, e2, e3, e4, e5⟩, ⟨g0, g1, g2, g3, g4, g5⟩, yl⟩ := HB4.out.cells
                    refine wpAnyH_ready (rs := [8]) (by kernel_rfl) (by simp) ?_
                    refine AllReadyH.cons rfl (fun K hK => ?_) AllReadyH.nil
                    go_simp
                    refine hK.out _ _ trivial (fun hHeld1 => ?_)
                    clear hK K hHeld hHeld1
                    try simp only [Act.put, List.getElem_toArray, List.getElem_cons_succ, List.getElem_cons_zero, List.setIfInBounds_toArray, List.set_cons_zero, List.set_cons_succ]
                    refine wpAnyH_done (by kernel_rfl) ?_ _
                    first | refine hK0 _ _ (Met.intro (hJ0 _ _ ?_)) | refine Met.intro (hK0 _ _ (Met.intro (hJ0 _ _ ?_)))
                    (repeat apply Exists.intro)
                    exact ⟨⟨_, HB4.out.put_4 _⟩, rfl⟩
              case rest =>
                clear HB
                obtain ⟨t2, hB2⟩ := hcut
                have HB := Lib.hid hB2
                clear hB2
                go_wp2_with fail
                refine (pick_any B b (k + 1 + 20 * j + 15) A n cap zs _ 4 (by omega) HB.out.1.1 (by decide) (by decide)).mono ?_
                rintro e w7 ⟨s, rfl, hs, hC, hg⟩
                have HB7 := Lib.hid (HB.out.step hC hg)
                clear hC hg HB
                obtain ⟨⟨c0, c1, c2, c3, c4, c5⟩, ⟨f0, f1, f2, f3, f4, f5⟩, xl⟩ := HB7.out.cells
                by_cases q0 : s = 0
                · subst q0
                  go_wp2_with fail
                  go_meet
                  case rel => exact ⟨_, HB7.out.put6 _ _ _ _ _ _⟩
                have q0' : ((s : Int) == 0) = false := by rw [beq_eq_false_iff_ne]; omega
                by_cases q1 : s = 1
                · subst q1
                  go_wp2_with fail
                  go_meet
                  case rel => exact ⟨_, HB7.out.put6 _ _ _ _ _ _⟩
                have q1' : ((s : Int) == 1) = false := by rw [beq_eq_false_iff_ne]; omega
                by_cases q2 : s = 2
                · subst q2
                  go_wp2_with fail
                  go_meet
                  case rel => exact ⟨_, HB7.out.put6 _ _ _ _ _ _⟩
                have q2' : ((s : Int) == 2) = false := by rw [beq_eq_false_iff_ne]; omega
                go_wp2_with fail
                go_meet
                case rel => exact ⟨_, HB7.out⟩
      case rest =>
        clear HB5
        obtain ⟨t3, hB2⟩ := hcut
        have HB := Lib.hid hB2
        clear hB2
        obtain ⟨⟨c0, c1, c2, c3, c4, c5⟩, ⟨f0, f1, f2, f3, f4, f5⟩, xl⟩ := HB.out.cells
        have HRW := Lib.hid HB.out.1.2.2.1
        have hsW := HB.out.1.2.1.size
        have HGS := Lib.hid HB.out.1
        have hL12 : L ≤ 12 := by omega
        go_wp2_with (at_builtin; refine wpList_append_own _ rfl _ _ 33 rfl w.heap.size 25 i0 _ 6 48 Tryz.underlying33 hi hz0 hz1 hz2 rfl (by decide) _ _ _ rfl (HRW.out.alloc _) ⟨wc.heap.size, 0, none⟩ 1 1 [.int .i64 t3.frm, .int .i64 t3.to_, .int .i64 t3.tape, .int .i64 t3.comp, .int .i64 t3.slope, .bool t3.back] rfl rfl (World.news_of_block (alloc_at rfl)) (by simp [Value.oneCell']) (by unfold maxLen; omega) (by omega) (by simp; omega) ?_; intro v' w9 hown' hgrow _; obtain ⟨A2, c2, rfl⟩ := row_slice hown')
        go_roundw
        case rel => exact ⟨j + 1, q - 1, L + 1, ts ++ [t3], by omega, by first | go_num | (congr 1; omega), by have := HLJ.out; omega, GS.more (k' := k + 1 + 20 * (j + 1)) ((HGS.out.alloc _).app hown' hgrow) (by omega)⟩
        case measure => simp [intOf]; omega
    · obtain rfl : q = 0 := by omega
      have hqd : decide ((0 : Int) < ((0 : Nat) : Int)) = false := by simp
      go_wp2_with fail
      refine (one_any B b (k + 1 + 20 * j) A n cap zs _ 24 (by omega) HS.out.1 (by decide) (by decide)).mono ?_
      rintro e w5 ⟨t1, rfl, hC, hg⟩
      have HS5 := Lib.hid (HS.out.step hC hg)
      clear hC hg HS
      cases t1
      · have HS6 := Lib.hid (HS5.out.more (show k + 1 + 20 * j + 1 ≤ k + 300 by omega))
        clear HS5
        go_wp2_with fail
        go_ret
        exact ⟨_, L, ts, rfl, by omega, HS6.out⟩
      · have HS6 := Lib.hid (HS5.out.more (show k + 1 + 20 * j + 1 ≤ k + 150 + L by omega))
        clear HS5 hqd
        go_wp2_with fail
        go_loopw [3] (fun v wr => ∃ (L : Nat) (us : List En) (c : Nat) (A' : Option Addr), v = .slice A' L c ∧ L ≤ 13 ∧ GS w B b (k + 150 + L) A n cap zs v L us wr) (fun v _ => 14 - lenV v)
        case atStart => exact ⟨L, ts, c, A', rfl, by omega, HS6.out⟩
        case round =>
          obtain ⟨L, us, c, A', rfl, hu, hS⟩ := hrel
          have HS8 := Lib.hid hS
          clear hS HS6
          go_wp2_with fail
          refine (pick_any B b (k + 150 + L) A n cap zs _ 2 (by omega) HS8.out.1 (by decide) (by decide)).mono ?_
          rintro e w8 ⟨r, rfl, hr, hC, hg⟩
          have hr1 : r ≤ 1 := by omega
          have HS9 := Lib.hid (HS8.out.step hC hg)
          have hs9 := HS9.out.2.1.size
          have HRW := Lib.hid HS9.out.2.2.1
          clear hC hg hr HS8
          by_cases hlt : L < 12 + r
          · have hd1 : decide ((L : Int) < 12 + (r : Int)) = true := by simp; omega
            go_wp2_with (at_builtin; refine wpList_append_own _ rfl _ _ 33 rfl w.heap.size 25 i0 _ 6 48 Tryz.underlying33 hi hz0 hz1 hz2 rfl (by decide) _ _ _ rfl (HRW.out.alloc _) ⟨w8.heap.size, 0, none⟩ 1 1 [.int .i64 0, .int .i64 1, .int .i64 10, .int .i64 0, .int .i64 0, .bool false] rfl rfl (World.news_of_block (alloc_at rfl)) (by simp [Value.oneCell']) (by unfold maxLen; omega) (by omega) (by simp; omega) ?_; intro v' w9 hown' hgrow _; obtain ⟨A2, c2, rfl⟩ := row_slice hown')
            go_roundw
            case rel => exact ⟨L + 1, us ++ [⟨0, 1, 10, 0, 0, false⟩], c2, A2, rfl, by omega, ((HS9.out.alloc _).app (t := ⟨0, 1, 10, 0, 0, false⟩) hown' hgrow).more (by omega)⟩
            case measure => simp [lenV]; omega
          · have hd1 : decide ((L : Int) < 12 + (r : Int)) = false := by simp; omega
            have HS10 := Lib.hid (HS9.out.more (show k + 150 + L + 1 ≤ k + 300 by omega))
            go_wp2_with fail
            go_ret
            exact ⟨_, L, us, rfl, hu, HS10.out⟩
end Go.Proofs.YtnlljdepcldibaaGreatDoor.dre
