/-
  The drawn lists of passages.
  Conditions: the code has at most 65536 bytes.
-/
import Derived.Test.YtnpghhpcloljeaaDoorTyPg
import Derived.Test.YtnpghhpcloljeaaDoorCurE
import Derived.Test.YtnpghhpcloljeaaDoorDrB
import Derived.Deep.DeepCutAuto
import Derived.Laws.OwnMore
import Derived.OwnWalk
import Derived.Deep.AppendLies
namespace Go.Proofs.YtnpghhpcloljeaaDoor.drg
open Go.RowKit
open reads base curs curd cure ty
set_option linter.unusedVariables false
set_option linter.unusedSimpArgs false

/-- bounds that drawn passages keep, valid or not -/
def okQ (t : Pg) : Prop := (-1000 ≤ t.st ∧ t.st ≤ 1000) ∧ (-1000 ≤ t.lf ∧ t.lf ≤ 1000) ∧ (-1000 ≤ t.rt ∧ t.rt ≤ 1000) ∧ (-1000 ≤ t.ab ∧ t.ab ≤ 1000) ∧ (-1000 ≤ t.be ∧ t.be ≤ 1000)
/-- a list in the making: the cursor, the list's own block -/
def GS (w : World) (B b k : Nat) (A : Option Addr) (n cap : Nat) (zs : List UInt8) (v : Value) (ts : List Pg) (u : World) : Prop :=
  Cur u B b k A n cap zs ∧ w.grownBy u (some b) ∧ u.ownsRow w.heap.size 43 5 v ts.length (flatPg ts) ∧ (∀ t ∈ ts, okQ t) ∧ b < w.heap.size ∧ B ≤ w.heap.size
section
variable {w u u' : World} {B b k k' : Nat} {A : Option Addr} {n cap : Nat} {zs : List UInt8} {v v' : Value} {ts : List Pg}
theorem GS.step (h : GS w B b k A n cap zs v ts u) (hC : Cur u' B b k' A n cap zs) (hg : u.grownBy u' (some b)) : GS w B b k' A n cap zs v ts u' :=
  ⟨hC, h.2.1.trans hg, own_step h.2.2.1 hg h.2.2.2.2.1, h.2.2.2⟩
theorem GS.alloc (h : GS w B b k A n cap zs v ts u) (o : Obj) : GS w B b k A n cap zs v ts (u.alloc o) :=
  ⟨cur_alloc h.1 (by have := h.2.1.size; have := h.2.2.2.2.2; omega) o, h.2.1.trans (World.grownBy_alloc u o (some b)), h.2.2.1.alloc o, h.2.2.2⟩
theorem GS.more (h : GS w B b k A n cap zs v ts u) (hk : k ≤ k') : GS w B b k' A n cap zs v ts u := ⟨cur_more h.1 k' hk, h.2⟩
theorem GS.app (h : GS w B b k A n cap zs v ts u) {t : Pg} (hok : okQ t) (ho : u'.ownsRow w.heap.size 43 5 v' (ts.length + 1) (flatPg ts ++ [.int .i64 t.st, .int .i64 t.lf, .int .i64 t.rt, .int .i64 t.ab, .int .i64 t.be])) (hg : u.grownBy u' v.ownBlock) : GS w B b k A n cap zs v' (ts ++ [t]) u' := by
  obtain ⟨h1, h2, h3, h4, h5, h6⟩ := h
  have hlo : ∀ g, v.ownBlock = some g → w.heap.size ≤ g := fun g e => (h3.lt g e).1
  obtain ⟨c1, c2, c3, pos, sd, c4, c5, c6, c7⟩ := h1
  have hs := h2.size
  refine ⟨⟨c1, c2.grown hg (by omega) (fun g e => by have := hlo g e; omega), c3, pos, sd, c4, c5, c6, c7.grown hg (fun e => by have := hlo _ e.symm; omega)⟩,
    ⟨hg.os.trans h2.os, hg.tape.trans h2.tape, hg.output.trans h2.output, Nat.le_trans h2.size hg.size, fun i hi hne => (hg.block i (by omega) (fun e => by have := hlo _ e.symm; omega)).trans (h2.block i hi hne)⟩, ?_, ?_, h5, h6⟩
  · rw [List.length_append, List.length_singleton, flatPg_app]; exact ho
  · intro x hx
    rcases List.mem_append.1 hx with q | q
    · exact h4 x q
    · rw [List.mem_singleton.1 q]; exact hok
end
/-- drawn passages -/
def GPo (B b k : Nat) (A : Option Addr) (n cap : Nat) (zs : List UInt8) (w : World) (e : Ending) (w' : World) : Prop :=
  ∃ (v : Value) (ts : List Pg), e = .returned v ∧ ts.length ≤ 8 ∧ GS w B b k A n cap zs v ts w'
set_option maxHeartbeats 8000000 in
set_option maxRecDepth 100000 in
theorem passages_any (B b k : Nat) (A : Option Addr) (n cap : Nat) (zs : List UInt8) (w : World) (hk : k ≤ 50000) (h : Hid (Cur w B b k A n cap zs)) :
    Calls Tryd.prog 40 #[.pointer (some ⟨b, 0, none⟩)] w (GPo B b (k + 60) A n cap zs w) := by
  obtain ⟨i0, hi, hz0, hz1, hz2⟩ := info_parts infoPg
  have hbl := cur_lt h.out
  have hBB : B ≤ w.heap.size := by have := h.out.1; omega
  have HS0 := Lib.hid (show GS w B b k A n cap zs (.slice (some ⟨w.heap.size, 0, none⟩) 0 0) [] (w.alloc (.cells #[] 43)) from
    ⟨cur_alloc h.out hBB _, World.grownBy_alloc w _ (some b), World.ownsRow_made w #[] 0 (Nat.le_refl _) (by decide) (by simp), by simp, hbl, hBB⟩)
  clear h
  go_enter Tryd.func40, Tryd.ntmps40
  go_wp2_with fail
  go_loopw [3, 4] (fun v i wr => ∃ (j L c : Nat) (A2 : Option Addr) (ts : List Pg), j ≤ 7 ∧ i = .int .i64 (j : Nat) ∧ v = .slice A2 L c ∧ Hid (ts.length = L) ∧ L ≤ j ∧ GS w B b (k + 5 * j) A n cap zs (.slice A2 L c) ts wr) (fun _ i _ => 7 - (intOf i).toNat)
  case atStart => exact ⟨0, 0, 0, _, [], Nat.zero_le _, rfl, rfl, Lib.hid rfl, Nat.le_refl _, HS0.out⟩
  case round =>
    obtain ⟨j, L, c, A2, ts, hj, rfl, rfl, HL, hLj, hS⟩ := hrel
    have HS := Lib.hid hS
    have hsz := hS.2.1.size
    clear hS HS0
    have hj0 : (0 : Int) ≤ (j : Int) := by omega
    by_cases hq : j < 7
    · have hqd : decide ((j : Int) < 7) = true := by simp; omega
      have hqd2 : decide (j < 7) = true := by simpa using hq
      go_wp2_with fail
      refine (one_any B b (k + 5 * j) A n cap zs _ 4 (by omega) HS.out.1 (by decide) (by decide)).mono ?_
      rintro e w1 ⟨t1, rfl, hC, hg⟩
      have HS1 := Lib.hid (HS.out.step hC hg)
      clear hC hg HS
      cases t1
      · go_wp2_with fail
        refine (among_new B b (k + 5 * j + 1) A n cap zs w1 4 _ [0, 5, 10, 50] (by omega) HS1.out.1 rfl (by decide) (by decide)).mono ?_
        rintro e w2 ⟨a0, ha0, rfl, hC, hg⟩
        have hba0 : 0 ≤ a0 ∧ a0 ≤ 50 := by simp at ha0; omega
        have HS2 := Lib.hid (HS1.out.step hC hg)
        clear hC hg ha0 HS1
        go_wp2_with fail
        refine (among_new B b (k + 5 * j + 1 + 1) A n cap zs w2 4 _ [0, 5, 12, 80] (by omega) HS2.out.1 rfl (by decide) (by decide)).mono ?_
        rintro e w3 ⟨a1, ha1, rfl, hC, hg⟩
        have hba1 : 0 ≤ a1 ∧ a1 ≤ 80 := by simp at ha1; omega
        have HS3 := Lib.hid (HS2.out.step hC hg)
        clear hC hg ha1 HS2
        go_wp2_with fail
        refine (among_new B b (k + 5 * j + 1 + 2) A n cap zs w3 3 _ [0, 10, 30] (by omega) HS3.out.1 rfl (by decide) (by decide)).mono ?_
        rintro e w4 ⟨a2, ha2, rfl, hC, hg⟩
        have hba2 : 0 ≤ a2 ∧ a2 ≤ 30 := by simp at ha2; omega
        have HS4 := Lib.hid (HS3.out.step hC hg)
        clear hC hg ha2 HS3
        go_wp2_with fail
        refine (among_new B b (k + 5 * j + 1 + 3) A n cap zs w4 3 _ [5, 15, 200] (by omega) HS4.out.1 rfl (by decide) (by decide)).mono ?_
        rintro e w5 ⟨a3, ha3, rfl, hC, hg⟩
        have hba3 : 5 ≤ a3 ∧ a3 ≤ 200 := by simp at ha3; omega
        have HS5 := Lib.hid (HS4.out.step hC hg)
        clear hC hg ha3 HS4
        have HOK := Lib.hid (show okQ ⟨(j : Int), a0, a1, a2, a3⟩ by unfold okQ; simp only []; omega)
        have hs5 := HS5.out.2.1.size
        have HO5 := Lib.hid (show w5.ownsRow w.heap.size 43 5 (.slice A2 L c) L (flatPg ts) by have q := HS5.out.2.2.1; rwa [HL.out] at q)
        go_wp2_with (at_builtin; refine wpList_append_own _ rfl _ _ 31 rfl w.heap.size 43 i0 (.agg #[.int .i64 0, .int .i64 0, .int .i64 0, .int .i64 0, .int .i64 0]) 5 40 Tryd.underlying31 hi hz0 hz1 hz2 rfl (by decide) _ _ _ rfl (HO5.out.alloc _) ⟨w5.heap.size, 0, none⟩ 1 1 [.int .i64 (j : Nat), .int .i64 a0, .int .i64 a1, .int .i64 a2, .int .i64 a3] rfl rfl (World.news_of_block (alloc_at rfl)) (by simp [Value.oneCell']) (by unfold maxLen; omega) (by omega) (by simp; omega) ?_; intro v' w9 hown' hgrow _; obtain ⟨A9, c9, rfl⟩ := row_slice hown')
        go_roundw
        case rel => exact ⟨j + 1, L + 1, c9, A9, ts ++ [⟨(j : Int), a0, a1, a2, a3⟩], by omega, by go_num, rfl, Lib.hid (by rw [List.length_append, HL.out]; rfl), by omega, (((HS5.out.alloc _).app (t := ⟨(j : Int), a0, a1, a2, a3⟩) HOK.out (by rw [HL.out]; exact hown') hgrow).more (by omega))⟩
        case measure => simp [intOf]; omega
      · go_wp2_with fail
        go_roundw
        case rel => exact ⟨j + 1, L, c, A2, ts, by omega, by go_num, rfl, HL, by omega, HS1.out.more (by omega)⟩
        case measure => simp [intOf]; omega
    · obtain rfl : j = 7 := by omega
      have hqd : decide (((7 : Nat) : Int) < 7) = false := by simp
      go_wp2_with fail
      refine (one_any B b (k + 5 * 7) A n cap zs _ 24 (by omega) HS.out.1 (by decide) (by decide)).mono ?_
      rintro e w1 ⟨t1, rfl, hC, hg⟩
      have HS1 := Lib.hid (HS.out.step hC hg)
      clear hC hg HS
      cases t1
      · go_wp2_with fail
        go_ret
        exact ⟨_, ts, rfl, by rw [HL.out]; omega, HS1.out.more (by omega)⟩
      · go_wp2_with fail
        refine (among_new B b (k + 5 * 7 + 1) A n cap zs w1 3 _ [0, 7, 8] (by omega) HS1.out.1 rfl (by decide) (by decide)).mono ?_
        rintro e w2 ⟨a0, ha0, rfl, hC, hg⟩
        have hba0 : 0 ≤ a0 ∧ a0 ≤ 8 := by simp at ha0; omega
        have HS2 := Lib.hid (HS1.out.step hC hg)
        clear hC hg ha0 HS1
        go_wp2_with fail
        refine (among_new B b (k + 5 * 7 + 1 + 1) A n cap zs w2 3 _ [-1, 200, 201] (by omega) HS2.out.1 rfl (by decide) (by decide)).mono ?_
        rintro e w3 ⟨a1, ha1, rfl, hC, hg⟩
        have hba1 : -1 ≤ a1 ∧ a1 ≤ 201 := by simp at ha1; omega
        have HS3 := Lib.hid (HS2.out.step hC hg)
        clear hC hg ha1 HS2
        have HOK := Lib.hid (show okQ ⟨a0, a1, 3, 0, 0⟩ by unfold okQ; simp only []; omega)
        have hs3 := HS3.out.2.1.size
        have HO3 := Lib.hid (show w3.ownsRow w.heap.size 43 5 (.slice A2 L c) L (flatPg ts) by have q := HS3.out.2.2.1; rwa [HL.out] at q)
        go_wp2_with (at_builtin; refine wpList_append_own _ rfl _ _ 31 rfl w.heap.size 43 i0 (.agg #[.int .i64 0, .int .i64 0, .int .i64 0, .int .i64 0, .int .i64 0]) 5 40 Tryd.underlying31 hi hz0 hz1 hz2 rfl (by decide) _ _ _ rfl (HO3.out.alloc _) ⟨w3.heap.size, 0, none⟩ 1 1 [.int .i64 a0, .int .i64 a1, .int .i64 3, .int .i64 0, .int .i64 0] rfl rfl (World.news_of_block (alloc_at rfl)) (by simp [Value.oneCell']) (by unfold maxLen; omega) (by omega) (by simp; omega) ?_; intro v' w9 hown' hgrow _; obtain ⟨A9, c9, rfl⟩ := row_slice hown')
        go_ret
        exact ⟨_, ts ++ [⟨a0, a1, 3, 0, 0⟩], rfl, by rw [List.length_append, HL.out]; simp; omega, ((HS3.out.alloc _).app (t := ⟨a0, a1, 3, 0, 0⟩) HOK.out (by rw [HL.out]; exact hown') hgrow).more (by omega)⟩
/-- drawn passages, behind their function -/
def DPq (w : World) (e : Ending) (w' : World) : Prop := ∃ (v : Value) (ts : List Pg), e = .returned v ∧ w'.ownsRow w.heap.size 43 5 v ts.length (flatPg ts) ∧ ts.length ≤ 8 ∧ Below w.heap.size w w'
set_option maxHeartbeats 4000000 in
set_option maxRecDepth 100000 in
theorem passages_draw (A : Option Addr) (n cap : Nat) (zs : List UInt8) (w : World) (h : Hid (curs.Code w A n zs)) : Calls Tryd.prog 50 #[.slice A n cap] w (DPq w) := by
  have HC0 := Lib.hid (cur_new cap h.out)
  go_enter Tryd.func50, Tryd.ntmps50
  go_wp2_with fail
  refine (passages_any w.heap.size w.heap.size 0 A n cap zs _ (by omega) HC0).mono ?_
  rintro e w1 ⟨v, ts, rfl, hl, hG⟩
  have HG := Lib.hid hG
  have hz := hG.2.1.size
  clear hG
  go_wp2_with fail
  go_ret
  exact ⟨v, ts, rfl, own_base (by simp) HG.out.2.2.1, hl, low HG.out.2.1⟩
set_option maxHeartbeats 4000000 in
set_option maxRecDepth 100000 in
theorem widest_draw (A : Option Addr) (n cap : Nat) (zs : List UInt8) (w : World) (h : Hid (curs.Code w A n zs)) : Calls Tryd.prog 22 #[.slice A n cap] w (DPq w) := by
  go_enter Tryd.func22, Tryd.ntmps22
  go_wp2_with fail
  refine (passages_draw A n cap zs _ h).mono ?_
  rintro e w1 ⟨v, ts, rfl, ho, hl, hb⟩
  go_wp2_with fail
  go_ret
  exact ⟨v, ts, rfl, ho, hl, hb⟩
/-- drawn passages and legs -/
def DVq (w : World) (e : Ending) (w' : World) : Prop := ∃ (v x : Value) (ts : List Pg) (ls : List Lg), e = .returned (.tuple #[v, x]) ∧ w'.ownsRow w.heap.size 43 5 v ts.length (flatPg ts) ∧ w'.ownsRow w.heap.size 33 5 x ls.length (flatLg ls) ∧ ts.length ≤ 8 ∧ ls.length ≤ 13 ∧ Below w.heap.size w w'
/-- two lists of drawn passages -/
def DMq (w : World) (e : Ending) (w' : World) : Prop := ∃ (v x : Value) (ts us : List Pg), e = .returned (.tuple #[v, x]) ∧ w'.ownsRow w.heap.size 43 5 v ts.length (flatPg ts) ∧ w'.ownsRow w.heap.size 43 5 x us.length (flatPg us) ∧ ts.length ≤ 8 ∧ us.length ≤ 8 ∧ Below w.heap.size w w'
/-- drawn passages and an opening -/
def DFq (w : World) (e : Ending) (w' : World) : Prop := ∃ (v : Value) (ts : List Pg) (p q : Int), e = .returned (.tuple #[v, .int .i64 p, .int .i64 q]) ∧ w'.ownsRow w.heap.size 43 5 v ts.length (flatPg ts) ∧ ts.length ≤ 8 ∧ (-1000 ≤ p ∧ p ≤ 1000) ∧ (-1000 ≤ q ∧ q ≤ 1000) ∧ Below w.heap.size w w'
end Go.Proofs.YtnpghhpcloljeaaDoor.drg
