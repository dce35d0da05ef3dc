/-
  The drawn lists of legs.
  Conditions: the code has at most 65536 bytes.
-/
import Derived.Test.YtnpghhpcloljeaaDrA
import Derived.Deep.DeepCutAuto
import Derived.Laws.OwnMore
import Derived.OwnWalk
import Derived.Deep.AppendLies
namespace Go.Proofs.Ytnpghhpcloljeaa.drl
open Go.RowKit
open reads base curs curd cure ty
set_option linter.unusedVariables false
set_option linter.unusedSimpArgs false

/-- a list in the making: the cursor, the list's own block -/
def GS (w : World) (B b k : Nat) (A : Option Addr) (n cap : Nat) (zs : List UInt8) (v : Value) (ts : List Lg) (u : World) : Prop :=
  Cur u B b k A n cap zs ∧ w.grownBy u (some b) ∧ u.ownsRow w.heap.size 74 5 v ts.length (flatLg ts) ∧ (∀ t ∈ ts, okD t) ∧ b < w.heap.size ∧ B ≤ w.heap.size
section
variable {w u u' : World} {B b k k' : Nat} {A : Option Addr} {n cap : Nat} {zs : List UInt8} {v v' : Value} {ts : List Lg}
theorem GS.step (h : GS w B b k A n cap zs v ts u) (hC : Cur u' B b k' A n cap zs) (hg : u.grownBy u' (some b)) : GS w B b k' A n cap zs v ts u' :=
  ⟨hC, h.2.1.trans hg, own_step h.2.2.1 hg h.2.2.2.2.1, h.2.2.2⟩
theorem GS.alloc (h : GS w B b k A n cap zs v ts u) (o : Obj) : GS w B b k A n cap zs v ts (u.alloc o) :=
  ⟨cur_alloc h.1 (by have := h.2.1.size; have := h.2.2.2.2.2; omega) o, h.2.1.trans (World.grownBy_alloc u o (some b)), h.2.2.1.alloc o, h.2.2.2⟩
theorem GS.more (h : GS w B b k A n cap zs v ts u) (hk : k ≤ k') : GS w B b k' A n cap zs v ts u := ⟨cur_more h.1 k' hk, h.2⟩
theorem GS.app (h : GS w B b k A n cap zs v ts u) {t : Lg} (hok : okD t) (ho : u'.ownsRow w.heap.size 74 5 v' (ts.length + 1) (flatLg ts ++ [.int .i64 t.frm, .int .i64 t.to_, .int .i64 t.tape, .int .i64 t.comp, .int .i64 t.slope])) (hg : u.grownBy u' v.ownBlock) : GS w B b k A n cap zs v' (ts ++ [t]) u' := by
  obtain ⟨h1, h2, h3, h4, h5, h6⟩ := h
  have hlo : ∀ g, v.ownBlock = some g → w.heap.size ≤ g := fun g e => (h3.lt g e).1
  obtain ⟨c1, c2, c3, pos, sd, c4, c5, c6, c7⟩ := h1
  have hs := h2.size
  refine ⟨⟨c1, c2.grown hg (by omega) (fun g e => by have := hlo g e; omega), c3, pos, sd, c4, c5, c6, c7.grown hg (fun e => by have := hlo _ e.symm; omega)⟩,
    ⟨hg.os.trans h2.os, hg.tape.trans h2.tape, hg.output.trans h2.output, Nat.le_trans h2.size hg.size, fun i hi hne => (hg.block i (by omega) (fun e => by have := hlo _ e.symm; omega)).trans (h2.block i hi hne)⟩, ?_, ?_, h5, h6⟩
  · rw [List.length_append, List.length_singleton, flatLg_app]; exact ho
  · intro x hx
    rcases List.mem_append.1 hx with q | q
    · exact h4 x q
    · rw [List.mem_singleton.1 q]; exact hok
end
/-- drawn legs -/
def GPo (B b k : Nat) (A : Option Addr) (n cap : Nat) (zs : List UInt8) (w : World) (e : Ending) (w' : World) : Prop :=
  ∃ (v : Value) (ts : List Lg), e = .returned v ∧ ts.length ≤ 13 ∧ GS w B b k A n cap zs v ts w'
set_option maxHeartbeats 8000000 in
set_option maxRecDepth 100000 in
theorem legs_any (B b k : Nat) (A : Option Addr) (n cap : Nat) (zs : List UInt8) (w : World) (hk : k ≤ 50000) (h : Hid (Cur w B b k A n cap zs)) :
    Calls Try.prog 75 #[.pointer (some ⟨b, 0, none⟩)] w (GPo B b (k + 200) A n cap zs w) := by
  obtain ⟨i0, hi, hz0, hz1, hz2⟩ := info_parts infoLg
  have hbl := cur_lt h.out
  have hBB : B ≤ w.heap.size := by have := h.out.1; omega
  have HS0 := Lib.hid (show GS w B b k A n cap zs (.slice (some ⟨w.heap.size, 0, none⟩) 0 0) [] (w.alloc (.cells #[] 74)) from
    ⟨cur_alloc h.out hBB _, World.grownBy_alloc w _ (some b), World.ownsRow_made w #[] 0 (Nat.le_refl _) (by decide) (by simp), by simp, hbl, hBB⟩)
  go_enter Try.func75, Try.ntmps75
  go_wp2_with fail
  refine (pick_any B b k A n cap zs _ 8 (by omega) HS0.out.1 (by decide) (by decide)).mono ?_
  rintro e w1 ⟨m, rfl, hm, hC, hg⟩
  have hm7 : m ≤ 7 := by omega
  have HS1 := Lib.hid (HS0.out.step hC hg)
  clear hC hg HS0 hm h
  go_wp2_with fail
  go_loopw [3, 4] (fun v i wr => ∃ (j q : Nat) (ts : List Lg), j + q = m ∧ i = .int .i64 q ∧ Hid (ts.length = j) ∧ GS w B b (k + 1 + 10 * j) A n cap zs v ts wr) (fun _ i _ => (intOf i).toNat)
  case atStart => exact ⟨0, m, [], by omega, rfl, Lib.hid rfl, HS1.out⟩
  case round =>
    obtain ⟨j, q, ts, hjq, rfl, HL, hS⟩ := hrel
    have HS := Lib.hid hS
    have hsz := hS.2.1.size
    clear hS HS1
    by_cases hq : 0 < q
    · have hqd : decide ((0 : Int) < (q : Int)) = true := by simp; omega
      have hqd2 : decide (0 < q) = true := by simp; omega
      go_wp2_with fail
      refine (leg_any B b (k + 1 + 10 * j) A n cap zs _ (by omega) (Lib.hid HS.out.1)).mono ?_
      rintro e w4 ⟨t, rfl, hok, hC, hg⟩
      have HOK := Lib.hid hok
      have HS4 := Lib.hid (HS.out.step hC hg)
      have hs4 := HS4.out.2.1.size
      clear hC hg HS hok
      go_wp2_with (at_builtin; refine wpList_append_own _ rfl _ _ 36 rfl w.heap.size 74 i0 (.agg #[.int .i64 0, .int .i64 0, .int .i64 0, .int .i64 0, .int .i64 0]) 5 40 Try.underlying36 hi hz0 hz1 hz2 rfl (by decide) _ _ _ rfl (HS4.out.2.2.1.alloc _) ⟨w4.heap.size, 0, none⟩ 1 1 [.int .i64 t.frm, .int .i64 t.to_, .int .i64 t.tape, .int .i64 t.comp, .int .i64 t.slope] rfl rfl (World.news_of_block (alloc_at rfl)) (by simp [Value.oneCell']) (by unfold maxLen; rw [HL.out]; omega) (by rw [HL.out]; omega) (by simp; omega) ?_; intro v' w9 hown' hgrow _; obtain ⟨A2, c2, rfl⟩ := row_slice hown')
      go_roundw
      case rel => exact ⟨j + 1, q - 1, ts ++ [t], by omega, by first | go_num | (congr 1; omega), Lib.hid (by rw [List.length_append, HL.out]; rfl), ((HS4.out.alloc _).app (t := t) HOK.out hown' hgrow).more (by omega)⟩
      case measure => simp [intOf]; omega
    · obtain rfl : q = 0 := by omega
      have hqd : decide ((0 : Int) < ((0 : Nat) : Int)) = false := by simp
      have htl : ts.length ≤ 7 := by rw [HL.out]; omega
      go_wp2_with fail
      refine (one_any B b (k + 1 + 10 * j) A n cap zs _ 32 (by omega) HS.out.1 (by decide) (by decide)).mono ?_
      rintro e w5 ⟨t1, rfl, hC, hg⟩
      have HS5 := Lib.hid (HS.out.step hC hg)
      clear hC hg HS
      cases t1
      · have HS6 := Lib.hid (HS5.out.more (show k + 1 + 10 * j + 1 ≤ k + 200 by omega))
        clear HS5
        go_wp2_with fail
        go_ret
        exact ⟨_, ts, rfl, by omega, HS6.out⟩
      · have HS6 := Lib.hid (HS5.out.more (show k + 1 + 10 * j + 1 ≤ k + 100 by omega))
        clear HS5
        go_wp2_with fail
        go_loopw [3, 5] (fun v d wr => ∃ (p : Nat) (us : List Lg), d = .int .i64 p ∧ p ≤ 14 ∧ us.length ≤ 13 ∧ GS w B b (k + 100 + p) A n cap zs v us wr) (fun _ d _ => 14 - (intOf d).toNat)
        case atStart => exact ⟨0, ts, rfl, by decide, by omega, HS6.out⟩
        case round =>
          obtain ⟨p, us, rfl, hp, hu, hS⟩ := hrel
          obtain ⟨A', c, hv⟩ := row_slice hS.2.2.1
          subst hv
          have HS8 := Lib.hid hS
          obtain ⟨L, hL⟩ : ∃ L, us.length = L := ⟨_, rfl⟩
          have HLL := Lib.hid hL
          rw [hL] at HS8 hu ⊢
          clear hS hL HL
          have HL := HLL
          go_wp2_with fail
          refine (pick_any B b (k + 100 + p) A n cap zs _ 2 (by omega) HS8.out.1 (by decide) (by decide)).mono ?_
          rintro e w8 ⟨r, rfl, hr, hC, hg⟩
          have hr1 : r ≤ 1 := by omega
          have HS9 := Lib.hid (HS8.out.step hC hg)
          have hs9 := HS9.out.2.1.size
          clear hC hg hr HS8
          by_cases hlt : L < 12 + r
          · have hd1 : decide ((L : Int) < 12 + (r : Int)) = true := by simp; omega
            by_cases hp14 : p < 14
            · have hd2 : decide ((p : Int) < 14) = true := by simp; omega
              have hd3 : decide (p < 14) = true := by simpa using hp14
              have HM := Lib.hid (show okD ⟨(p : Int) % 5, 1 + (p : Int) % 5, 10, 10 * (p : Int), 0⟩ by unfold okD; simp only []; omega)
              have hpm : 0 ≤ (p : Int) % 5 := by omega
              go_wp2_with (at_builtin; refine wpList_append_own _ rfl _ _ 36 rfl w.heap.size 74 i0 (.agg #[.int .i64 0, .int .i64 0, .int .i64 0, .int .i64 0, .int .i64 0]) 5 40 Try.underlying36 hi hz0 hz1 hz2 rfl (by decide) _ _ _ rfl (HS9.out.2.2.1.alloc _) ⟨w8.heap.size, 0, none⟩ 1 1 [.int .i64 ((p : Int) % 5), .int .i64 (1 + (p : Int) % 5), .int .i64 10, .int .i64 (10 * (p : Int)), .int .i64 0] rfl rfl (World.news_of_block (alloc_at rfl)) (by simp [Value.oneCell']) (by unfold maxLen; rw [HL.out]; omega) (by rw [HL.out]; omega) (by simp; omega) ?_; intro v' w9 hown' hgrow _; obtain ⟨A2, c2, rfl⟩ := row_slice hown')
              go_roundw
              case rel => exact ⟨p + 1, us ++ [⟨(p : Int) % 5, 1 + (p : Int) % 5, 10, 10 * (p : Int), 0⟩], by go_num, by omega, by rw [List.length_append, HLL.out]; simp; omega, ((HS9.out.alloc _).app (t := ⟨(p : Int) % 5, 1 + (p : Int) % 5, 10, 10 * (p : Int), 0⟩) HM.out hown' hgrow).more (by omega)⟩
              case measure => simp [intOf]; omega
            · have hd2 : decide ((p : Int) < 14) = false := by simp; omega
              have hd3 : decide (p < 14) = false := by simpa using hp14
              have HS10 := Lib.hid (HS9.out.more (show k + 100 + p + 1 ≤ k + 200 by omega))
              go_wp2_with fail
              go_ret
              exact ⟨_, us, rfl, by rw [HLL.out]; exact hu, HS10.out⟩
          · have hd1 : decide ((L : Int) < 12 + (r : Int)) = false := by simp; omega
            have HS10 := Lib.hid (HS9.out.more (show k + 100 + p + 1 ≤ k + 200 by omega))
            go_wp2_with fail
            go_ret
            exact ⟨_, us, rfl, by rw [HLL.out]; exact hu, HS10.out⟩
/-- drawn legs, behind their function -/
def DLPo (w : World) (e : Ending) (w' : World) : Prop := ∃ (v : Value) (ts : List Lg), e = .returned v ∧ w'.ownsRow w.heap.size 74 5 v ts.length (flatLg ts) ∧ ts.length ≤ 13 ∧ Below w.heap.size w w'
/-- drawn legs and a number -/
def DAPo (w : World) (e : Ending) (w' : World) : Prop := ∃ (v : Value) (ts : List Lg) (q : Int), e = .returned (.tuple #[v, .int .i64 q]) ∧ w'.ownsRow w.heap.size 74 5 v ts.length (flatLg ts) ∧ ts.length ≤ 13 ∧ Below w.heap.size w w'
end Go.Proofs.Ytnpghhpcloljeaa.drl
