/-
  The exact laws' helpers at tools and checks: copies, comparisons, sizes.
  Conditions: none but those that a theorem names.
-/
import Derived.Test.YtekbiapgbhaibaaTlK
namespace Go.Proofs.Ytekbiapgbhaibaa.tl
open Go.RowKit
open reads
set_option linter.unusedVariables false
set_option linter.unusedSimpArgs false

/-- a copy of a tool -/
theorem to_tool (x : Tl) (w : World) : Calls Try.prog 40 #[.agg #[.int .i64 x.id, .int .i64 x.kind, .int .i64 x.zero, .int .i64 x.scale]] w fun e w' => e = .returned (.agg #[.int .i64 x.id, .int .i64 x.kind, .int .i64 x.zero, .int .i64 x.scale]) ∧ Below w.heap.size w w' := by
  go_enter Try.func40, Try.ntmps40
  go_wp2_with fail
  refine bodyPost_ret (v := .agg #[.int .i64 x.id, .int .i64 x.kind, .int .i64 x.zero, .int .i64 x.scale]) (by simp [results, Try.results40, go_sem]) rfl ⟨rfl, ?_⟩
  have h := (((Below.refl w.heap.size w).alloc (Nat.le_refl _) (.cells #[.int .i64 x.id, .int .i64 x.kind, .int .i64 x.zero, .int .i64 x.scale] 51)).alloc (by simp) (.cells #[.int .i64 0, .int .i64 0, .int .i64 0, .int .i64 0] 25)).alloc (by simp; omega) (.cells #[.int .i64 0, .int .i64 0, .int .i64 0, .int .i64 0] 25)
  repeat (first | exact h | refine Below.setCell ?_ (by simp) _ | refine Below.setCell ?_ (by simp; omega) _)
  all_goals (repeat (first | exact (Below.refl _ _) | refine Below.alloc ?_ (by simp; omega) _ | refine Below.alloc ?_ (by simp) _))
theorem eq_tool (x : Tl) (w : World) : Calls Try.prog 48 #[.agg #[.int .i64 x.id, .int .i64 x.kind, .int .i64 x.zero, .int .i64 x.scale], .agg #[.int .i64 x.id, .int .i64 x.kind, .int .i64 x.zero, .int .i64 x.scale]] w fun e w' => e = .returned (.bool true) ∧ Below w.heap.size w w' := by
  go_enter Try.func48, Try.ntmps48
  go_wp2_with fail
  go_ret
  exact ⟨rfl, ((Below.refl _ _).alloc (Nat.le_refl _) _).alloc (by simp) _⟩
theorem sz_tool (A : Option Addr) (n cap : Nat) (left : Int) (w : World) (hn : n ≤ maxLen) (l0 : 0 ≤ left) (l1 : left ≤ 2000000) :
    Calls Try.prog 41 #[.slice A n cap, .int .i64 left] w fun e w' => e = .returned (.int .i64 (if left < n then -1 else left - n)) ∧ w = w' := by
  unfold maxLen at hn
  by_cases h : left < n
  · rw [if_pos h]
    have hd : left - (n : Int) < 0 := by omega
    go_enter Try.func41, Try.ntmps41
    go_wp2_with fail
    go_ret
    exact ⟨rfl, rfl⟩
  · rw [if_neg h]
    have hd : ¬ left - (n : Int) < 0 := by omega
    go_enter Try.func41, Try.ntmps41
    go_wp2_with fail
    go_ret
    exact ⟨rfl, rfl⟩

/-- a copy of a check -/
theorem to_check (x : Ck) (w : World) : Calls Try.prog 44 #[.agg #[.int .i64 x.read, .int .i64 x.tru]] w fun e w' => e = .returned (.agg #[.int .i64 x.read, .int .i64 x.tru]) ∧ Below w.heap.size w w' := by
  go_enter Try.func44, Try.ntmps44
  go_wp2_with fail
  refine bodyPost_ret (v := .agg #[.int .i64 x.read, .int .i64 x.tru]) (by simp [results, Try.results44, go_sem]) rfl ⟨rfl, ?_⟩
  have h := (((Below.refl w.heap.size w).alloc (Nat.le_refl _) (.cells #[.int .i64 x.read, .int .i64 x.tru] 60)).alloc (by simp) (.cells #[.int .i64 0, .int .i64 0] 40)).alloc (by simp; omega) (.cells #[.int .i64 0, .int .i64 0] 40)
  repeat (first | exact h | refine Below.setCell ?_ (by simp) _ | refine Below.setCell ?_ (by simp; omega) _)
  all_goals (repeat (first | exact (Below.refl _ _) | refine Below.alloc ?_ (by simp; omega) _ | refine Below.alloc ?_ (by simp) _))
theorem eq_check (x : Ck) (w : World) : Calls Try.prog 74 #[.agg #[.int .i64 x.read, .int .i64 x.tru], .agg #[.int .i64 x.read, .int .i64 x.tru]] w fun e w' => e = .returned (.bool true) ∧ Below w.heap.size w w' := by
  go_enter Try.func74, Try.ntmps74
  go_wp2_with fail
  go_ret
  exact ⟨rfl, ((Below.refl _ _).alloc (Nat.le_refl _) _).alloc (by simp) _⟩
theorem sz_check (A : Option Addr) (n cap : Nat) (left : Int) (w : World) (hn : n ≤ maxLen) (l0 : 0 ≤ left) (l1 : left ≤ 2000000) :
    Calls Try.prog 45 #[.slice A n cap, .int .i64 left] w fun e w' => e = .returned (.int .i64 (if left < n then -1 else left - n)) ∧ w = w' := by
  unfold maxLen at hn
  by_cases h : left < n
  · rw [if_pos h]
    have hd : left - (n : Int) < 0 := by omega
    go_enter Try.func45, Try.ntmps45
    go_wp2_with fail
    go_ret
    exact ⟨rfl, rfl⟩
  · rw [if_neg h]
    have hd : ¬ left - (n : Int) < 0 := by omega
    go_enter Try.func45, Try.ntmps45
    go_wp2_with fail
    go_ret
    exact ⟨rfl, rfl⟩

/-- a list that came in, 2 cells an element -/
def ArgCk (w : World) (B : Nat) (A : Option Addr) (n : Nat) (ts : List Ck) : Prop :=
  ts.length = n ∧ ∀ k t, ts[k]? = some t → ∃ ad, A = some ad ∧ ad.block < B ∧ w.cell? (ad.add (k * 2)) = some (.int .i64 t.read) ∧ w.cell? (ad.add (k * 2 + 1)) = some (.int .i64 t.tru)
theorem ArgCk.below {w w' : World} {B : Nat} {A : Option Addr} {n : Nat} {ts : List Ck} (h : ArgCk w B A n ts) (hb : Below B w w') : ArgCk w' B A n ts :=
  ⟨h.1, fun k t ht => by
    obtain ⟨ad, e, hg, h0, h1⟩ := h.2 k t ht
    exact ⟨ad, e, hg, (hb.cell (p := ad.add (k * 2)) (by rw [block_of_add]; exact hg)).trans h0, (hb.cell (p := ad.add (k * 2 + 1)) (by rw [block_of_add]; exact hg)).trans h1⟩⟩
/-- the first k of a copy are laid -/
def FillCk (n k : Nat) (ts : List Ck) (cs : Array Value) : Prop := cs.size = n * 2 ∧ ∀ i t, i < k → ts[i]? = some t → cs[i * 2]? = some (.int .i64 t.read) ∧ cs[i * 2 + 1]? = some (.int .i64 t.tru)
theorem FillCk.next {n k : Nat} {ts : List Ck} {cs : Array Value} {t : Ck} (h : FillCk n k ts cs) (hk : k < n) (ht : ts[k]? = some t) : FillCk n (k + 1) ts ((cs.setIfInBounds (k * 2) (.int .i64 t.read)).setIfInBounds (k * 2 + 1) (.int .i64 t.tru)) := by
  have hsz := h.1
  refine ⟨by simpa using hsz, fun i u hi hu => ?_⟩
  by_cases e : i = k
  · subst e
    obtain rfl : t = u := Option.some.inj (ht.symm.trans hu)
    refine ⟨?_, ?_⟩ <;> (simp only [Array.getElem?_setIfInBounds, Array.size_setIfInBounds, if_true]; repeat' split) <;> first | rfl | (exfalso; omega)
  · obtain ⟨h0, h1⟩ := h.2 i u (by omega) hu
    refine ⟨?_, ?_⟩ <;> (simp only [Array.getElem?_setIfInBounds, Array.size_setIfInBounds]; repeat' split) <;> first | assumption | (exfalso; omega)
theorem FillCk.at_ {n : Nat} {ts : List Ck} {cs : Array Value} {w : World} {g : Nat} (h : FillCk n n ts cs) (hl : ts.length = n) (hb : Blk w g 40 cs) : CksAt w (g + 1) (some ⟨g, 0, none⟩) n ts :=
  ⟨hl, fun k t ht => by
    have hk : k < n := by have := (List.getElem?_eq_some_iff.1 ht).1; omega
    obtain ⟨h0, h1⟩ := h.2 k t hk ht
    exact ⟨g, rfl, by omega, (hb.cell _).trans h0, (hb.cell _).trans h1⟩⟩
theorem infoCk : (Try.prog.info? 40).map (fun i => (i.zero, i.size, i.bytes)) = some (some (.agg #[.int .i64 0, .int .i64 0]), 2, 16) := by kernel_rfl
/-- a copy of a list: a block of its own -/
def ToPCk (n : Nat) (ts : List Ck) (w : World) (e : Ending) (w' : World) : Prop :=
  e = .returned (.slice (some ⟨w.heap.size, 0, none⟩) n n) ∧ (∃ cs, Blk w' w.heap.size 40 cs ∧ FillCk n n ts cs) ∧ Below w.heap.size w w'
set_option maxHeartbeats 4000000 in
set_option maxRecDepth 100000 in
theorem to_checkS (A : Option Addr) (n cp : Nat) (ts : List Ck) (w : World) (hn : n ≤ 1048576) (hr : Hid (ArgCk w w.heap.size A n ts)) : Calls Try.prog 46 #[.slice A n cp] w (ToPCk n ts w) := by
  obtain ⟨i0, hi0, hz0, hz1, hz2⟩ := info_parts infoCk
  obtain ⟨cs0, HC0⟩ : ∃ cs, Hid (cs = madeCells (Value.agg #[.int .i64 0, .int .i64 0]).cells (n * 2)) := ⟨_, Lib.hid rfl⟩
  have hmk : ∀ W : World, (Instr.makeSlice 31 (.int .i64 (n : Int)) (.int .i64 (n : Int))).run Try.prog W = .ok (.slice (some ⟨W.heap.size, 0, none⟩) n n) (W.alloc (.cells cs0 40)) := fun W => by
    have h := run_make_rowN (P := Try.prog) 31 40 i0 _ Try.underlying31 hi0 hz0 .i64 .i64 n n (Nat.le_refl _) (by rw [hz2]; omega) (by omega) W
    rw [h, hz1, HC0.out]
  have HF0 := Lib.hid (show FillCk n 0 ts cs0 from ⟨by rw [HC0.out, size_madeCells], fun i t hi => by omega⟩)
  have hL : Hid (ts.length = n) := Lib.hid hr.out.1
  clear HC0
  go_enter Try.func46, Try.ntmps46
  go_wp2_with fail
  clear hmk
  go_loopw [4] (fun i wr => ∃ (k : Nat) (cs : Array Value), k ≤ n ∧ i = .int .i64 k ∧ Hid (FillCk n k ts cs) ∧ Blk wr w.heap.size 40 cs ∧ Below w.heap.size w wr) (fun i _ => n - (intOf i).toNat)
  case atStart => exact ⟨0, cs0, Nat.zero_le _, rfl, HF0, Blk.new w _ _, (Below.refl _ _).alloc (Nat.le_refl _) _⟩
  case round =>
    obtain ⟨k, cs, hk, rfl, HF, hK, hB⟩ := hrel
    have HK := Lib.hid hK
    have HB := Lib.hid hB
    have hlt0 := hK.lt
    clear hK hB
    by_cases hlt : k < n
    · obtain ⟨t, htk⟩ : ∃ t, ts[k]? = some t := ⟨_, List.getElem?_eq_getElem (by rw [hL.out]; exact hlt)⟩
      obtain ⟨ad, rfl, had, h0, h1⟩ := (hr.out.below HB.out).2 k t htk
      have HT := Lib.hid htk
      clear htk
      have e1 : wr.cell? ⟨(ad.add (k * 2)).block, (ad.add (k * 2)).off + 1, none⟩ = some (.int .i64 t.tru) := by rw [← h1, ← add_of_add]; rfl
      clear h1
      have hsz := HF.out.1
      have HQZ := Lib.hid hsz
      clear hsz
      have hki : (k : Int) < (n : Int) := by omega
      have hk0 : 0 ≤ (k : Int) := by omega
      have hkd : decide (k < n) = true := by simpa using hlt
      go_wp2_with fail
      refine (to_check t _).mono ?_
      rintro e w2 ⟨rfl, b2⟩
      have HK2 := Lib.hid (HK.out.below b2 hlt0)
      have HB2 := Lib.hid (HB.out.trans (b2.mono HB.out.size))
      obtain ⟨u0, q0⟩ : ∃ u, w2.cell? ⟨w.heap.size, k * 2, none⟩ = some u := ⟨_, (HK2.out.cell _).trans (Array.getElem?_eq_getElem (by rw [HQZ.out]; omega))⟩
      have f0 := HK2.out.frozen (k * 2)
      obtain ⟨u1, q1⟩ : ∃ u, w2.cell? ⟨w.heap.size, k * 2 + 1, none⟩ = some u := ⟨_, (HK2.out.cell _).trans (Array.getElem?_eq_getElem (by rw [HQZ.out]; omega))⟩
      have f1 := HK2.out.frozen (k * 2 + 1)
      clear b2
      go_wp2_with fail
      go_roundw
      case rel => exact ⟨k + 1, _, by omega, by go_num, Lib.hid (HF.out.next hlt HT.out), (HK2.out.set_ (k * 2) _).set_ (k * 2 + 1) _, (HB2.out.setCell (Nat.le_refl _) _).setCell (Nat.le_refl _) _⟩
      case measure => simp [intOf]; omega
    · obtain rfl : k = n := by omega
      have hkd : decide (k < k) = false := by simp
      go_wp2_with fail
      go_ret
      exact ⟨rfl, ⟨cs, HK.out, HF.out⟩, HB.out⟩

/-- a list that came in, 4 cells an element -/
def ArgTl (w : World) (B : Nat) (A : Option Addr) (n : Nat) (ts : List Tl) : Prop :=
  ts.length = n ∧ ∀ k t, ts[k]? = some t → ∃ ad, A = some ad ∧ ad.block < B ∧ w.cell? (ad.add (k * 4)) = some (.int .i64 t.id) ∧ w.cell? (ad.add (k * 4 + 1)) = some (.int .i64 t.kind) ∧ w.cell? (ad.add (k * 4 + 2)) = some (.int .i64 t.zero) ∧ w.cell? (ad.add (k * 4 + 3)) = some (.int .i64 t.scale)
theorem ArgTl.below {w w' : World} {B : Nat} {A : Option Addr} {n : Nat} {ts : List Tl} (h : ArgTl w B A n ts) (hb : Below B w w') : ArgTl w' B A n ts :=
  ⟨h.1, fun k t ht => by
    obtain ⟨ad, e, hg, h0, h1, h2, h3⟩ := h.2 k t ht
    exact ⟨ad, e, hg, (hb.cell (p := ad.add (k * 4)) (by rw [block_of_add]; exact hg)).trans h0, (hb.cell (p := ad.add (k * 4 + 1)) (by rw [block_of_add]; exact hg)).trans h1, (hb.cell (p := ad.add (k * 4 + 2)) (by rw [block_of_add]; exact hg)).trans h2, (hb.cell (p := ad.add (k * 4 + 3)) (by rw [block_of_add]; exact hg)).trans h3⟩⟩
/-- the first k of a copy are laid -/
def FillTl (n k : Nat) (ts : List Tl) (cs : Array Value) : Prop := cs.size = n * 4 ∧ ∀ i t, i < k → ts[i]? = some t → cs[i * 4]? = some (.int .i64 t.id) ∧ cs[i * 4 + 1]? = some (.int .i64 t.kind) ∧ cs[i * 4 + 2]? = some (.int .i64 t.zero) ∧ cs[i * 4 + 3]? = some (.int .i64 t.scale)
theorem FillTl.next {n k : Nat} {ts : List Tl} {cs : Array Value} {t : Tl} (h : FillTl n k ts cs) (hk : k < n) (ht : ts[k]? = some t) : FillTl n (k + 1) ts ((((cs.setIfInBounds (k * 4) (.int .i64 t.id)).setIfInBounds (k * 4 + 1) (.int .i64 t.kind)).setIfInBounds (k * 4 + 2) (.int .i64 t.zero)).setIfInBounds (k * 4 + 3) (.int .i64 t.scale)) := by
  have hsz := h.1
  refine ⟨by simpa using hsz, fun i u hi hu => ?_⟩
  by_cases e : i = k
  · subst e
    obtain rfl : t = u := Option.some.inj (ht.symm.trans hu)
    refine ⟨?_, ?_, ?_, ?_⟩ <;> (simp only [Array.getElem?_setIfInBounds, Array.size_setIfInBounds, if_true]; repeat' split) <;> first | rfl | (exfalso; omega)
  · obtain ⟨h0, h1, h2, h3⟩ := h.2 i u (by omega) hu
    refine ⟨?_, ?_, ?_, ?_⟩ <;> (simp only [Array.getElem?_setIfInBounds, Array.size_setIfInBounds]; repeat' split) <;> first | assumption | (exfalso; omega)
theorem FillTl.at_ {n : Nat} {ts : List Tl} {cs : Array Value} {w : World} {g : Nat} (h : FillTl n n ts cs) (hl : ts.length = n) (hb : Blk w g 25 cs) : TlsAt w (g + 1) (some ⟨g, 0, none⟩) n ts :=
  ⟨hl, fun k t ht => by
    have hk : k < n := by have := (List.getElem?_eq_some_iff.1 ht).1; omega
    obtain ⟨h0, h1, h2, h3⟩ := h.2 k t hk ht
    exact ⟨g, rfl, by omega, (hb.cell _).trans h0, (hb.cell _).trans h1, (hb.cell _).trans h2, (hb.cell _).trans h3⟩⟩
theorem infoTl : (Try.prog.info? 25).map (fun i => (i.zero, i.size, i.bytes)) = some (some (.agg #[.int .i64 0, .int .i64 0, .int .i64 0, .int .i64 0]), 4, 32) := by kernel_rfl
/-- a copy of a list: a block of its own -/
def ToPTl (n : Nat) (ts : List Tl) (w : World) (e : Ending) (w' : World) : Prop :=
  e = .returned (.slice (some ⟨w.heap.size, 0, none⟩) n n) ∧ (∃ cs, Blk w' w.heap.size 25 cs ∧ FillTl n n ts cs) ∧ Below w.heap.size w w'
set_option maxHeartbeats 4000000 in
set_option maxRecDepth 100000 in
theorem to_toolS (A : Option Addr) (n cp : Nat) (ts : List Tl) (w : World) (hn : n ≤ 1048576) (hr : Hid (ArgTl w w.heap.size A n ts)) : Calls Try.prog 42 #[.slice A n cp] w (ToPTl n ts w) := by
  obtain ⟨i0, hi0, hz0, hz1, hz2⟩ := info_parts infoTl
  obtain ⟨cs0, HC0⟩ : ∃ cs, Hid (cs = madeCells (Value.agg #[.int .i64 0, .int .i64 0, .int .i64 0, .int .i64 0]).cells (n * 4)) := ⟨_, Lib.hid rfl⟩
  have hmk : ∀ W : World, (Instr.makeSlice 43 (.int .i64 (n : Int)) (.int .i64 (n : Int))).run Try.prog W = .ok (.slice (some ⟨W.heap.size, 0, none⟩) n n) (W.alloc (.cells cs0 25)) := fun W => by
    have h := run_make_rowN (P := Try.prog) 43 25 i0 _ Try.underlying43 hi0 hz0 .i64 .i64 n n (Nat.le_refl _) (by rw [hz2]; omega) (by omega) W
    rw [h, hz1, HC0.out]
  have HF0 := Lib.hid (show FillTl n 0 ts cs0 from ⟨by rw [HC0.out, size_madeCells], fun i t hi => by omega⟩)
  have hL : Hid (ts.length = n) := Lib.hid hr.out.1
  clear HC0
  go_enter Try.func42, Try.ntmps42
  go_wp2_with fail
  clear hmk
  go_loopw [4] (fun i wr => ∃ (k : Nat) (cs : Array Value), k ≤ n ∧ i = .int .i64 k ∧ Hid (FillTl n k ts cs) ∧ Blk wr w.heap.size 25 cs ∧ Below w.heap.size w wr) (fun i _ => n - (intOf i).toNat)
  case atStart => exact ⟨0, cs0, Nat.zero_le _, rfl, HF0, Blk.new w _ _, (Below.refl _ _).alloc (Nat.le_refl _) _⟩
  case round =>
    obtain ⟨k, cs, hk, rfl, HF, hK, hB⟩ := hrel
    have HK := Lib.hid hK
    have HB := Lib.hid hB
    have hlt0 := hK.lt
    clear hK hB
    by_cases hlt : k < n
    · obtain ⟨t, htk⟩ : ∃ t, ts[k]? = some t := ⟨_, List.getElem?_eq_getElem (by rw [hL.out]; exact hlt)⟩
      obtain ⟨ad, rfl, had, h0, h1, h2, h3⟩ := (hr.out.below HB.out).2 k t htk
      have HT := Lib.hid htk
      clear htk
      have e1 : wr.cell? ⟨(ad.add (k * 4)).block, (ad.add (k * 4)).off + 1, none⟩ = some (.int .i64 t.kind) := by rw [← h1, ← add_of_add]; rfl
      have e2 : wr.cell? ⟨(ad.add (k * 4)).block, (ad.add (k * 4)).off + 2, none⟩ = some (.int .i64 t.zero) := by rw [← h2, ← add_of_add]; rfl
      have e3 : wr.cell? ⟨(ad.add (k * 4)).block, (ad.add (k * 4)).off + 3, none⟩ = some (.int .i64 t.scale) := by rw [← h3, ← add_of_add]; rfl
      clear h1 h2 h3
      have hsz := HF.out.1
      have HQZ := Lib.hid hsz
      clear hsz
      have hki : (k : Int) < (n : Int) := by omega
      have hk0 : 0 ≤ (k : Int) := by omega
      have hkd : decide (k < n) = true := by simpa using hlt
      go_wp2_with fail
      refine (to_tool t _).mono ?_
      rintro e w2 ⟨rfl, b2⟩
      have HK2 := Lib.hid (HK.out.below b2 hlt0)
      have HB2 := Lib.hid (HB.out.trans (b2.mono HB.out.size))
      obtain ⟨u0, q0⟩ : ∃ u, w2.cell? ⟨w.heap.size, k * 4, none⟩ = some u := ⟨_, (HK2.out.cell _).trans (Array.getElem?_eq_getElem (by rw [HQZ.out]; omega))⟩
      have f0 := HK2.out.frozen (k * 4)
      obtain ⟨u1, q1⟩ : ∃ u, w2.cell? ⟨w.heap.size, k * 4 + 1, none⟩ = some u := ⟨_, (HK2.out.cell _).trans (Array.getElem?_eq_getElem (by rw [HQZ.out]; omega))⟩
      have f1 := HK2.out.frozen (k * 4 + 1)
      obtain ⟨u2, q2⟩ : ∃ u, w2.cell? ⟨w.heap.size, k * 4 + 2, none⟩ = some u := ⟨_, (HK2.out.cell _).trans (Array.getElem?_eq_getElem (by rw [HQZ.out]; omega))⟩
      have f2 := HK2.out.frozen (k * 4 + 2)
      obtain ⟨u3, q3⟩ : ∃ u, w2.cell? ⟨w.heap.size, k * 4 + 3, none⟩ = some u := ⟨_, (HK2.out.cell _).trans (Array.getElem?_eq_getElem (by rw [HQZ.out]; omega))⟩
      have f3 := HK2.out.frozen (k * 4 + 3)
      clear b2
      go_wp2_with fail
      go_roundw
      case rel => exact ⟨k + 1, _, by omega, by go_num, Lib.hid (HF.out.next hlt HT.out), (((HK2.out.set_ (k * 4) _).set_ (k * 4 + 1) _).set_ (k * 4 + 2) _).set_ (k * 4 + 3) _, (((HB2.out.setCell (Nat.le_refl _) _).setCell (Nat.le_refl _) _).setCell (Nat.le_refl _) _).setCell (Nat.le_refl _) _⟩
      case measure => simp [intOf]; omega
    · obtain rfl : k = n := by omega
      have hkd : decide (k < k) = false := by simp
      go_wp2_with fail
      go_ret
      exact ⟨rfl, ⟨cs, HK.out, HF.out⟩, HB.out⟩

set_option maxHeartbeats 4000000 in
set_option maxRecDepth 100000 in
theorem eq_checkS (A A' : Option Addr) (n cp cp' : Nat) (ts : List Ck) (w : World) (hn : n ≤ 2000000) (hr : Hid (CksAt w w.heap.size A n ts)) (hr' : Hid (CksAt w w.heap.size A' n ts)) :
    Calls Try.prog 47 #[.slice A n cp, .slice A' n cp'] w (BPost true w) := by
  have hL : Hid (ts.length = n) := Lib.hid hr.out.1
  obtain ⟨B, HBB⟩ : ∃ B, Hid (w.heap.size = B) := ⟨_, Lib.hid rfl⟩
  obtain ⟨W0, HW0⟩ : ∃ W0, Hid (w = W0) := ⟨_, Lib.hid rfl⟩
  have HT := Lib.hid (show CksAt W0 B A n ts by rw [← HBB.out, ← HW0.out]; exact hr.out)
  have HT' := Lib.hid (show CksAt W0 B A' n ts by rw [← HBB.out, ← HW0.out]; exact hr'.out)
  have HWB := Lib.hid (show B ≤ W0.heap.size by rw [← HW0.out, ← HBB.out]; exact Nat.le_refl _)
  have HB1 := Lib.hid (show ∀ v, Below B W0 v → Below w.heap.size w v from fun v hv => by rw [HBB.out, HW0.out]; exact hv)
  go_enter Try.func47, Try.ntmps47
  go_wp2_with fail
  go_loopw [5] (fun i wr => ∃ k : Nat, k ≤ n ∧ i = .int .i64 k ∧ Below B W0 wr) (fun i _ => n - (intOf i).toNat)
  case atStart => exact ⟨0, Nat.zero_le _, rfl, by rw [HW0.out]; exact Below.refl _ _⟩
  case round =>
    obtain ⟨k, hk, rfl, hBr⟩ := hrel
    have HR := Lib.hid hBr
    clear hBr hr hr'
    by_cases hlt : k < n
    · obtain ⟨t, htk⟩ : ∃ t, ts[k]? = some t := ⟨_, List.getElem?_eq_getElem (by rw [hL.out]; exact hlt)⟩
      obtain ⟨g, rfl, hg, h0, h1⟩ := HT.out.2 k t htk
      obtain ⟨g', rfl, hg', k0, k1⟩ := HT'.out.2 k t htk
      clear htk
      have hki : (k : Int) < (n : Int) := by omega
      have hk0 : 0 ≤ (k : Int) := by omega
      have hkd : decide (k < n) = true := by simpa using hlt
      go_wp2_with fail
      refine wp_region_held_drew (S := (fun w' => (∀ b o, b < B → w'.cell? ⟨b, o, none⟩ = W0.cell? ⟨b, o, none⟩) ∧ Below B W0 w')) (by kernel_rfl) ?_ (fun hHeld => ?_)
      · exact sb_start HR.out
      refine' wpAnyH_take (i := 0) (v := ?vr1_0) rfl (by kernel_rfl) (by kernel_rfl) (by kernel_rfl) (fun _ _ _ h => h) (Or.inl ⟨by rfl, ?hyr1_0⟩) (by assumption) ?restr1_0
      case hyr1_0 => (intro w hSw; (try dsimp only at hSw); go_simp; try (with_reducible rfl))
      simp only [Act.put, List.getElem_toArray, List.getElem_cons_succ, List.getElem_cons_zero, List.setIfInBounds_toArray, List.set_cons_zero, List.set_cons_succ]
      refine' wpAnyH_take (i := 1) (v := ?vr1_1) rfl (by kernel_rfl) (by kernel_rfl) (by kernel_rfl) (fun _ _ _ h => h) (Or.inl ⟨by rfl, ?hyr1_1⟩) (by assumption) ?restr1_1
      case hyr1_1 => (intro w hSw; (try dsimp only at hSw); go_simp; try (with_reducible rfl))
      simp only [Act.put, List.getElem_toArray, List.getElem_cons_succ, List.getElem_cons_zero, List.setIfInBounds_toArray, List.set_cons_zero, List.set_cons_succ]
      refine' wpAnyH_take (i := 2) (v := ?vr1_2) rfl (by kernel_rfl) (by kernel_rfl) (by kernel_rfl) (fun _ _ _ h => h) (Or.inl ⟨by rfl, ?hyr1_2⟩) (by assumption) ?restr1_2
      case hyr1_2 => (intro w hSw; (try dsimp only at hSw); go_simp; try (with_reducible rfl))
      simp only [Act.put, List.getElem_toArray, List.getElem_cons_succ, List.getElem_cons_zero, List.setIfInBounds_toArray, List.set_cons_zero, List.set_cons_succ]
      refine' wpAnyH_take (i := 3) (v := ?vr1_3) rfl (by kernel_rfl) (by kernel_rfl) (by kernel_rfl) (fun _ _ _ h => h) (Or.inl ⟨by rfl, ?hyr1_3⟩) (by assumption) ?restr1_3
      case hyr1_3 => (intro w hSw; (try dsimp only at hSw); go_simp; try (with_reducible rfl))
      simp only [Act.put, List.getElem_toArray, List.getElem_cons_succ, List.getElem_cons_zero, List.setIfInBounds_toArray, List.set_cons_zero, List.set_cons_succ]
      refine' wpAnyH_take (i := 4) (v := ?vr1_4) rfl (by kernel_rfl) (by kernel_rfl) (by kernel_rfl) (fun _ _ _ h => h) (Or.inl ⟨by rfl, ?hyr1_4⟩) (by assumption) ?restr1_4
      case hyr1_4 => (intro w hSw; (try dsimp only at hSw); go_simp; try (with_reducible rfl))
      simp only [Act.put, List.getElem_toArray, List.getElem_cons_succ, List.getElem_cons_zero, List.setIfInBounds_toArray, List.set_cons_zero, List.set_cons_succ]
      refine' wpAnyH_take (i := 5) (v := ?vr1_5) rfl (by kernel_rfl) (by kernel_rfl) (by kernel_rfl) (fun _ _ _ h => h) (Or.inl ⟨by rfl, ?hyr1_5⟩) (by assumption) ?restr1_5
      case hyr1_5 => (intro w hSw; (try dsimp only at hSw); go_simp; try (with_reducible rfl))
      simp only [Act.put, List.getElem_toArray, List.getElem_cons_succ, List.getElem_cons_zero, List.setIfInBounds_toArray, List.set_cons_zero, List.set_cons_succ]
      refine' wpAnyH_take (i := 6) (v := ?vr1_6) rfl (by kernel_rfl) (by kernel_rfl) (by kernel_rfl) (fun _ _ _ h => h) (Or.inl ⟨by rfl, ?hyr1_6⟩) (by assumption) ?restr1_6
      case hyr1_6 => (intro w hSw; (try dsimp only at hSw); go_simp; try (with_reducible rfl))
      simp only [Act.put, List.getElem_toArray, List.getElem_cons_succ, List.getElem_cons_zero, List.setIfInBounds_toArray, List.set_cons_zero, List.set_cons_succ]
      refine' wpAnyH_take (i := 7) (v := ?vr1_7) rfl (by kernel_rfl) (by kernel_rfl) (by kernel_rfl) (fun _ _ _ h => h) (Or.inl ⟨by rfl, ?hyr1_7⟩) (by assumption) ?restr1_7
      case hyr1_7 => (intro w hSw; (try dsimp only at hSw); go_simp; try (with_reducible rfl))
      simp only [Act.put, List.getElem_toArray, List.getElem_cons_succ, List.getElem_cons_zero, List.setIfInBounds_toArray, List.set_cons_zero, List.set_cons_succ]
      refine wpAnyH_ready (rs := [8]) (by kernel_rfl) (by simp) ?_
      refine AllReadyH.cons rfl (fun K hK => ?_) AllReadyH.nil
      go_simp
      refine (eq_check t _).mono ?_
      rintro e w1 ⟨rfl, b1⟩
      refine hK.out _ _ (sb_step hHeld HWB.out b1) (fun hHeld1 => ?_)
      clear hK K hHeld
      have hHeld := hHeld1
      clear hHeld1
      try simp only [Act.put, List.getElem_toArray, List.getElem_cons_succ, List.getElem_cons_zero, List.setIfInBounds_toArray, List.set_cons_zero, List.set_cons_succ]
      refine' wpAnyH_take (i := 9) (v := ?vr1_9) rfl (by kernel_rfl) (by kernel_rfl) (by kernel_rfl) (fun _ _ _ h => h) (Or.inl ⟨by rfl, ?hyr1_9⟩) (by assumption) ?restr1_9
      case hyr1_9 => (intro w hSw; (try dsimp only at hSw); go_simp; try (with_reducible rfl))
      simp only [Act.put, List.getElem_toArray, List.getElem_cons_succ, List.getElem_cons_zero, List.setIfInBounds_toArray, List.set_cons_zero, List.set_cons_succ]
      refine wpAnyH_done (by kernel_rfl) ?_ _
      have HS := Lib.hid hHeld.2
      clear hHeld
      go_wp2_with fail
      go_roundw
      case rel => exact ⟨k + 1, by omega, by go_num, HS.out⟩
      case measure => simp [intOf]; omega
    · have hkd : decide (k < n) = false := by simpa using hlt
      go_wp2_with fail
      go_ret
      exact ⟨rfl, HB1.out _ HR.out⟩

set_option maxHeartbeats 4000000 in
set_option maxRecDepth 100000 in
theorem eq_toolS (A A' : Option Addr) (n cp cp' : Nat) (ts : List Tl) (w : World) (hn : n ≤ 2000000) (hr : Hid (TlsAt w w.heap.size A n ts)) (hr' : Hid (TlsAt w w.heap.size A' n ts)) :
    Calls Try.prog 43 #[.slice A n cp, .slice A' n cp'] w (BPost true w) := by
  have hL : Hid (ts.length = n) := Lib.hid hr.out.1
  obtain ⟨B, HBB⟩ : ∃ B, Hid (w.heap.size = B) := ⟨_, Lib.hid rfl⟩
  obtain ⟨W0, HW0⟩ : ∃ W0, Hid (w = W0) := ⟨_, Lib.hid rfl⟩
  have HT := Lib.hid (show TlsAt W0 B A n ts by rw [← HBB.out, ← HW0.out]; exact hr.out)
  have HT' := Lib.hid (show TlsAt W0 B A' n ts by rw [← HBB.out, ← HW0.out]; exact hr'.out)
  have HWB := Lib.hid (show B ≤ W0.heap.size by rw [← HW0.out, ← HBB.out]; exact Nat.le_refl _)
  have HB1 := Lib.hid (show ∀ v, Below B W0 v → Below w.heap.size w v from fun v hv => by rw [HBB.out, HW0.out]; exact hv)
  go_enter Try.func43, Try.ntmps43
  go_wp2_with fail
  go_loopw [5] (fun i wr => ∃ k : Nat, k ≤ n ∧ i = .int .i64 k ∧ Below B W0 wr) (fun i _ => n - (intOf i).toNat)
  case atStart => exact ⟨0, Nat.zero_le _, rfl, by rw [HW0.out]; exact Below.refl _ _⟩
  case round =>
    obtain ⟨k, hk, rfl, hBr⟩ := hrel
    have HR := Lib.hid hBr
    clear hBr hr hr'
    by_cases hlt : k < n
    · obtain ⟨t, htk⟩ : ∃ t, ts[k]? = some t := ⟨_, List.getElem?_eq_getElem (by rw [hL.out]; exact hlt)⟩
      obtain ⟨g, rfl, hg, h0, h1, h2, h3⟩ := HT.out.2 k t htk
      obtain ⟨g', rfl, hg', k0, k1, k2, k3⟩ := HT'.out.2 k t htk
      clear htk
      have hki : (k : Int) < (n : Int) := by omega
      have hk0 : 0 ≤ (k : Int) := by omega
      have hkd : decide (k < n) = true := by simpa using hlt
      go_wp2_with fail
      refine wp_region_held_drew (S := (fun w' => (∀ b o, b < B → w'.cell? ⟨b, o, none⟩ = W0.cell? ⟨b, o, none⟩) ∧ Below B W0 w')) (by kernel_rfl) ?_ (fun hHeld => ?_)
      · exact sb_start HR.out
      refine' wpAnyH_take (i := 0) (v := ?vr2_0) rfl (by kernel_rfl) (by kernel_rfl) (by kernel_rfl) (fun _ _ _ h => h) (Or.inl ⟨by rfl, ?hyr2_0⟩) (by assumption) ?restr2_0
      case hyr2_0 => (intro w hSw; (try dsimp only at hSw); go_simp; try (with_reducible rfl))
      simp only [Act.put, List.getElem_toArray, List.getElem_cons_succ, List.getElem_cons_zero, List.setIfInBounds_toArray, List.set_cons_zero, List.set_cons_succ]
      refine' wpAnyH_take (i := 1) (v := ?vr2_1) rfl (by kernel_rfl) (by kernel_rfl) (by kernel_rfl) (fun _ _ _ h => h) (Or.inl ⟨by rfl, ?hyr2_1⟩) (by assumption) ?restr2_1
      case hyr2_1 => (intro w hSw; (try dsimp only at hSw); go_simp; try (with_reducible rfl))
      simp only [Act.put, List.getElem_toArray, List.getElem_cons_succ, List.getElem_cons_zero, List.setIfInBounds_toArray, List.set_cons_zero, List.set_cons_succ]
      refine' wpAnyH_take (i := 2) (v := ?vr2_2) rfl (by kernel_rfl) (by kernel_rfl) (by kernel_rfl) (fun _ _ _ h => h) (Or.inl ⟨by rfl, ?hyr2_2⟩) (by assumption) ?restr2_2
      case hyr2_2 => (intro w hSw; (try dsimp only at hSw); go_simp; try (with_reducible rfl))
      simp only [Act.put, List.getElem_toArray, List.getElem_cons_succ, List.getElem_cons_zero, List.setIfInBounds_toArray, List.set_cons_zero, List.set_cons_succ]
      refine' wpAnyH_take (i := 3) (v := ?vr2_3) rfl (by kernel_rfl) (by kernel_rfl) (by kernel_rfl) (fun _ _ _ h => h) (Or.inl ⟨by rfl, ?hyr2_3⟩) (by assumption) ?restr2_3
      case hyr2_3 => (intro w hSw; (try dsimp only at hSw); go_simp; try (with_reducible rfl))
      simp only [Act.put, List.getElem_toArray, List.getElem_cons_succ, List.getElem_cons_zero, List.setIfInBounds_toArray, List.set_cons_zero, List.set_cons_succ]
      refine' wpAnyH_take (i := 4) (v := ?vr2_4) rfl (by kernel_rfl) (by kernel_rfl) (by kernel_rfl) (fun _ _ _ h => h) (Or.inl ⟨by rfl, ?hyr2_4⟩) (by assumption) ?restr2_4
      case hyr2_4 => (intro w hSw; (try dsimp only at hSw); go_simp; try (with_reducible rfl))
      simp only [Act.put, List.getElem_toArray, List.getElem_cons_succ, List.getElem_cons_zero, List.setIfInBounds_toArray, List.set_cons_zero, List.set_cons_succ]
      refine' wpAnyH_take (i := 5) (v := ?vr2_5) rfl (by kernel_rfl) (by kernel_rfl) (by kernel_rfl) (fun _ _ _ h => h) (Or.inl ⟨by rfl, ?hyr2_5⟩) (by assumption) ?restr2_5
      case hyr2_5 => (intro w hSw; (try dsimp only at hSw); go_simp; try (with_reducible rfl))
      simp only [Act.put, List.getElem_toArray, List.getElem_cons_succ, List.getElem_cons_zero, List.setIfInBounds_toArray, List.set_cons_zero, List.set_cons_succ]
      refine' wpAnyH_take (i := 6) (v := ?vr2_6) rfl (by kernel_rfl) (by kernel_rfl) (by kernel_rfl) (fun _ _ _ h => h) (Or.inl ⟨by rfl, ?hyr2_6⟩) (by assumption) ?restr2_6
      case hyr2_6 => (intro w hSw; (try dsimp only at hSw); go_simp; try (with_reducible rfl))
      simp only [Act.put, List.getElem_toArray, List.getElem_cons_succ, List.getElem_cons_zero, List.setIfInBounds_toArray, List.set_cons_zero, List.set_cons_succ]
      refine' wpAnyH_take (i := 7) (v := ?vr2_7) rfl (by kernel_rfl) (by kernel_rfl) (by kernel_rfl) (fun _ _ _ h => h) (Or.inl ⟨by rfl, ?hyr2_7⟩) (by assumption) ?restr2_7
      case hyr2_7 => (intro w hSw; (try dsimp only at hSw); go_simp; try (with_reducible rfl))
      simp only [Act.put, List.getElem_toArray, List.getElem_cons_succ, List.getElem_cons_zero, List.setIfInBounds_toArray, List.set_cons_zero, List.set_cons_succ]
      refine wpAnyH_ready (rs := [8]) (by kernel_rfl) (by simp) ?_
      refine AllReadyH.cons rfl (fun K hK => ?_) AllReadyH.nil
      go_simp
      refine (eq_tool t _).mono ?_
      rintro e w1 ⟨rfl, b1⟩
      refine hK.out _ _ (sb_step hHeld HWB.out b1) (fun hHeld1 => ?_)
      clear hK K hHeld
      have hHeld := hHeld1
      clear hHeld1
      try simp only [Act.put, List.getElem_toArray, List.getElem_cons_succ, List.getElem_cons_zero, List.setIfInBounds_toArray, List.set_cons_zero, List.set_cons_succ]
      refine' wpAnyH_take (i := 9) (v := ?vr2_9) rfl (by kernel_rfl) (by kernel_rfl) (by kernel_rfl) (fun _ _ _ h => h) (Or.inl ⟨by rfl, ?hyr2_9⟩) (by assumption) ?restr2_9
      case hyr2_9 => (intro w hSw; (try dsimp only at hSw); go_simp; try (with_reducible rfl))
      simp only [Act.put, List.getElem_toArray, List.getElem_cons_succ, List.getElem_cons_zero, List.setIfInBounds_toArray, List.set_cons_zero, List.set_cons_succ]
      refine wpAnyH_done (by kernel_rfl) ?_ _
      have HS := Lib.hid hHeld.2
      clear hHeld
      go_wp2_with fail
      go_roundw
      case rel => exact ⟨k + 1, by omega, by go_num, HS.out⟩
      case measure => simp [intOf]; omega
    · have hkd : decide (k < n) = false := by simpa using hlt
      go_wp2_with fail
      go_ret
      exact ⟨rfl, HB1.out _ HR.out⟩

theorem grown_setTl {w v : World} {g : Nat} (h : w.grownBy v (some g)) (o : Nat) (u : Value) : w.grownBy (v.setCell ⟨g, o, none⟩ u) (some g) :=
  ⟨h.os, h.tape, h.output, by simpa [World.setCell] using h.size, fun i hi hne => (Below.heap_setCell v ⟨g, o, none⟩ u i (by rintro rfl; exact hne rfl)).trans (h.block i hi hne)⟩
set_option maxHeartbeats 4000000 in
set_option maxRecDepth 100000 in
theorem mark_toolS (g n : Nat) (cs : Array Value) (k : Int) (w : World) (hn : n ≤ 2000000) (k0 : 0 ≤ k) (k1 : k ≤ 1000000) (hb : Hid (Blk w g 25 cs)) (hs : Hid (cs.size = n * 4)) :
    Calls Try.prog 50 #[.slice (some ⟨g, 0, none⟩) n n, .int .i64 k] w fun e w' => e = .returned (.int .i64 (k + 4 * (n : Int))) ∧ w.grownBy w' (some g) := by
  go_enter Try.func50, Try.ntmps50
  go_wp2_with fail
  go_loopw [1, 5] (fun q i wr => ∃ (j : Nat) (ds : Array Value), j ≤ n ∧ i = .int .i64 j ∧ q = .int .i64 (k + 4 * (j : Int)) ∧ Hid (Blk wr g 25 ds) ∧ Hid (ds.size = n * 4) ∧ Hid (w.grownBy wr (some g))) (fun _ i _ => n - (intOf i).toNat)
  case atStart => exact ⟨0, cs, Nat.zero_le _, rfl, by go_num, hb, hs, Lib.hid (World.grownBy.refl w _)⟩
  case round =>
    obtain ⟨j, ds, hj, rfl, rfl, HK, HQZ, HG⟩ := hrel
    by_cases hlt : j < n
    · have hji : (j : Int) < (n : Int) := by omega
      have hj0 : 0 ≤ (j : Int) := by omega
      have hjd : decide (j < n) = true := by simpa using hlt
      obtain ⟨u0, q0⟩ : ∃ u, wr.cell? ⟨g, j * 4, none⟩ = some u := ⟨_, (HK.out.cell _).trans (Array.getElem?_eq_getElem (by rw [HQZ.out]; omega))⟩
      have f0 := HK.out.frozen (j * 4)
      obtain ⟨u1, q1⟩ : ∃ u, wr.cell? ⟨g, j * 4 + 1, none⟩ = some u := ⟨_, (HK.out.cell _).trans (Array.getElem?_eq_getElem (by rw [HQZ.out]; omega))⟩
      have f1 := HK.out.frozen (j * 4 + 1)
      obtain ⟨u2, q2⟩ : ∃ u, wr.cell? ⟨g, j * 4 + 2, none⟩ = some u := ⟨_, (HK.out.cell _).trans (Array.getElem?_eq_getElem (by rw [HQZ.out]; omega))⟩
      have f2 := HK.out.frozen (j * 4 + 2)
      obtain ⟨u3, q3⟩ : ∃ u, wr.cell? ⟨g, j * 4 + 3, none⟩ = some u := ⟨_, (HK.out.cell _).trans (Array.getElem?_eq_getElem (by rw [HQZ.out]; omega))⟩
      have f3 := HK.out.frozen (j * 4 + 3)
      go_wp2_with fail
      go_roundw
      case rel => exact ⟨j + 1, _, by omega, by go_num, by go_num, Lib.hid ((((HK.out.set_ (j * 4) _).set_ (j * 4 + 1) _).set_ (j * 4 + 2) _).set_ (j * 4 + 3) _), Lib.hid (by simpa using HQZ.out), Lib.hid (grown_setTl (grown_setTl (grown_setTl (grown_setTl (HG.out) _ _) _ _) _ _) _ _)⟩
      case measure => simp [intOf]; omega
    · have hjd : decide (j < n) = false := by simpa using hlt
      obtain rfl : j = n := by omega
      go_wp2_with fail
      go_ret
      exact ⟨rfl, HG.out⟩
end Go.Proofs.Ytekbiapgbhaibaa.tl
