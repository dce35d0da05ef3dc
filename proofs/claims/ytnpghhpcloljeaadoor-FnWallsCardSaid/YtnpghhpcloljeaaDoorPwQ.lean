/-
  The program: the widest passage.
  Conditions: the passages lie in one block, at most 2000000 of them.
-/
import Derived.Test.YtnpghhpcloljeaaDoorPwI
import Derived.BigQuiet
import Derived.Deep.QuietTactic
import Derived.Deep.Cut
import Derived.Deep.DeepCutAuto
import Derived.RegionTactic
import Derived.Deep.RegionWith
import Derived.OwnWalk
import Derived.Deep.RegionHeld3
namespace Go.Proofs.YtnpghhpcloljeaaDoor.pw
open Go.RowKit
open reads base ty rowi win lg lgi
set_option linter.unusedVariables false
set_option linter.unusedSimpArgs false

/-- two passages in boxes, and nothing old has turned -/
def TX (w : World) (x q : Pg) (v : World) : Prop := Blk v w.heap.size 43 #[.int .i64 x.st, .int .i64 x.lf, .int .i64 x.rt, .int .i64 x.ab, .int .i64 x.be] ∧ Blk v (w.heap.size + 1) 43 #[.int .i64 q.st, .int .i64 q.lf, .int .i64 q.rt, .int .i64 q.ab, .int .i64 q.be] ∧ Below w.heap.size w v
theorem TX.start (w : World) (x q : Pg) : TX w x q ((w.alloc (.cells #[.int .i64 x.st, .int .i64 x.lf, .int .i64 x.rt, .int .i64 x.ab, .int .i64 x.be] 43)).alloc (.cells #[.int .i64 q.st, .int .i64 q.lf, .int .i64 q.rt, .int .i64 q.ab, .int .i64 q.be] 43)) := by
  refine ⟨(Blk.new w _ _).alloc _, ?_, ((Below.refl _ _).alloc (Nat.le_refl _) _).alloc (by simp) _⟩
  have h := Blk.new (w.alloc (.cells #[.int .i64 x.st, .int .i64 x.lf, .int .i64 x.rt, .int .i64 x.ab, .int .i64 x.be] 43)) 43 #[.int .i64 q.st, .int .i64 q.lf, .int .i64 q.rt, .int .i64 q.ab, .int .i64 q.be]
  simpa using h
theorem TX.step {w v v' : World} {x q : Pg} (h : TX w x q v) (hb : Below v.heap.size v v') : TX w x q v' := ⟨h.1.below hb h.1.lt, h.2.1.below hb h.2.1.lt, h.2.2.trans (hb.mono h.2.2.size)⟩
theorem tx_mk {w v : World} {x q : Pg} (h : TX w x q v) : v.cell? ⟨w.heap.size, 0, none⟩ = some (.int .i64 x.st) ∧ v.cell? ⟨w.heap.size, 1, none⟩ = some (.int .i64 x.lf) ∧ v.cell? ⟨w.heap.size, 2, none⟩ = some (.int .i64 x.rt) ∧ v.cell? ⟨w.heap.size, 3, none⟩ = some (.int .i64 x.ab) ∧ v.cell? ⟨w.heap.size, 4, none⟩ = some (.int .i64 x.be) ∧ v.cell? ⟨w.heap.size + 1, 0, none⟩ = some (.int .i64 q.st) ∧ v.cell? ⟨w.heap.size + 1, 1, none⟩ = some (.int .i64 q.lf) ∧ v.cell? ⟨w.heap.size + 1, 2, none⟩ = some (.int .i64 q.rt) ∧ v.cell? ⟨w.heap.size + 1, 3, none⟩ = some (.int .i64 q.ab) ∧ v.cell? ⟨w.heap.size + 1, 4, none⟩ = some (.int .i64 q.be) ∧ w.heap.size < v.heap.size ∧ w.heap.size + 1 < v.heap.size ∧ TX w x q v :=
  ⟨h.1.cell 0, h.1.cell 1, h.1.cell 2, h.1.cell 3, h.1.cell 4, h.2.1.cell 0, h.2.1.cell 1, h.2.1.cell 2, h.2.1.cell 3, h.2.1.cell 4, h.1.lt, h.2.1.lt, h⟩
set_option maxHeartbeats 4000000 in
set_option maxRecDepth 100000 in
theorem clo_wd (x q : Pg) (a b r : Int) (w : World) (HO : Hid (okPg x = true)) (HOQ : Hid (okPg q = true)) (HV : Hid (area x = a)) (HU : Hid (area q = b)) (HR : Hid (cmI a b = r)) :
    Calls Tryd.prog 52 #[.agg #[.int .i64 x.st, .int .i64 x.lf, .int .i64 x.rt, .int .i64 x.ab, .int .i64 x.be], .agg #[.int .i64 q.st, .int .i64 q.lf, .int .i64 q.rt, .int .i64 q.ab, .int .i64 q.be]] w (APost (.int .i64 r) w) := by
  have HS0 := Lib.hid (TX.start w x q)
  go_enter Tryd.func52, Tryd.ntmps52
  go_upto_region 1 with fail
  obtain ⟨V, HVV⟩ : ∃ V, Hid ((w.alloc (.cells #[.int .i64 x.st, .int .i64 x.lf, .int .i64 x.rt, .int .i64 x.ab, .int .i64 x.be] 43)).alloc (.cells #[.int .i64 q.st, .int .i64 q.lf, .int .i64 q.rt, .int .i64 q.ab, .int .i64 q.be] 43) = V) := ⟨_, Lib.hid rfl⟩
  rw [HVV.out] at HS0
  rw [HVV.out]
  clear HVV
  refine wp_region_held_drew (S := (fun v : World => v.cell? ⟨w.heap.size, 0, none⟩ = some (.int .i64 x.st) ∧ v.cell? ⟨w.heap.size, 1, none⟩ = some (.int .i64 x.lf) ∧ v.cell? ⟨w.heap.size, 2, none⟩ = some (.int .i64 x.rt) ∧ v.cell? ⟨w.heap.size, 3, none⟩ = some (.int .i64 x.ab) ∧ v.cell? ⟨w.heap.size, 4, none⟩ = some (.int .i64 x.be) ∧ v.cell? ⟨w.heap.size + 1, 0, none⟩ = some (.int .i64 q.st) ∧ v.cell? ⟨w.heap.size + 1, 1, none⟩ = some (.int .i64 q.lf) ∧ v.cell? ⟨w.heap.size + 1, 2, none⟩ = some (.int .i64 q.rt) ∧ v.cell? ⟨w.heap.size + 1, 3, none⟩ = some (.int .i64 q.ab) ∧ v.cell? ⟨w.heap.size + 1, 4, none⟩ = some (.int .i64 q.be) ∧ w.heap.size < v.heap.size ∧ w.heap.size + 1 < v.heap.size ∧ TX w x q v)) (by kernel_rfl) ?_ (fun hHeld => ?_)
  · exact tx_mk (HS0.out.step (Below.refl _ _).drew)
  refine' wpAnyH_take (i := 0) (v := ?vr7_0) rfl (by kernel_rfl) (by kernel_rfl) (by kernel_rfl) (fun _ _ _ h => h) (Or.inl ⟨by rfl, ?hyr7_0⟩) (by assumption) ?restr7_0
  case hyr7_0 => (intro w hSw; (try dsimp only at hSw); go_simp; try (with_reducible rfl))
  simp only [Act.put, List.getElem_toArray, List.getElem_cons_succ, List.getElem_cons_zero, List.setIfInBounds_toArray, List.set_cons_zero, List.set_cons_succ]
  refine' wpAnyH_take (i := 2) (v := ?vr7_2) rfl (by kernel_rfl) (by kernel_rfl) (by kernel_rfl) (fun _ _ _ h => h) (Or.inl ⟨by rfl, ?hyr7_2⟩) (by assumption) ?restr7_2
  case hyr7_2 => (intro w hSw; (try dsimp only at hSw); go_simp; try (with_reducible rfl))
  simp only [Act.put, List.getElem_toArray, List.getElem_cons_succ, List.getElem_cons_zero, List.setIfInBounds_toArray, List.set_cons_zero, List.set_cons_succ]
  refine wpAnyH_ready (rs := [1]) (by kernel_rfl) (by simp) ?_
  refine AllReadyH.cons rfl (fun K hK => ?_) AllReadyH.nil
  go_simp
  refine (areaOf_is x a HV _ HO).mono ?_
  rintro e w1 ⟨rfl, b1⟩
  refine hK.out _ _ (tx_mk (hHeld.2.2.2.2.2.2.2.2.2.2.2.2.step b1)) (fun hHeld1 => ?_)
  clear hK K hHeld
  have hHeld := hHeld1
  clear hHeld1
  try simp only [Act.put, List.getElem_toArray, List.getElem_cons_succ, List.getElem_cons_zero, List.setIfInBounds_toArray, List.set_cons_zero, List.set_cons_succ]
  refine wpAnyH_ready (rs := [3]) (by kernel_rfl) (by simp) ?_
  refine AllReadyH.cons rfl (fun K hK => ?_) AllReadyH.nil
  go_simp
  refine (areaOf_is q b HU _ HOQ).mono ?_
  rintro e w1 ⟨rfl, b1⟩
  refine hK.out _ _ (tx_mk (hHeld.2.2.2.2.2.2.2.2.2.2.2.2.step b1)) (fun hHeld1 => ?_)
  clear hK K hHeld
  have hHeld := hHeld1
  clear hHeld1
  try simp only [Act.put, List.getElem_toArray, List.getElem_cons_succ, List.getElem_cons_zero, List.setIfInBounds_toArray, List.set_cons_zero, List.set_cons_succ]
  refine wpAnyH_ready (rs := [4]) (by kernel_rfl) (by simp) ?_
  refine AllReadyH.cons rfl (fun K hK => ?_) AllReadyH.nil
  go_simp
  refine (cmp_any a b r _ HR).mono ?_
  rintro e w1 ⟨rfl, rfl⟩
  refine hK.out _ _ (hHeld) (fun hHeld1 => ?_)
  clear hK K hHeld
  have hHeld := hHeld1
  clear hHeld1
  try simp only [Act.put, List.getElem_toArray, List.getElem_cons_succ, List.getElem_cons_zero, List.setIfInBounds_toArray, List.set_cons_zero, List.set_cons_succ]
  refine' wpAnyH_take (i := 5) (v := ?vr7_5) rfl (by kernel_rfl) (by kernel_rfl) (by kernel_rfl) (fun _ _ _ h => h) (Or.inl ⟨by rfl, ?hyr7_5⟩) (by assumption) ?restr7_5
  case hyr7_5 => (intro w hSw; (try dsimp only at hSw); go_simp; try (with_reducible rfl))
  simp only [Act.put, List.getElem_toArray, List.getElem_cons_succ, List.getElem_cons_zero, List.setIfInBounds_toArray, List.set_cons_zero, List.set_cons_succ]
  refine wpAnyH_done (by kernel_rfl) ?_ _
  have HB := Lib.hid (hHeld.2.2.2.2.2.2.2.2.2.2.2.2.2.2)
  clear hHeld
  go_wp2_with fail
  go_ret
  exact ⟨rfl, HB.out⟩
/-- and the result's box beside it -/
def WZ (w : World) (X : Nat) (q : Pg) (v : World) : Prop := WB w X q v ∧ Blk v w.heap.size 43 #[.int .i64 0, .int .i64 0, .int .i64 0, .int .i64 0, .int .i64 0] ∧ w.heap.size < X
theorem WZ.step {w v v' : World} {X : Nat} {q : Pg} (h : WZ w X q v) (hb : Below v.heap.size v v') : WZ w X q v' := ⟨h.1.step hb, h.2.1.below hb h.2.1.lt, h.2.2⟩
theorem WZ.put {w v : World} {X : Nat} {q : Pg} (h : WZ w X q v) (y : Pg) : WZ w X y (((((v.setCell ⟨X, 0, none⟩ (.int .i64 y.st)).setCell ⟨X, 1, none⟩ (.int .i64 y.lf)).setCell ⟨X, 2, none⟩ (.int .i64 y.rt)).setCell ⟨X, 3, none⟩ (.int .i64 y.ab)).setCell ⟨X, 4, none⟩ (.int .i64 y.be)) := by
  obtain ⟨h1, h2, h3⟩ := h
  have hn : w.heap.size ≠ X := by omega
  exact ⟨h1.put y, ((((h2.far (p := (⟨X, 0, none⟩ : Addr)) hn _).far (p := (⟨X, 1, none⟩ : Addr)) hn _).far (p := (⟨X, 2, none⟩ : Addr)) hn _).far (p := (⟨X, 3, none⟩ : Addr)) hn _).far (p := (⟨X, 4, none⟩ : Addr)) hn _, h3⟩
theorem wz_mk {w v : World} {X g o : Nat} {q x : Pg} (hc : C5 w g o x) (h : WZ w X q v) : v.cell? ⟨g, o, none⟩ = some (.int .i64 x.st) ∧ v.cell? ⟨g, o + 1, none⟩ = some (.int .i64 x.lf) ∧ v.cell? ⟨g, o + 2, none⟩ = some (.int .i64 x.rt) ∧ v.cell? ⟨g, o + 3, none⟩ = some (.int .i64 x.ab) ∧ v.cell? ⟨g, o + 4, none⟩ = some (.int .i64 x.be) ∧ v.cell? ⟨X, 0, none⟩ = some (.int .i64 q.st) ∧ v.cell? ⟨X, 1, none⟩ = some (.int .i64 q.lf) ∧ v.cell? ⟨X, 2, none⟩ = some (.int .i64 q.rt) ∧ v.cell? ⟨X, 3, none⟩ = some (.int .i64 q.ab) ∧ v.cell? ⟨X, 4, none⟩ = some (.int .i64 q.be) ∧ X < v.heap.size ∧ WZ w X q v := by
  obtain ⟨a, b, c, d, e⟩ := hc.below h.1.1
  exact ⟨a, b, c, d, e, h.1.2.1.cell 0, h.1.2.1.cell 1, h.1.2.1.cell 2, h.1.2.1.cell 3, h.1.2.1.cell 4, h.1.2.1.lt, h⟩
set_option maxHeartbeats 8000000 in
set_option maxRecDepth 100000 in
theorem max_any (A : Option Addr) (n cap : Nat) (ts : List Pg) (z : Pg) (w : World) (hn : n ≤ 2000000) (hts : Hid (PgAt w w.heap.size A n ts)) (hg : Hid (goodPg ts = true)) (h0 : 1 ≤ n) (hz : Hid (ts[wdN ts n]? = some z)) :
    Calls Tryd.prog 51 #[.slice A n cap, .func (.func 52) #[] #[]] w (APost (.agg #[.int .i64 z.st, .int .i64 z.lf, .int .i64 z.rt, .int .i64 z.ab, .int .i64 z.be]) w) := by
  have hL : Hid (ts.length = n) := Lib.hid hts.out.1
  have hn8 : n ≤ 8 := by rw [← hL.out]; exact good_len hg.out
  have hnp : (0 : Int) < (n : Int) := by omega
  have hn1 : ¬ (n : Int) < 1 := by omega
  have hn1d : decide ((n : Int) < 1) = false := by simp; omega
  obtain ⟨f, hf⟩ := at_lt hL.out (show 0 < n by omega)
  have HB0 := Lib.hid ((Below.refl w.heap.size w).alloc (Nat.le_refl _) (.cells #[.int .i64 0, .int .i64 0, .int .i64 0, .int .i64 0, .int .i64 0] 43))
  have HZ0 := Lib.hid (Blk.new w 43 #[.int .i64 0, .int .i64 0, .int .i64 0, .int .i64 0, .int .i64 0])
  obtain ⟨g, rfl, hgl, c0, c1, c2, c3, c4⟩ := (hts.out.below HB0.out).2 0 f hf
  simp only [Nat.zero_mul, Nat.zero_add] at c0 c1 c2 c3 c4
  have HF := Lib.hid hf
  clear hf
  go_enter Tryd.func51, Tryd.ntmps51
  go_upto_region 4 with fail
  obtain ⟨X, HX⟩ : ∃ X, Hid (w.heap.size + 1 = X) := ⟨_, Lib.hid rfl⟩
  obtain ⟨V, HVV⟩ : ∃ V, Hid ((w.alloc (.cells #[.int .i64 0, .int .i64 0, .int .i64 0, .int .i64 0, .int .i64 0] 43)).alloc (.cells #[.int .i64 f.st, .int .i64 f.lf, .int .i64 f.rt, .int .i64 f.ab, .int .i64 f.be] 43) = V) := ⟨_, Lib.hid rfl⟩
  have HW1 := Lib.hid (show WZ w X f V by
    rw [← HVV.out, ← HX.out]
    have h := Blk.new (w.alloc (.cells #[.int .i64 0, .int .i64 0, .int .i64 0, .int .i64 0, .int .i64 0] 43)) 43 #[.int .i64 f.st, .int .i64 f.lf, .int .i64 f.rt, .int .i64 f.ab, .int .i64 f.be]
    exact ⟨⟨HB0.out.alloc (by simp) _, by simpa using h, by omega⟩, HZ0.out.alloc _, by omega⟩)
  rw [HVV.out]
  try simp only [HX.out]
  clear HVV HX c0 c1 c2 c3 c4 HB0 HZ0
  go_wp2_with fail
  go_loopw [6] (fun i wr => ∃ (k : Nat) (q : Pg), 1 ≤ k ∧ k ≤ n ∧ i = .int .i64 (k : Nat) ∧ Hid (ts[wdN ts k]? = some q) ∧ WZ w X q wr) (fun i _ => n - (intOf i).toNat)
  case atStart => exact ⟨1, f, Nat.le_refl _, by omega, rfl, Lib.hid (by rw [show wdN ts 1 = 0 by have := wdN_lt (ts := ts) 1 (by omega); omega]; exact HF.out), HW1.out⟩
  case round =>
    obtain ⟨k, q, hk1, hk, rfl, HQ, hW⟩ := hrel
    have HW := Lib.hid hW
    clear hW HW1
    have hk0 : (0 : Int) ≤ (k : Int) := by omega
    have HOQ := Lib.hid (good_at hg.out HQ.out)
    by_cases hlt : k < n
    · have hki : (k : Int) < (n : Int) := by omega
      have hkd : decide (k < n) = true := by simpa using hlt
      obtain ⟨x, hx⟩ := at_lt hL.out hlt
      obtain ⟨g9, e9, hg9, c0, c1, c2, c3, c4⟩ := hts.out.2 k x hx
      obtain rfl : g = g9 := by injection e9 with e9; injection e9
      have HC := Lib.hid (show C5 w g (k * 5) x from ⟨⟨c0, c1, c2, c3, c4⟩, hg9⟩)
      have HO := Lib.hid (good_at hg.out hx)
      obtain ⟨v, HV⟩ : ∃ v, Hid (area x = v) := ⟨_, Lib.hid rfl⟩
      obtain ⟨u, HU⟩ : ∃ v, Hid (area q = v) := ⟨_, Lib.hid rfl⟩
      obtain ⟨r, HR⟩ : ∃ r, Hid (cmI v u = r) := ⟨_, Lib.hid rfl⟩
      have HNX := Lib.hid (show wdN ts (k + 1) = if u < v then k else wdN ts k by rw [wdN_succ hx HQ.out, HV.out, HU.out])
      have HK := Lib.hid hx
      clear hx e9 c0 c1 c2 c3 c4
      obtain ⟨t, ht⟩ : ∃ t, decide (0 < r) = t := ⟨_, rfl⟩
      have HT := Lib.hid (show decide (u < v) = t by
        rw [← ht, ← HR.out]; unfold cmI
        by_cases h1 : v < u
        · rw [if_pos h1]; simp; omega
        · by_cases h2 : u < v
          · rw [if_neg h1, if_pos h2]; simp [h2]
          · rw [if_neg h1, if_neg h2]; simp; omega)
      go_upto_region 7 with fail
      refine wp_region_held_drew (S := (fun v : World => v.cell? ⟨g, k * 5, none⟩ = some (.int .i64 x.st) ∧ v.cell? ⟨g, k * 5 + 1, none⟩ = some (.int .i64 x.lf) ∧ v.cell? ⟨g, k * 5 + 2, none⟩ = some (.int .i64 x.rt) ∧ v.cell? ⟨g, k * 5 + 3, none⟩ = some (.int .i64 x.ab) ∧ v.cell? ⟨g, k * 5 + 4, none⟩ = some (.int .i64 x.be) ∧ v.cell? ⟨X, 0, none⟩ = some (.int .i64 q.st) ∧ v.cell? ⟨X, 1, none⟩ = some (.int .i64 q.lf) ∧ v.cell? ⟨X, 2, none⟩ = some (.int .i64 q.rt) ∧ v.cell? ⟨X, 3, none⟩ = some (.int .i64 q.ab) ∧ v.cell? ⟨X, 4, none⟩ = some (.int .i64 q.be) ∧ X < v.heap.size ∧ WZ w X q v)) (by kernel_rfl) ?_ (fun hHeld => ?_)
      · exact wz_mk HC.out (HW.out.step (Below.refl _ _).drew)
      refine' wpAnyH_take (i := 0) (v := ?vr8_0) rfl (by kernel_rfl) (by kernel_rfl) (by kernel_rfl) (fun _ _ _ h => h) (Or.inl ⟨by rfl, ?hyr8_0⟩) (by assumption) ?restr8_0
      case hyr8_0 => (intro w hSw; (try dsimp only at hSw); go_simp; try (with_reducible rfl))
      simp only [Act.put, List.getElem_toArray, List.getElem_cons_succ, List.getElem_cons_zero, List.setIfInBounds_toArray, List.set_cons_zero, List.set_cons_succ]
      refine' wpAnyH_take (i := 1) (v := ?vr8_1) rfl (by kernel_rfl) (by kernel_rfl) (by kernel_rfl) (fun _ _ _ h => h) (Or.inl ⟨by rfl, ?hyr8_1⟩) (by assumption) ?restr8_1
      case hyr8_1 => (intro w hSw; (try dsimp only at hSw); go_simp; try (with_reducible rfl))
      simp only [Act.put, List.getElem_toArray, List.getElem_cons_succ, List.getElem_cons_zero, List.setIfInBounds_toArray, List.set_cons_zero, List.set_cons_succ]
      refine' wpAnyH_take (i := 2) (v := ?vr8_2) rfl (by kernel_rfl) (by kernel_rfl) (by kernel_rfl) (fun _ _ _ h => h) (Or.inl ⟨by rfl, ?hyr8_2⟩) (by assumption) ?restr8_2
      case hyr8_2 => (intro w hSw; (try dsimp only at hSw); go_simp; try (with_reducible rfl))
      simp only [Act.put, List.getElem_toArray, List.getElem_cons_succ, List.getElem_cons_zero, List.setIfInBounds_toArray, List.set_cons_zero, List.set_cons_succ]
      refine' wpAnyH_take (i := 3) (v := ?vr8_3) rfl (by kernel_rfl) (by kernel_rfl) (by kernel_rfl) (fun _ _ _ h => h) (Or.inl ⟨by rfl, ?hyr8_3⟩) (by assumption) ?restr8_3
      case hyr8_3 => (intro w hSw; (try dsimp only at hSw); go_simp; try (with_reducible rfl))
      simp only [Act.put, List.getElem_toArray, List.getElem_cons_succ, List.getElem_cons_zero, List.setIfInBounds_toArray, List.set_cons_zero, List.set_cons_succ]
      refine' wpAnyH_take (i := 4) (v := ?vr8_4) rfl (by kernel_rfl) (by kernel_rfl) (by kernel_rfl) (fun _ _ _ h => h) (Or.inl ⟨by rfl, ?hyr8_4⟩) (by assumption) ?restr8_4
      case hyr8_4 => (intro w hSw; (try dsimp only at hSw); go_simp; try (with_reducible rfl))
      simp only [Act.put, List.getElem_toArray, List.getElem_cons_succ, List.getElem_cons_zero, List.setIfInBounds_toArray, List.set_cons_zero, List.set_cons_succ]
      refine' wpAnyH_take (i := 5) (v := ?vr8_5) rfl (by kernel_rfl) (by kernel_rfl) (by kernel_rfl) (fun _ _ _ h => h) (Or.inl ⟨by rfl, ?hyr8_5⟩) (by assumption) ?restr8_5
      case hyr8_5 => (intro w hSw; (try dsimp only at hSw); go_simp; try (with_reducible rfl))
      simp only [Act.put, List.getElem_toArray, List.getElem_cons_succ, List.getElem_cons_zero, List.setIfInBounds_toArray, List.set_cons_zero, List.set_cons_succ]
      refine wpAnyH_ready (rs := [6]) (by kernel_rfl) (by simp) ?_
      refine AllReadyH.cons rfl (fun K hK => ?_) AllReadyH.nil
      go_simp
      refine (clo_wd x q v u r _ HO HOQ HV HU HR).mono ?_
      rintro e w1 ⟨rfl, b1⟩
      refine hK.out _ _ (wz_mk HC.out (hHeld.2.2.2.2.2.2.2.2.2.2.2.step b1)) (fun hHeld1 => ?_)
      clear hK K hHeld
      have hHeld := hHeld1
      clear hHeld1
      try simp only [Act.put, List.getElem_toArray, List.getElem_cons_succ, List.getElem_cons_zero, List.setIfInBounds_toArray, List.set_cons_zero, List.set_cons_succ]
      refine' wpAnyH_take (i := 7) (v := ?vr8_7) rfl (by kernel_rfl) (by kernel_rfl) (by kernel_rfl) (fun _ _ _ h => h) (Or.inl ⟨by rfl, ?hyr8_7⟩) (by assumption) ?restr8_7
      case hyr8_7 => (intro w hSw; (try dsimp only at hSw); go_simp; try (with_reducible rfl))
      simp only [Act.put, List.getElem_toArray, List.getElem_cons_succ, List.getElem_cons_zero, List.setIfInBounds_toArray, List.set_cons_zero, List.set_cons_succ]
      refine wpAnyH_done (by kernel_rfl) ?_ _
      have HW2 := Lib.hid (hHeld.2.2.2.2.2.2.2.2.2.2.2)
      clear hHeld HW
      cases t
      · have HN := Lib.hid (show ts[wdN ts (k + 1)]? = some q by rw [HNX.out, if_neg (by simpa using HT.out)]; exact HQ.out)
        go_wp2_with fail
        go_roundw
        case rel => exact ⟨k + 1, q, by omega, by omega, by go_num, HN, HW2.out⟩
        case measure => simp [intOf]; omega
      · have HN := Lib.hid (show ts[wdN ts (k + 1)]? = some x by rw [HNX.out, if_pos (by simpa using HT.out)]; exact HK.out)
        obtain ⟨c0, c1, c2, c3, c4⟩ := HC.out.below HW2.out.1.1
        obtain ⟨f0, f1, f2, f3, f4⟩ := HW2.out.1.fro
        obtain ⟨d0, d1, d2, d3, d4⟩ := HW2.out.1.cs
        have HW3 := Lib.hid (HW2.out.put x)
        go_wp2_with fail
        go_roundw
        case rel => exact ⟨k + 1, x, by omega, by omega, by go_num, HN, HW3.out⟩
        case measure => simp [intOf]; omega
    · have hkd : decide (k < n) = false := by simpa using hlt
      obtain rfl : k = n := by omega
      have HS := Lib.hid (show q = z by have h := HQ.out; rw [hz.out] at h; exact (Option.some.inj h).symm)
      obtain ⟨d0, d1, d2, d3, d4⟩ := HW.out.1.cs
      have z0 := HW.out.2.1.cell 0
      have z1 := HW.out.2.1.cell 1
      have z2 := HW.out.2.1.cell 2
      have z3 := HW.out.2.1.cell 3
      have z4 := HW.out.2.1.cell 4
      have f0 := HW.out.2.1.frozen 0
      have f1 := HW.out.2.1.frozen 1
      have f2 := HW.out.2.1.frozen 2
      have f3 := HW.out.2.1.frozen 3
      have f4 := HW.out.2.1.frozen 4
      have hl := HW.out.2.1.lt
      have HB := Lib.hid HW.out.1.1
      simp at z0 z1 z2 z3 z4
      go_wp2_with fail
      refine bodyPost_ret (v := .agg #[.int .i64 q.st, .int .i64 q.lf, .int .i64 q.rt, .int .i64 q.ab, .int .i64 q.be]) (by simp [results, Tryd.results51, go_sem, *]) rfl ⟨by rw [HS.out], ?_⟩
      exact (((((HB.out.setCell (by simp) _).setCell (by simp) _).setCell (by simp) _).setCell (by simp) _).setCell (by simp) _)
set_option maxHeartbeats 4000000 in
set_option maxRecDepth 100000 in
theorem widest_impl (A : Option Addr) (n cap : Nat) (ts : List Pg) (w : World) (hn : n ≤ 2000000) (hts : Hid (PgAt w w.heap.size A n ts)) :
    Calls Tryd.prog 23 #[.slice A n cap] w (APost (ansWp ts) w) := by
  obtain ⟨G, HG⟩ : ∃ G, Hid (goodPg ts = G) := ⟨_, Lib.hid rfl⟩
  have hL : Hid (ts.length = n) := Lib.hid hts.out.1
  obtain ⟨s, HWS⟩ : ∃ v, Hid (wsK ts = v) := ⟨_, Lib.hid rfl⟩
  have HA := Lib.hid (show ansWp ts = if (G && !decide (n = 0)) = true then .tuple #[.int .i64 s, .bool true] else .tuple #[.int .i64 0, .bool false] by unfold ansWp wsOk; rw [HG.out, hL.out, HWS.out])
  by_cases hz : n = 0
  · subst hz
    go_enter Tryd.func23, Tryd.ntmps23
    go_wp2_with fail
    refine (arePassages_is A 0 cap ts G HG _ hn hts).mono ?_
    rintro e w1 ⟨rfl, b1⟩
    have HB1 := Lib.hid b1
    clear b1
    cases G
    · go_wp2_with fail
      go_ret2
      exact ⟨by rw [HA.out]; rfl, HB1.out⟩
    · go_wp2_with fail
      go_ret2
      exact ⟨by rw [HA.out]; rfl, HB1.out⟩
  have hzi : ((n : Int) == 0) = false := by simp; omega
  have hzn : (n == 0) = false := by simpa using hz
  have hzd : decide (n = 0) = false := by simpa using hz
  rw [hzd] at HA
  go_enter Tryd.func23, Tryd.ntmps23
  go_wp2_with fail
  refine (arePassages_is A n cap ts G HG _ hn hts).mono ?_
  rintro e w1 ⟨rfl, b1⟩
  have HB1 := Lib.hid b1
  clear b1
  cases G
  · go_wp2_with fail
    go_ret2
    exact ⟨by rw [HA.out]; rfl, HB1.out⟩
  obtain ⟨q, hq⟩ := at_lt hL.out (show wdN ts n < n by have := wdN_lt (ts := ts) n (by omega); exact this)
  have HQ := Lib.hid hq
  have HS := Lib.hid (show q.st = s by rw [← HWS.out]; unfold wsK; rw [hL.out, hq])
  clear hq
  go_wp2_with fail
  refine (max_any A n cap ts q _ hn (Lib.hid (hts.out.step HB1.out)) HG (by omega) HQ).mono ?_
  rintro e w2 ⟨rfl, b2⟩
  have HB2 := Lib.hid (HB1.out.trans (b2.mono HB1.out.size))
  clear b2 HB1
  go_wp2_with fail
  go_ret2
  exact ⟨by rw [HA.out, ← HS.out]; rfl, HB2.out.alloc HB2.out.size _⟩
end Go.Proofs.YtnpghhpcloljeaaDoor.pw
