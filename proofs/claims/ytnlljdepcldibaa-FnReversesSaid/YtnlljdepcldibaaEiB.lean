/-
  The program's entries of field books: do two agree, which is the first of a leg.
  Conditions: the entries are valid.
-/
import Derived.Test.YtnlljdepcldibaaEiA
import Derived.Test.YtnlljdepcldibaaEnM
import Derived.Test.YtnlljdepcldibaaLgL0
import Derived.Deep.RegionHeld3
namespace Go.Proofs.Ytnlljdepcldibaa.eni
open Go.RowKit
open reads base ty win lg lgi en rowi
set_option linter.unusedVariables false
set_option linter.unusedSimpArgs false

/-- two entries in boxes -/
def E2 (w : World) (a b : En) (v : World) : Prop := Blk v w.heap.size 25 #[.int .i64 a.frm, .int .i64 a.to_, .int .i64 a.tape, .int .i64 a.comp, .int .i64 a.slope, .bool a.back] ∧ Blk v (w.heap.size + 1) 25 #[.int .i64 b.frm, .int .i64 b.to_, .int .i64 b.tape, .int .i64 b.comp, .int .i64 b.slope, .bool b.back] ∧ Below w.heap.size w v
theorem E2.start (w : World) (a b : En) : E2 w a b ((w.alloc (.cells #[.int .i64 a.frm, .int .i64 a.to_, .int .i64 a.tape, .int .i64 a.comp, .int .i64 a.slope, .bool a.back] 25)).alloc (.cells #[.int .i64 b.frm, .int .i64 b.to_, .int .i64 b.tape, .int .i64 b.comp, .int .i64 b.slope, .bool b.back] 25)) := by
  refine ⟨(Blk.new w _ _).alloc _, ?_, ((Below.refl _ _).alloc (Nat.le_refl _) _).alloc (by simp) _⟩
  have h := Blk.new (w.alloc (.cells #[.int .i64 a.frm, .int .i64 a.to_, .int .i64 a.tape, .int .i64 a.comp, .int .i64 a.slope, .bool a.back] 25)) 25 #[.int .i64 b.frm, .int .i64 b.to_, .int .i64 b.tape, .int .i64 b.comp, .int .i64 b.slope, .bool b.back]
  simpa using h
theorem E2.step {w v v' : World} {a b : En} (h : E2 w a b v) (hb : Below v.heap.size v v') : E2 w a b v' := ⟨h.1.below hb h.1.lt, h.2.1.below hb h.2.1.lt, h.2.2.trans (hb.mono h.2.2.size)⟩
theorem e2_mk {w v : World} {a b : En} (h : E2 w a b v) : v.cell? ⟨w.heap.size, 0, none⟩ = some (.int .i64 a.frm) ∧ v.cell? ⟨w.heap.size, 1, none⟩ = some (.int .i64 a.to_) ∧ v.cell? ⟨w.heap.size, 2, none⟩ = some (.int .i64 a.tape) ∧ v.cell? ⟨w.heap.size, 3, none⟩ = some (.int .i64 a.comp) ∧ v.cell? ⟨w.heap.size, 4, none⟩ = some (.int .i64 a.slope) ∧ v.cell? ⟨w.heap.size, 5, none⟩ = some (.bool a.back) ∧ v.cell? ⟨w.heap.size + 1, 0, none⟩ = some (.int .i64 b.frm) ∧ v.cell? ⟨w.heap.size + 1, 1, none⟩ = some (.int .i64 b.to_) ∧ v.cell? ⟨w.heap.size + 1, 2, none⟩ = some (.int .i64 b.tape) ∧ v.cell? ⟨w.heap.size + 1, 3, none⟩ = some (.int .i64 b.comp) ∧ v.cell? ⟨w.heap.size + 1, 4, none⟩ = some (.int .i64 b.slope) ∧ v.cell? ⟨w.heap.size + 1, 5, none⟩ = some (.bool b.back) ∧ E2 w a b v := ⟨h.1.cell 0, h.1.cell 1, h.1.cell 2, h.1.cell 3, h.1.cell 4, h.1.cell 5, h.2.1.cell 0, h.2.1.cell 1, h.2.1.cell 2, h.2.1.cell 3, h.2.1.cell 4, h.2.1.cell 5, h⟩
theorem agr_is (x y : Lg) (v : Value) (h : Hid (ansAgree x y 2 2 = v)) (w : World) : Calls Try.prog 61 #[.agg #[.int .i64 x.frm, .int .i64 x.to_, .int .i64 x.tape, .int .i64 x.comp, .int .i64 x.slope], .agg #[.int .i64 y.frm, .int .i64 y.to_, .int .i64 y.tape, .int .i64 y.comp, .int .i64 y.slope], .int .i64 2, .int .i64 2] w (APost v w) := by rw [← h.out]; exact doAgree_impl x y 2 2 w
set_option maxHeartbeats 4000000 in
set_option maxRecDepth 100000 in
theorem agree_is (a b : En) (p q : Bool) (w : World) (ha : Hid (okEn a = true)) (hb : Hid (okEn b = true)) (hq : Hid (sameEn a b = q)) (hp : Hid ((sameEn a b && agEn a b) = p)) : Calls Try.prog 50 #[.agg #[.int .i64 a.frm, .int .i64 a.to_, .int .i64 a.tape, .int .i64 a.comp, .int .i64 a.slope, .bool a.back], .agg #[.int .i64 b.frm, .int .i64 b.to_, .int .i64 b.tape, .int .i64 b.comp, .int .i64 b.slope, .bool b.back]] w (APost (.tuple #[.bool p, .bool q]) w) := by
  have HS0 := Lib.hid (E2.start w a b)
  obtain ⟨-, -, -, -, ⟨a6, a7⟩, a8, a9⟩ := okEn_lim ha.out
  obtain ⟨-, -, -, -, ⟨b6, b7⟩, b8, b9⟩ := okEn_lim hb.out
  obtain ⟨x, hx⟩ : ∃ x, legEn a = x := ⟨_, rfl⟩
  obtain ⟨y, hy⟩ : ∃ y, legEn b = y := ⟨_, rfl⟩
  have HA := Lib.hid (show ansAgree x y 2 2 = .tuple #[.bool p, .bool q] by rw [← hx, ← hy, agree_ans ha.out hb.out, hp.out, hq.out])
  have HX := Lib.hid hx
  have HY := Lib.hid hy
  clear hx hy
  go_enter Try.func50, Try.ntmps50
  go_wp2_with fail
  refine wp_region_held_drew (S := (fun v => v.cell? ⟨w.heap.size, 0, none⟩ = some (.int .i64 a.frm) ∧ v.cell? ⟨w.heap.size, 1, none⟩ = some (.int .i64 a.to_) ∧ v.cell? ⟨w.heap.size, 2, none⟩ = some (.int .i64 a.tape) ∧ v.cell? ⟨w.heap.size, 3, none⟩ = some (.int .i64 a.comp) ∧ v.cell? ⟨w.heap.size, 4, none⟩ = some (.int .i64 a.slope) ∧ v.cell? ⟨w.heap.size, 5, none⟩ = some (.bool a.back) ∧ v.cell? ⟨w.heap.size + 1, 0, none⟩ = some (.int .i64 b.frm) ∧ v.cell? ⟨w.heap.size + 1, 1, none⟩ = some (.int .i64 b.to_) ∧ v.cell? ⟨w.heap.size + 1, 2, none⟩ = some (.int .i64 b.tape) ∧ v.cell? ⟨w.heap.size + 1, 3, none⟩ = some (.int .i64 b.comp) ∧ v.cell? ⟨w.heap.size + 1, 4, none⟩ = some (.int .i64 b.slope) ∧ v.cell? ⟨w.heap.size + 1, 5, none⟩ = some (.bool b.back) ∧ E2 w a b v)) (by kernel_rfl) ?_ (fun hHeld => ?_)
  · exact e2_mk (HS0.out.step (drewN_below _ 1))
  refine' wpAnyH_take (i := 0) (v := ?vr1_0) rfl (by kernel_rfl) (by kernel_rfl) (by kernel_rfl) (fun _ _ _ h => h) (Or.inl ⟨by rfl, ?hyr1_0⟩) (by assumption) ?restr1_0
  case hyr1_0 => (intro w hSw; (try dsimp only at hSw); go_simp; try (with_reducible rfl))
  simp only [Act.put, List.getElem_toArray, List.getElem_cons_succ, List.getElem_cons_zero, List.setIfInBounds_toArray, List.set_cons_zero, List.set_cons_succ]
  refine' wpAnyH_take (i := 2) (v := ?vr1_2) rfl (by kernel_rfl) (by kernel_rfl) (by kernel_rfl) (fun _ _ _ h => h) (Or.inl ⟨by rfl, ?hyr1_2⟩) (by assumption) ?restr1_2
  case hyr1_2 => (intro w hSw; (try dsimp only at hSw); go_simp; try (with_reducible rfl))
  simp only [Act.put, List.getElem_toArray, List.getElem_cons_succ, List.getElem_cons_zero, List.setIfInBounds_toArray, List.set_cons_zero, List.set_cons_succ]
  refine wpAnyH_ready (rs := [1]) (by kernel_rfl) (by simp) ?_
  refine AllReadyH.cons rfl (fun K hK => ?_) AllReadyH.nil
  go_simp
  refine (forward_is a x HX _ (by omega) (by omega) (by omega) (by omega)).mono ?_
  rintro e v1 ⟨rfl, bb⟩
  refine hK.out _ _ (e2_mk (hHeld.2.2.2.2.2.2.2.2.2.2.2.2.step bb)) (fun hHeld1 => ?_)
  clear hK K hHeld
  have hHeld := hHeld1
  clear hHeld1
  try simp only [Act.put, List.getElem_toArray, List.getElem_cons_succ, List.getElem_cons_zero, List.setIfInBounds_toArray, List.set_cons_zero, List.set_cons_succ]
  refine wpAnyH_ready (rs := [3]) (by kernel_rfl) (by simp) ?_
  refine AllReadyH.cons rfl (fun K hK => ?_) AllReadyH.nil
  go_simp
  refine (forward_is b y HY _ (by omega) (by omega) (by omega) (by omega)).mono ?_
  rintro e v2 ⟨rfl, bb⟩
  refine hK.out _ _ (e2_mk (hHeld.2.2.2.2.2.2.2.2.2.2.2.2.step bb)) (fun hHeld1 => ?_)
  clear hK K hHeld
  have hHeld := hHeld1
  clear hHeld1
  try simp only [Act.put, List.getElem_toArray, List.getElem_cons_succ, List.getElem_cons_zero, List.setIfInBounds_toArray, List.set_cons_zero, List.set_cons_succ]
  refine wpAnyH_ready (rs := [4]) (by kernel_rfl) (by simp) ?_
  refine AllReadyH.cons rfl (fun K hK => ?_) AllReadyH.nil
  go_simp
  refine (agr_is x y _ HA _).mono ?_
  rintro e v3 ⟨rfl, bb⟩
  refine hK.out _ _ (e2_mk (hHeld.2.2.2.2.2.2.2.2.2.2.2.2.step bb)) (fun hHeld1 => ?_)
  clear hK K hHeld
  have hHeld := hHeld1
  clear hHeld1
  try simp only [Act.put, List.getElem_toArray, List.getElem_cons_succ, List.getElem_cons_zero, List.setIfInBounds_toArray, List.set_cons_zero, List.set_cons_succ]
  refine' wpAnyH_take (i := 5) (v := ?vr1_5) rfl (by kernel_rfl) (by kernel_rfl) (by kernel_rfl) (fun _ _ _ h => h) (Or.inl ⟨by rfl, ?hyr1_5⟩) (by assumption) ?restr1_5
  case hyr1_5 => (intro w hSw; (try dsimp only at hSw); go_simp; try (with_reducible rfl))
  simp only [Act.put, List.getElem_toArray, List.getElem_cons_succ, List.getElem_cons_zero, List.setIfInBounds_toArray, List.set_cons_zero, List.set_cons_succ]
  refine' wpAnyH_take (i := 6) (v := ?vr1_6) rfl (by kernel_rfl) (by kernel_rfl) (by kernel_rfl) (fun _ _ _ h => h) (Or.inl ⟨by rfl, ?hyr1_6⟩) (by assumption) ?restr1_6
  case hyr1_6 => (intro w hSw; (try dsimp only at hSw); go_simp; try (with_reducible rfl))
  simp only [Act.put, List.getElem_toArray, List.getElem_cons_succ, List.getElem_cons_zero, List.setIfInBounds_toArray, List.set_cons_zero, List.set_cons_succ]
  refine' wpAnyH_take (i := 7) (v := ?vr1_7) rfl (by kernel_rfl) (by kernel_rfl) (by kernel_rfl) (fun _ _ _ h => h) (Or.inl ⟨by rfl, ?hyr1_7⟩) (by assumption) ?restr1_7
  case hyr1_7 => (intro w hSw; (try dsimp only at hSw); go_simp; try (with_reducible rfl))
  simp only [Act.put, List.getElem_toArray, List.getElem_cons_succ, List.getElem_cons_zero, List.setIfInBounds_toArray, List.set_cons_zero, List.set_cons_succ]
  refine' wpAnyH_take (i := 8) (v := ?vr1_8) rfl (by kernel_rfl) (by kernel_rfl) (by kernel_rfl) (fun _ _ _ h => h) (Or.inl ⟨by rfl, ?hyr1_8⟩) (by assumption) ?restr1_8
  case hyr1_8 => (intro w hSw; (try dsimp only at hSw); go_simp; try (with_reducible rfl))
  simp only [Act.put, List.getElem_toArray, List.getElem_cons_succ, List.getElem_cons_zero, List.setIfInBounds_toArray, List.set_cons_zero, List.set_cons_succ]
  refine wpAnyH_done (by kernel_rfl) ?_ _
  have HS1 := Lib.hid hHeld.2.2.2.2.2.2.2.2.2.2.2.2
  clear hHeld HS0
  go_wp2_with fail
  go_ret2
  exact ⟨rfl, HS1.out.2.2⟩

set_option maxHeartbeats 4000000 in
set_option maxRecDepth 100000 in
theorem clo_is (u x : En) (X : Nat) (q : Bool) (w : World) (hu : Hid (okEn u = true)) (hx : Hid (okEn x = true)) (hq : Hid (sameEn u x = q)) (hX : Hid (Blk w X 25 #[.int .i64 x.frm, .int .i64 x.to_, .int .i64 x.tape, .int .i64 x.comp, .int .i64 x.slope, .bool x.back])) : Calls Try.prog 63 #[.agg #[.int .i64 u.frm, .int .i64 u.to_, .int .i64 u.tape, .int .i64 u.comp, .int .i64 u.slope, .bool u.back], .pointer (some ⟨X, 0, none⟩)] w (BPost q w) := by
  obtain ⟨p, hp⟩ : ∃ p, (sameEn u x && agEn u x) = p := ⟨_, rfl⟩
  have HP := Lib.hid hp
  clear hp
  have hlt := hX.out.lt
  have HX1 := Lib.hid (hX.out.alloc (.cells #[.int .i64 u.frm, .int .i64 u.to_, .int .i64 u.tape, .int .i64 u.comp, .int .i64 u.slope, .bool u.back] 25))
  obtain ⟨x0, x1, x2, x3, x4, x5⟩ := (⟨HX1.out.cell 0, HX1.out.cell 1, HX1.out.cell 2, HX1.out.cell 3, HX1.out.cell 4, HX1.out.cell 5⟩ : (w.alloc (.cells #[.int .i64 u.frm, .int .i64 u.to_, .int .i64 u.tape, .int .i64 u.comp, .int .i64 u.slope, .bool u.back] 25)).cell? ⟨X, 0, none⟩ = some (.int .i64 x.frm) ∧ (w.alloc (.cells #[.int .i64 u.frm, .int .i64 u.to_, .int .i64 u.tape, .int .i64 u.comp, .int .i64 u.slope, .bool u.back] 25)).cell? ⟨X, 1, none⟩ = some (.int .i64 x.to_) ∧ (w.alloc (.cells #[.int .i64 u.frm, .int .i64 u.to_, .int .i64 u.tape, .int .i64 u.comp, .int .i64 u.slope, .bool u.back] 25)).cell? ⟨X, 2, none⟩ = some (.int .i64 x.tape) ∧ (w.alloc (.cells #[.int .i64 u.frm, .int .i64 u.to_, .int .i64 u.tape, .int .i64 u.comp, .int .i64 u.slope, .bool u.back] 25)).cell? ⟨X, 3, none⟩ = some (.int .i64 x.comp) ∧ (w.alloc (.cells #[.int .i64 u.frm, .int .i64 u.to_, .int .i64 u.tape, .int .i64 u.comp, .int .i64 u.slope, .bool u.back] 25)).cell? ⟨X, 4, none⟩ = some (.int .i64 x.slope) ∧ (w.alloc (.cells #[.int .i64 u.frm, .int .i64 u.to_, .int .i64 u.tape, .int .i64 u.comp, .int .i64 u.slope, .bool u.back] 25)).cell? ⟨X, 5, none⟩ = some (.bool x.back))
  obtain ⟨X1, hX1⟩ : ∃ Y, Y = X := ⟨_, rfl⟩
  go_enter Try.func63, Try.ntmps63
  go_wp2_with fail
  refine (agree_is u x p q _ hu hx hq HP).mono ?_
  rintro e w2 ⟨rfl, b2⟩
  have HB := Lib.hid (((Below.refl w.heap.size w).alloc (Nat.le_refl _) (.cells #[.int .i64 u.frm, .int .i64 u.to_, .int .i64 u.tape, .int .i64 u.comp, .int .i64 u.slope, .bool u.back] 25)).trans (b2.mono (by simp)))
  clear b2
  go_wp2_with fail
  go_ret
  exact ⟨rfl, HB.out⟩

set_option maxHeartbeats 4000000 in
set_option maxRecDepth 100000 in
theorem idx_is (A : Option Addr) (n cap : Nat) (ts : List En) (x : En) (X m : Nat) (w : World) (hn : n ≤ 2000000) (hm : Hid (firstN ts x = m)) (hin : Hid (x ∈ ts)) (hok : Hid (∀ t ∈ ts, okEn t = true)) (hts : Hid (EnAt w w.heap.size A n ts)) (hX : Hid (Blk w X 25 #[.int .i64 x.frm, .int .i64 x.to_, .int .i64 x.tape, .int .i64 x.comp, .int .i64 x.slope, .bool x.back])) :
    Calls Try.prog 62 #[.slice A n cap, .func (.func 63) #[] #[.pointer (some ⟨X, 0, none⟩)]] w fun e w' => e = .returned (.int .i64 (m : Int)) ∧ Below w.heap.size w w' := by
  have hL : Hid (ts.length = n) := Lib.hid hts.out.1
  obtain ⟨k, hk⟩ := List.getElem?_of_mem hin.out
  obtain ⟨q0, ⟨u, q1, q2⟩, q3⟩ := first_ex ts k x hk
  rw [hm.out] at q0 q1 q3
  have HKO := Lib.hid (hok.out x hin.out)
  have HU := Lib.hid q1
  have HUS := Lib.hid q2
  have HNO := Lib.hid q3
  have hmn : m < n := by have := lt_at q1; rw [hL.out] at this; exact this
  clear q0 q1 q2 q3 hk k
  have hXl := hX.out.lt
  go_enter Try.func62, Try.ntmps62
  go_wp2_with fail
  go_loopw [5, 8] (fun _ k wr => ∃ j : Nat, j ≤ m ∧ k = .int .i64 j ∧ Below w.heap.size w wr) (fun _ k _ => m - (intOf k).toNat)
  case atStart => exact ⟨0, Nat.zero_le _, rfl, Below.refl _ _⟩
  case round =>
    obtain ⟨j, hj, rfl, hB⟩ := hrel
    have HB := Lib.hid hB
    clear hB
    have hjn : j < n := by omega
    obtain ⟨v, hv⟩ := at_lt hL.out hjn
    obtain ⟨g, rfl, hg, d0, d1, d2, d3, d4, d5⟩ := (hts.out.below HB.out).2 j v hv
    have HVO := Lib.hid (hok.out v (List.mem_of_getElem? hv))
    have HXr := Lib.hid (hX.out.below HB.out hXl)
    have HV := Lib.hid hv
    clear hv
    have hji : (j : Int) < (n : Int) := by omega
    have hj0 : 0 ≤ (j : Int) := by omega
    have hjd : decide (j < n) = true := by simpa using hjn
    by_cases hlt : j < m
    · have HS := Lib.hid (HNO.out j v hlt HV.out)
      go_wp2_with fail
      refine (clo_is v x X false _ HVO HKO HS HXr).mono ?_
      rintro e w2 ⟨rfl, b2⟩
      have HB2 := Lib.hid (HB.out.trans (b2.mono HB.out.size))
      clear b2
      go_wp2_with fail
      go_roundw
      case rel => exact ⟨j + 1, by omega, by go_num, HB2.out⟩
      case measure => simp [intOf]; omega
    · obtain rfl : j = m := by omega
      obtain rfl : v = u := by have h1 := HV.out; rw [HU.out] at h1; exact (Option.some.inj h1).symm
      go_wp2_with fail
      refine (clo_is v x X true _ HVO HKO HUS HXr).mono ?_
      rintro e w2 ⟨rfl, b2⟩
      have HB2 := Lib.hid (HB.out.trans (b2.mono HB.out.size))
      clear b2
      go_wp2_with fail
      go_ret
      exact ⟨rfl, HB2.out⟩
set_option maxHeartbeats 4000000 in
set_option maxRecDepth 100000 in
theorem fol_is (A : Option Addr) (n cap : Nat) (ts : List En) (x : En) (m : Nat) (w : World) (hn : n ≤ 2000000) (hm : Hid (firstN ts x = m)) (hin : Hid (x ∈ ts)) (hok : Hid (∀ t ∈ ts, okEn t = true)) (hts : Hid (EnAt w w.heap.size A n ts)) :
    Calls Try.prog 51 #[.slice A n cap, .agg #[.int .i64 x.frm, .int .i64 x.to_, .int .i64 x.tape, .int .i64 x.comp, .int .i64 x.slope, .bool x.back]] w fun e w' => e = .returned (.int .i64 (m : Int)) ∧ Below w.heap.size w w' := by
  have HT1 := Lib.hid (hts.out.alloc (.cells #[.int .i64 x.frm, .int .i64 x.to_, .int .i64 x.tape, .int .i64 x.comp, .int .i64 x.slope, .bool x.back] 25))
  have HX1 := Lib.hid (Blk.new w 25 #[.int .i64 x.frm, .int .i64 x.to_, .int .i64 x.tape, .int .i64 x.comp, .int .i64 x.slope, .bool x.back])
  go_enter Try.func51, Try.ntmps51
  go_wp2_with fail
  refine (idx_is A n cap ts x w.heap.size m _ hn hm hin hok HT1 HX1).mono ?_
  rintro e w2 ⟨rfl, b2⟩
  have HB := Lib.hid (((Below.refl w.heap.size w).alloc (Nat.le_refl _) (.cells #[.int .i64 x.frm, .int .i64 x.to_, .int .i64 x.tape, .int .i64 x.comp, .int .i64 x.slope, .bool x.back] 25)).trans (b2.mono (by simp)))
  clear b2
  go_wp2_with fail
  go_ret
  exact ⟨rfl, HB.out⟩
end Go.Proofs.Ytnlljdepcldibaa.eni
