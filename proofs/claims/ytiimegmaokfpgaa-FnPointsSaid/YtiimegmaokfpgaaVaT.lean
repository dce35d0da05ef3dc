/-
  Drawn days and bearings; the draws of points behind their functions.
  Conditions: the code has at most 65536 bytes.
-/
import Derived.Test.YtiimegmaokfpgaaVaS
import Derived.Deep.DeepCutAuto
namespace Go.Proofs.Ytiimegmaokfpgaa.drp
open Go.RowKit
open reads base curs curd cure ty va
set_option linter.unusedVariables false
set_option linter.unusedSimpArgs false

theorem own_cut {w : World} {base size L c g k : Nat} {e : TypeId} {xs : List Value} (h : w.ownsRow base e size (.slice (some ⟨g, 0, none⟩) L c) L xs) (hk : k ≤ L) : w.ownsRow base e size (.slice (some ⟨g, 0, none⟩) k c) k (xs.take (k * size)) := by
  have hm : k * size ≤ L * size := Nat.mul_le_mul_right _ hk
  refine ⟨by rw [List.length_take, h.1]; omega, .inr ?_⟩
  rcases h.2 with ⟨e1, -⟩ | ⟨g', cp, cur, e1, h1, h2, h3, h4, h5, h6⟩
  · cases e1
  · injection e1 with a b c'
    injection a with a
    injection a with a
    subst a c'
    exact ⟨g, c, cur, rfl, h1, h2, by omega, h4, h5, by rw [← h6, List.take_take]; congr 1; omega⟩
theorem flat_takeD (ts : List Dp) (k : Nat) (h : k ≤ ts.length) : (flatDp ts).take (k * 2) = flatDp (ts.take k) := by
  have e : flatDp ts = flatDp (ts.take k) ++ flatDp (ts.drop k) := by rw [← flatDp_append, List.take_append_drop]
  have hl : (flatDp (ts.take k)).length = k * 2 := by rw [flatDp_len, List.length_take]; congr 1; omega
  rw [e, List.take_append_of_le_length (by omega), List.take_of_length_le (by omega)]
/-- a drawn number -/
def NPo (B b k : Nat) (A : Option Addr) (n cap : Nat) (zs : List UInt8) (w : World) (e : Ending) (w' : World) : Prop := ∃ x : Int, e = .returned (.int .i64 x) ∧ Cur w' B b k A n cap zs ∧ w.grownBy w' (some b)
set_option maxHeartbeats 4000000 in
set_option maxRecDepth 100000 in
theorem day11_any (B b k : Nat) (A : Option Addr) (n cap : Nat) (zs : List UInt8) (w : World) (hk : k ≤ 50000) (h : Hid (Cur w B b k A n cap zs)) :
    Calls Try.prog 53 #[.pointer (some ⟨b, 0, none⟩)] w (NPo B b (k + 3) A n cap zs w) := by
  have hbl := cur_lt h.out
  have hBB : B ≤ w.heap.size := by have := h.out.1; omega
  go_enter Try.func53, Try.ntmps53
  go_wp2_with fail
  refine (pick_any B b k A n cap zs _ 24 (by omega) (cur_alloc h.out hBB (.cells (intsV [0, 1, 101, 105, 150, 501, 999, -1, 1000]).toArray 3)) (by decide) (by decide)).mono ?_
  rintro e w3 ⟨r, rfl, hr, hC, hg⟩
  have hr2 : r ≤ 23 := hr
  have HC3 := Lib.hid hC
  have HK := Lib.hid ((Blk.new w 3 (intsV [0, 1, 101, 105, 150, 501, 999, -1, 1000]).toArray).grown hg (by intro e; injection e with e; omega))
  have HG3 := Lib.hid ((World.grownBy_alloc w (.cells (intsV [0, 1, 101, 105, 150, 501, 999, -1, 1000]).toArray 3) (some b)).trans hg)
  clear hC hg hr
  obtain ⟨q, hq, hq2⟩ : ∃ q : Nat, (r : Int) / 11 = (q : Int) ∧ (q = 0 ∨ q = 1 ∨ q = 2) := ⟨r / 11, by omega, by omega⟩
  rcases hq2 with rfl | rfl | rfl
  · go_wp2_with fail
    refine (among_pre B b (k + 1) A n cap zs _ _ 7 _ [0, 1, 101, 105, 150, 501, 999, -1, 1000] (by omega) HC3.out HK.out (by omega) (by decide) (by decide) (by decide)).mono ?_
    rintro e w4 ⟨y, -, rfl, hC, hg⟩
    have HC4 := Lib.hid (cur_more hC (k + 3) (by omega))
    have HG4 := Lib.hid (HG3.out.trans hg)
    clear hC hg HK
    go_wp2_with fail
    go_ret
    exact ⟨y, rfl, HC4.out, HG4.out⟩
  · go_wp2_with fail
    refine (among_pre B b (k + 1) A n cap zs _ _ 8 _ [0, 1, 101, 105, 150, 501, 999, -1, 1000] (by omega) HC3.out HK.out (by omega) (by decide) (by decide) (by decide)).mono ?_
    rintro e w4 ⟨y, -, rfl, hC, hg⟩
    have HC4 := Lib.hid (cur_more hC (k + 3) (by omega))
    have HG4 := Lib.hid (HG3.out.trans hg)
    clear hC hg HK
    go_wp2_with fail
    go_ret
    exact ⟨y, rfl, HC4.out, HG4.out⟩
  · go_wp2_with fail
    refine (among_pre B b (k + 1) A n cap zs _ _ 9 _ [0, 1, 101, 105, 150, 501, 999, -1, 1000] (by omega) HC3.out HK.out (by omega) (by decide) (by decide) (by decide)).mono ?_
    rintro e w4 ⟨y, -, rfl, hC, hg⟩
    have HC4 := Lib.hid (cur_more hC (k + 3) (by omega))
    have HG4 := Lib.hid (HG3.out.trans hg)
    clear hC hg HK
    go_wp2_with fail
    go_ret
    exact ⟨y, rfl, HC4.out, HG4.out⟩
set_option maxHeartbeats 4000000 in
set_option maxRecDepth 100000 in
theorem fine_any (B b k : Nat) (A : Option Addr) (n cap : Nat) (zs : List UInt8) (w : World) (hk : k ≤ 50000) (h : Hid (Cur w B b k A n cap zs)) :
    Calls Try.prog 54 #[.pointer (some ⟨b, 0, none⟩)] w (NPo B b (k + 3) A n cap zs w) := by
  have hbl := cur_lt h.out
  have hBB : B ≤ w.heap.size := by have := h.out.1; omega
  go_enter Try.func54, Try.ntmps54
  go_wp2_with fail
  refine (pick_any B b k A n cap zs _ 24 (by omega) (cur_alloc h.out hBB (.cells (intsV [0, 5, 899, 1800, 3599, -1, 3600]).toArray 3)) (by decide) (by decide)).mono ?_
  rintro e w3 ⟨r, rfl, hr, hC, hg⟩
  have hr2 : r ≤ 23 := hr
  have HC3 := Lib.hid hC
  have HK := Lib.hid ((Blk.new w 3 (intsV [0, 5, 899, 1800, 3599, -1, 3600]).toArray).grown hg (by intro e; injection e with e; omega))
  have HG3 := Lib.hid ((World.grownBy_alloc w (.cells (intsV [0, 5, 899, 1800, 3599, -1, 3600]).toArray 3) (some b)).trans hg)
  clear hC hg hr
  obtain ⟨q, hq, hq2⟩ : ∃ q : Nat, (r : Int) / 11 = (q : Int) ∧ (q = 0 ∨ q = 1 ∨ q = 2) := ⟨r / 11, by omega, by omega⟩
  rcases hq2 with rfl | rfl | rfl
  · go_wp2_with fail
    refine (among_pre B b (k + 1) A n cap zs _ _ 5 _ [0, 5, 899, 1800, 3599, -1, 3600] (by omega) HC3.out HK.out (by omega) (by decide) (by decide) (by decide)).mono ?_
    rintro e w4 ⟨y, -, rfl, hC, hg⟩
    have HC4 := Lib.hid (cur_more hC (k + 3) (by omega))
    have HG4 := Lib.hid (HG3.out.trans hg)
    clear hC hg HK
    go_wp2_with fail
    go_ret
    exact ⟨y, rfl, HC4.out, HG4.out⟩
  · go_wp2_with fail
    refine (among_pre B b (k + 1) A n cap zs _ _ 6 _ [0, 5, 899, 1800, 3599, -1, 3600] (by omega) HC3.out HK.out (by omega) (by decide) (by decide) (by decide)).mono ?_
    rintro e w4 ⟨y, -, rfl, hC, hg⟩
    have HC4 := Lib.hid (cur_more hC (k + 3) (by omega))
    have HG4 := Lib.hid (HG3.out.trans hg)
    clear hC hg HK
    go_wp2_with fail
    go_ret
    exact ⟨y, rfl, HC4.out, HG4.out⟩
  · go_wp2_with fail
    refine (among_pre B b (k + 1) A n cap zs _ _ 7 _ [0, 5, 899, 1800, 3599, -1, 3600] (by omega) HC3.out HK.out (by omega) (by decide) (by decide) (by decide)).mono ?_
    rintro e w4 ⟨y, -, rfl, hC, hg⟩
    have HC4 := Lib.hid (cur_more hC (k + 3) (by omega))
    have HG4 := Lib.hid (HG3.out.trans hg)
    clear hC hg HK
    go_wp2_with fail
    go_ret
    exact ⟨y, rfl, HC4.out, HG4.out⟩
/-- drawn points and some numbers, behind their function -/
def P0 (m : Nat) (w : World) (e : Ending) (w' : World) : Prop := ∃ (v : Value) (L : Nat) (ts : List Dp), e = .returned v ∧ w'.ownsRow w.heap.size 42 2 v L (flatDp ts) ∧ ts.length = L ∧ L ≤ m ∧ Below w.heap.size w w'
def P1 (w : World) (e : Ending) (w' : World) : Prop := ∃ (v : Value) (L : Nat) (ts : List Dp) (x : Int), e = .returned (.tuple #[v, .int .i64 x]) ∧ w'.ownsRow w.heap.size 42 2 v L (flatDp ts) ∧ ts.length = L ∧ L ≤ 9 ∧ Below w.heap.size w w'
def P2 (w : World) (e : Ending) (w' : World) : Prop := ∃ (v : Value) (L : Nat) (ts : List Dp) (x y : Int), e = .returned (.tuple #[v, .int .i64 x, .int .i64 y]) ∧ w'.ownsRow w.heap.size 42 2 v L (flatDp ts) ∧ ts.length = L ∧ L ≤ 9 ∧ Below w.heap.size w w'
set_option maxHeartbeats 4000000 in
set_option maxRecDepth 100000 in
theorem trueBearing_draw (A : Option Addr) (n cap : Nat) (zs : List UInt8) (w : World) (h : Hid (curs.Code w A n zs)) : Calls Try.prog 15 #[.slice A n cap] w (P2 w) := by
  have HC0 := Lib.hid (cur_new cap h.out)
  go_enter Try.func15, Try.ntmps15
  go_wp2_with fail
  refine (points_any w.heap.size w.heap.size 0 A n cap zs _ (by omega) HC0).mono ?_
  rintro e w1 ⟨v, L, ts, rfl, hl, hG⟩
  have HG := Lib.hid hG
  clear hG HC0
  go_wp2_with fail
  refine (day11_any w.heap.size w.heap.size (0 + 80) A n cap zs _ (by omega) (Lib.hid HG.out.1)).mono ?_
  rintro e w2 ⟨x2, rfl, hC, hg⟩
  have HG2 := Lib.hid (HG.out.step hC hg)
  clear hC hg HG
  go_wp2_with fail
  refine (fine_any w.heap.size w.heap.size (0 + 80 + 3) A n cap zs _ (by omega) (Lib.hid HG2.out.1)).mono ?_
  rintro e w3 ⟨x3, rfl, hC, hg⟩
  have HG3 := Lib.hid (HG2.out.step hC hg)
  clear hC hg HG2
  go_wp2_with fail
  go_ret3
  exact ⟨v, L, ts, x2, x3, rfl, own_base (by simp) HG3.out.2.2.1, HG3.out.2.2.2.1, hl, low HG3.out.2.1⟩
set_option maxHeartbeats 4000000 in
set_option maxRecDepth 100000 in
theorem changeBetween_draw (A : Option Addr) (n cap : Nat) (zs : List UInt8) (w : World) (h : Hid (curs.Code w A n zs)) : Calls Try.prog 25 #[.slice A n cap] w (P2 w) := by
  have HC0 := Lib.hid (cur_new cap h.out)
  go_enter Try.func25, Try.ntmps25
  go_wp2_with fail
  refine (points_any w.heap.size w.heap.size 0 A n cap zs _ (by omega) HC0).mono ?_
  rintro e w1 ⟨v, L, ts, rfl, hl, hG⟩
  have HG := Lib.hid hG
  clear hG HC0
  go_wp2_with fail
  refine (day11_any w.heap.size w.heap.size (0 + 80) A n cap zs _ (by omega) (Lib.hid HG.out.1)).mono ?_
  rintro e w2 ⟨x2, rfl, hC, hg⟩
  have HG2 := Lib.hid (HG.out.step hC hg)
  clear hC hg HG
  go_wp2_with fail
  refine (day11_any w.heap.size w.heap.size (0 + 80 + 3) A n cap zs _ (by omega) (Lib.hid HG2.out.1)).mono ?_
  rintro e w3 ⟨x3, rfl, hC, hg⟩
  have HG3 := Lib.hid (HG2.out.step hC hg)
  clear hC hg HG2
  go_wp2_with fail
  go_ret3
  exact ⟨v, L, ts, x2, x3, rfl, own_base (by simp) HG3.out.2.2.1, HG3.out.2.2.2.1, hl, low HG3.out.2.1⟩
set_option maxHeartbeats 4000000 in
set_option maxRecDepth 100000 in
theorem declinationOn_draw (A : Option Addr) (n cap : Nat) (zs : List UInt8) (w : World) (h : Hid (curs.Code w A n zs)) : Calls Try.prog 39 #[.slice A n cap] w (P1 w) := by
  have HC0 := Lib.hid (cur_new cap h.out)
  go_enter Try.func39, Try.ntmps39
  go_wp2_with fail
  refine (points_any w.heap.size w.heap.size 0 A n cap zs _ (by omega) HC0).mono ?_
  rintro e w1 ⟨v, L, ts, rfl, hl, hG⟩
  have HG := Lib.hid hG
  clear hG HC0
  go_wp2_with fail
  refine (day11_any w.heap.size w.heap.size (0 + 80) A n cap zs _ (by omega) (Lib.hid HG.out.1)).mono ?_
  rintro e w2 ⟨x2, rfl, hC, hg⟩
  have HG2 := Lib.hid (HG.out.step hC hg)
  clear hC hg HG
  go_wp2_with fail
  go_ret2
  exact ⟨v, L, ts, x2, rfl, own_base (by simp) HG2.out.2.2.1, HG2.out.2.2.2.1, hl, low HG2.out.2.1⟩
set_option maxHeartbeats 4000000 in
set_option maxRecDepth 100000 in
theorem daysWith_draw (A : Option Addr) (n cap : Nat) (zs : List UInt8) (w : World) (h : Hid (curs.Code w A n zs)) : Calls Try.prog 28 #[.slice A n cap] w (P1 w) := by
  have HC0 := Lib.hid (cur_new cap h.out)
  go_enter Try.func28, Try.ntmps28
  go_wp2_with fail
  refine (points_any w.heap.size w.heap.size 0 A n cap zs _ (by omega) HC0).mono ?_
  rintro e w1 ⟨v, L, ts, rfl, hl, hG⟩
  have HG := Lib.hid hG
  clear hG HC0
  have hw1 : w.heap.size < w1.heap.size := cur_lt HG.out.1
  have hG0 := HG.out.alloc (.cells (intsV [0, 5, 10, -15, 27, 900, -901, 901]).toArray 3)
  have HGA := Lib.hid hG0
  clear hG0
  go_wp2_with fail
  refine (pick_any w.heap.size w.heap.size (0 + 80) A n cap zs _ 24 (by omega) HGA.out.1 (by decide) (by decide)).mono ?_
  rintro e w3 ⟨r, rfl, hr, hC, hg⟩
  have hr2 : r ≤ 23 := hr
  have HG3 := Lib.hid (HGA.out.step hC hg)
  have HK := Lib.hid ((Blk.new w1 3 (intsV [0, 5, 10, -15, 27, 900, -901, 901]).toArray).grown hg (by intro e; injection e with e; omega))
  clear hC hg hr HGA HG
  obtain ⟨q, hq, hq2⟩ : ∃ q : Nat, (r : Int) / 11 = (q : Int) ∧ (q = 0 ∨ q = 1 ∨ q = 2) := ⟨r / 11, by omega, by omega⟩
  rcases hq2 with rfl | rfl | rfl
  · go_wp2_with fail
    refine (among_pre w.heap.size w.heap.size (0 + 80 + 1) A n cap zs _ _ 6 _ [0, 5, 10, -15, 27, 900, -901, 901] (by omega) HG3.out.1 HK.out (by omega) (by decide) (by decide) (by decide)).mono ?_
    rintro e w4 ⟨y, -, rfl, hC, hg⟩
    have HG4 := Lib.hid (HG3.out.step hC hg)
    clear hC hg HK
    go_wp2_with fail
    go_ret2
    exact ⟨v, L, ts, y, rfl, own_base (by simp) HG4.out.2.2.1, HG4.out.2.2.2.1, hl, low HG4.out.2.1⟩
  · go_wp2_with fail
    refine (among_pre w.heap.size w.heap.size (0 + 80 + 1) A n cap zs _ _ 7 _ [0, 5, 10, -15, 27, 900, -901, 901] (by omega) HG3.out.1 HK.out (by omega) (by decide) (by decide) (by decide)).mono ?_
    rintro e w4 ⟨y, -, rfl, hC, hg⟩
    have HG4 := Lib.hid (HG3.out.step hC hg)
    clear hC hg HK
    go_wp2_with fail
    go_ret2
    exact ⟨v, L, ts, y, rfl, own_base (by simp) HG4.out.2.2.1, HG4.out.2.2.2.1, hl, low HG4.out.2.1⟩
  · go_wp2_with fail
    refine (among_pre w.heap.size w.heap.size (0 + 80 + 1) A n cap zs _ _ 8 _ [0, 5, 10, -15, 27, 900, -901, 901] (by omega) HG3.out.1 HK.out (by omega) (by decide) (by decide) (by decide)).mono ?_
    rintro e w4 ⟨y, -, rfl, hC, hg⟩
    have HG4 := Lib.hid (HG3.out.step hC hg)
    clear hC hg HK
    go_wp2_with fail
    go_ret2
    exact ⟨v, L, ts, y, rfl, own_base (by simp) HG4.out.2.2.1, HG4.out.2.2.2.1, hl, low HG4.out.2.1⟩
set_option maxHeartbeats 4000000 in
set_option maxRecDepth 100000 in
theorem needless_draw (A : Option Addr) (n cap : Nat) (zs : List UInt8) (w : World) (h : Hid (curs.Code w A n zs)) : Calls Try.prog 36 #[.slice A n cap] w (P0 4 w) := by
  have HC0 := Lib.hid (cur_new cap h.out)
  go_enter Try.func36, Try.ntmps36
  go_wp2_with fail
  refine (points_any w.heap.size w.heap.size 0 A n cap zs _ (by omega) HC0).mono ?_
  rintro e w1 ⟨v, L, ts, rfl, hl, hG⟩
  have HG := Lib.hid hG
  clear hG HC0
  obtain ⟨A', c, rfl⟩ := row_slice HG.out.2.2.1
  by_cases h4 : 4 < L
  · have hd : decide ((4 : Int) < (L : Int)) = true := by simp; omega
    have hd2 : decide (4 < L) = true := by simpa using h4
    obtain ⟨g, c', hv, -⟩ := HG.out.2.2.1.form (by omega)
    injection hv with hA hn2 hc2
    subst hA
    clear hc2 hn2
    have HR := Lib.hid (own_cut HG.out.2.2.1 (show 4 ≤ L by omega))
    have hcap : L ≤ c := by
      rcases HG.out.2.2.1.2 with ⟨e1, -⟩ | ⟨g', cp, cur, e1, -, -, h3, -⟩
      · cases e1
      · injection e1 with a b c2; omega
    have hc4 : 4 ≤ c := by omega
    have hc4i : (4 : Int) ≤ (c : Int) := by omega
    go_wp2_with fail
    go_ret
    exact ⟨_, 4, ts.take 4, rfl, by rw [← flat_takeD ts 4 (by rw [HG.out.2.2.2.1]; omega)]; exact own_base (by simp) HR.out, by rw [List.length_take, HG.out.2.2.2.1]; omega, Nat.le_refl _, low HG.out.2.1⟩
  · have hd : decide ((4 : Int) < (L : Int)) = false := by simp; omega
    have hd2 : decide (4 < L) = false := by simpa using h4
    go_wp2_with fail
    go_ret
    exact ⟨_, L, ts, rfl, own_base (by simp) HG.out.2.2.1, HG.out.2.2.2.1, by omega, low HG.out.2.1⟩
end Go.Proofs.Ytiimegmaokfpgaa.drp
