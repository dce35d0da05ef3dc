/-
  The program's tools: the worst check, the reading back.
  Conditions: the checks lie in one block below the call's own.
-/
import Derived.Test.YtekbiapgbhaibaaTlO
import Derived.Test.YtekbiapgbhaibaaTlW
namespace Go.Proofs.Ytekbiapgbhaibaa.tli
open Go.RowKit
open reads tl
set_option linter.unusedVariables false
set_option linter.unusedSimpArgs false

/-- the program's search for the worst check -/
def ist (x : Tl) (cs : List Ck) : Nat → Int × Int
  | 0 => (0, 0)
  | k + 1 => wst x cs (k + 1)
theorem ist_step {x : Tl} {cs : List Ck} {k : Nat} {c : Ck} (h : cs[k]? = some c) : ist x cs (k + 1) = if (ist x cs k).2 < far (errV x c) then ((k : Int), far (errV x c)) else ist x cs k := by
  show wst x cs (k + 1) = _
  rw [wst_step h]
  cases k with
  | zero =>
    have := far_bd (errV x c)
    show (if (-1 : Int) < far (errV x c) then (((0 : Nat) : Int), far (errV x c)) else (-1, -1)) = if (0 : Int) < far (errV x c) then (((0 : Nat) : Int), far (errV x c)) else (0, 0)
    rw [if_pos (by omega)]
    by_cases q : 0 < far (errV x c)
    · rw [if_pos q]
    · rw [if_neg q, show far (errV x c) = 0 by omega]; rfl
  | succ k => rfl
theorem ckOk_of {x : Tl} {c : Ck} (h : errOk x c = true) : ckOk x c = true ∧ okT x = true := by
  simp only [errOk, Bool.and_eq_true] at h
  obtain ⟨a, b, c⟩ := corrOk_yes h.1
  unfold ckOk
  rw [b, h.2]
  exact ⟨rfl, a⟩
theorem ansWorst_yes {x : Tl} {cs : List Ck} {n : Nat} (hl : cs.length = n) (hn : btw 1 (n : Int) 10 = true) (h : cs.all (errOk x) = true) : ansWorst x cs = .tuple #[.int .i64 (ist x cs n).1, .int .i64 (ist x cs n).2, .bool true] := by
  have hb := btw_yes hn
  obtain ⟨m, rfl⟩ : ∃ m, n = m + 1 := ⟨n - 1, by omega⟩
  have hall : cs.all (ckOk x) = true := by
    rw [List.all_eq_true] at h ⊢
    exact fun c hc => (ckOk_of (h c hc)).1
  have hx : okT x = true := by
    rw [List.all_eq_true] at h
    exact (ckOk_of (h (cs[0]'(by omega)) (List.getElem_mem _))).2
  have hc : cksOk x cs = true := by unfold cksOk; rw [hall, hx, hl, hn]; rfl
  have hw : wv x cs = wst x cs (m + 1) := by unfold wv; rw [if_pos h, hl]
  have h0 := wst_some x cs (m + 1) (by omega) (by omega)
  unfold ansWorst
  rw [if_pos ⟨hc, by rw [hw]; exact h0⟩, hw]
  rfl
theorem ansWorst_no {x : Tl} {cs : List Ck} (h : cs.all (errOk x) = false) : ansWorst x cs = .tuple #[.int .i64 0, .int .i64 0, .bool false] := by
  unfold ansWorst
  rw [if_neg]
  rintro ⟨-, q⟩
  unfold wv at q
  rw [h] at q
  simp at q

set_option maxHeartbeats 4000000 in
set_option maxRecDepth 100000 in
theorem worstCheck_impl (x : Tl) (A : Option Addr) (n cap : Nat) (cs : List Ck) (w : World) (hn : n ≤ 2000000) (hcs : Hid (CksAt w w.heap.size A n cs)) :
    Calls Try.prog 24 #[.agg #[.int .i64 x.id, .int .i64 x.kind, .int .i64 x.zero, .int .i64 x.scale], .slice A n cap] w (APost (ansWorst x cs) w) := by
  obtain ⟨c0, c1, c2, c3, HB⟩ := box4 w 25 (.int .i64 x.id) (.int .i64 x.kind) (.int .i64 x.zero) (.int .i64 x.scale)
  have HB0 := Lib.hid HB
  have hL : Hid (cs.length = n) := Lib.hid hcs.out.1
  obtain ⟨t, HT⟩ : ∃ t, Hid (btw 1 (n : Int) 10 = t) := ⟨_, Lib.hid rfl⟩
  cases t
  · have HA := Lib.hid (show ansWorst x cs = .tuple #[.int .i64 0, .int .i64 0, .bool false] by
      unfold ansWorst
      rw [if_neg]
      rintro ⟨q, -⟩
      obtain ⟨-, -, q⟩ := cksOk_parts q
      rw [hL.out, HT.out] at q
      cases q)
    go_enter Try.func24, Try.ntmps24
    go_wp2_with fail
    refine (within_new _ _ (n : Int) _ _ false _ _ (by simp) HT).mono ?_
    rintro e w' ⟨rfl, rfl⟩
    go_wp2_with fail
    go_ret3
    exact ⟨by rw [HA.out]; rfl, HB0.out.alloc (by simp) _⟩
  have hn10 := btw_yes HT.out
  go_enter Try.func24, Try.ntmps24
  go_wp2_with fail
  refine (within_new _ _ (n : Int) _ _ true _ _ (by simp) HT).mono ?_
  rintro e w' ⟨rfl, rfl⟩
  go_wp2_with fail
  obtain ⟨W0, HW0⟩ : ∃ W0, Hid (w.alloc (.cells #[.int .i64 x.id, .int .i64 x.kind, .int .i64 x.zero, .int .i64 x.scale] 25) = W0) := ⟨_, Lib.hid rfl⟩
  obtain ⟨B, HBB⟩ : ∃ B, Hid (w.heap.size + 1 = B) := ⟨_, Lib.hid rfl⟩
  obtain ⟨b, HBb⟩ : ∃ b, Hid (w.heap.size = b) := ⟨_, Lib.hid rfl⟩
  have hbB : b < B := by rw [← HBB.out, ← HBb.out]; omega
  have HWB := Lib.hid (show B ≤ W0.heap.size by rw [← HBB.out, ← HW0.out]; simp)
  have HC0 := Lib.hid (show CksAt W0 B A n cs by rw [← HW0.out, ← HBB.out]; exact ((hcs.out.below ((Below.refl _ _).alloc (Nat.le_refl _) _)).more (by omega)))
  have HB1 := Lib.hid (show ∀ v, Below B W0 v → Below w.heap.size w v from fun v hv => by
    rw [← HBB.out, ← HW0.out] at hv
    exact HB0.out.trans (hv.mono (by omega)))
  rw [HW0.out, HBb.out] at c0 c1 c2 c3
  clear HB
  rw [HW0.out, HBb.out]
  clear HW0 HBB hcs HB0
  go_loopw [7, 8, 21] (fun p q i wr => ∃ (k : Nat) (u v : Int), k ≤ n ∧ i = .int .i64 k ∧ p = .int .i64 u ∧ q = .int .i64 v ∧ Hid ((cs.take k).all (errOk x) = true) ∧ Hid (ist x cs k = (u, v)) ∧ Below B W0 wr) (fun _ _ i _ => n - (intOf i).toNat)
  case atStart => exact ⟨0, 0, 0, Nat.zero_le _, rfl, rfl, rfl, Lib.hid (by simp), Lib.hid rfl, (Below.refl _ _).alloc HWB.out _⟩
  case round =>
    obtain ⟨k, u, v, hk, rfl, rfl, rfl, HI, HU, hBr⟩ := hrel
    have HR := Lib.hid hBr
    clear hBr
    have d0 := (HR.out.cell (p := ⟨b, 0, none⟩) hbB).trans c0
    have d1 := (HR.out.cell (p := ⟨b, 1, none⟩) hbB).trans c1
    have d2 := (HR.out.cell (p := ⟨b, 2, none⟩) hbB).trans c2
    have d3 := (HR.out.cell (p := ⟨b, 3, none⟩) hbB).trans c3
    by_cases hlt : k < n
    · obtain ⟨c, hck⟩ : ∃ c, cs[k]? = some c := ⟨_, List.getElem?_eq_getElem (by rw [hL.out]; exact hlt)⟩
      obtain ⟨g, rfl, hg, h0, h1⟩ := (HC0.out.below HR.out).2 k c hck
      have HK := Lib.hid hck
      clear hck
      have hki : (k : Int) < (n : Int) := by omega
      have hk0 : 0 ≤ (k : Int) := by omega
      have hkd : decide (k < n) = true := by simpa using hlt
      have hbr : b < wr.heap.size := Nat.lt_of_lt_of_le hbB (Nat.le_trans HWB.out HR.out.size)
      cases r1 : errOk x c
      · have HE := Lib.hid (show ansErr x c = .tuple #[.int .i64 0, .bool false] by unfold ansErr; rw [r1]; rfl)
        have HF := Lib.hid (show ansWorst x cs = .tuple #[.int .i64 0, .int .i64 0, .bool false] from ansWorst_no (all_no HK.out r1))
        clear r1
        go_wp2_with fail
        refine (error_is x c _ HE _).mono ?_
        rintro e w1 ⟨rfl, b1⟩
        have HS := Lib.hid (((HR.out.alloc (Nat.le_trans HWB.out HR.out.size) _)).trans (b1.mono (by have := HWB.out; have := HR.out.size; simp; omega)))
        clear b1
        go_wp2_with fail
        go_ret3
        exact ⟨by rw [HF.out]; rfl, HB1.out _ HS.out⟩
      · obtain ⟨y, HY⟩ : ∃ y, Hid (errV x c = y) := ⟨_, Lib.hid rfl⟩
        have yb := errV_bd r1
        rw [HY.out] at yb
        have HE := Lib.hid (show ansErr x c = .tuple #[.int .i64 y, .bool true] by unfold ansErr; rw [r1, HY.out]; rfl)
        have HN := Lib.hid (all_take HK.out HI.out r1)
        obtain ⟨f, HFa⟩ : ∃ f, Hid (far y = f) := ⟨_, Lib.hid rfl⟩
        have fb : 0 ≤ f ∧ f ≤ 2000 := by rw [← HFa.out]; unfold far; split <;> omega
        have HW := Lib.hid (show ist x cs (k + 1) = if v < f then ((k : Int), f) else (u, v) by rw [ist_step HK.out, HU.out, HY.out, HFa.out])
        clear r1
        have hmx : (if y < -y then -y else y) = f := by rw [← HFa.out]; unfold far; split <;> split <;> omega
        by_cases hvf : v < f
        · have HW2 := Lib.hid (show ist x cs (k + 1) = ((k : Int), f) by rw [HW.out, if_pos hvf])
          go_wp2_with fail
          refine (error_is x c _ HE _).mono ?_
          rintro e w1 ⟨rfl, b1⟩
          have HS := Lib.hid (((HR.out.alloc (Nat.le_trans HWB.out HR.out.size) _)).trans (b1.mono (by have := HWB.out; have := HR.out.size; simp; omega)))
          clear b1
          go_wp2_with fail
          go_roundw
          case rel => exact ⟨k + 1, k, f, by omega, by go_num, rfl, rfl, HN, HW2, HS.out⟩
          case measure => simp [intOf]; omega
        · have HW2 := Lib.hid (show ist x cs (k + 1) = (u, v) by rw [HW.out, if_neg hvf])
          have hvd : decide (v < f) = false := by simpa using hvf
          go_wp2_with fail
          refine (error_is x c _ HE _).mono ?_
          rintro e w1 ⟨rfl, b1⟩
          have HS := Lib.hid (((HR.out.alloc (Nat.le_trans HWB.out HR.out.size) _)).trans (b1.mono (by have := HWB.out; have := HR.out.size; simp; omega)))
          clear b1
          go_wp2_with fail
          go_roundw
          case rel => exact ⟨k + 1, u, v, by omega, by go_num, rfl, rfl, HN, HW2, HS.out⟩
          case measure => simp [intOf]; omega
    · have hkd : decide (k < n) = false := by simpa using hlt
      obtain rfl : k = n := by omega
      have HA := Lib.hid (show ansWorst x cs = .tuple #[.int .i64 u, .int .i64 v, .bool true] by
        have := HI.out
        rw [List.take_of_length_le (by rw [hL.out]; omega)] at this
        rw [ansWorst_yes hL.out HT.out this, HU.out])
      clear hlt
      go_wp2_with fail
      go_ret3
      exact ⟨by rw [HA.out]; rfl, HB1.out _ HR.out⟩

theorem hit_corr {x : Tl} {c q : Int} (hx : okT x = true) (hc : rdg x.kind c = true) (h : hit x c q) : corrOk x q = true ∧ corr x q = c := by
  refine ⟨?_, h.2⟩
  unfold corrOk
  rw [hx, h.1, h.2, hc]; rfl
set_option maxHeartbeats 4000000 in
set_option maxRecDepth 100000 in
theorem readBack_impl (x : Tl) (c : Int) (w : World) :
    Calls Try.prog 20 #[.agg #[.int .i64 x.id, .int .i64 x.kind, .int .i64 x.zero, .int .i64 x.scale], .int .i64 c] w (RBPost x c w) := by
  have HB0 := Lib.hid (Bx.start w x 25)
  obtain ⟨lo, H0⟩ : ∃ lo, Hid (rlo x.kind = lo) := ⟨_, Lib.hid rfl⟩
  obtain ⟨hi, H1⟩ : ∃ hi, Hid (rhi x.kind = hi) := ⟨_, Lib.hid rfl⟩
  obtain ⟨l0, l1, l2, l3⟩ := rlo_bd x.kind
  rw [H0.out] at l0 l1
  rw [H1.out] at l2 l3
  go_enter Try.func20, Try.ntmps20
  go_wp2_with fail
  refine (bounds_is x.kind lo hi H0 H1 _).mono ?_
  rintro e w' ⟨rfl, rfl⟩
  go_wp2_with fail
  go_loopw [8] (fun i wr => ∃ r : Int, lo ≤ r ∧ r ≤ hi + 1 ∧ i = .int .i64 r ∧ Hid (∀ q, lo ≤ q → q < r → ¬ (corrOk x q = true ∧ corr x q = c)) ∧ Hid (Bx w x wr)) (fun i _ => (hi + 1 - intOf i).toNat)
  case atStart => exact ⟨lo, by omega, by omega, rfl, Lib.hid (fun q h0 h1 => by omega), HB0⟩
  case round =>
    obtain ⟨r, r0, r1, rfl, HN, HS⟩ := hrel
    obtain ⟨⟨d0, d1, d2, d3⟩, -, -⟩ := HS.out
    clear HB0
    by_cases hlt : r ≤ hi
    · cases hr : corrOk x r
      · have HE := Lib.hid (show ansCorr x r = .tuple #[.int .i64 0, .bool false] by unfold ansCorr; rw [hr]; rfl)
        have HN2 := Lib.hid (show ∀ q, lo ≤ q → q < r + 1 → ¬ (corrOk x q = true ∧ corr x q = c) from fun q h0 h1 hh => by
          by_cases e : q = r
          · subst e; have := hh.1; rw [hr] at this; cases this
          · exact HN.out q h0 (by omega) hh)
        clear hr
        go_wp2_with fail
        refine (correctReading_impl x r _).mono ?_
        rintro e w2 ⟨rfl, b2⟩
        rw [HE.out]
        have HS2 := Lib.hid (HS.out.step b2)
        clear b2
        go_wp2_with fail
        go_roundw
        case rel => exact ⟨r + 1, by omega, by omega, rfl, HN2, HS2⟩
        case measure => simp [intOf]; omega
      · obtain ⟨y, HY⟩ : ∃ y, Hid (corr x r = y) := ⟨_, Lib.hid rfl⟩
        have HE := Lib.hid (show ansCorr x r = .tuple #[.int .i64 y, .bool true] by unfold ansCorr; rw [hr, HY.out]; rfl)
        obtain ⟨k1, k2, k3⟩ := corrOk_yes hr
        by_cases hy : y = c
        · subst hy
          have HF := Lib.hid (show rbOk x y = true ∧ firstHit x y r from ⟨by unfold rbOk; rw [k1, ← HY.out, k3]; rfl, by omega, by omega, ⟨k2, HY.out⟩, fun q h0 h1 hh => by
            have hq : rdg x.kind q = true := hh.1
            rw [rdg_lim, H0.out] at hq
            exact HN.out q (btw_yes hq).1 h1 (hit_corr k1 (by rw [← HY.out]; exact k3) hh)⟩)
          clear hr k1 k2 k3
          go_wp2_with fail
          refine (correctReading_impl x r _).mono ?_
          rintro e w2 ⟨rfl, b2⟩
          rw [HE.out]
          have HS2 := Lib.hid (HS.out.step b2)
          clear b2
          go_wp2_with fail
          go_ret2
          exact ⟨.inl ⟨HF.out.1, r, HF.out.2, rfl⟩, HS2.out.2.2⟩
        · have HN2 := Lib.hid (show ∀ q, lo ≤ q → q < r + 1 → ¬ (corrOk x q = true ∧ corr x q = c) from fun q h0 h1 hh => by
            by_cases e : q = r
            · subst e; exact hy (HY.out.symm.trans hh.2)
            · exact HN.out q h0 (by omega) hh)
          have dy : (y == c) = false := by simpa using hy
          clear hr k1 k2 k3
          go_wp2_with fail
          refine (correctReading_impl x r _).mono ?_
          rintro e w2 ⟨rfl, b2⟩
          rw [HE.out]
          have HS2 := Lib.hid (HS.out.step b2)
          clear b2
          go_wp2_with fail
          go_roundw
          case rel => exact ⟨r + 1, by omega, by omega, rfl, HN2, HS2⟩
          case measure => simp [intOf]; omega
    · have HN2 := Lib.hid (show rbOk x c = false ∨ ∀ q, -90 ≤ q → q ≤ 1000 → ¬ hit x c q by
        cases hb : rbOk x c
        · exact .inl rfl
        · refine .inr fun q _ _ hh => ?_
          simp only [rbOk, Bool.and_eq_true] at hb
          have hq : rdg x.kind q = true := hh.1
          rw [rdg_lim, H0.out, H1.out] at hq
          have := btw_yes hq
          exact HN.out q (by omega) (by omega) (hit_corr hb.1 hb.2 hh))
      go_wp2_with fail
      go_ret2
      exact ⟨.inr ⟨HN2.out, rfl⟩, HS.out.2.2⟩
end Go.Proofs.Ytekbiapgbhaibaa.tli
