/-
  LoopOf, LoopLegs and LoopLength, by the program.
  Conditions: the legs lie in one block, at most 2000000 of them; the variable holds the table of the sines.
-/
import Derived.Test.YtkeepfkjhcmhlaaDoorKiE
namespace Go.Proofs.YtkeepfkjhcmhlaaDoor.lpi
open Go.RowKit
open reads base ty lg lgi win rowi hs nt nq sn lp
set_option linter.unusedVariables false
set_option linter.unusedSimpArgs false

theorem lpSt_len {ts : List Lg} {i : Int} : (lpSt ts i).length ≤ 13 := by
  cases h : lpOk ts i
  · unfold lpSt; rw [h]; exact Nat.zero_le _
  · rw [lpSt_is h, stops_len]; have := path_len h; omega
set_option maxHeartbeats 4000000 in
set_option maxRecDepth 100000 in
theorem loopLegs_impl (A : Option Addr) (n cap : Nat) (ts : List Lg) (z : Int) (w : World) (hn : n ≤ 2000000) (hts : Hid (LgAt w w.heap.size A n ts)) (hT : Hid (Tab w)) :
    Calls Tryd.prog 24 #[.slice A n cap, .int .i64 z] w (LPost (lpIds ts z) (lpOk ts z) w) := by
  obtain ⟨t, HT⟩ : ∃ t, Hid (lpOk ts z = t) := ⟨_, Lib.hid rfl⟩
  go_enter Tryd.func24, Tryd.ntmps24
  go_wp2_with fail
  refine (loopOf0_any A n cap ts z w hn hts hT).mono ?_
  rintro e w1 ⟨W, a, rfl, hb, h1, h2, h3⟩
  have HB := Lib.hid hb
  have H1 := Lib.hid h1
  have H2 := Lib.hid h2
  have hl : W.length ≤ 1000 := by have := congrArg List.length h2; rw [List.length_map] at this; have := lpIds_len (ts := ts) (i := z); omega
  clear hb h1 h2 h3
  rw [HT.out]
  go_wp2_with fail
  refine (legsAlong_any W a w1 hl H1).mono ?_
  rintro e w2 ⟨v, rfl, ho, hb2⟩
  rw [H2.out] at ho
  have HO := Lib.hid (nt.own_mono ho HB.out.size)
  have HB2 := Lib.hid (HB.out.trans (hb2.mono HB.out.size))
  clear ho hb2
  go_wp2_with fail
  go_ret2
  exact ⟨v, by rw [HT.out]; rfl, HO.out, HB2.out⟩
/-- LoopLength's answer, as the program puts it together -/
def ansLeP (ts : List Lg) (z : Int) : Value := .tuple #[.int .i64 (lenV ts z), .bool (lpOk ts z)]
set_option maxHeartbeats 4000000 in
set_option maxRecDepth 100000 in
theorem lengthAlong_none (A : Option Addr) (n cap : Nat) (w : World) : Calls Tryd.prog 60 #[.slice A n cap, .pointer none] w (APost (.int .i64 0) w) := by
  go_enter Tryd.func60, Tryd.ntmps60
  go_wp2_with fail
  go_loopg [5, 6] 0 (fun k v p wr => w = wr ∧ v = .int .i64 0 ∧ p = .pointer none)
  case atStart => exact ⟨rfl, rfl, rfl⟩
  case round =>
    obtain ⟨rfl, rfl, rfl⟩ := hrel
    go_wp2_with fail
    go_ret
    exact ⟨rfl, Below.refl _ _⟩
set_option maxHeartbeats 4000000 in
set_option maxRecDepth 100000 in
theorem loopLength_impl (A : Option Addr) (n cap : Nat) (ts : List Lg) (z : Int) (w : World) (hn : n ≤ 2000000) (hts : Hid (LgAt w w.heap.size A n ts)) (hT : Hid (Tab w)) :
    Calls Tryd.prog 29 #[.slice A n cap, .int .i64 z] w (APost (ansLeP ts z) w) := by
  obtain ⟨t, HT⟩ : ∃ t, Hid (lpOk ts z = t) := ⟨_, Lib.hid rfl⟩
  obtain ⟨r, HR⟩ : ∃ r, Hid (lenV ts z = r) := ⟨_, Lib.hid rfl⟩
  have HF := Lib.hid (show ansLeP ts z = .tuple #[.int .i64 r, .bool t] by unfold ansLeP; rw [HT.out, HR.out])
  cases hg : goodLg ts
  · have HNO := Lib.hid (show lpOk ts z = false by unfold lpOk; rw [hg]; rfl)
    have HF0 := Lib.hid (show lpIds ts z = [] by unfold lpIds; rw [HNO.out]; rfl)
    clear hg
    go_enter Tryd.func29, Tryd.ntmps29
    go_wp2_with fail
    refine (loopOf0_any A n cap ts z w hn hts hT).mono ?_
    rintro e w1 ⟨W, a, rfl, hb, h1, h2, h3⟩
    obtain rfl : W = [] := by rw [HF0.out] at h2; exact List.map_eq_nil_iff.1 h2
    obtain rfl : a = none := h1
    have HB := Lib.hid hb
    obtain rfl : t = false := by rw [← HT.out]; exact HNO.out
    obtain rfl : r = 0 := by rw [← HR.out]; unfold lenV; rw [HF0.out]; rfl
    clear hb h2 h3
    rw [HNO.out]
    go_wp2_with fail
    refine (lengthAlong_none A n cap w1).mono ?_
    rintro e w2 ⟨rfl, hb2⟩
    have HB2 := Lib.hid (HB.out.trans (hb2.mono HB.out.size))
    clear hb2
    go_wp2_with fail
    go_ret2
    exact ⟨by rw [HF.out]; rfl, HB2.out⟩
  · have HG := Lib.hid hg
    clear hg
    go_enter Tryd.func29, Tryd.ntmps29
    go_wp2_with fail
    refine (loopOf0_any A n cap ts z w hn hts hT).mono ?_
    rintro e w1 ⟨W, a, rfl, hb, h1, h2, h3⟩
    have HB := Lib.hid hb
    have H1 := Lib.hid h1
    have hl : W.length ≤ 1000 := by have := congrArg List.length h2; rw [List.length_map] at this; have := lpIds_len (ts := ts) (i := z); omega
    have HLG := Lib.hid (show ∀ j ∈ W.map Prod.snd, 0 ≤ j ∧ ∃ x, ts[j.toNat]? = some x from fun j hj => by
      rw [h2] at hj
      cases q : lpOk ts z
      · unfold lpIds at hj; rw [q] at hj; cases hj
      · exact lp_legs q j hj)
    have HRW := Lib.hid (show tapes ts (W.map Prod.snd) = r by rw [h2]; exact HR.out)
    clear hb h1 h2 h3
    rw [HT.out]
    go_wp2_with fail
    refine (lengthAlong_any A n cap ts W a r w1 HRW HG hl HLG H1 (Lib.hid (hts.out.step HB.out))).mono ?_
    rintro e w2 ⟨rfl, hb2⟩
    have HB2 := Lib.hid (HB.out.trans (hb2.mono HB.out.size))
    clear hb2
    go_wp2_with fail
    go_ret2
    exact ⟨by rw [HF.out]; rfl, HB2.out⟩
set_option maxHeartbeats 8000000 in
set_option maxRecDepth 100000 in
theorem loopOf_impl (A : Option Addr) (n cap : Nat) (ts : List Lg) (z : Int) (w : World) (hn : n ≤ 2000000) (hts : Hid (LgAt w w.heap.size A n ts)) (hT : Hid (Tab w)) :
    Calls Tryd.prog 17 #[.slice A n cap, .int .i64 z] w (LPost (lpSt ts z) (lpOk ts z) w) := by
  obtain ⟨i0, hi, hz0, hz1, hz2⟩ := info_parts infoI
  obtain ⟨t, HT⟩ : ∃ t, Hid (lpOk ts z = t) := ⟨_, Lib.hid rfl⟩
  go_enter Tryd.func17, Tryd.ntmps17
  go_wp2_with fail
  refine (loopOf0_any A n cap ts z w hn hts hT).mono ?_
  rintro e w1 ⟨W, a, rfl, hb, h1, h2, h3⟩
  have HB := Lib.hid hb
  have hBs1 := hb.size
  have HW1 := Lib.hid h1
  have H3 := Lib.hid h3
  have hl : W.length ≤ 1000 := by have := congrArg List.length h2; rw [List.length_map] at this; have := lpIds_len (ts := ts) (i := z); omega
  have HR0 := Lib.hid (show (w1.alloc (.cells #[] 3)).ownsRow w.heap.size 3 1 (.slice (some ⟨w1.heap.size, 0, none⟩) 0 0) 0 [] from World.ownsRow_made w1 #[] 0 hBs1 (by decide) (by simp))
  have HB0 := Lib.hid (hb.alloc hBs1 (.cells #[] 3))
  have HWW := Lib.hid (h1.below ((Below.refl w1.heap.size w1).alloc (Nat.le_refl _) (.cells #[] 3)))
  obtain ⟨B1, HB1N⟩ : ∃ b, Hid (w1.heap.size = b) := ⟨_, Lib.hid rfl⟩
  have HSB := Lib.hid (show w.heap.size ≤ B1 ∧ B1 ≤ (w1.alloc (.cells #[] 3)).heap.size by rw [← HB1N.out]; exact ⟨hBs1, by simp⟩)
  clear hb h1 h2 h3
  rw [HT.out]
  go_wp2_with fail
  try rw [HB1N.out] at HR0 HWW
  try rw [HB1N.out]
  try simp only [HB1N.out]
  go_loopg [8, 9] W.length (fun k v p wr => ∃ (D R : List (Int × Int)) (m c g0 : Nat) (u : Option Addr), Hid (W = D ++ R) ∧ R.length = k ∧ v = .slice (some ⟨g0, 0, none⟩) m c ∧ B1 ≤ g0 ∧ p = .pointer u ∧ Hid (D.length = m) ∧ Hid (WayAt wr B1 u R) ∧ wr.ownsRow w.heap.size 3 1 (.slice (some ⟨g0, 0, none⟩) m c) m (ints.intsV (D.map Prod.fst)) ∧ Below w.heap.size w wr ∧ B1 ≤ wr.heap.size)
  case atStart => exact ⟨[], W, 0, 0, B1, a, Lib.hid rfl, rfl, rfl, Nat.le_refl _, rfl, Lib.hid rfl, HWW, HR0.out, HB0.out, HSB.out.2⟩
  case round =>
    obtain ⟨D, R, m, c, g0, u, HWD, hk, rfl, hg0, rfl, HM, HR, hO, hB, hB1⟩ := hrel
    have HO := Lib.hid hO
    have HBw := Lib.hid hB
    have hBs := hB.size
    have hm : m ≤ 1000 := by have := congrArg List.length HWD.out; rw [List.length_append, HM.out] at this; omega
    clear hO hB HR0 HB0 HWW
    cases R with
    | nil =>
      obtain rfl : u = none := HR.out
      have HFIN := Lib.hid (show wr.ownsRow w.heap.size 3 1 (.slice (some ⟨g0, 0, none⟩) m c) (lpSt ts z).length (ints.intsV (lpSt ts z)) by
        rw [← H3.out, HWD.out, List.append_nil, List.length_map, HM.out]; exact HO.out)
      go_wp2_with fail
      go_ret2
      exact ⟨_, by rw [HT.out]; rfl, HFIN.out, HBw.out⟩
    | cons p R =>
      obtain ⟨s, i⟩ := p
      obtain ⟨g, q, rfl, hg, hk9, h2⟩ := HR.out
      have HK9 := Lib.hid hk9
      have H2 := Lib.hid h2
      have e1 := hk9.cell 0
      have hgl := hk9.lt
      simp at e1
      clear hk9 h2
      have HBW2 : ∀ w3 : World, (wr.alloc (.cells #[.int .i64 s] 3)).grownBy w3 (Value.slice (some ⟨g0, 0, none⟩) m c).ownBlock → Below B1 wr w3 := fun w3 hgr => ((Below.refl B1 wr).alloc hB1 (.cells #[.int .i64 s] 3)).grown hgr (by simp; omega) (fun b e => by
        have e2 : g0 = b := lp.own_eq (n := m) (c := c) e
        omega)
      go_wp2_with (at_builtin; refine wpList_append_lies _ rfl _ _ 24 rfl w.heap.size 3 i0 (.int .i64 0) 1 8 Tryd.underlying24 hi hz0 hz1 hz2 rfl (by decide) _ _ _ rfl (HO.out.alloc _) ⟨wr.heap.size, 0, none⟩ 1 1 [.int .i64 s] rfl rfl (cell_one_new _ _ _) (by simp [Value.oneCell']) (by decide) (by unfold maxLen; omega) (by omega) (by simp; omega) _ rfl ?_; intro g9 c9 w3 hown' hgrow hat hlt9; have HBW := Lib.hid (show Below w.heap.size wr w3 from ((Below.refl w.heap.size wr).alloc hBs (.cells #[.int .i64 s] 3)).grown hgrow (by simp; omega) (fun g e => (HO.out.lt g e).1)); have e2 := (HK9.out.below (HBW2 w3 hgrow) hg).cell 2; simp at e2)
      have HAL := Lib.hid ((Below.refl wr.heap.size wr).alloc (Nat.le_refl _) (.cells #[.int .i64 s] 3))
      have HB9 := Lib.hid ((HBw.out.trans (HAL.out.mono hBs)).grown hgrow (by simp; omega) (fun g e => (HO.out.lt g e).1))
      have HO9 := Lib.hid (show w3.ownsRow w.heap.size 3 1 (.slice (some ⟨g9, 0, none⟩) (m + 1) c9) (m + 1) (ints.intsV ((D ++ [(s, i)]).map Prod.fst)) by rw [List.map_append, List.map_cons, List.map_nil, intsV_app]; exact hown')
      have HW9 := Lib.hid (H2.out.below (HBW2 w3 hgrow))
      have hg9 : B1 ≤ g9 := by
        rcases hat with q2 | q2
        · have e2 : g0 = g9 := lp.own_eq (n := m) (c := c) q2
          omega
        · have q3 : g9 = wr.heap.size + 1 := by simpa using q2
          omega
      have hs3 := (HBW2 w3 hgrow).size
      clear hown' hgrow hat e1 HBW2
      go_wp2_with fail
      go_roundg R.length
      case measure => simp at hk; omega
      case rel => exact ⟨D ++ [(s, i)], R, m + 1, c9, g9, q, Lib.hid (by rw [HWD.out]; simp), rfl, rfl, hg9, rfl, Lib.hid (by rw [List.length_append, HM.out]; rfl), HW9, HO9.out, HB9.out, by omega⟩
#print axioms loopLegs_impl
#print axioms loopLength_impl
#print axioms loopOf_impl
end Go.Proofs.YtkeepfkjhcmhlaaDoor.lpi
