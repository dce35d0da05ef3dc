/-
  LoopLegs and LoopOf, by the model.
  Conditions: the legs lie in one block, at most 2000000 of them.
-/
import Derived.Test.YtkeepfkjhcmhlaaDoorKmB
import Derived.Test.YtkeepfkjhcmhlaaDoorKuC
namespace Go.Proofs.YtkeepfkjhcmhlaaDoor.lp
open Go.RowKit
open reads base ty lg rowi hs nt
set_option linter.unusedVariables false
set_option linter.unusedSimpArgs false

set_option maxHeartbeats 4000000 in
set_option maxRecDepth 100000 in
theorem loopLegs_model (A : Option Addr) (n cap : Nat) (ts : List Lg) (i : Int) (w : World) (hn : n ≤ 2000000) (hts : Hid (LgAt w w.heap.size A n ts)) :
    Calls Tryd.prog 23 #[.slice A n cap, .int .i64 i] w (LPost (lpIds ts i) (lpOk ts i) w) := by
  cases ho : lpOk ts i
  · have HOK := Lib.hid ho
    have HF := Lib.hid (show lpIds ts i = [] by unfold lpIds; rw [ho]; rfl)
    clear ho
    go_enter Tryd.func23, Tryd.ntmps23
    go_wp2_with fail
    refine (closing8_any A n cap ts i false _ HOK hn hts).mono ?_
    rintro e w1 ⟨rfl, b1⟩
    have HB := Lib.hid b1
    have hBs := b1.size
    clear b1
    go_wp2_with fail
    go_ret2
    exact ⟨_, rfl, by rw [HF.out]; exact World.ownsRow_made w1 #[] 0 hBs (by decide) (by simp), HB.out.alloc hBs _⟩
  · have HOK := Lib.hid ho
    clear ho
    go_enter Tryd.func23, Tryd.ntmps23
    go_wp2_with fail
    refine (closing8_any A n cap ts i true _ HOK hn hts).mono ?_
    rintro e w1 ⟨rfl, b1⟩
    have HB := Lib.hid b1
    clear b1
    go_wp2_with fail
    refine (legs8_any A n cap ts i _ HOK (Lib.hid (hts.out.step HB.out))).mono ?_
    rintro e w2 ⟨v, rfl, hown, b2⟩
    have HO := Lib.hid (nt.own_mono hown HB.out.size)
    have HB2 := Lib.hid (HB.out.trans (b2.mono HB.out.size))
    clear hown b2
    go_wp2_with fail
    go_ret2
    exact ⟨v, rfl, HO.out, HB2.out⟩
set_option maxHeartbeats 8000000 in
set_option maxRecDepth 100000 in
theorem loopOf_model (A : Option Addr) (n cap : Nat) (ts : List Lg) (i : Int) (w : World) (hn : n ≤ 2000000) (hts : Hid (LgAt w w.heap.size A n ts)) :
    Calls Tryd.prog 15 #[.slice A n cap, .int .i64 i] w (LPost (lpSt ts i) (lpOk ts i) w) := by
  cases ho : lpOk ts i
  · have HOK := Lib.hid ho
    have HF := Lib.hid (show lpSt ts i = [] by unfold lpSt; rw [ho]; rfl)
    clear ho
    go_enter Tryd.func15, Tryd.ntmps15
    go_wp2_with fail
    refine (closing8_any A n cap ts i false _ HOK hn hts).mono ?_
    rintro e w1 ⟨rfl, b1⟩
    have HB := Lib.hid b1
    have hBs := b1.size
    clear b1
    go_wp2_with fail
    go_ret2
    exact ⟨_, rfl, by rw [HF.out]; exact World.ownsRow_made w1 #[] 0 hBs (by decide) (by simp), HB.out.alloc hBs _⟩
  · have HOK := Lib.hid ho
    obtain ⟨hg0, h0, h1, x0, hx0, hl0, hok0, -⟩ := lp_leg ho
    obtain ⟨i0, hi, hz0, hz1, hz2⟩ := info_parts infoI
    have HG := Lib.hid hg0
    obtain ⟨j0, rfl⟩ := Int.eq_ofNat_of_zero_le h0
    rw [Int.toNat_natCast] at hx0
    have HL := Lib.hid hts.out.1
    have hjn0 : j0 < n := by have := lt_at hx0; rw [HL.out] at this; exact this
    have HX0 := Lib.hid hx0
    obtain ⟨P, HP⟩ : ∃ P, Hid (pathOf ts (j0 : Int) = P) := ⟨_, Lib.hid rfl⟩
    obtain ⟨p, HPL⟩ : ∃ p, Hid (P.length = p) := ⟨_, Lib.hid rfl⟩
    have hp12 : p ≤ 12 := by rw [← HPL.out, ← HP.out]; exact path_len ho
    obtain ⟨ST, HST⟩ : ∃ S, Hid (stops ts x0.to_ P = S) := ⟨_, Lib.hid rfl⟩
    have HCH := Lib.hid (show Chn ts x0.to_ P x0.frm by rw [← HP.out, ← hl0]; exact (path_nb ho).chn)
    have HSL := Lib.hid (show ST.length = p + 1 by rw [← HST.out, stops_len, HPL.out])
    have HF := Lib.hid (show lpSt ts (j0 : Int) = ST by rw [lpSt_is ho, hl0, HP.out, HST.out])
    have HALL := Lib.hid (show lpIds ts (j0 : Int) = P ++ [(j0 : Int)] by rw [lpIds_is ho, HP.out])
    have hb0 := (okLg_lim hok0).2.1
    have hji0 : (j0 : Int) < (n : Int) := by omega
    have hj00 : (0 : Int) ≤ (j0 : Int) := by omega
    clear ho hg0 h0 h1 hx0 hl0 hok0
    go_enter Tryd.func15, Tryd.ntmps15
    go_wp2_with fail
    refine (closing8_any A n cap ts (j0 : Int) true _ HOK hn hts).mono ?_
    rintro e w1 ⟨rfl, b1⟩
    have HB := Lib.hid b1
    clear b1
    go_wp2_with fail
    refine (legs8_any A n cap ts (j0 : Int) _ HOK (Lib.hid (hts.out.step HB.out))).mono ?_
    rintro e w2 ⟨v, rfl, hown, b2⟩
    rw [HALL.out, List.length_append, HPL.out] at hown
    obtain ⟨gA, cA, rfl⟩ := row_some hown (by simp)
    have HA := Lib.hid (own_In (show (P ++ [(j0 : Int)]).length = p + 1 by rw [List.length_append, HPL.out]; rfl) hown)
    have HB2 := Lib.hid (HB.out.trans (b2.mono HB.out.size))
    clear hown b2
    obtain ⟨gL, rfl, hgL, -, e1, -, -, -⟩ := (hts.out.below HB2.out).2 j0 x0 HX0.out
    have HR0 := Lib.hid (show (w2.alloc (.cells #[.int .i64 x0.to_] 3)).ownsRow w.heap.size 3 1 (.slice (some ⟨w2.heap.size, 0, none⟩) 1 1) 1 (ints.intsV (ST.take 1)) by
      have h := row_blk (n := 1) (size := 1) (Blk.new w2 3 #[.int .i64 x0.to_]) HB2.out.size (by decide) rfl
      have e : ST.take 1 = [x0.to_] := by rw [take_snoc (show ST[0]? = some x0.to_ by rw [← HST.out]; exact stops_zero _ _ _)]; rfl
      rw [e]; exact h)
    have HA0 := Lib.hid (HA.out.alloc (.cells #[.int .i64 x0.to_] 3))
    have HB0 := Lib.hid (HB2.out.alloc HB2.out.size (.cells #[.int .i64 x0.to_] 3))
    have HS0 := Lib.hid (show ST[0]? = some x0.to_ by rw [← HST.out]; exact stops_zero _ _ _)
    go_wp2_with fail
    go_loopw [7, 8, 9] (fun a v i wr => ∃ (k g9 c9 : Nat) (s : Int), k ≤ p ∧ a = .int .i64 s ∧ v = .slice (some ⟨g9, 0, none⟩) (k + 1) c9 ∧ i = .int .i64 (k : Nat) ∧ Hid (ST[k]? = some s) ∧ (0 ≤ s ∧ s ≤ 7) ∧ wr.ownsRow w.heap.size 3 1 (.slice (some ⟨g9, 0, none⟩) (k + 1) c9) (k + 1) (ints.intsV (ST.take (k + 1))) ∧ InAt wr w2.heap.size (some ⟨gA, 0, none⟩) (p + 1) (P ++ [(j0 : Int)]) ∧ w2.heap.size ≤ g9 ∧ Below w2.heap.size w2 wr) (fun _ _ i _ => p - (intOf i).toNat)
    case atStart => exact ⟨0, _, 1, x0.to_, Nat.zero_le _, rfl, rfl, rfl, HS0.out, hb0, HR0.out, HA.out.below ((Below.refl _ _).alloc (Nat.le_refl _) _), Nat.le_refl _, (Below.refl _ _).alloc (Nat.le_refl _) _⟩
    case round =>
      obtain ⟨k, g9, c9, s, hk, rfl, rfl, rfl, HS, hs, hO, hA, hg9, hB⟩ := hrel
      have HO := Lib.hid hO
      have HAk := Lib.hid hA
      have HBk := Lib.hid hB
      have hBs := hB.size
      have hB2s := HB2.out.size
      clear hO hA hB HR0 HA0 HB0 HS0
      have hk0 : (0 : Int) ≤ (k : Int) := by omega
      by_cases hlt : k < p
      · obtain ⟨jj, hjj⟩ := at_lt HPL.out hlt
        obtain ⟨s1, t1, hs1, ht1, hJ⟩ := chn_at k HCH.out hjj
        rw [HST.out, HS.out] at hs1
        obtain rfl := Option.some.inj hs1
        rw [HST.out] at ht1
        obtain ⟨q, y, rfl, hy, hly, hJo⟩ := hJ.leg
        have hbd := (hJ.bd HG.out).2
        have hyb := okLg_lim (goodLg_at HG.out hy)
        have hyf := hyb.1
        have hyt := hyb.2.1
        have hfar := hJo.far
        have hqn : q < n := by have := lt_at hy; rw [HL.out] at this; exact this
        obtain ⟨gA', eA, hgA, eT⟩ := HAk.out.2 k (q : Int) (by rw [List.getElem?_append_left (by rw [HPL.out]; exact hlt)]; exact hjj)
        obtain rfl : gA = gA' := by injection eA with eA; injection eA
        obtain ⟨gL', eL, hgL', e0, e1', -, -, -⟩ := (hts.out.below (HB2.out.trans (HBk.out.mono HB2.out.size))).2 q y hy
        obtain rfl : gL = gL' := by injection eL with eL; injection eL
        have HT1 := Lib.hid ht1
        have HFAR := Lib.hid hfar
        clear hjj hy hly hJo hyb hJ ht1 hfar eA eL
        have hki : ((k : Int) + 1 < ((p : Int) + 1)) := by omega
        have hkp : (k : Int) < (p : Int) := by omega
        have hkd : decide (k < p) = true := by simpa using hlt
        have hqi : (q : Int) < (n : Int) := by omega
        have hq0 : (0 : Int) ≤ (q : Int) := by omega
        go_wp2_with fail
        go_quiet (fail)
        have hfr := HFAR.out
        try rw [← hfr]
        try simp only [← hfr]
        obtain ⟨W1, HW1⟩ : ∃ W, Hid (wr.drewN nq = W) := ⟨_, Lib.hid rfl⟩
        try rw [HW1.out]
        have HBD := Lib.hid (show Below wr.heap.size wr W1 by rw [← HW1.out]; exact drewN_below _ _)
        have HBk1 := Lib.hid (HBk.out.trans (HBD.out.mono hBs))
        have HO1 := Lib.hid (row_below HO.out HBD.out)
        have HA1 := Lib.hid (HAk.out.below (HBD.out.mono hBs))
        have hB1s := HBk1.out.size
        clear HW1 eT e0 e1' HO HAk HBk HBD hfr HFAR
        go_wp2_with (at_builtin; refine wpList_append_lies _ rfl _ _ 24 rfl w.heap.size 3 i0 (.int .i64 0) 1 8 Tryd.underlying24 hi hz0 hz1 hz2 rfl (by decide) _ _ _ rfl (HO1.out.alloc _) ⟨W1.heap.size, 0, none⟩ 1 1 [.int .i64 t1] rfl rfl (cell_one_new _ _ _) (by simp [Value.oneCell']) (by decide) (by unfold maxLen; omega) (by omega) (by simp; omega) _ rfl ?_; intro g8 c8 w3 hown' hgrow hat hlt9)
        have HX3 := Lib.hid (show w2.heap.size ≤ g8 by
          rcases hat with q | q
          · have e2 : g9 = g8 := own_eq (n := k + 1) (c := c9) q
            omega
          · simp at q; omega)
        have HB3 := Lib.hid ((HBk1.out.alloc hB1s (.cells #[.int .i64 t1] 3)).grown hgrow (by simp; omega) (fun g e => by
          have e2 : g9 = g := own_eq (n := k + 1) (c := c9) e
          omega))
        have HA3 := Lib.hid (show InAt w3 w2.heap.size (some ⟨gA, 0, none⟩) (p + 1) (P ++ [(j0 : Int)]) from HA.out.below HB3.out)
        have HO3 := Lib.hid (show w3.ownsRow w.heap.size 3 1 (.slice (some ⟨g8, 0, none⟩) (k + 1 + 1) c8) (k + 1 + 1) (ints.intsV (ST.take (k + 1 + 1))) by rw [take_snoc HT1.out, intsV_app]; exact hown')
        clear hown' hgrow hat
        go_wp2_with fail
        go_roundw
        case rel => exact ⟨k + 1, g8, c8, t1, by omega, rfl, rfl, by go_num, HT1, hbd, HO3.out, HA3.out, HX3.out, HB3.out⟩
        case measure => simp [intOf]; omega
      · have hkd : decide (k < p) = false := by simpa using hlt
        obtain rfl : k = p := by omega
        have HFIN := Lib.hid (show wr.ownsRow w.heap.size 3 1 (.slice (some ⟨g9, 0, none⟩) (k + 1) c9) (lpSt ts (j0 : Int)).length (ints.intsV (lpSt ts (j0 : Int))) by
          rw [HF.out, HSL.out]
          have h := HO.out
          rw [show k + 1 = ST.length from HSL.out.symm, List.take_length, HSL.out] at h
          exact h)
        have HBF := Lib.hid (HB2.out.trans (HBk.out.mono hB2s))
        clear hlt
        go_wp2_with fail
        go_ret2
        exact ⟨_, rfl, HFIN.out, HBF.out⟩
#print axioms loopLegs_model
#print axioms loopOf_model
end Go.Proofs.YtkeepfkjhcmhlaaDoor.lp
