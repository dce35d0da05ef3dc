/-
  The model of the field books: books without the entries that measure a leg again, and reversed ones.
  Conditions: the entries lie in one block below the call's own.
-/
import Derived.Test.YtnlljdepcldibaaEnD
namespace Go.Proofs.Ytnlljdepcldibaa.en
open Go.RowKit
open reads base ty inn lg rowi mst
set_option linter.unusedVariables false
set_option linter.unusedSimpArgs false

set_option maxHeartbeats 4000000 in
set_option maxRecDepth 100000 in
theorem mergePairs_model (A : Option Addr) (n cap : Nat) (ts : List En) (w : World) (hn : n ≤ 2000000) (hts : Hid (EnAt w w.heap.size A n ts)) :
    Calls Try.prog 27 #[.slice A n cap] w (EPost (mgEn ts) (goodEn ts) w) := by
  obtain ⟨i0, hi, hz0, hz1, hz2⟩ := info_parts infoEn
  have hL : Hid (ts.length = n) := Lib.hid hts.out.1
  have HR := Lib.hid (World.ownsRow_made (base := w.heap.size) (e := 25) (size := 6) w #[] 0 (Nat.le_refl _) (by decide) (by simp))
  have HE := Lib.hid ((Below.refl w.heap.size w).alloc (Nat.le_refl _) (.cells #[] 25))
  have HT0 := Lib.hid (hts.out.alloc (.cells #[] 25))
  cases hg : goodEn ts
  · have HG := Lib.hid hg
    have HI := Lib.hid (show mgEn ts = [] by unfold mgEn; rw [hg]; rfl)
    clear hg
    rw [HI.out]
    go_enter Try.func27, Try.ntmps27
    go_wp2_with fail
    refine (book_is A n cap ts false _ hn HT0 HG).mono ?_
    rintro e w1 ⟨rfl, b1⟩
    have HB := Lib.hid (HE.out.trans (b1.mono HE.out.size))
    have HO := Lib.hid (row_below HR.out b1)
    clear b1
    go_wp2_with fail
    go_ret2
    exact ⟨_, rfl, HO.out, HB.out⟩
  · have HG := Lib.hid hg
    have hn12 : n ≤ 12 := by rw [← hL.out]; exact goodEn_len hg
    have HOKS := Lib.hid (show ∀ t ∈ ts, okEn t = true from fun t ht => by
      simp only [goodEn, Bool.and_eq_true, List.all_eq_true] at hg
      exact hg.1 t ht)
    have HI := Lib.hid (show mgEn ts = mgN ts n by unfold mgEn; rw [hg, hL.out]; rfl)
    clear hg
    rw [HI.out]
    go_enter Try.func27, Try.ntmps27
    go_wp2_with fail
    refine (book_is A n cap ts true _ hn HT0 HG).mono ?_
    rintro e w1 ⟨rfl, b1⟩
    have HB := Lib.hid (HE.out.trans (b1.mono HE.out.size))
    have HO := Lib.hid (row_below HR.out b1)
    clear b1 HR HE HT0
    go_wp2_with fail
    go_loopw [4, 5] (fun v i wr => ∃ (k : Nat) (xs : List En), k ≤ n ∧ i = .int .i64 k ∧ Hid (mgN ts k = xs) ∧ Hid (wr.ownsRow w.heap.size 25 6 v xs.length (flatEn xs)) ∧ Below w.heap.size w wr) (fun _ i _ => n - (intOf i).toNat)
    case atStart => exact ⟨0, [], Nat.zero_le _, rfl, Lib.hid rfl, HO, HB.out⟩
    case round =>
      obtain ⟨k, xs, hk, rfl, HD, HRW, hB⟩ := hrel
      have hlen : xs.length ≤ 12 := by rw [← HD.out]; have := mg_len ts k; omega
      have hBs := hB.size
      have HBr := Lib.hid hB
      clear hB HB HO
      by_cases hlt : k < n
      · obtain ⟨t, htk⟩ := at_lt hL.out hlt
        have HK := Lib.hid htk
        obtain ⟨m, hm⟩ : ∃ m, firstN ts t = m := ⟨_, rfl⟩
        have HM := Lib.hid hm
        have HTr := Lib.hid ((hts.out.below HBr.out).more HBr.out.size)
        clear htk hm
        have hki : (k : Int) < (n : Int) := by omega
        have hk0 : 0 ≤ (k : Int) := by omega
        have hkd : decide (k < n) = true := by simpa using hlt
        go_wp2_with fail
        refine (first_model A n _ ts k t m _ hn HK HM HOKS HTr).mono ?_
        rintro e w2 ⟨rfl, b2⟩
        have HB1 := Lib.hid (HBr.out.trans (b2.mono HBr.out.size))
        have HR1 := Lib.hid (row_below HRW.out b2)
        have hBs1 := HB1.out.size
        clear b2 HTr
        by_cases hmk : m = k
        · subst hmk
          have HN := Lib.hid (show mgN ts (m + 1) = xs ++ [t] by rw [mg_yes HK.out HM.out, HD.out])
          obtain ⟨g, rfl, hgB, d0, d1, d2, d3, d4, d5⟩ := (hts.out.below HB1.out).2 m t HK.out
          go_wp2_with (at_builtin; refine wpList_append_own _ rfl _ _ 37 rfl w.heap.size 25 i0 _ 6 48 Try.underlying37 hi hz0 hz1 hz2 rfl (by decide) _ _ _ rfl (HR1.out.alloc _) ⟨w2.heap.size, 0, none⟩ 1 1 [.int .i64 t.frm, .int .i64 t.to_, .int .i64 t.tape, .int .i64 t.comp, .int .i64 t.slope, .bool t.back] rfl rfl (World.news_of_block (alloc_at (by simp))) (by simp [Value.oneCell']) (by unfold maxLen; omega) (by omega) (by simp; omega) ?_; intro v' w9 hown' hgrow _)
          go_roundw
          case rel =>
            refine ⟨m + 1, xs ++ [t], by omega, by go_num, HN, Lib.hid ?_, ?_⟩
            · rw [List.length_append, List.length_singleton, flatEn_app]; exact hown'
            · exact (HB1.out.alloc HB1.out.size _).grown hgrow (by simp; omega) (fun j ej => (HR1.out.lt j ej).1)
          case measure => simp [intOf]; omega
        · have e1 : ((m : Int) == (k : Int)) = false := by simp; omega
          have e2 : (m == k) = false := by simpa using hmk
          have HN := Lib.hid (show mgN ts (k + 1) = xs by rw [mg_no HK.out (by rw [HM.out]; exact hmk)]; exact HD.out)
          go_wp2_with fail
          go_roundw
          case rel => exact ⟨k + 1, xs, by omega, by go_num, HN, HR1, HB1.out⟩
          case measure => simp [intOf]; omega
      · have hkd : decide (k < n) = false := by simpa using hlt
        obtain rfl : k = n := by omega
        go_wp2_with fail
        go_ret2
        rw [HD.out]
        exact ⟨_, rfl, HRW.out, HBr.out⟩
set_option maxHeartbeats 4000000 in
set_option maxRecDepth 100000 in
theorem reverseBook_model (A : Option Addr) (n cap : Nat) (ts : List En) (w : World) (hn : n ≤ 2000000) (hts : Hid (EnAt w w.heap.size A n ts)) :
    Calls Try.prog 30 #[.slice A n cap] w (EPost (rvEn ts) (goodEn ts) w) := by
  obtain ⟨i0, hi, hz0, hz1, hz2⟩ := info_parts infoEn
  have hL : Hid (ts.length = n) := Lib.hid hts.out.1
  have HR := Lib.hid (World.ownsRow_made (base := w.heap.size) (e := 25) (size := 6) w #[] 0 (Nat.le_refl _) (by decide) (by simp))
  have HE := Lib.hid ((Below.refl w.heap.size w).alloc (Nat.le_refl _) (.cells #[] 25))
  have HT0 := Lib.hid (hts.out.alloc (.cells #[] 25))
  cases hg : goodEn ts
  · have HG := Lib.hid hg
    have HI := Lib.hid (show rvEn ts = [] by unfold rvEn; rw [hg]; rfl)
    clear hg
    rw [HI.out]
    go_enter Try.func30, Try.ntmps30
    go_wp2_with fail
    refine (book_is A n cap ts false _ hn HT0 HG).mono ?_
    rintro e w1 ⟨rfl, b1⟩
    have HB := Lib.hid (HE.out.trans (b1.mono HE.out.size))
    have HO := Lib.hid (row_below HR.out b1)
    clear b1
    go_wp2_with fail
    go_ret2
    exact ⟨_, rfl, HO.out, HB.out⟩
  · have HG := Lib.hid hg
    have hn12 : n ≤ 12 := by rw [← hL.out]; exact goodEn_len hg
    have HOKS := Lib.hid (show ∀ t ∈ ts, okEn t = true from fun t ht => by
      simp only [goodEn, Bool.and_eq_true, List.all_eq_true] at hg
      exact hg.1 t ht)
    have HI := Lib.hid (show rvEn ts = ts.reverse.map swEn by unfold rvEn; rw [hg]; rfl)
    clear hg
    rw [HI.out]
    go_enter Try.func30, Try.ntmps30
    go_wp2_with fail
    refine (book_is A n cap ts true _ hn HT0 HG).mono ?_
    rintro e w1 ⟨rfl, b1⟩
    have HB := Lib.hid (HE.out.trans (b1.mono HE.out.size))
    have HO := Lib.hid (row_below HR.out b1)
    clear b1 HR HE HT0
    go_wp2_with fail
    go_loopw [4, 5] (fun v i wr => ∃ (j : Nat) (xs : List En), j ≤ n ∧ i = .int .i64 ((j : Int) - 1) ∧ Hid ((ts.reverse.take (n - j)).map swEn = xs) ∧ Hid (wr.ownsRow w.heap.size 25 6 v xs.length (flatEn xs)) ∧ Below w.heap.size w wr) (fun _ i _ => (intOf i + 1).toNat)
    case atStart => exact ⟨n, [], Nat.le_refl _, rfl, Lib.hid (by simp), HO, HB.out⟩
    case round =>
      obtain ⟨j, xs, hj, rfl, HD, HRW, hB⟩ := hrel
      have hlen : xs.length ≤ 12 := by rw [← HD.out]; simp; omega
      have hBs := hB.size
      have HBr := Lib.hid hB
      clear hB HB HO
      cases j with
      | succ q =>
        rw [show ((q + 1 : Nat) : Int) - 1 = (q : Int) by omega]
        obtain ⟨t, htk⟩ := at_lt hL.out (show q < n by omega)
        have HN := Lib.hid (show (ts.reverse.take (n - q)).map swEn = xs ++ [swEn t] by
          have hLn := hL.out
          have h := rv_next (k := n - (q + 1)) (t := t) (ts := ts) (by rw [hLn, show n - 1 - (n - (q + 1)) = q by omega]; exact htk) (by omega)
          rw [show n - (q + 1) + 1 = n - q by omega] at h
          rw [h, HD.out])
        obtain ⟨g, rfl, hgB, d0, d1, d2, d3, d4, d5⟩ := (hts.out.below HBr.out).2 q t htk
        clear htk
        have hki : (q : Int) < (n : Int) := by omega
        have hk0 : 0 ≤ (q : Int) := by omega
        have hkd : decide (0 ≤ (q : Int)) = true := by simp
        go_wp2_with (at_builtin; refine wpList_append_own _ rfl _ _ 37 rfl w.heap.size 25 i0 _ 6 48 Try.underlying37 hi hz0 hz1 hz2 rfl (by decide) _ _ _ rfl ((HRW.out.alloc _).alloc _) ⟨wr.heap.size + 1, 0, none⟩ 1 1 [.int .i64 t.to_, .int .i64 t.frm, .int .i64 t.tape, .int .i64 t.comp, .int .i64 t.slope, .bool (!t.back)] rfl rfl (World.news_of_block (alloc_at (by simp))) (by simp [Value.oneCell']) (by unfold maxLen; omega) (by omega) (by simp; omega) ?_; intro v' w9 hown' hgrow _)
        go_roundw
        case rel =>
          refine ⟨q, xs ++ [swEn t], by omega, by go_num, HN, Lib.hid ?_, ?_⟩
          · rw [List.length_append, List.length_singleton, flatEn_app]; exact hown'
          · exact ((HBr.out.alloc HBr.out.size _).alloc (by simp; omega) _).grown hgrow (by simp; omega) (fun j ej => (HRW.out.lt j ej).1)
        case measure => first | (simp [intOf]; done) | (simp [intOf]; omega)
      | zero =>
        have HF := Lib.hid (show ts.reverse.map swEn = xs by rw [← HD.out, ← hL.out, Nat.sub_zero, rv_all])
        go_wp2_with fail
        go_ret2
        rw [HF.out]
        exact ⟨_, rfl, HRW.out, HBr.out⟩
end Go.Proofs.Ytnlljdepcldibaa.en
