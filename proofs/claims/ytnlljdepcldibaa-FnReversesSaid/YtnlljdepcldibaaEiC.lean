/-
  The program's field books: the entries that disagree with the first one of their leg, books without the entries that measure a leg again.
  Conditions: the entries lie in one block below the call's own.
-/
import Derived.Test.YtnlljdepcldibaaEiB
import Derived.Test.YtnlljdepcldibaaEnE
import Derived.Deep.RegionHeld3
namespace Go.Proofs.Ytnlljdepcldibaa.eni
open Go.RowKit
open reads base ty win lg lgi en rowi
set_option linter.unusedVariables false
set_option linter.unusedSimpArgs false

set_option maxHeartbeats 4000000 in
set_option maxRecDepth 100000 in
theorem pairErrors_impl (A : Option Addr) (n cap : Nat) (ts : List En) (w : World) (hn : n ≤ 2000000) (hts : Hid (EnAt w w.heap.size A n ts)) :
    Calls Try.prog 22 #[.slice A n cap] w (LPost (erIds ts) (goodEn ts) w) := by
  obtain ⟨i0, hi, hz0, hz1, hz2⟩ := info_parts infoI
  have hL : Hid (ts.length = n) := Lib.hid hts.out.1
  cases hg : goodEn ts
  · have HG := Lib.hid hg
    have HI := Lib.hid (show erIds ts = [] by unfold erIds; rw [hg]; rfl)
    clear hg
    rw [HI.out]
    go_enter Try.func22, Try.ntmps22
    go_wp2_with fail
    refine (isBook_is A n cap ts false _ hn hts HG).mono ?_
    rintro e w1 ⟨rfl, b1⟩
    have HB := Lib.hid b1
    clear b1
    go_wp2_with fail
    go_ret2
    exact ⟨_, rfl, World.ownsRow_made w1 #[] 0 HB.out.size (by decide) (by simp), HB.out.alloc HB.out.size _⟩
  · have HG := Lib.hid hg
    have hn12 : n ≤ 12 := by rw [← hL.out]; exact goodEn_len hg
    have HOKS := Lib.hid (show ∀ t ∈ ts, okEn t = true from fun t ht => by
      simp only [goodEn, Bool.and_eq_true, List.all_eq_true] at hg
      exact hg.1 t ht)
    have HI := Lib.hid (show erIds ts = idxs (erP ts) ts n by unfold erIds; rw [hg, hL.out]; rfl)
    clear hg
    rw [HI.out]
    go_enter Try.func22, Try.ntmps22
    go_wp2_with fail
    refine (isBook_is A n cap ts true _ hn hts HG).mono ?_
    rintro e w1 ⟨rfl, b1⟩
    have HB := Lib.hid (b1.alloc b1.size (.cells #[] 3))
    have HO := Lib.hid (World.ownsRow_made (base := w.heap.size) (e := 3) (size := 1) w1 #[] 0 b1.size (by decide) (by simp))
    clear b1
    go_wp2_with fail
    go_loopw [4, 16] (fun v i wr => ∃ (k : Nat) (ids : List Int), k ≤ n ∧ i = .int .i64 k ∧ Hid (idxs (erP ts) ts k = ids) ∧ Hid (wr.ownsRow w.heap.size 3 1 v ids.length (ints.intsV ids)) ∧ Below w.heap.size w wr) (fun _ i _ => n - (intOf i).toNat)
    case atStart => exact ⟨0, [], Nat.zero_le _, rfl, Lib.hid rfl, HO, HB.out⟩
    case round =>
      obtain ⟨k, ids, hk, rfl, HD, HRW, hB⟩ := hrel
      have hlen : ids.length ≤ 12 := by rw [← HD.out]; have := idxs_len (erP ts) ts k; omega
      have hBs := hB.size
      have HBr := Lib.hid hB
      clear hB HB HO
      by_cases hlt : k < n
      · obtain ⟨t, htk⟩ := at_lt hL.out hlt
        have HK := Lib.hid htk
        obtain ⟨m, hm⟩ : ∃ m, firstN ts t = m := ⟨_, rfl⟩
        obtain ⟨u, hu⟩ : ∃ u, fstEn ts t = u := ⟨_, rfl⟩
        obtain ⟨hat, hsm⟩ := fst_at htk
        rw [hm, hu] at hat
        rw [hu] at hsm
        have HM := Lib.hid hm
        have HSM := Lib.hid hsm
        have HIN := Lib.hid (List.mem_of_getElem? htk)
        have HOT := Lib.hid (HOKS.out t (List.mem_of_getElem? htk))
        have HOU := Lib.hid (HOKS.out u (List.mem_of_getElem? hat))
        obtain ⟨p, hp⟩ : ∃ p, (sameEn u t && agEn u t) = p := ⟨_, rfl⟩
        have HOF := Lib.hid (show erP ts t = !p by unfold erP; rw [hu, ← hp, hsm]; rfl)
        have HP := Lib.hid hp
        have hmn : m < n := by have := lt_at hat; rw [hL.out] at this; exact this
        obtain ⟨g, e', hgB, hc⟩ := hts.out.2 m u hat
        have HC := Lib.hid hc
        obtain ⟨g', rfl, -, d0, d1, d2, d3, d4, d5⟩ := (hts.out.below HBr.out).2 k t htk
        obtain rfl : g = g' := by injection e' with e'; injection e' with e'; exact e'.symm
        clear htk hm hu hat hsm hp hc e'
        have hki : (k : Int) < (n : Int) := by omega
        have hk0 : 0 ≤ (k : Int) := by omega
        have hkd : decide (k < n) = true := by simpa using hlt
        have hmi : (m : Int) < (n : Int) := by omega
        have hm0 : 0 ≤ (m : Int) := by omega
        go_upto_region 7 with fail
        obtain ⟨X, HX⟩ : ∃ X, Hid (wr.heap.size = X) := ⟨_, Lib.hid rfl⟩
        obtain ⟨W1, HW1⟩ : ∃ W, Hid (wr.alloc (.cells #[.int .i64 t.frm, .int .i64 t.to_, .int .i64 t.tape, .int .i64 t.comp, .int .i64 t.slope, .bool t.back] 25) = W) := ⟨_, Lib.hid rfl⟩
        have HPE := Lib.hid (show PE w X g m t u ids u4 W1 by
          rw [← HW1.out, ← HX.out]
          obtain ⟨c0, c1, c2, c3, c4, c5⟩ := HC.out
          have z := HBr.out.alloc HBr.out.size (.cells #[.int .i64 t.frm, .int .i64 t.to_, .int .i64 t.tape, .int .i64 t.comp, .int .i64 t.slope, .bool t.back] 25)
          exact ⟨Blk.new _ _ _, ⟨⟨(z.cell (p := ⟨g, m * 6, none⟩) hgB).trans c0, (z.cell (p := ⟨g, m * 6 + 1, none⟩) hgB).trans c1, (z.cell (p := ⟨g, m * 6 + 2, none⟩) hgB).trans c2, (z.cell (p := ⟨g, m * 6 + 3, none⟩) hgB).trans c3, (z.cell (p := ⟨g, m * 6 + 4, none⟩) hgB).trans c4, (z.cell (p := ⟨g, m * 6 + 5, none⟩) hgB).trans c5⟩, hgB⟩, HRW.out.alloc _, z, HBr.out.size⟩)
        have hXl := HPE.out.1.lt
        rw [HW1.out, HX.out]
        clear HW1 HX d0 d1 d2 d3 d4 d5 HBr HRW hBs
        refine wp_region_held_drew (S := (fun v => v.cell? ⟨X, 0, none⟩ = some (.int .i64 t.frm) ∧ v.cell? ⟨X, 1, none⟩ = some (.int .i64 t.to_) ∧ v.cell? ⟨X, 2, none⟩ = some (.int .i64 t.tape) ∧ v.cell? ⟨X, 3, none⟩ = some (.int .i64 t.comp) ∧ v.cell? ⟨X, 4, none⟩ = some (.int .i64 t.slope) ∧ v.cell? ⟨X, 5, none⟩ = some (.bool t.back) ∧ v.cell? ⟨g, m * 6, none⟩ = some (.int .i64 u.frm) ∧ v.cell? ⟨g, m * 6 + 1, none⟩ = some (.int .i64 u.to_) ∧ v.cell? ⟨g, m * 6 + 2, none⟩ = some (.int .i64 u.tape) ∧ v.cell? ⟨g, m * 6 + 3, none⟩ = some (.int .i64 u.comp) ∧ v.cell? ⟨g, m * 6 + 4, none⟩ = some (.int .i64 u.slope) ∧ v.cell? ⟨g, m * 6 + 5, none⟩ = some (.bool u.back) ∧ PE w X g m t u ids u4 v)) (by kernel_rfl) ?_ (fun hHeld => ?_)
        · exact pe_mk (HPE.out.step (drewN_below _ 1))
        refine' wpAnyH_take (i := 0) (v := ?vr1_0) rfl (by kernel_rfl) (by kernel_rfl) (by kernel_rfl) (fun _ _ _ h => h) (Or.inl ⟨by rfl, ?hyr1_0⟩) (by assumption) ?restr1_0
        case hyr1_0 => (intro w hSw; (try dsimp only at hSw); go_simp; try (with_reducible rfl))
        simp only [Act.put, List.getElem_toArray, List.getElem_cons_succ, List.getElem_cons_zero, List.setIfInBounds_toArray, List.set_cons_zero, List.set_cons_succ]
        refine' wpAnyH_take (i := 1) (v := ?vr1_1) rfl (by kernel_rfl) (by kernel_rfl) (by kernel_rfl) (fun _ _ _ h => h) (Or.inl ⟨by rfl, ?hyr1_1⟩) (by assumption) ?restr1_1
        case hyr1_1 => (intro w hSw; (try dsimp only at hSw); go_simp; try (with_reducible rfl))
        simp only [Act.put, List.getElem_toArray, List.getElem_cons_succ, List.getElem_cons_zero, List.setIfInBounds_toArray, List.set_cons_zero, List.set_cons_succ]
        refine' wpAnyH_take (i := 2) (v := ?vr1_2) rfl (by kernel_rfl) (by kernel_rfl) (by kernel_rfl) (fun _ _ _ h => h) (Or.inl ⟨by rfl, ?hyr1_2⟩) (by assumption) ?restr1_2
        case hyr1_2 => (intro w hSw; (try dsimp only at hSw); go_simp; try (with_reducible rfl))
        simp only [Act.put, List.getElem_toArray, List.getElem_cons_succ, List.getElem_cons_zero, List.setIfInBounds_toArray, List.set_cons_zero, List.set_cons_succ]
        refine' wpAnyH_take (i := 6) (v := ?vr1_6) rfl (by kernel_rfl) (by kernel_rfl) (by kernel_rfl) (fun _ _ _ h => h) (Or.inl ⟨by rfl, ?hyr1_6⟩) (by assumption) ?restr1_6
        case hyr1_6 => (intro w hSw; (try dsimp only at hSw); go_simp; try (with_reducible rfl))
        simp only [Act.put, List.getElem_toArray, List.getElem_cons_succ, List.getElem_cons_zero, List.setIfInBounds_toArray, List.set_cons_zero, List.set_cons_succ]
        refine wpAnyH_ready (rs := [3]) (by kernel_rfl) (by simp) ?_
        refine AllReadyH.cons rfl (fun K hK => ?_) AllReadyH.nil
        go_simp
        refine (fol_is (some ⟨g, 0, none⟩) n _ ts t m _ hn HM HIN HOKS (Lib.hid ((hts.out.below hHeld.2.2.2.2.2.2.2.2.2.2.2.2.2.2.2.1).more hHeld.2.2.2.2.2.2.2.2.2.2.2.2.2.2.2.1.size))).mono ?_
        rintro e y1 ⟨rfl, bb⟩
        refine hK.out _ _ (pe_mk (hHeld.2.2.2.2.2.2.2.2.2.2.2.2.step bb)) (fun hHeld1 => ?_)
        clear hK K hHeld
        have hHeld := hHeld1
        clear hHeld1
        try simp only [Act.put, List.getElem_toArray, List.getElem_cons_succ, List.getElem_cons_zero, List.setIfInBounds_toArray, List.set_cons_zero, List.set_cons_succ]
        refine' wpAnyH_take (i := 4) (v := ?vr1_4) rfl (by kernel_rfl) (by kernel_rfl) (by kernel_rfl) (fun _ _ _ h => h) (Or.inl ⟨by rfl, ?hyr1_4⟩) (by assumption) ?restr1_4
        case hyr1_4 => (intro w hSw; (try dsimp only at hSw); go_simp; try (with_reducible rfl))
        simp only [Act.put, List.getElem_toArray, List.getElem_cons_succ, List.getElem_cons_zero, List.setIfInBounds_toArray, List.set_cons_zero, List.set_cons_succ]
        refine' wpAnyH_take (i := 5) (v := ?vr1_5) rfl (by kernel_rfl) (by kernel_rfl) (by kernel_rfl) (fun _ _ _ h => h) (Or.inl ⟨by rfl, ?hyr1_5⟩) (by assumption) ?restr1_5
        case hyr1_5 => (intro w hSw; (try dsimp only at hSw); go_simp; try (with_reducible rfl))
        simp only [Act.put, List.getElem_toArray, List.getElem_cons_succ, List.getElem_cons_zero, List.setIfInBounds_toArray, List.set_cons_zero, List.set_cons_succ]
        refine wpAnyH_ready (rs := [7]) (by kernel_rfl) (by simp) ?_
        refine AllReadyH.cons rfl (fun K hK => ?_) AllReadyH.nil
        go_simp
        refine (agree_is u t p true _ HOU HOT HSM HP).mono ?_
        rintro e y2 ⟨rfl, bb⟩
        refine hK.out _ _ (pe_mk (hHeld.2.2.2.2.2.2.2.2.2.2.2.2.step bb)) (fun hHeld1 => ?_)
        clear hK K hHeld
        have hHeld := hHeld1
        clear hHeld1
        try simp only [Act.put, List.getElem_toArray, List.getElem_cons_succ, List.getElem_cons_zero, List.setIfInBounds_toArray, List.set_cons_zero, List.set_cons_succ]
        refine' wpAnyH_take (i := 8) (v := ?vr1_8) rfl (by kernel_rfl) (by kernel_rfl) (by kernel_rfl) (fun _ _ _ h => h) (Or.inl ⟨by rfl, ?hyr1_8⟩) (by assumption) ?restr1_8
        case hyr1_8 => (intro w hSw; (try dsimp only at hSw); go_simp; try (with_reducible rfl))
        simp only [Act.put, List.getElem_toArray, List.getElem_cons_succ, List.getElem_cons_zero, List.setIfInBounds_toArray, List.set_cons_zero, List.set_cons_succ]
        refine' wpAnyH_take (i := 9) (v := ?vr1_9) rfl (by kernel_rfl) (by kernel_rfl) (by kernel_rfl) (fun _ _ _ h => h) (Or.inl ⟨by rfl, ?hyr1_9⟩) (by assumption) ?restr1_9
        case hyr1_9 => (intro w hSw; (try dsimp only at hSw); go_simp; try (with_reducible rfl))
        simp only [Act.put, List.getElem_toArray, List.getElem_cons_succ, List.getElem_cons_zero, List.setIfInBounds_toArray, List.set_cons_zero, List.set_cons_succ]
        refine' wpAnyH_take (i := 10) (v := ?vr1_10) rfl (by kernel_rfl) (by kernel_rfl) (by kernel_rfl) (fun _ _ _ h => h) (Or.inl ⟨by rfl, ?hyr1_10⟩) (by assumption) ?restr1_10
        case hyr1_10 => (intro w hSw; (try dsimp only at hSw); go_simp; try (with_reducible rfl))
        simp only [Act.put, List.getElem_toArray, List.getElem_cons_succ, List.getElem_cons_zero, List.setIfInBounds_toArray, List.set_cons_zero, List.set_cons_succ]
        refine' wpAnyH_take (i := 11) (v := ?vr1_11) rfl (by kernel_rfl) (by kernel_rfl) (by kernel_rfl) (fun _ _ _ h => h) (Or.inl ⟨by rfl, ?hyr1_11⟩) (by assumption) ?restr1_11
        case hyr1_11 => (intro w hSw; (try dsimp only at hSw); go_simp; try (with_reducible rfl))
        simp only [Act.put, List.getElem_toArray, List.getElem_cons_succ, List.getElem_cons_zero, List.setIfInBounds_toArray, List.set_cons_zero, List.set_cons_succ]
        refine' wpAnyH_take (i := 12) (v := ?vr1_12) rfl (by kernel_rfl) (by kernel_rfl) (by kernel_rfl) (fun _ _ _ h => h) (Or.inl ⟨by rfl, ?hyr1_12⟩) (by assumption) ?restr1_12
        case hyr1_12 => (intro w hSw; (try dsimp only at hSw); go_simp; try (with_reducible rfl))
        simp only [Act.put, List.getElem_toArray, List.getElem_cons_succ, List.getElem_cons_zero, List.setIfInBounds_toArray, List.set_cons_zero, List.set_cons_succ]
        refine wpAnyH_done (by kernel_rfl) ?_ _
        have HZ := Lib.hid (hHeld.2.2.2.2.2.2.2.2.2.2.2.2)
        have HRO := Lib.hid HZ.out.2.2.1
        have HB2 := Lib.hid HZ.out.2.2.2.1
        have hBs := HB2.out.size
        clear hHeld HPE HZ
        cases p
        · have HN := Lib.hid (show idxs (erP ts) ts (k + 1) = ids ++ [(k : Int)] by rw [idxs_yes HK.out (by rw [HOF.out]; rfl), HD.out])
          go_wp2_with (at_builtin; refine wpList_append_own _ rfl _ _ 41 rfl w.heap.size 3 i0 (.int .i64 0) 1 8 Try.underlying41 hi hz0 hz1 hz2 rfl (by decide) _ _ _ rfl (HRO.out.alloc _) ⟨y2.heap.size, 0, none⟩ 1 1 [.int .i64 (k : Int)] rfl rfl (cell_one_new _ _ _) (by simp [Value.oneCell']) (by unfold maxLen; omega) (by omega) (by simp; omega) ?_; intro v' w9 hown' hgrow _)
          go_roundw
          case rel =>
            refine ⟨k + 1, ids ++ [(k : Int)], by omega, by go_num, HN, Lib.hid ?_, ?_⟩
            · rw [List.length_append, List.length_singleton, intsV_app]; exact hown'
            · exact (HB2.out.alloc HB2.out.size _).grown hgrow (by simp; omega) (fun j ej => (HRO.out.lt j ej).1)
          case measure => simp [intOf]; omega
        · have HN := Lib.hid (show idxs (erP ts) ts (k + 1) = ids by rw [idxs_no HK.out (by rw [HOF.out]; rfl)]; exact HD.out)
          go_wp2_with fail
          go_roundw
          case rel => exact ⟨k + 1, ids, by omega, by go_num, HN, HRO, HB2.out⟩
          case measure => simp [intOf]; omega
      · have hkd : decide (k < n) = false := by simpa using hlt
        obtain rfl : k = n := by omega
        go_wp2_with fail
        go_ret2
        rw [HD.out]
        exact ⟨_, rfl, HRW.out, HBr.out⟩
set_option maxHeartbeats 4000000 in
set_option maxRecDepth 100000 in
theorem mergePairs_impl (A : Option Addr) (n cap : Nat) (ts : List En) (w : World) (hn : n ≤ 2000000) (hts : Hid (EnAt w w.heap.size A n ts)) :
    Calls Try.prog 28 #[.slice A n cap] w (EPost (mgEn ts) (goodEn ts) w) := by
  obtain ⟨i0, hi, hz0, hz1, hz2⟩ := info_parts infoEn
  have hL : Hid (ts.length = n) := Lib.hid hts.out.1
  cases hg : goodEn ts
  · have HG := Lib.hid hg
    have HI := Lib.hid (show mgEn ts = [] by unfold mgEn; rw [hg]; rfl)
    clear hg
    rw [HI.out]
    go_enter Try.func28, Try.ntmps28
    go_wp2_with fail
    refine (isBook_is A n cap ts false _ hn hts HG).mono ?_
    rintro e w1 ⟨rfl, b1⟩
    have HB := Lib.hid b1
    clear b1
    go_wp2_with fail
    go_ret2
    exact ⟨_, rfl, World.ownsRow_made w1 #[] 0 HB.out.size (by decide) (by simp), HB.out.alloc HB.out.size _⟩
  · have HG := Lib.hid hg
    have hn12 : n ≤ 12 := by rw [← hL.out]; exact goodEn_len hg
    have HOKS := Lib.hid (show ∀ t ∈ ts, okEn t = true from fun t ht => by
      simp only [goodEn, Bool.and_eq_true, List.all_eq_true] at hg
      exact hg.1 t ht)
    have HI := Lib.hid (show mgEn ts = mgN ts n by unfold mgEn; rw [hg, hL.out]; rfl)
    clear hg
    rw [HI.out]
    go_enter Try.func28, Try.ntmps28
    go_wp2_with fail
    refine (isBook_is A n cap ts true _ hn hts HG).mono ?_
    rintro e w1 ⟨rfl, b1⟩
    have HB := Lib.hid (b1.alloc b1.size (.cells #[] 25))
    have HO := Lib.hid (World.ownsRow_made (base := w.heap.size) (e := 25) (size := 6) w1 #[] 0 b1.size (by decide) (by simp))
    clear b1
    go_wp2_with fail
    go_loopw [4, 14] (fun v i wr => ∃ (k : Nat) (xs : List En), k ≤ n ∧ i = .int .i64 k ∧ Hid (mgN ts k = xs) ∧ Hid (wr.ownsRow w.heap.size 25 6 v xs.length (flatEn xs)) ∧ Below w.heap.size w wr) (fun _ i _ => n - (intOf i).toNat)
    case atStart => exact ⟨0, [], Nat.zero_le _, rfl, Lib.hid rfl, HO, HB.out⟩
    case round =>
      obtain ⟨k, xs, hk, rfl, HD, HRW, hB⟩ := hrel
      have hlen : xs.length ≤ 12 := by rw [← HD.out]; have := mg_len ts k; omega
      have hBs := hB.size
      have HBr := Lib.hid hB
      clear hB HB HO
      by_cases hlt : k < n
      · obtain ⟨t, htk⟩ := at_lt hL.out hlt
        have HK := Lib.hid htk
        obtain ⟨m, hm⟩ : ∃ m, firstN ts t = m := ⟨_, rfl⟩
        have HM := Lib.hid hm
        have HIN := Lib.hid (List.mem_of_getElem? htk)
        obtain ⟨g, rfl, hgB, d0, d1, d2, d3, d4, d5⟩ := (hts.out.below HBr.out).2 k t htk
        clear htk hm
        have hki : (k : Int) < (n : Int) := by omega
        have hk0 : 0 ≤ (k : Int) := by omega
        have hkd : decide (k < n) = true := by simpa using hlt
        go_upto_region 7 with fail
        obtain ⟨X, HX⟩ : ∃ X, Hid (wr.heap.size = X) := ⟨_, Lib.hid rfl⟩
        obtain ⟨W1, HW1⟩ : ∃ W, Hid (wr.alloc (.cells #[.int .i64 t.frm, .int .i64 t.to_, .int .i64 t.tape, .int .i64 t.comp, .int .i64 t.slope, .bool t.back] 25) = W) := ⟨_, Lib.hid rfl⟩
        have HBX := Lib.hid (show Blk W1 X 25 #[.int .i64 t.frm, .int .i64 t.to_, .int .i64 t.tape, .int .i64 t.comp, .int .i64 t.slope, .bool t.back] by rw [← HW1.out, ← HX.out]; exact Blk.new _ _ _)
        have HB1 := Lib.hid (show Below w.heap.size w W1 by rw [← HW1.out]; exact HBr.out.alloc HBr.out.size _)
        have HR1 := Lib.hid (show W1.ownsRow w.heap.size 25 6 u4 xs.length (flatEn xs) by rw [← HW1.out]; exact HRW.out.alloc _)
        have HT1 := Lib.hid ((hts.out.below HB1.out).more HB1.out.size)
        rw [HW1.out, HX.out]
        clear HW1 HX d0 d1 d2 d3 d4 d5 HBr HRW hBs
        have hXl := HBX.out.lt
        obtain ⟨x0, x1, x2, x3, x4, x5⟩ := (⟨HBX.out.cell 0, HBX.out.cell 1, HBX.out.cell 2, HBX.out.cell 3, HBX.out.cell 4, HBX.out.cell 5⟩ : W1.cell? ⟨X, 0, none⟩ = some (.int .i64 t.frm) ∧ W1.cell? ⟨X, 1, none⟩ = some (.int .i64 t.to_) ∧ W1.cell? ⟨X, 2, none⟩ = some (.int .i64 t.tape) ∧ W1.cell? ⟨X, 3, none⟩ = some (.int .i64 t.comp) ∧ W1.cell? ⟨X, 4, none⟩ = some (.int .i64 t.slope) ∧ W1.cell? ⟨X, 5, none⟩ = some (.bool t.back))
        go_wp2_with fail
        refine (fol_is (some ⟨g, 0, none⟩) n _ ts t m _ hn HM HIN HOKS HT1).mono ?_
        rintro e w2 ⟨rfl, b2⟩
        have HBX2 := Lib.hid (HBX.out.below b2 hXl)
        have HB2 := Lib.hid (HB1.out.trans (b2.mono HB1.out.size))
        have HR2 := Lib.hid (row_below HR1.out b2)
        clear b2 HT1 HBX HB1 HR1 x0 x1 x2 x3 x4 x5 hXl
        have hXl := HBX2.out.lt
        have hBs := HB2.out.size
        obtain ⟨x0, x1, x2, x3, x4, x5⟩ := (⟨HBX2.out.cell 0, HBX2.out.cell 1, HBX2.out.cell 2, HBX2.out.cell 3, HBX2.out.cell 4, HBX2.out.cell 5⟩ : w2.cell? ⟨X, 0, none⟩ = some (.int .i64 t.frm) ∧ w2.cell? ⟨X, 1, none⟩ = some (.int .i64 t.to_) ∧ w2.cell? ⟨X, 2, none⟩ = some (.int .i64 t.tape) ∧ w2.cell? ⟨X, 3, none⟩ = some (.int .i64 t.comp) ∧ w2.cell? ⟨X, 4, none⟩ = some (.int .i64 t.slope) ∧ w2.cell? ⟨X, 5, none⟩ = some (.bool t.back))
        by_cases hmk : m = k
        · subst hmk
          have HN := Lib.hid (show mgN ts (m + 1) = xs ++ [t] by rw [mg_yes HK.out HM.out, HD.out])
          go_wp2_with (at_builtin; refine wpList_append_own _ rfl _ _ 37 rfl w.heap.size 25 i0 _ 6 48 Try.underlying37 hi hz0 hz1 hz2 rfl (by decide) _ _ _ rfl (HR2.out.alloc _) ⟨w2.heap.size, 0, none⟩ 1 1 [.int .i64 t.frm, .int .i64 t.to_, .int .i64 t.tape, .int .i64 t.comp, .int .i64 t.slope, .bool t.back] rfl rfl (World.news_of_block (alloc_at (by simp))) (by simp [Value.oneCell']) (by unfold maxLen; omega) (by omega) (by simp; omega) ?_; intro v' w9 hown' hgrow _)
          go_roundw
          case rel =>
            refine ⟨m + 1, xs ++ [t], by omega, by go_num, HN, Lib.hid ?_, ?_⟩
            · rw [List.length_append, List.length_singleton, flatEn_app]; exact hown'
            · exact (HB2.out.alloc HB2.out.size _).grown hgrow (by simp; omega) (fun j ej => (HR2.out.lt j ej).1)
          case measure => simp [intOf]; omega
        · have e1 : ((m : Int) == (k : Int)) = false := by simp; omega
          have e2 : (m == k) = false := by simpa using hmk
          have HN := Lib.hid (show mgN ts (k + 1) = xs by rw [mg_no HK.out (by rw [HM.out]; exact hmk)]; exact HD.out)
          go_wp2_with fail
          go_roundw
          case rel => exact ⟨k + 1, xs, by omega, by go_num, HN, HR2, HB2.out⟩
          case measure => simp [intOf]; omega
      · have hkd : decide (k < n) = false := by simpa using hlt
        obtain rfl : k = n := by omega
        go_wp2_with fail
        go_ret2
        rw [HD.out]
        exact ⟨_, rfl, HRW.out, HBr.out⟩
end Go.Proofs.Ytnlljdepcldibaa.eni
