/-
  The model of the field books: the entries that disagree with the first one of their leg.
  Conditions: the entries lie in one block below the call's own.
-/
import Derived.Test.YtnlljdepcldibaaEnD
import Derived.Test.YtnlljdepcldibaaInts
import Derived.Deep.RegionHeld3
import Derived.Deep.DeepCutAuto
namespace Go.Proofs.Ytnlljdepcldibaa.en
open Go.RowKit
open reads base ty inn lg rowi mst
set_option linter.unusedVariables false
set_option linter.unusedSimpArgs false

theorem turned_is (x : En) (q : Int) (y : Lg) (h : Hid (turnEn x q = y)) (w : World) (ho : Hid (okEn x = true)) : Calls Try.prog 47 #[.agg #[.int .i64 x.frm, .int .i64 x.to_, .int .i64 x.tape, .int .i64 x.comp, .int .i64 x.slope, .bool x.back], .int .i64 q] w (APost (.agg #[.int .i64 y.frm, .int .i64 y.to_, .int .i64 y.tape, .int .i64 y.comp, .int .i64 y.slope]) w) := by rw [← h.out]; exact turned_any x q w ho
/-- an entry in a box, one of the list, numbers that the call has made, and nothing old has turned -/
def PE (w : World) (X g k : Nat) (u t : En) (ids : List Int) (r : Value) (v : World) : Prop := Blk v X 25 #[.int .i64 u.frm, .int .i64 u.to_, .int .i64 u.tape, .int .i64 u.comp, .int .i64 u.slope, .bool u.back] ∧ ((v.cell? ⟨g, k * 6, none⟩ = some (.int .i64 t.frm) ∧ v.cell? ⟨g, k * 6 + 1, none⟩ = some (.int .i64 t.to_) ∧ v.cell? ⟨g, k * 6 + 2, none⟩ = some (.int .i64 t.tape) ∧ v.cell? ⟨g, k * 6 + 3, none⟩ = some (.int .i64 t.comp) ∧ v.cell? ⟨g, k * 6 + 4, none⟩ = some (.int .i64 t.slope) ∧ v.cell? ⟨g, k * 6 + 5, none⟩ = some (.bool t.back)) ∧ g < w.heap.size) ∧ v.ownsRow w.heap.size 3 1 r ids.length (ints.intsV ids) ∧ Below w.heap.size w v ∧ w.heap.size ≤ X
section
variable {w v v' : World} {X g k : Nat} {u t : En} {ids : List Int} {r : Value}
theorem PE.step (h : PE w X g k u t ids r v) (hb : Below v.heap.size v v') : PE w X g k u t ids r v' := by
  obtain ⟨h1, ⟨⟨c0, c1, c2, c3, c4, c5⟩, hg⟩, h3, h4, h5⟩ := h
  have hgv : g < v.heap.size := Nat.lt_of_lt_of_le hg h4.size
  exact ⟨h1.below hb h1.lt, ⟨⟨(hb.cell (p := ⟨g, k * 6, none⟩) hgv).trans c0, (hb.cell (p := ⟨g, k * 6 + 1, none⟩) hgv).trans c1, (hb.cell (p := ⟨g, k * 6 + 2, none⟩) hgv).trans c2, (hb.cell (p := ⟨g, k * 6 + 3, none⟩) hgv).trans c3, (hb.cell (p := ⟨g, k * 6 + 4, none⟩) hgv).trans c4, (hb.cell (p := ⟨g, k * 6 + 5, none⟩) hgv).trans c5⟩, hg⟩, row_below h3 hb, h4.trans (hb.mono h4.size), h5⟩
theorem pe_mk (h : PE w X g k u t ids r v) : v.cell? ⟨X, 0, none⟩ = some (.int .i64 u.frm) ∧ v.cell? ⟨X, 1, none⟩ = some (.int .i64 u.to_) ∧ v.cell? ⟨X, 2, none⟩ = some (.int .i64 u.tape) ∧ v.cell? ⟨X, 3, none⟩ = some (.int .i64 u.comp) ∧ v.cell? ⟨X, 4, none⟩ = some (.int .i64 u.slope) ∧ v.cell? ⟨X, 5, none⟩ = some (.bool u.back) ∧ v.cell? ⟨g, k * 6, none⟩ = some (.int .i64 t.frm) ∧ v.cell? ⟨g, k * 6 + 1, none⟩ = some (.int .i64 t.to_) ∧ v.cell? ⟨g, k * 6 + 2, none⟩ = some (.int .i64 t.tape) ∧ v.cell? ⟨g, k * 6 + 3, none⟩ = some (.int .i64 t.comp) ∧ v.cell? ⟨g, k * 6 + 4, none⟩ = some (.int .i64 t.slope) ∧ v.cell? ⟨g, k * 6 + 5, none⟩ = some (.bool t.back) ∧ PE w X g k u t ids r v := by
  have h0 := h
  obtain ⟨h1, ⟨⟨c0, c1, c2, c3, c4, c5⟩, hg⟩, h3, h4, h5⟩ := h
  exact ⟨h1.cell 0, h1.cell 1, h1.cell 2, h1.cell 3, h1.cell 4, h1.cell 5, c0, c1, c2, c3, c4, c5, h0⟩
theorem PE.new (h : PE w X g k u t ids r v) : w.heap.size ≤ v.heap.size ∧ ¬ v.heap.size = X ∧ r.ownBlock ≠ some v.heap.size := by
  refine ⟨h.2.2.2.1.size, ?_, ?_⟩
  · have := h.1.lt; omega
  · intro c
    have := (h.2.2.1.lt _ c).2
    omega
/-- a leg is stored into a block of its own -/
theorem PE.put {y : Nat} {a : Lg} (h : PE w X g k u t ids r v) (hy : w.heap.size ≤ y) (hX : ¬ y = X) (hr : r.ownBlock ≠ some y) : PE w X g k u t ids r (((((v.setCell ⟨y, 0, none⟩ (.int .i64 a.frm)).setCell ⟨y, 1, none⟩ (.int .i64 a.to_)).setCell ⟨y, 2, none⟩ (.int .i64 a.tape)).setCell ⟨y, 3, none⟩ (.int .i64 a.comp)).setCell ⟨y, 4, none⟩ (.int .i64 a.slope)) := by
  have hb : ∀ (v : World) (o : Nat) (z : Value), PE w X g k u t ids r v → PE w X g k u t ids r (v.setCell ⟨y, o, none⟩ z) := by
    intro v o z h
    obtain ⟨h1, ⟨⟨c0, c1, c2, c3, c4, c5⟩, hg⟩, h3, h4, h5⟩ := h
    have hf : ∀ o', (v.setCell ⟨y, o, none⟩ z).cell? ⟨g, o', none⟩ = v.cell? ⟨g, o', none⟩ := fun o' => World.cell?_setCell_other v _ _ z (by intro c; injection c with c; omega)
    refine ⟨h1.far (by show _ ≠ _; intro c; exact hX c.symm) _, ⟨⟨(hf _).trans c0, (hf _).trans c1, (hf _).trans c2, (hf _).trans c3, (hf _).trans c4, (hf _).trans c5⟩, hg⟩, ?_, h4.setCell hy _, h5⟩
    exact h3.kept (row := some y) (grown_set (World.grownBy.refl v (some y)) o z) (.inr (fun c => hr c))
  exact hb _ 4 _ (hb _ 3 _ (hb _ 2 _ (hb _ 1 _ (hb _ 0 _ h))))
end
set_option maxHeartbeats 4000000 in
set_option maxRecDepth 100000 in
theorem pairErrors_model (A : Option Addr) (n cap : Nat) (ts : List En) (w : World) (hn : n ≤ 2000000) (hts : Hid (EnAt w w.heap.size A n ts)) :
    Calls Try.prog 21 #[.slice A n cap] w (LPost (erIds ts) (goodEn ts) w) := by
  obtain ⟨i0, hi, hz0, hz1, hz2⟩ := info_parts infoI
  have hL : Hid (ts.length = n) := Lib.hid hts.out.1
  have HR := Lib.hid (World.ownsRow_made (base := w.heap.size) (e := 3) (size := 1) w #[] 0 (Nat.le_refl _) (by decide) (by simp))
  have HE := Lib.hid ((Below.refl w.heap.size w).alloc (Nat.le_refl _) (.cells #[] 3))
  have HT0 := Lib.hid (hts.out.alloc (.cells #[] 3))
  cases hg : goodEn ts
  · have HG := Lib.hid hg
    have HI := Lib.hid (show erIds ts = [] by unfold erIds; rw [hg]; rfl)
    clear hg
    rw [HI.out]
    go_enter Try.func21, Try.ntmps21
    go_wp2_with fail
    refine (book_is A n cap ts false _ hn HT0 HG).mono ?_
    rintro e w1 ⟨rfl, b1⟩
    have HB := Lib.hid (HE.out.trans (b1.mono HE.out.size))
    have HO := Lib.hid (row_below HR.out b1)
    clear b1
    go_wp2_with fail
    go_ret2
    exact ⟨_, rfl, HO.out, HB.out⟩
  · have HG := Lib.hid hg
    have hn12 : n ≤ 12 := by rw [← hL.out]; exact goodEn_len hg
    have HOKS := Lib.hid (show ∀ t ∈ ts, okEn t = true from fun t ht => by
      simp only [goodEn, Bool.and_eq_true, List.all_eq_true] at hg
      exact hg.1 t ht)
    have HI := Lib.hid (show erIds ts = idxs (erP ts) ts n by unfold erIds; rw [hg, hL.out]; rfl)
    clear hg
    rw [HI.out]
    go_enter Try.func21, Try.ntmps21
    go_wp2_with fail
    refine (book_is A n cap ts true _ hn HT0 HG).mono ?_
    rintro e w1 ⟨rfl, b1⟩
    have HB := Lib.hid (HE.out.trans (b1.mono HE.out.size))
    have HO := Lib.hid (row_below HR.out b1)
    clear b1 HR HE HT0
    go_wp2_with fail
    go_loopw [4, 5] (fun v i wr => ∃ (k : Nat) (ids : List Int), k ≤ n ∧ i = .int .i64 k ∧ Hid (idxs (erP ts) ts k = ids) ∧ Hid (wr.ownsRow w.heap.size 3 1 v ids.length (ints.intsV ids)) ∧ Below w.heap.size w wr) (fun _ i _ => n - (intOf i).toNat)
    case atStart => exact ⟨0, [], Nat.zero_le _, rfl, Lib.hid rfl, HO, HB.out⟩
    case round =>
      obtain ⟨k, ids, hk, rfl, HD, HRW, hB⟩ := hrel
      have hlen : ids.length ≤ 12 := by rw [← HD.out]; have := idxs_len (erP ts) ts k; omega
      have hBs := hB.size
      have HBr := Lib.hid hB
      clear hB HB HO
      by_cases hlt : k < n
      · obtain ⟨t, htk⟩ := at_lt hL.out hlt
        have HK := Lib.hid htk
        obtain ⟨m, hm⟩ : ∃ m, firstN ts t = m := ⟨_, rfl⟩
        obtain ⟨u, hu⟩ : ∃ u, fstEn ts t = u := ⟨_, rfl⟩
        obtain ⟨hat, hsm⟩ := fst_at htk
        rw [hm, hu] at hat
        rw [hu] at hsm
        have HM := Lib.hid hm
        have HOT := Lib.hid (HOKS.out t (List.mem_of_getElem? htk))
        have HOU := Lib.hid (HOKS.out u (List.mem_of_getElem? hat))
        obtain ⟨a, ha⟩ : ∃ a, turnEn u u.frm = a := ⟨_, rfl⟩
        obtain ⟨b, hb⟩ : ∃ b, turnEn t u.frm = b := ⟨_, rfl⟩
        have HOF := Lib.hid (show erP ts t = offEn a b by unfold erP; rw [hu, ← ha, ← hb, off_ag hsm HOU.out HOT.out])
        have hoa : okLg a = true := by rw [← ha, turn_self]; exact legEn_ok HOU.out
        have hob : okLg b = true := by rw [← hb, turn_aim hsm HOT.out]; exact aim_ok (legEn_ok HOT.out)
        have HA := Lib.hid ha
        have HBB := Lib.hid hb
        have hmn : m < n := by have := lt_at hat; rw [hL.out] at this; exact this
        obtain ⟨g, rfl, hgB, hc⟩ := hts.out.2 k t htk
        have HC := Lib.hid hc
        have HAT := Lib.hid hat
        obtain ⟨-, -, -, ⟨a4, a5⟩, ⟨a6, a7⟩, a8, a9⟩ := okLg_lim hoa
        obtain ⟨-, -, -, ⟨b4, b5⟩, ⟨b6, b7⟩, b8, b9⟩ := okLg_lim hob
        have HTr := Lib.hid ((hts.out.below HBr.out).more HBr.out.size)
        clear htk hm hu hat hsm ha hb hoa hob hc
        have hki : (k : Int) < (n : Int) := by omega
        have hk0 : 0 ≤ (k : Int) := by omega
        have hkd : decide (k < n) = true := by simpa using hlt
        have hmi : (m : Int) < (n : Int) := by omega
        have hm0 : 0 ≤ (m : Int) := by omega
        go_wp2_with fail
        refine (first_model _ n _ ts k t m _ hn HK HM HOKS HTr).mono ?_
        rintro e w2 ⟨rfl, b2⟩
        have HB1 := Lib.hid (HBr.out.trans (b2.mono HBr.out.size))
        have HR1 := Lib.hid (row_below HRW.out b2)
        clear b2 HTr
        obtain ⟨g', e', -, d0, d1, d2, d3, d4, d5⟩ := (hts.out.below HB1.out).2 m u HAT.out
        have eg : g = g' := by injection e' with e'; injection e'
        subst eg
        clear e'
        go_upto_region 8 with fail
        obtain ⟨X, HX⟩ : ∃ X, Hid (w2.heap.size = X) := ⟨_, Lib.hid rfl⟩
        obtain ⟨W1, HW1⟩ : ∃ W, Hid (w2.alloc (.cells #[.int .i64 u.frm, .int .i64 u.to_, .int .i64 u.tape, .int .i64 u.comp, .int .i64 u.slope, .bool u.back] 25) = W) := ⟨_, Lib.hid rfl⟩
        have HPE := Lib.hid (show PE w X g k u t ids u4 W1 by
          rw [← HW1.out, ← HX.out]
          obtain ⟨c0, c1, c2, c3, c4, c5⟩ := HC.out
          have z := HB1.out.alloc HB1.out.size (.cells #[.int .i64 u.frm, .int .i64 u.to_, .int .i64 u.tape, .int .i64 u.comp, .int .i64 u.slope, .bool u.back] 25)
          exact ⟨Blk.new _ _ _, ⟨⟨(z.cell (p := ⟨g, k * 6, none⟩) hgB).trans c0, (z.cell (p := ⟨g, k * 6 + 1, none⟩) hgB).trans c1, (z.cell (p := ⟨g, k * 6 + 2, none⟩) hgB).trans c2, (z.cell (p := ⟨g, k * 6 + 3, none⟩) hgB).trans c3, (z.cell (p := ⟨g, k * 6 + 4, none⟩) hgB).trans c4, (z.cell (p := ⟨g, k * 6 + 5, none⟩) hgB).trans c5⟩, hgB⟩, HR1.out.alloc _, z, HB1.out.size⟩)
        have hXl := HPE.out.1.lt
        rw [HW1.out, HX.out]
        clear HW1 HX HB1 HR1 d0 d1 d2 d3 d4 d5 HBr HRW hBs
        go_cut [7, 8] (fun p q wx => ∃ y z : Nat, p = .pointer (some ⟨y, 0, none⟩) ∧ q = .pointer (some ⟨z, 0, none⟩) ∧ Blk wx y 29 #[.int .i64 a.frm, .int .i64 a.to_, .int .i64 a.tape, .int .i64 a.comp, .int .i64 a.slope] ∧ Blk wx z 29 #[.int .i64 b.frm, .int .i64 b.to_, .int .i64 b.tape, .int .i64 b.comp, .int .i64 b.slope] ∧ PE w X g k u t ids u4 wx)
        case first =>
          as_aux_lemma =>
            rename_i J0 K0 hJ0 hK0
            refine wp_region_held_drew (S := (fun v => v.cell? ⟨X, 0, none⟩ = some (.int .i64 u.frm) ∧ v.cell? ⟨X, 1, none⟩ = some (.int .i64 u.to_) ∧ v.cell? ⟨X, 2, none⟩ = some (.int .i64 u.tape) ∧ v.cell? ⟨X, 3, none⟩ = some (.int .i64 u.comp) ∧ v.cell? ⟨X, 4, none⟩ = some (.int .i64 u.slope) ∧ v.cell? ⟨X, 5, none⟩ = some (.bool u.back) ∧ v.cell? ⟨g, k * 6, none⟩ = some (.int .i64 t.frm) ∧ v.cell? ⟨g, k * 6 + 1, none⟩ = some (.int .i64 t.to_) ∧ v.cell? ⟨g, k * 6 + 2, none⟩ = some (.int .i64 t.tape) ∧ v.cell? ⟨g, k * 6 + 3, none⟩ = some (.int .i64 t.comp) ∧ v.cell? ⟨g, k * 6 + 4, none⟩ = some (.int .i64 t.slope) ∧ v.cell? ⟨g, k * 6 + 5, none⟩ = some (.bool t.back) ∧ PE w X g k u t ids u4 v)) (by kernel_rfl) ?_ (fun hHeld => ?_)
            · exact pe_mk (HPE.out.step (drewN_below _ 1))
            refine' wpAnyH_take (i := 0) (v := ?ve1_0) rfl (by kernel_rfl) (by kernel_rfl) (by kernel_rfl) (fun _ _ _ h => h) (Or.inl ⟨by rfl, ?hye1_0⟩) (by assumption) ?reste1_0
            case hye1_0 => (intro w hSw; (try dsimp only at hSw); go_simp; try (with_reducible rfl))
            simp only [Act.put, List.getElem_toArray, List.getElem_cons_succ, List.getElem_cons_zero, List.setIfInBounds_toArray, List.set_cons_zero, List.set_cons_succ]
            refine' wpAnyH_take (i := 1) (v := ?ve2_1) rfl (by kernel_rfl) (by kernel_rfl) (by kernel_rfl) (fun _ _ _ h => h) (Or.inl ⟨by rfl, ?hye2_1⟩) (by assumption) ?reste2_1
            case hye2_1 => (intro w hSw; (try dsimp only at hSw); go_simp; try (with_reducible rfl))
            simp only [Act.put, List.getElem_toArray, List.getElem_cons_succ, List.getElem_cons_zero, List.setIfInBounds_toArray, List.set_cons_zero, List.set_cons_succ]
            refine' wpAnyH_take (i := 2) (v := ?ve3_2) rfl (by kernel_rfl) (by kernel_rfl) (by kernel_rfl) (fun _ _ _ h => h) (Or.inl ⟨by rfl, ?hye3_2⟩) (by assumption) ?reste3_2
            case hye3_2 => (intro w hSw; (try dsimp only at hSw); go_simp; try (with_reducible rfl))
            simp only [Act.put, List.getElem_toArray, List.getElem_cons_succ, List.getElem_cons_zero, List.setIfInBounds_toArray, List.set_cons_zero, List.set_cons_succ]
            refine' wpAnyH_take (i := 4) (v := ?ve4_4) rfl (by kernel_rfl) (by kernel_rfl) (by kernel_rfl) (fun _ _ _ h => h) (Or.inl ⟨by rfl, ?hye4_4⟩) (by assumption) ?reste4_4
            case hye4_4 => (intro w hSw; (try dsimp only at hSw); go_simp; try (with_reducible rfl))
            simp only [Act.put, List.getElem_toArray, List.getElem_cons_succ, List.getElem_cons_zero, List.setIfInBounds_toArray, List.set_cons_zero, List.set_cons_succ]
            refine' wpAnyH_take (i := 5) (v := ?ve5_5) rfl (by kernel_rfl) (by kernel_rfl) (by kernel_rfl) (fun _ _ _ h => h) (Or.inl ⟨by rfl, ?hye5_5⟩) (by assumption) ?reste5_5
            case hye5_5 => (intro w hSw; (try dsimp only at hSw); go_simp; try (with_reducible rfl))
            simp only [Act.put, List.getElem_toArray, List.getElem_cons_succ, List.getElem_cons_zero, List.setIfInBounds_toArray, List.set_cons_zero, List.set_cons_succ]
            refine' wpAnyH_take (i := 6) (v := ?ve6_6) rfl (by kernel_rfl) (by kernel_rfl) (by kernel_rfl) (fun _ _ _ h => h) (Or.inl ⟨by rfl, ?hye6_6⟩) (by assumption) ?reste6_6
            case hye6_6 => (intro w hSw; (try dsimp only at hSw); go_simp; try (with_reducible rfl))
            simp only [Act.put, List.getElem_toArray, List.getElem_cons_succ, List.getElem_cons_zero, List.setIfInBounds_toArray, List.set_cons_zero, List.set_cons_succ]
            refine' wpAnyH_take (i := 7) (v := ?ve7_7) rfl (by kernel_rfl) (by kernel_rfl) (by kernel_rfl) (fun _ _ _ h => h) (Or.inl ⟨by rfl, ?hye7_7⟩) (by assumption) ?reste7_7
            case hye7_7 => (intro w hSw; (try dsimp only at hSw); go_simp; try (with_reducible rfl))
            simp only [Act.put, List.getElem_toArray, List.getElem_cons_succ, List.getElem_cons_zero, List.setIfInBounds_toArray, List.set_cons_zero, List.set_cons_succ]
            refine' wpAnyH_take (i := 8) (v := ?ve8_8) rfl (by kernel_rfl) (by kernel_rfl) (by kernel_rfl) (fun _ _ _ h => h) (Or.inl ⟨by rfl, ?hye8_8⟩) (by assumption) ?reste8_8
            case hye8_8 => (intro w hSw; (try dsimp only at hSw); go_simp; try (with_reducible rfl))
            simp only [Act.put, List.getElem_toArray, List.getElem_cons_succ, List.getElem_cons_zero, List.setIfInBounds_toArray, List.set_cons_zero, List.set_cons_succ]
            refine' wpAnyH_take (i := 9) (v := ?ve9_9) rfl (by kernel_rfl) (by kernel_rfl) (by kernel_rfl) (fun _ _ _ h => h) (Or.inl ⟨by rfl, ?hye9_9⟩) (by assumption) ?reste9_9
            case hye9_9 => (intro w hSw; (try dsimp only at hSw); go_simp; try (with_reducible rfl))
            simp only [Act.put, List.getElem_toArray, List.getElem_cons_succ, List.getElem_cons_zero, List.setIfInBounds_toArray, List.set_cons_zero, List.set_cons_succ]
            obtain ⟨V0, HV0⟩ : ∃ Wx, Hid (W1.drew = Wx) := ⟨_, Lib.hid rfl⟩
            rw [HV0.out] at hHeld
            rw [HV0.out]
            clear HV0
            refine wpAnyH_ready (rs := [3, 11, 12]) (by kernel_rfl) (by simp) ?_
            refine AllReadyH.cons rfl (fun K hK => ?_) (AllReadyH.cons rfl (fun K hK => ?_) (AllReadyH.cons rfl (fun K hK => ?_) AllReadyH.nil))
            · go_simp
              refine (turned_is u u.frm a HA _ HOU).mono ?_
              rintro e V1 ⟨rfl, bb⟩
              refine hK.out _ _ (pe_mk (hHeld.2.2.2.2.2.2.2.2.2.2.2.2.step bb)) (fun hHeld1 => ?_)
              clear bb
              clear hK K hHeld
              have hHeld := hHeld1
              clear hHeld1
              try simp only [Act.put, List.getElem_toArray, List.getElem_cons_succ, List.getElem_cons_zero, List.setIfInBounds_toArray, List.set_cons_zero, List.set_cons_succ]
              refine wpAnyH_ready (rs := [10, 11, 12]) (by kernel_rfl) (by simp) ?_
              refine AllReadyH.cons rfl (fun K hK => ?_) (AllReadyH.cons rfl (fun K hK => ?_) (AllReadyH.cons rfl (fun K hK => ?_) AllReadyH.nil))
              · go_simp
                refine (turned_is t u.frm b HBB _ HOT).mono ?_
                rintro e V2 ⟨rfl, bb⟩
                refine hK.out _ _ (pe_mk (hHeld.2.2.2.2.2.2.2.2.2.2.2.2.step bb)) (fun hHeld1 => ?_)
                clear bb
                clear hK K hHeld
                have hHeld := hHeld1
                clear hHeld1
                try simp only [Act.put, List.getElem_toArray, List.getElem_cons_succ, List.getElem_cons_zero, List.setIfInBounds_toArray, List.set_cons_zero, List.set_cons_succ]
                refine wpAnyH_ready (rs := [11, 12]) (by kernel_rfl) (by simp) ?_
                refine AllReadyH.cons rfl (fun K hK => ?_) (AllReadyH.cons rfl (fun K hK => ?_) AllReadyH.nil)
                · go_simp
                  have HNN := Lib.hid (PE.new (hHeld.2.2.2.2.2.2.2.2.2.2.2.2))
                  refine hK.out _ _ (pe_mk (hHeld.2.2.2.2.2.2.2.2.2.2.2.2.step ((Below.refl _ _).alloc (Nat.le_refl _) _))) (fun hHeld1 => ?_)
                  clear hK K hHeld
                  have hHeld := hHeld1
                  clear hHeld1
                  try simp only [Act.put, List.getElem_toArray, List.getElem_cons_succ, List.getElem_cons_zero, List.setIfInBounds_toArray, List.set_cons_zero, List.set_cons_succ]
                  obtain ⟨Y7, HYe⟩ : ∃ Y, Hid (V2.heap.size = Y) := ⟨_, Lib.hid rfl⟩
                  obtain ⟨V3, HW⟩ : ∃ Wx, Hid (V2.alloc (.cells #[.int .i64 0, .int .i64 0, .int .i64 0, .int .i64 0, .int .i64 0] 29) = Wx) := ⟨_, Lib.hid rfl⟩
                  have HNY7 := Lib.hid (HYe.out ▸ HNN.out : w.heap.size ≤ Y7 ∧ ¬ Y7 = X ∧ u4.ownBlock ≠ some Y7)
                  clear HNN
                  have HY7_3 := Lib.hid (show Blk V3 Y7 29 #[.int .i64 0, .int .i64 0, .int .i64 0, .int .i64 0, .int .i64 0] by rw [← HW.out, ← HYe.out]; exact Blk.new _ _ _)
                  rw [HW.out] at hHeld
                  rw [HW.out]
                  rw [HYe.out]
                  clear HW HYe
                  refine wpAnyH_ready (rs := [12]) (by kernel_rfl) (by simp) ?_
                  refine AllReadyH.cons rfl (fun K hK => ?_) AllReadyH.nil
                  go_simp
                  have HNN := Lib.hid (PE.new (hHeld.2.2.2.2.2.2.2.2.2.2.2.2))
                  refine hK.out _ _ (pe_mk (hHeld.2.2.2.2.2.2.2.2.2.2.2.2.step ((Below.refl _ _).alloc (Nat.le_refl _) _))) (fun hHeld1 => ?_)
                  clear hK K hHeld
                  have hHeld := hHeld1
                  clear hHeld1
                  try simp only [Act.put, List.getElem_toArray, List.getElem_cons_succ, List.getElem_cons_zero, List.setIfInBounds_toArray, List.set_cons_zero, List.set_cons_succ]
                  obtain ⟨Y8, HYe⟩ : ∃ Y, Hid (V3.heap.size = Y) := ⟨_, Lib.hid rfl⟩
                  obtain ⟨V4, HW⟩ : ∃ Wx, Hid (V3.alloc (.cells #[.int .i64 0, .int .i64 0, .int .i64 0, .int .i64 0, .int .i64 0] 29) = Wx) := ⟨_, Lib.hid rfl⟩
                  have HNY8 := Lib.hid (HYe.out ▸ HNN.out : w.heap.size ≤ Y8 ∧ ¬ Y8 = X ∧ u4.ownBlock ≠ some Y8)
                  clear HNN
                  have hne : ¬ Y7 = Y8 := by rw [← HYe.out]; have := HY7_3.out.lt; omega
                  have HY7_4 := Lib.hid (show Blk V4 Y7 29 #[.int .i64 0, .int .i64 0, .int .i64 0, .int .i64 0, .int .i64 0] from by rw [← HW.out]; exact HY7_3.out.alloc _)
                  have HY8_4 := Lib.hid (show Blk V4 Y8 29 #[.int .i64 0, .int .i64 0, .int .i64 0, .int .i64 0, .int .i64 0] by rw [← HW.out, ← HYe.out]; exact Blk.new _ _ _)
                  rw [HW.out] at hHeld
                  rw [HW.out]
                  rw [HYe.out]
                  clear HW HYe
                  refine wpAnyH_ready (rs := [13]) (by kernel_rfl) (by simp) ?_
                  refine AllReadyH.cons rfl (fun K hK => ?_) AllReadyH.nil
                  obtain ⟨z0, z1, z2, z3, z4⟩ := (⟨HY7_4.out.cell 0, HY7_4.out.cell 1, HY7_4.out.cell 2, HY7_4.out.cell 3, HY7_4.out.cell 4⟩ : V4.cell? ⟨Y7, 0, none⟩ = some (.int .i64 0) ∧ V4.cell? ⟨Y7, 1, none⟩ = some (.int .i64 0) ∧ V4.cell? ⟨Y7, 2, none⟩ = some (.int .i64 0) ∧ V4.cell? ⟨Y7, 3, none⟩ = some (.int .i64 0) ∧ V4.cell? ⟨Y7, 4, none⟩ = some (.int .i64 0))
                  obtain ⟨k0, k1, k2, k3, k4⟩ := (⟨HY7_4.out.frozen 0, HY7_4.out.frozen 1, HY7_4.out.frozen 2, HY7_4.out.frozen 3, HY7_4.out.frozen 4⟩ : V4.frozen? ⟨Y7, 0, none⟩ = false ∧ V4.frozen? ⟨Y7, 1, none⟩ = false ∧ V4.frozen? ⟨Y7, 2, none⟩ = false ∧ V4.frozen? ⟨Y7, 3, none⟩ = false ∧ V4.frozen? ⟨Y7, 4, none⟩ = false)
                  go_simp
                  refine hK.out _ _ (pe_mk (PE.put (a := a) hHeld.2.2.2.2.2.2.2.2.2.2.2.2 HNY7.out.1 HNY7.out.2.1 HNY7.out.2.2)) (fun hHeld1 => ?_)
                  clear hK K hHeld
                  have hHeld := hHeld1
                  clear hHeld1
                  try simp only [Act.put, List.getElem_toArray, List.getElem_cons_succ, List.getElem_cons_zero, List.setIfInBounds_toArray, List.set_cons_zero, List.set_cons_succ]
                  clear z0 z1 z2 z3 z4 k0 k1 k2 k3 k4
                  obtain ⟨V5, HW⟩ : ∃ Wx, Hid ((((((V4.setCell ⟨Y7, 0, none⟩ (.int .i64 a.frm)).setCell ⟨Y7, 1, none⟩ (.int .i64 a.to_)).setCell ⟨Y7, 2, none⟩ (.int .i64 a.tape)).setCell ⟨Y7, 3, none⟩ (.int .i64 a.comp)).setCell ⟨Y7, 4, none⟩ (.int .i64 a.slope)) = Wx) := ⟨_, Lib.hid rfl⟩
                  have HY7_5 := Lib.hid (show Blk V5 Y7 29 #[.int .i64 a.frm, .int .i64 a.to_, .int .i64 a.tape, .int .i64 a.comp, .int .i64 a.slope] from by rw [← HW.out]; exact ((((HY7_4.out.set_ 0 _).set_ 1 _).set_ 2 _).set_ 3 _).set_ 4 _)
                  have HY8_5 := Lib.hid (show Blk V5 Y8 29 #[.int .i64 0, .int .i64 0, .int .i64 0, .int .i64 0, .int .i64 0] from by rw [← HW.out]; exact (((((HY8_4.out.far (by first | exact hne | exact fun c => hne c.symm) _).far (by first | exact hne | exact fun c => hne c.symm) _).far (by first | exact hne | exact fun c => hne c.symm) _).far (by first | exact hne | exact fun c => hne c.symm) _).far (by first | exact hne | exact fun c => hne c.symm) _))
                  rw [HW.out] at hHeld
                  rw [HW.out]
                  clear HW
                  refine wpAnyH_ready (rs := [14]) (by kernel_rfl) (by simp) ?_
                  refine AllReadyH.cons rfl (fun K hK => ?_) AllReadyH.nil
                  obtain ⟨z0, z1, z2, z3, z4⟩ := (⟨HY8_5.out.cell 0, HY8_5.out.cell 1, HY8_5.out.cell 2, HY8_5.out.cell 3, HY8_5.out.cell 4⟩ : V5.cell? ⟨Y8, 0, none⟩ = some (.int .i64 0) ∧ V5.cell? ⟨Y8, 1, none⟩ = some (.int .i64 0) ∧ V5.cell? ⟨Y8, 2, none⟩ = some (.int .i64 0) ∧ V5.cell? ⟨Y8, 3, none⟩ = some (.int .i64 0) ∧ V5.cell? ⟨Y8, 4, none⟩ = some (.int .i64 0))
                  obtain ⟨k0, k1, k2, k3, k4⟩ := (⟨HY8_5.out.frozen 0, HY8_5.out.frozen 1, HY8_5.out.frozen 2, HY8_5.out.frozen 3, HY8_5.out.frozen 4⟩ : V5.frozen? ⟨Y8, 0, none⟩ = false ∧ V5.frozen? ⟨Y8, 1, none⟩ = false ∧ V5.frozen? ⟨Y8, 2, none⟩ = false ∧ V5.frozen? ⟨Y8, 3, none⟩ = false ∧ V5.frozen? ⟨Y8, 4, none⟩ = false)
                  go_simp
                  refine hK.out _ _ (pe_mk (PE.put (a := b) hHeld.2.2.2.2.2.2.2.2.2.2.2.2 HNY8.out.1 HNY8.out.2.1 HNY8.out.2.2)) (fun hHeld1 => ?_)
                  clear hK K hHeld
                  have hHeld := hHeld1
                  clear hHeld1
                  try simp only [Act.put, List.getElem_toArray, List.getElem_cons_succ, List.getElem_cons_zero, List.setIfInBounds_toArray, List.set_cons_zero, List.set_cons_succ]
                  clear z0 z1 z2 z3 z4 k0 k1 k2 k3 k4
                  obtain ⟨V6, HW⟩ : ∃ Wx, Hid ((((((V5.setCell ⟨Y8, 0, none⟩ (.int .i64 b.frm)).setCell ⟨Y8, 1, none⟩ (.int .i64 b.to_)).setCell ⟨Y8, 2, none⟩ (.int .i64 b.tape)).setCell ⟨Y8, 3, none⟩ (.int .i64 b.comp)).setCell ⟨Y8, 4, none⟩ (.int .i64 b.slope)) = Wx) := ⟨_, Lib.hid rfl⟩
                  have HY7_6 := Lib.hid (show Blk V6 Y7 29 #[.int .i64 a.frm, .int .i64 a.to_, .int .i64 a.tape, .int .i64 a.comp, .int .i64 a.slope] from by rw [← HW.out]; exact (((((HY7_5.out.far (by first | exact hne | exact fun c => hne c.symm) _).far (by first | exact hne | exact fun c => hne c.symm) _).far (by first | exact hne | exact fun c => hne c.symm) _).far (by first | exact hne | exact fun c => hne c.symm) _).far (by first | exact hne | exact fun c => hne c.symm) _))
                  have HY8_6 := Lib.hid (show Blk V6 Y8 29 #[.int .i64 b.frm, .int .i64 b.to_, .int .i64 b.tape, .int .i64 b.comp, .int .i64 b.slope] from by rw [← HW.out]; exact ((((HY8_5.out.set_ 0 _).set_ 1 _).set_ 2 _).set_ 3 _).set_ 4 _)
                  rw [HW.out] at hHeld
                  rw [HW.out]
                  clear HW
                  refine wpAnyH_done (by kernel_rfl) ?_ _
                  have HZ := Lib.hid (hHeld.2.2.2.2.2.2.2.2.2.2.2.2)
                  clear hHeld
                  go_wp2_with fail
                  go_meet
                  case rel => exact ⟨Y7, Y8, rfl, rfl, HY7_6.out, HY8_6.out, HZ.out⟩
                · go_simp
                  have HNN := Lib.hid (PE.new (hHeld.2.2.2.2.2.2.2.2.2.2.2.2))
                  refine hK.out _ _ (pe_mk (hHeld.2.2.2.2.2.2.2.2.2.2.2.2.step ((Below.refl _ _).alloc (Nat.le_refl _) _))) (fun hHeld1 => ?_)
                  clear hK K hHeld
                  have hHeld := hHeld1
                  clear hHeld1
                  try simp only [Act.put, List.getElem_toArray, List.getElem_cons_succ, List.getElem_cons_zero, List.setIfInBounds_toArray, List.set_cons_zero, List.set_cons_succ]
                  obtain ⟨Y8, HYe⟩ : ∃ Y, Hid (V2.heap.size = Y) := ⟨_, Lib.hid rfl⟩
                  obtain ⟨V3, HW⟩ : ∃ Wx, Hid (V2.alloc (.cells #[.int .i64 0, .int .i64 0, .int .i64 0, .int .i64 0, .int .i64 0] 29) = Wx) := ⟨_, Lib.hid rfl⟩
                  have HNY8 := Lib.hid (HYe.out ▸ HNN.out : w.heap.size ≤ Y8 ∧ ¬ Y8 = X ∧ u4.ownBlock ≠ some Y8)
                  clear HNN
                  have HY8_3 := Lib.hid (show Blk V3 Y8 29 #[.int .i64 0, .int .i64 0, .int .i64 0, .int .i64 0, .int .i64 0] by rw [← HW.out, ← HYe.out]; exact Blk.new _ _ _)
                  rw [HW.out] at hHeld
                  rw [HW.out]
                  rw [HYe.out]
                  clear HW HYe
                  refine wpAnyH_ready (rs := [11]) (by kernel_rfl) (by simp) ?_
                  refine AllReadyH.cons rfl (fun K hK => ?_) AllReadyH.nil
                  go_simp
                  have HNN := Lib.hid (PE.new (hHeld.2.2.2.2.2.2.2.2.2.2.2.2))
                  refine hK.out _ _ (pe_mk (hHeld.2.2.2.2.2.2.2.2.2.2.2.2.step ((Below.refl _ _).alloc (Nat.le_refl _) _))) (fun hHeld1 => ?_)
                  clear hK K hHeld
                  have hHeld := hHeld1
                  clear hHeld1
                  try simp only [Act.put, List.getElem_toArray, List.getElem_cons_succ, List.getElem_cons_zero, List.setIfInBounds_toArray, List.set_cons_zero, List.set_cons_succ]
                  obtain ⟨Y7, HYe⟩ : ∃ Y, Hid (V3.heap.size = Y) := ⟨_, Lib.hid rfl⟩
                  obtain ⟨V4, HW⟩ : ∃ Wx, Hid (V3.alloc (.cells #[.int .i64 0, .int .i64 0, .int .i64 0, .int .i64 0, .int .i64 0] 29) = Wx) := ⟨_, Lib.hid rfl⟩
                  have HNY7 := Lib.hid (HYe.out ▸ HNN.out : w.heap.size ≤ Y7 ∧ ¬ Y7 = X ∧ u4.ownBlock ≠ some Y7)
                  clear HNN
                  have hne : ¬ Y7 = Y8 := by rw [← HYe.out]; have := HY8_3.out.lt; omega
                  have HY8_4 := Lib.hid (show Blk V4 Y8 29 #[.int .i64 0, .int .i64 0, .int .i64 0, .int .i64 0, .int .i64 0] from by rw [← HW.out]; exact HY8_3.out.alloc _)
                  have HY7_4 := Lib.hid (show Blk V4 Y7 29 #[.int .i64 0, .int .i64 0, .int .i64 0, .int .i64 0, .int .i64 0] by rw [← HW.out, ← HYe.out]; exact Blk.new _ _ _)
                  rw [HW.out] at hHeld
                  rw [HW.out]
                  rw [HYe.out]
                  clear HW HYe
                  refine wpAnyH_ready (rs := [13]) (by kernel_rfl) (by simp) ?_
                  refine AllReadyH.cons rfl (fun K hK => ?_) AllReadyH.nil
                  obtain ⟨z0, z1, z2, z3, z4⟩ := (⟨HY7_4.out.cell 0, HY7_4.out.cell 1, HY7_4.out.cell 2, HY7_4.out.cell 3, HY7_4.out.cell 4⟩ : V4.cell? ⟨Y7, 0, none⟩ = some (.int .i64 0) ∧ V4.cell? ⟨Y7, 1, none⟩ = some (.int .i64 0) ∧ V4.cell? ⟨Y7, 2, none⟩ = some (.int .i64 0) ∧ V4.cell? ⟨Y7, 3, none⟩ = some (.int .i64 0) ∧ V4.cell? ⟨Y7, 4, none⟩ = some (.int .i64 0))
                  obtain ⟨k0, k1, k2, k3, k4⟩ := (⟨HY7_4.out.frozen 0, HY7_4.out.frozen 1, HY7_4.out.frozen 2, HY7_4.out.frozen 3, HY7_4.out.frozen 4⟩ : V4.frozen? ⟨Y7, 0, none⟩ = false ∧ V4.frozen? ⟨Y7, 1, none⟩ = false ∧ V4.frozen? ⟨Y7, 2, none⟩ = false ∧ V4.frozen? ⟨Y7, 3, none⟩ = false ∧ V4.frozen? ⟨Y7, 4, none⟩ = false)
                  go_simp
                  refine hK.out _ _ (pe_mk (PE.put (a := a) hHeld.2.2.2.2.2.2.2.2.2.2.2.2 HNY7.out.1 HNY7.out.2.1 HNY7.out.2.2)) (fun hHeld1 => ?_)
                  clear hK K hHeld
                  have hHeld := hHeld1
                  clear hHeld1
                  try simp only [Act.put, List.getElem_toArray, List.getElem_cons_succ, List.getElem_cons_zero, List.setIfInBounds_toArray, List.set_cons_zero, List.set_cons_succ]
                  clear z0 z1 z2 z3 z4 k0 k1 k2 k3 k4
                  obtain ⟨V5, HW⟩ : ∃ Wx, Hid ((((((V4.setCell ⟨Y7, 0, none⟩ (.int .i64 a.frm)).setCell ⟨Y7, 1, none⟩ (.int .i64 a.to_)).setCell ⟨Y7, 2, none⟩ (.int .i64 a.tape)).setCell ⟨Y7, 3, none⟩ (.int .i64 a.comp)).setCell ⟨Y7, 4, none⟩ (.int .i64 a.slope)) = Wx) := ⟨_, Lib.hid rfl⟩
                  have HY7_5 := Lib.hid (show Blk V5 Y7 29 #[.int .i64 a.frm, .int .i64 a.to_, .int .i64 a.tape, .int .i64 a.comp, .int .i64 a.slope] from by rw [← HW.out]; exact ((((HY7_4.out.set_ 0 _).set_ 1 _).set_ 2 _).set_ 3 _).set_ 4 _)
                  have HY8_5 := Lib.hid (show Blk V5 Y8 29 #[.int .i64 0, .int .i64 0, .int .i64 0, .int .i64 0, .int .i64 0] from by rw [← HW.out]; exact (((((HY8_4.out.far (by first | exact hne | exact fun c => hne c.symm) _).far (by first | exact hne | exact fun c => hne c.symm) _).far (by first | exact hne | exact fun c => hne c.symm) _).far (by first | exact hne | exact fun c => hne c.symm) _).far (by first | exact hne | exact fun c => hne c.symm) _))
                  rw [HW.out] at hHeld
                  rw [HW.out]
                  clear HW
                  refine wpAnyH_ready (rs := [14]) (by kernel_rfl) (by simp) ?_
                  refine AllReadyH.cons rfl (fun K hK => ?_) AllReadyH.nil
                  obtain ⟨z0, z1, z2, z3, z4⟩ := (⟨HY8_5.out.cell 0, HY8_5.out.cell 1, HY8_5.out.cell 2, HY8_5.out.cell 3, HY8_5.out.cell 4⟩ : V5.cell? ⟨Y8, 0, none⟩ = some (.int .i64 0) ∧ V5.cell? ⟨Y8, 1, none⟩ = some (.int .i64 0) ∧ V5.cell? ⟨Y8, 2, none⟩ = some (.int .i64 0) ∧ V5.cell? ⟨Y8, 3, none⟩ = some (.int .i64 0) ∧ V5.cell? ⟨Y8, 4, none⟩ = some (.int .i64 0))
                  obtain ⟨k0, k1, k2, k3, k4⟩ := (⟨HY8_5.out.frozen 0, HY8_5.out.frozen 1, HY8_5.out.frozen 2, HY8_5.out.frozen 3, HY8_5.out.frozen 4⟩ : V5.frozen? ⟨Y8, 0, none⟩ = false ∧ V5.frozen? ⟨Y8, 1, none⟩ = false ∧ V5.frozen? ⟨Y8, 2, none⟩ = false ∧ V5.frozen? ⟨Y8, 3, none⟩ = false ∧ V5.frozen? ⟨Y8, 4, none⟩ = false)
                  go_simp
                  refine hK.out _ _ (pe_mk (PE.put (a := b) hHeld.2.2.2.2.2.2.2.2.2.2.2.2 HNY8.out.1 HNY8.out.2.1 HNY8.out.2.2)) (fun hHeld1 => ?_)
                  clear hK K hHeld
                  have hHeld := hHeld1
                  clear hHeld1
                  try simp only [Act.put, List.getElem_toArray, List.getElem_cons_succ, List.getElem_cons_zero, List.setIfInBounds_toArray, List.set_cons_zero, List.set_cons_succ]
                  clear z0 z1 z2 z3 z4 k0 k1 k2 k3 k4
                  obtain ⟨V6, HW⟩ : ∃ Wx, Hid ((((((V5.setCell ⟨Y8, 0, none⟩ (.int .i64 b.frm)).setCell ⟨Y8, 1, none⟩ (.int .i64 b.to_)).setCell ⟨Y8, 2, none⟩ (.int .i64 b.tape)).setCell ⟨Y8, 3, none⟩ (.int .i64 b.comp)).setCell ⟨Y8, 4, none⟩ (.int .i64 b.slope)) = Wx) := ⟨_, Lib.hid rfl⟩
                  have HY7_6 := Lib.hid (show Blk V6 Y7 29 #[.int .i64 a.frm, .int .i64 a.to_, .int .i64 a.tape, .int .i64 a.comp, .int .i64 a.slope] from by rw [← HW.out]; exact (((((HY7_5.out.far (by first | exact hne | exact fun c => hne c.symm) _).far (by first | exact hne | exact fun c => hne c.symm) _).far (by first | exact hne | exact fun c => hne c.symm) _).far (by first | exact hne | exact fun c => hne c.symm) _).far (by first | exact hne | exact fun c => hne c.symm) _))
                  have HY8_6 := Lib.hid (show Blk V6 Y8 29 #[.int .i64 b.frm, .int .i64 b.to_, .int .i64 b.tape, .int .i64 b.comp, .int .i64 b.slope] from by rw [← HW.out]; exact ((((HY8_5.out.set_ 0 _).set_ 1 _).set_ 2 _).set_ 3 _).set_ 4 _)
                  rw [HW.out] at hHeld
                  rw [HW.out]
                  clear HW
                  refine wpAnyH_done (by kernel_rfl) ?_ _
                  have HZ := Lib.hid (hHeld.2.2.2.2.2.2.2.2.2.2.2.2)
                  clear hHeld
                  go_wp2_with fail
                  go_meet
                  case rel => exact ⟨Y7, Y8, rfl, rfl, HY7_6.out, HY8_6.out, HZ.out⟩
              · go_simp
                have HNN := Lib.hid (PE.new (hHeld.2.2.2.2.2.2.2.2.2.2.2.2))
                refine hK.out _ _ (pe_mk (hHeld.2.2.2.2.2.2.2.2.2.2.2.2.step ((Below.refl _ _).alloc (Nat.le_refl _) _))) (fun hHeld1 => ?_)
                clear hK K hHeld
                have hHeld := hHeld1
                clear hHeld1
                try simp only [Act.put, List.getElem_toArray, List.getElem_cons_succ, List.getElem_cons_zero, List.setIfInBounds_toArray, List.set_cons_zero, List.set_cons_succ]
                obtain ⟨Y7, HYe⟩ : ∃ Y, Hid (V1.heap.size = Y) := ⟨_, Lib.hid rfl⟩
                obtain ⟨V2, HW⟩ : ∃ Wx, Hid (V1.alloc (.cells #[.int .i64 0, .int .i64 0, .int .i64 0, .int .i64 0, .int .i64 0] 29) = Wx) := ⟨_, Lib.hid rfl⟩
                have HNY7 := Lib.hid (HYe.out ▸ HNN.out : w.heap.size ≤ Y7 ∧ ¬ Y7 = X ∧ u4.ownBlock ≠ some Y7)
                clear HNN
                have HY7_2 := Lib.hid (show Blk V2 Y7 29 #[.int .i64 0, .int .i64 0, .int .i64 0, .int .i64 0, .int .i64 0] by rw [← HW.out, ← HYe.out]; exact Blk.new _ _ _)
                rw [HW.out] at hHeld
                rw [HW.out]
                rw [HYe.out]
                clear HW HYe
                refine wpAnyH_ready (rs := [10, 12]) (by kernel_rfl) (by simp) ?_
                refine AllReadyH.cons rfl (fun K hK => ?_) (AllReadyH.cons rfl (fun K hK => ?_) AllReadyH.nil)
                · go_simp
                  refine (turned_is t u.frm b HBB _ HOT).mono ?_
                  rintro e V3 ⟨rfl, bb⟩
                  have HY7_3 := Lib.hid (show Blk V3 Y7 29 #[.int .i64 0, .int .i64 0, .int .i64 0, .int .i64 0, .int .i64 0] from HY7_2.out.below bb HY7_2.out.lt)
                  refine hK.out _ _ (pe_mk (hHeld.2.2.2.2.2.2.2.2.2.2.2.2.step bb)) (fun hHeld1 => ?_)
                  clear bb
                  clear hK K hHeld
                  have hHeld := hHeld1
                  clear hHeld1
                  try simp only [Act.put, List.getElem_toArray, List.getElem_cons_succ, List.getElem_cons_zero, List.setIfInBounds_toArray, List.set_cons_zero, List.set_cons_succ]
                  refine wpAnyH_ready (rs := [12]) (by kernel_rfl) (by simp) ?_
                  refine AllReadyH.cons rfl (fun K hK => ?_) AllReadyH.nil
                  go_simp
                  have HNN := Lib.hid (PE.new (hHeld.2.2.2.2.2.2.2.2.2.2.2.2))
                  refine hK.out _ _ (pe_mk (hHeld.2.2.2.2.2.2.2.2.2.2.2.2.step ((Below.refl _ _).alloc (Nat.le_refl _) _))) (fun hHeld1 => ?_)
                  clear hK K hHeld
                  have hHeld := hHeld1
                  clear hHeld1
                  try simp only [Act.put, List.getElem_toArray, List.getElem_cons_succ, List.getElem_cons_zero, List.setIfInBounds_toArray, List.set_cons_zero, List.set_cons_succ]
                  obtain ⟨Y8, HYe⟩ : ∃ Y, Hid (V3.heap.size = Y) := ⟨_, Lib.hid rfl⟩
                  obtain ⟨V4, HW⟩ : ∃ Wx, Hid (V3.alloc (.cells #[.int .i64 0, .int .i64 0, .int .i64 0, .int .i64 0, .int .i64 0] 29) = Wx) := ⟨_, Lib.hid rfl⟩
                  have HNY8 := Lib.hid (HYe.out ▸ HNN.out : w.heap.size ≤ Y8 ∧ ¬ Y8 = X ∧ u4.ownBlock ≠ some Y8)
                  clear HNN
                  have hne : ¬ Y7 = Y8 := by rw [← HYe.out]; have := HY7_3.out.lt; omega
                  have HY7_4 := Lib.hid (show Blk V4 Y7 29 #[.int .i64 0, .int .i64 0, .int .i64 0, .int .i64 0, .int .i64 0] from by rw [← HW.out]; exact HY7_3.out.alloc _)
                  have HY8_4 := Lib.hid (show Blk V4 Y8 29 #[.int .i64 0, .int .i64 0, .int .i64 0, .int .i64 0, .int .i64 0] by rw [← HW.out, ← HYe.out]; exact Blk.new _ _ _)
                  rw [HW.out] at hHeld
                  rw [HW.out]
                  rw [HYe.out]
                  clear HW HYe
                  refine wpAnyH_ready (rs := [13]) (by kernel_rfl) (by simp) ?_
                  refine AllReadyH.cons rfl (fun K hK => ?_) AllReadyH.nil
                  obtain ⟨z0, z1, z2, z3, z4⟩ := (⟨HY7_4.out.cell 0, HY7_4.out.cell 1, HY7_4.out.cell 2, HY7_4.out.cell 3, HY7_4.out.cell 4⟩ : V4.cell? ⟨Y7, 0, none⟩ = some (.int .i64 0) ∧ V4.cell? ⟨Y7, 1, none⟩ = some (.int .i64 0) ∧ V4.cell? ⟨Y7, 2, none⟩ = some (.int .i64 0) ∧ V4.cell? ⟨Y7, 3, none⟩ = some (.int .i64 0) ∧ V4.cell? ⟨Y7, 4, none⟩ = some (.int .i64 0))
                  obtain ⟨k0, k1, k2, k3, k4⟩ := (⟨HY7_4.out.frozen 0, HY7_4.out.frozen 1, HY7_4.out.frozen 2, HY7_4.out.frozen 3, HY7_4.out.frozen 4⟩ : V4.frozen? ⟨Y7, 0, none⟩ = false ∧ V4.frozen? ⟨Y7, 1, none⟩ = false ∧ V4.frozen? ⟨Y7, 2, none⟩ = false ∧ V4.frozen? ⟨Y7, 3, none⟩ = false ∧ V4.frozen? ⟨Y7, 4, none⟩ = false)
                  go_simp
                  refine hK.out _ _ (pe_mk (PE.put (a := a) hHeld.2.2.2.2.2.2.2.2.2.2.2.2 HNY7.out.1 HNY7.out.2.1 HNY7.out.2.2)) (fun hHeld1 => ?_)
                  clear hK K hHeld
                  have hHeld := hHeld1
                  clear hHeld1
                  try simp only [Act.put, List.getElem_toArray, List.getElem_cons_succ, List.getElem_cons_zero, List.setIfInBounds_toArray, List.set_cons_zero, List.set_cons_succ]
                  clear z0 z1 z2 z3 z4 k0 k1 k2 k3 k4
                  obtain ⟨V5, HW⟩ : ∃ Wx, Hid ((((((V4.setCell ⟨Y7, 0, none⟩ (.int .i64 a.frm)).setCell ⟨Y7, 1, none⟩ (.int .i64 a.to_)).setCell ⟨Y7, 2, none⟩ (.int .i64 a.tape)).setCell ⟨Y7, 3, none⟩ (.int .i64 a.comp)).setCell ⟨Y7, 4, none⟩ (.int .i64 a.slope)) = Wx) := ⟨_, Lib.hid rfl⟩
                  have HY7_5 := Lib.hid (show Blk V5 Y7 29 #[.int .i64 a.frm, .int .i64 a.to_, .int .i64 a.tape, .int .i64 a.comp, .int .i64 a.slope] from by rw [← HW.out]; exact ((((HY7_4.out.set_ 0 _).set_ 1 _).set_ 2 _).set_ 3 _).set_ 4 _)
                  have HY8_5 := Lib.hid (show Blk V5 Y8 29 #[.int .i64 0, .int .i64 0, .int .i64 0, .int .i64 0, .int .i64 0] from by rw [← HW.out]; exact (((((HY8_4.out.far (by first | exact hne | exact fun c => hne c.symm) _).far (by first | exact hne | exact fun c => hne c.symm) _).far (by first | exact hne | exact fun c => hne c.symm) _).far (by first | exact hne | exact fun c => hne c.symm) _).far (by first | exact hne | exact fun c => hne c.symm) _))
                  rw [HW.out] at hHeld
                  rw [HW.out]
                  clear HW
                  refine wpAnyH_ready (rs := [14]) (by kernel_rfl) (by simp) ?_
                  refine AllReadyH.cons rfl (fun K hK => ?_) AllReadyH.nil
                  obtain ⟨z0, z1, z2, z3, z4⟩ := (⟨HY8_5.out.cell 0, HY8_5.out.cell 1, HY8_5.out.cell 2, HY8_5.out.cell 3, HY8_5.out.cell 4⟩ : V5.cell? ⟨Y8, 0, none⟩ = some (.int .i64 0) ∧ V5.cell? ⟨Y8, 1, none⟩ = some (.int .i64 0) ∧ V5.cell? ⟨Y8, 2, none⟩ = some (.int .i64 0) ∧ V5.cell? ⟨Y8, 3, none⟩ = some (.int .i64 0) ∧ V5.cell? ⟨Y8, 4, none⟩ = some (.int .i64 0))
                  obtain ⟨k0, k1, k2, k3, k4⟩ := (⟨HY8_5.out.frozen 0, HY8_5.out.frozen 1, HY8_5.out.frozen 2, HY8_5.out.frozen 3, HY8_5.out.frozen 4⟩ : V5.frozen? ⟨Y8, 0, none⟩ = false ∧ V5.frozen? ⟨Y8, 1, none⟩ = false ∧ V5.frozen? ⟨Y8, 2, none⟩ = false ∧ V5.frozen? ⟨Y8, 3, none⟩ = false ∧ V5.frozen? ⟨Y8, 4, none⟩ = false)
                  go_simp
                  refine hK.out _ _ (pe_mk (PE.put (a := b) hHeld.2.2.2.2.2.2.2.2.2.2.2.2 HNY8.out.1 HNY8.out.2.1 HNY8.out.2.2)) (fun hHeld1 => ?_)
                  clear hK K hHeld
                  have hHeld := hHeld1
                  clear hHeld1
                  try simp only [Act.put, List.getElem_toArray, List.getElem_cons_succ, List.getElem_cons_zero, List.setIfInBounds_toArray, List.set_cons_zero, List.set_cons_succ]
                  clear z0 z1 z2 z3 z4 k0 k1 k2 k3 k4
                  obtain ⟨V6, HW⟩ : ∃ Wx, Hid ((((((V5.setCell ⟨Y8, 0, none⟩ (.int .i64 b.frm)).setCell ⟨Y8, 1, none⟩ (.int .i64 b.to_)).setCell ⟨Y8, 2, none⟩ (.int .i64 b.tape)).setCell ⟨Y8, 3, none⟩ (.int .i64 b.comp)).setCell ⟨Y8, 4, none⟩ (.int .i64 b.slope)) = Wx) := ⟨_, Lib.hid rfl⟩
                  have HY7_6 := Lib.hid (show Blk V6 Y7 29 #[.int .i64 a.frm, .int .i64 a.to_, .int .i64 a.tape, .int .i64 a.comp, .int .i64 a.slope] from by rw [← HW.out]; exact (((((HY7_5.out.far (by first | exact hne | exact fun c => hne c.symm) _).far (by first | exact hne | exact fun c => hne c.symm) _).far (by first | exact hne | exact fun c => hne c.symm) _).far (by first | exact hne | exact fun c => hne c.symm) _).far (by first | exact hne | exact fun c => hne c.symm) _))
                  have HY8_6 := Lib.hid (show Blk V6 Y8 29 #[.int .i64 b.frm, .int .i64 b.to_, .int .i64 b.tape, .int .i64 b.comp, .int .i64 b.slope] from by rw [← HW.out]; exact ((((HY8_5.out.set_ 0 _).set_ 1 _).set_ 2 _).set_ 3 _).set_ 4 _)
                  rw [HW.out] at hHeld
                  rw [HW.out]
                  clear HW
                  refine wpAnyH_done (by kernel_rfl) ?_ _
                  have HZ := Lib.hid (hHeld.2.2.2.2.2.2.2.2.2.2.2.2)
                  clear hHeld
                  go_wp2_with fail
                  go_meet
                  case rel => exact ⟨Y7, Y8, rfl, rfl, HY7_6.out, HY8_6.out, HZ.out⟩
                · go_simp
                  have HNN := Lib.hid (PE.new (hHeld.2.2.2.2.2.2.2.2.2.2.2.2))
                  refine hK.out _ _ (pe_mk (hHeld.2.2.2.2.2.2.2.2.2.2.2.2.step ((Below.refl _ _).alloc (Nat.le_refl _) _))) (fun hHeld1 => ?_)
                  clear hK K hHeld
                  have hHeld := hHeld1
                  clear hHeld1
                  try simp only [Act.put, List.getElem_toArray, List.getElem_cons_succ, List.getElem_cons_zero, List.setIfInBounds_toArray, List.set_cons_zero, List.set_cons_succ]
                  obtain ⟨Y8, HYe⟩ : ∃ Y, Hid (V2.heap.size = Y) := ⟨_, Lib.hid rfl⟩
                  obtain ⟨V3, HW⟩ : ∃ Wx, Hid (V2.alloc (.cells #[.int .i64 0, .int .i64 0, .int .i64 0, .int .i64 0, .int .i64 0] 29) = Wx) := ⟨_, Lib.hid rfl⟩
                  have HNY8 := Lib.hid (HYe.out ▸ HNN.out : w.heap.size ≤ Y8 ∧ ¬ Y8 = X ∧ u4.ownBlock ≠ some Y8)
                  clear HNN
                  have hne : ¬ Y7 = Y8 := by rw [← HYe.out]; have := HY7_2.out.lt; omega
                  have HY7_3 := Lib.hid (show Blk V3 Y7 29 #[.int .i64 0, .int .i64 0, .int .i64 0, .int .i64 0, .int .i64 0] from by rw [← HW.out]; exact HY7_2.out.alloc _)
                  have HY8_3 := Lib.hid (show Blk V3 Y8 29 #[.int .i64 0, .int .i64 0, .int .i64 0, .int .i64 0, .int .i64 0] by rw [← HW.out, ← HYe.out]; exact Blk.new _ _ _)
                  rw [HW.out] at hHeld
                  rw [HW.out]
                  rw [HYe.out]
                  clear HW HYe
                  refine wpAnyH_ready (rs := [10]) (by kernel_rfl) (by simp) ?_
                  refine AllReadyH.cons rfl (fun K hK => ?_) AllReadyH.nil
                  go_simp
                  refine (turned_is t u.frm b HBB _ HOT).mono ?_
                  rintro e V4 ⟨rfl, bb⟩
                  have HY7_4 := Lib.hid (show Blk V4 Y7 29 #[.int .i64 0, .int .i64 0, .int .i64 0, .int .i64 0, .int .i64 0] from HY7_3.out.below bb HY7_3.out.lt)
                  have HY8_4 := Lib.hid (show Blk V4 Y8 29 #[.int .i64 0, .int .i64 0, .int .i64 0, .int .i64 0, .int .i64 0] from HY8_3.out.below bb HY8_3.out.lt)
                  refine hK.out _ _ (pe_mk (hHeld.2.2.2.2.2.2.2.2.2.2.2.2.step bb)) (fun hHeld1 => ?_)
                  clear bb
                  clear hK K hHeld
                  have hHeld := hHeld1
                  clear hHeld1
                  try simp only [Act.put, List.getElem_toArray, List.getElem_cons_succ, List.getElem_cons_zero, List.setIfInBounds_toArray, List.set_cons_zero, List.set_cons_succ]
                  refine wpAnyH_ready (rs := [13]) (by kernel_rfl) (by simp) ?_
                  refine AllReadyH.cons rfl (fun K hK => ?_) AllReadyH.nil
                  obtain ⟨z0, z1, z2, z3, z4⟩ := (⟨HY7_4.out.cell 0, HY7_4.out.cell 1, HY7_4.out.cell 2, HY7_4.out.cell 3, HY7_4.out.cell 4⟩ : V4.cell? ⟨Y7, 0, none⟩ = some (.int .i64 0) ∧ V4.cell? ⟨Y7, 1, none⟩ = some (.int .i64 0) ∧ V4.cell? ⟨Y7, 2, none⟩ = some (.int .i64 0) ∧ V4.cell? ⟨Y7, 3, none⟩ = some (.int .i64 0) ∧ V4.cell? ⟨Y7, 4, none⟩ = some (.int .i64 0))
                  obtain ⟨k0, k1, k2, k3, k4⟩ := (⟨HY7_4.out.frozen 0, HY7_4.out.frozen 1, HY7_4.out.frozen 2, HY7_4.out.frozen 3, HY7_4.out.frozen 4⟩ : V4.frozen? ⟨Y7, 0, none⟩ = false ∧ V4.frozen? ⟨Y7, 1, none⟩ = false ∧ V4.frozen? ⟨Y7, 2, none⟩ = false ∧ V4.frozen? ⟨Y7, 3, none⟩ = false ∧ V4.frozen? ⟨Y7, 4, none⟩ = false)
                  go_simp
                  refine hK.out _ _ (pe_mk (PE.put (a := a) hHeld.2.2.2.2.2.2.2.2.2.2.2.2 HNY7.out.1 HNY7.out.2.1 HNY7.out.2.2)) (fun hHeld1 => ?_)
                  clear hK K hHeld
                  have hHeld := hHeld1
                  clear hHeld1
                  try simp only [Act.put, List.getElem_toArray, List.getElem_cons_succ, List.getElem_cons_zero, List.setIfInBounds_toArray, List.set_cons_zero, List.set_cons_succ]
                  clear z0 z1 z2 z3 z4 k0 k1 k2 k3 k4
                  obtain ⟨V5, HW⟩ : ∃ Wx, Hid ((((((V4.setCell ⟨Y7, 0, none⟩ (.int .i64 a.frm)).setCell ⟨Y7, 1, none⟩ (.int .i64 a.to_)).setCell ⟨Y7, 2, none⟩ (.int .i64 a.tape)).setCell ⟨Y7, 3, none⟩ (.int .i64 a.comp)).setCell ⟨Y7, 4, none⟩ (.int .i64 a.slope)) = Wx) := ⟨_, Lib.hid rfl⟩
                  have HY7_5 := Lib.hid (show Blk V5 Y7 29 #[.int .i64 a.frm, .int .i64 a.to_, .int .i64 a.tape, .int .i64 a.comp, .int .i64 a.slope] from by rw [← HW.out]; exact ((((HY7_4.out.set_ 0 _).set_ 1 _).set_ 2 _).set_ 3 _).set_ 4 _)
                  have HY8_5 := Lib.hid (show Blk V5 Y8 29 #[.int .i64 0, .int .i64 0, .int .i64 0, .int .i64 0, .int .i64 0] from by rw [← HW.out]; exact (((((HY8_4.out.far (by first | exact hne | exact fun c => hne c.symm) _).far (by first | exact hne | exact fun c => hne c.symm) _).far (by first | exact hne | exact fun c => hne c.symm) _).far (by first | exact hne | exact fun c => hne c.symm) _).far (by first | exact hne | exact fun c => hne c.symm) _))
                  rw [HW.out] at hHeld
                  rw [HW.out]
                  clear HW
                  refine wpAnyH_ready (rs := [14]) (by kernel_rfl) (by simp) ?_
                  refine AllReadyH.cons rfl (fun K hK => ?_) AllReadyH.nil
                  obtain ⟨z0, z1, z2, z3, z4⟩ := (⟨HY8_5.out.cell 0, HY8_5.out.cell 1, HY8_5.out.cell 2, HY8_5.out.cell 3, HY8_5.out.cell 4⟩ : V5.cell? ⟨Y8, 0, none⟩ = some (.int .i64 0) ∧ V5.cell? ⟨Y8, 1, none⟩ = some (.int .i64 0) ∧ V5.cell? ⟨Y8, 2, none⟩ = some (.int .i64 0) ∧ V5.cell? ⟨Y8, 3, none⟩ = some (.int .i64 0) ∧ V5.cell? ⟨Y8, 4, none⟩ = some (.int .i64 0))
                  obtain ⟨k0, k1, k2, k3, k4⟩ := (⟨HY8_5.out.frozen 0, HY8_5.out.frozen 1, HY8_5.out.frozen 2, HY8_5.out.frozen 3, HY8_5.out.frozen 4⟩ : V5.frozen? ⟨Y8, 0, none⟩ = false ∧ V5.frozen? ⟨Y8, 1, none⟩ = false ∧ V5.frozen? ⟨Y8, 2, none⟩ = false ∧ V5.frozen? ⟨Y8, 3, none⟩ = false ∧ V5.frozen? ⟨Y8, 4, none⟩ = false)
                  go_simp
                  refine hK.out _ _ (pe_mk (PE.put (a := b) hHeld.2.2.2.2.2.2.2.2.2.2.2.2 HNY8.out.1 HNY8.out.2.1 HNY8.out.2.2)) (fun hHeld1 => ?_)
                  clear hK K hHeld
                  have hHeld := hHeld1
                  clear hHeld1
                  try simp only [Act.put, List.getElem_toArray, List.getElem_cons_succ, List.getElem_cons_zero, List.setIfInBounds_toArray, List.set_cons_zero, List.set_cons_succ]
                  clear z0 z1 z2 z3 z4 k0 k1 k2 k3 k4
                  obtain ⟨V6, HW⟩ : ∃ Wx, Hid ((((((V5.setCell ⟨Y8, 0, none⟩ (.int .i64 b.frm)).setCell ⟨Y8, 1, none⟩ (.int .i64 b.to_)).setCell ⟨Y8, 2, none⟩ (.int .i64 b.tape)).setCell ⟨Y8, 3, none⟩ (.int .i64 b.comp)).setCell ⟨Y8, 4, none⟩ (.int .i64 b.slope)) = Wx) := ⟨_, Lib.hid rfl⟩
                  have HY7_6 := Lib.hid (show Blk V6 Y7 29 #[.int .i64 a.frm, .int .i64 a.to_, .int .i64 a.tape, .int .i64 a.comp, .int .i64 a.slope] from by rw [← HW.out]; exact (((((HY7_5.out.far (by first | exact hne | exact fun c => hne c.symm) _).far (by first | exact hne | exact fun c => hne c.symm) _).far (by first | exact hne | exact fun c => hne c.symm) _).far (by first | exact hne | exact fun c => hne c.symm) _).far (by first | exact hne | exact fun c => hne c.symm) _))
                  have HY8_6 := Lib.hid (show Blk V6 Y8 29 #[.int .i64 b.frm, .int .i64 b.to_, .int .i64 b.tape, .int .i64 b.comp, .int .i64 b.slope] from by rw [← HW.out]; exact ((((HY8_5.out.set_ 0 _).set_ 1 _).set_ 2 _).set_ 3 _).set_ 4 _)
                  rw [HW.out] at hHeld
                  rw [HW.out]
                  clear HW
                  refine wpAnyH_done (by kernel_rfl) ?_ _
                  have HZ := Lib.hid (hHeld.2.2.2.2.2.2.2.2.2.2.2.2)
                  clear hHeld
                  go_wp2_with fail
                  go_meet
                  case rel => exact ⟨Y7, Y8, rfl, rfl, HY7_6.out, HY8_6.out, HZ.out⟩
              · go_simp
                have HNN := Lib.hid (PE.new (hHeld.2.2.2.2.2.2.2.2.2.2.2.2))
                refine hK.out _ _ (pe_mk (hHeld.2.2.2.2.2.2.2.2.2.2.2.2.step ((Below.refl _ _).alloc (Nat.le_refl _) _))) (fun hHeld1 => ?_)
                clear hK K hHeld
                have hHeld := hHeld1
                clear hHeld1
                try simp only [Act.put, List.getElem_toArray, List.getElem_cons_succ, List.getElem_cons_zero, List.setIfInBounds_toArray, List.set_cons_zero, List.set_cons_succ]
                obtain ⟨Y8, HYe⟩ : ∃ Y, Hid (V1.heap.size = Y) := ⟨_, Lib.hid rfl⟩
                obtain ⟨V2, HW⟩ : ∃ Wx, Hid (V1.alloc (.cells #[.int .i64 0, .int .i64 0, .int .i64 0, .int .i64 0, .int .i64 0] 29) = Wx) := ⟨_, Lib.hid rfl⟩
                have HNY8 := Lib.hid (HYe.out ▸ HNN.out : w.heap.size ≤ Y8 ∧ ¬ Y8 = X ∧ u4.ownBlock ≠ some Y8)
                clear HNN
                have HY8_2 := Lib.hid (show Blk V2 Y8 29 #[.int .i64 0, .int .i64 0, .int .i64 0, .int .i64 0, .int .i64 0] by rw [← HW.out, ← HYe.out]; exact Blk.new _ _ _)
                rw [HW.out] at hHeld
                rw [HW.out]
                rw [HYe.out]
                clear HW HYe
                refine wpAnyH_ready (rs := [10, 11]) (by kernel_rfl) (by simp) ?_
                refine AllReadyH.cons rfl (fun K hK => ?_) (AllReadyH.cons rfl (fun K hK => ?_) AllReadyH.nil)
                · go_simp
                  refine (turned_is t u.frm b HBB _ HOT).mono ?_
                  rintro e V3 ⟨rfl, bb⟩
                  have HY8_3 := Lib.hid (show Blk V3 Y8 29 #[.int .i64 0, .int .i64 0, .int .i64 0, .int .i64 0, .int .i64 0] from HY8_2.out.below bb HY8_2.out.lt)
                  refine hK.out _ _ (pe_mk (hHeld.2.2.2.2.2.2.2.2.2.2.2.2.step bb)) (fun hHeld1 => ?_)
                  clear bb
                  clear hK K hHeld
                  have hHeld := hHeld1
                  clear hHeld1
                  try simp only [Act.put, List.getElem_toArray, List.getElem_cons_succ, List.getElem_cons_zero, List.setIfInBounds_toArray, List.set_cons_zero, List.set_cons_succ]
                  refine wpAnyH_ready (rs := [11]) (by kernel_rfl) (by simp) ?_
                  refine AllReadyH.cons rfl (fun K hK => ?_) AllReadyH.nil
                  go_simp
                  have HNN := Lib.hid (PE.new (hHeld.2.2.2.2.2.2.2.2.2.2.2.2))
                  refine hK.out _ _ (pe_mk (hHeld.2.2.2.2.2.2.2.2.2.2.2.2.step ((Below.refl _ _).alloc (Nat.le_refl _) _))) (fun hHeld1 => ?_)
                  clear hK K hHeld
                  have hHeld := hHeld1
                  clear hHeld1
                  try simp only [Act.put, List.getElem_toArray, List.getElem_cons_succ, List.getElem_cons_zero, List.setIfInBounds_toArray, List.set_cons_zero, List.set_cons_succ]
                  obtain ⟨Y7, HYe⟩ : ∃ Y, Hid (V3.heap.size = Y) := ⟨_, Lib.hid rfl⟩
                  obtain ⟨V4, HW⟩ : ∃ Wx, Hid (V3.alloc (.cells #[.int .i64 0, .int .i64 0, .int .i64 0, .int .i64 0, .int .i64 0] 29) = Wx) := ⟨_, Lib.hid rfl⟩
                  have HNY7 := Lib.hid (HYe.out ▸ HNN.out : w.heap.size ≤ Y7 ∧ ¬ Y7 = X ∧ u4.ownBlock ≠ some Y7)
                  clear HNN
                  have hne : ¬ Y7 = Y8 := by rw [← HYe.out]; have := HY8_3.out.lt; omega
                  have HY8_4 := Lib.hid (show Blk V4 Y8 29 #[.int .i64 0, .int .i64 0, .int .i64 0, .int .i64 0, .int .i64 0] from by rw [← HW.out]; exact HY8_3.out.alloc _)
                  have HY7_4 := Lib.hid (show Blk V4 Y7 29 #[.int .i64 0, .int .i64 0, .int .i64 0, .int .i64 0, .int .i64 0] by rw [← HW.out, ← HYe.out]; exact Blk.new _ _ _)
                  rw [HW.out] at hHeld
                  rw [HW.out]
                  rw [HYe.out]
                  clear HW HYe
                  refine wpAnyH_ready (rs := [13]) (by kernel_rfl) (by simp) ?_
                  refine AllReadyH.cons rfl (fun K hK => ?_) AllReadyH.nil
                  obtain ⟨z0, z1, z2, z3, z4⟩ := (⟨HY7_4.out.cell 0, HY7_4.out.cell 1, HY7_4.out.cell 2, HY7_4.out.cell 3, HY7_4.out.cell 4⟩ : V4.cell? ⟨Y7, 0, none⟩ = some (.int .i64 0) ∧ V4.cell? ⟨Y7, 1, none⟩ = some (.int .i64 0) ∧ V4.cell? ⟨Y7, 2, none⟩ = some (.int .i64 0) ∧ V4.cell? ⟨Y7, 3, none⟩ = some (.int .i64 0) ∧ V4.cell? ⟨Y7, 4, none⟩ = some (.int .i64 0))
                  obtain ⟨k0, k1, k2, k3, k4⟩ := (⟨HY7_4.out.frozen 0, HY7_4.out.frozen 1, HY7_4.out.frozen 2, HY7_4.out.frozen 3, HY7_4.out.frozen 4⟩ : V4.frozen? ⟨Y7, 0, none⟩ = false ∧ V4.frozen? ⟨Y7, 1, none⟩ = false ∧ V4.frozen? ⟨Y7, 2, none⟩ = false ∧ V4.frozen? ⟨Y7, 3, none⟩ = false ∧ V4.frozen? ⟨Y7, 4, none⟩ = false)
                  go_simp
                  refine hK.out _ _ (pe_mk (PE.put (a := a) hHeld.2.2.2.2.2.2.2.2.2.2.2.2 HNY7.out.1 HNY7.out.2.1 HNY7.out.2.2)) (fun hHeld1 => ?_)
                  clear hK K hHeld
                  have hHeld := hHeld1
                  clear hHeld1
                  try simp only [Act.put, List.getElem_toArray, List.getElem_cons_succ, List.getElem_cons_zero, List.setIfInBounds_toArray, List.set_cons_zero, List.set_cons_succ]
                  clear z0 z1 z2 z3 z4 k0 k1 k2 k3 k4
                  obtain ⟨V5, HW⟩ : ∃ Wx, Hid ((((((V4.setCell ⟨Y7, 0, none⟩ (.int .i64 a.frm)).setCell ⟨Y7, 1, none⟩ (.int .i64 a.to_)).setCell ⟨Y7, 2, none⟩ (.int .i64 a.tape)).setCell ⟨Y7, 3, none⟩ (.int .i64 a.comp)).setCell ⟨Y7, 4, none⟩ (.int .i64 a.slope)) = Wx) := ⟨_, Lib.hid rfl⟩
                  have HY7_5 := Lib.hid (show Blk V5 Y7 29 #[.int .i64 a.frm, .int .i64 a.to_, .int .i64 a.tape, .int .i64 a.comp, .int .i64 a.slope] from by rw [← HW.out]; exact ((((HY7_4.out.set_ 0 _).set_ 1 _).set_ 2 _).set_ 3 _).set_ 4 _)
                  have HY8_5 := Lib.hid (show Blk V5 Y8 29 #[.int .i64 0, .int .i64 0, .int .i64 0, .int .i64 0, .int .i64 0] from by rw [← HW.out]; exact (((((HY8_4.out.far (by first | exact hne | exact fun c => hne c.symm) _).far (by first | exact hne | exact fun c => hne c.symm) _).far (by first | exact hne | exact fun c => hne c.symm) _).far (by first | exact hne | exact fun c => hne c.symm) _).far (by first | exact hne | exact fun c => hne c.symm) _))
                  rw [HW.out] at hHeld
                  rw [HW.out]
                  clear HW
                  refine wpAnyH_ready (rs := [14]) (by kernel_rfl) (by simp) ?_
                  refine AllReadyH.cons rfl (fun K hK => ?_) AllReadyH.nil
                  obtain ⟨z0, z1, z2, z3, z4⟩ := (⟨HY8_5.out.cell 0, HY8_5.out.cell 1, HY8_5.out.cell 2, HY8_5.out.cell 3, HY8_5.out.cell 4⟩ : V5.cell? ⟨Y8, 0, none⟩ = some (.int .i64 0) ∧ V5.cell? ⟨Y8, 1, none⟩ = some (.int .i64 0) ∧ V5.cell? ⟨Y8, 2, none⟩ = some (.int .i64 0) ∧ V5.cell? ⟨Y8, 3, none⟩ = some (.int .i64 0) ∧ V5.cell? ⟨Y8, 4, none⟩ = some (.int .i64 0))
                  obtain ⟨k0, k1, k2, k3, k4⟩ := (⟨HY8_5.out.frozen 0, HY8_5.out.frozen 1, HY8_5.out.frozen 2, HY8_5.out.frozen 3, HY8_5.out.frozen 4⟩ : V5.frozen? ⟨Y8, 0, none⟩ = false ∧ V5.frozen? ⟨Y8, 1, none⟩ = false ∧ V5.frozen? ⟨Y8, 2, none⟩ = false ∧ V5.frozen? ⟨Y8, 3, none⟩ = false ∧ V5.frozen? ⟨Y8, 4, none⟩ = false)
                  go_simp
                  refine hK.out _ _ (pe_mk (PE.put (a := b) hHeld.2.2.2.2.2.2.2.2.2.2.2.2 HNY8.out.1 HNY8.out.2.1 HNY8.out.2.2)) (fun hHeld1 => ?_)
                  clear hK K hHeld
                  have hHeld := hHeld1
                  clear hHeld1
                  try simp only [Act.put, List.getElem_toArray, List.getElem_cons_succ, List.getElem_cons_zero, List.setIfInBounds_toArray, List.set_cons_zero, List.set_cons_succ]
                  clear z0 z1 z2 z3 z4 k0 k1 k2 k3 k4
                  obtain ⟨V6, HW⟩ : ∃ Wx, Hid ((((((V5.setCell ⟨Y8, 0, none⟩ (.int .i64 b.frm)).setCell ⟨Y8, 1, none⟩ (.int .i64 b.to_)).setCell ⟨Y8, 2, none⟩ (.int .i64 b.tape)).setCell ⟨Y8, 3, none⟩ (.int .i64 b.comp)).setCell ⟨Y8, 4, none⟩ (.int .i64 b.slope)) = Wx) := ⟨_, Lib.hid rfl⟩
                  have HY7_6 := Lib.hid (show Blk V6 Y7 29 #[.int .i64 a.frm, .int .i64 a.to_, .int .i64 a.tape, .int .i64 a.comp, .int .i64 a.slope] from by rw [← HW.out]; exact (((((HY7_5.out.far (by first | exact hne | exact fun c => hne c.symm) _).far (by first | exact hne | exact fun c => hne c.symm) _).far (by first | exact hne | exact fun c => hne c.symm) _).far (by first | exact hne | exact fun c => hne c.symm) _).far (by first | exact hne | exact fun c => hne c.symm) _))
                  have HY8_6 := Lib.hid (show Blk V6 Y8 29 #[.int .i64 b.frm, .int .i64 b.to_, .int .i64 b.tape, .int .i64 b.comp, .int .i64 b.slope] from by rw [← HW.out]; exact ((((HY8_5.out.set_ 0 _).set_ 1 _).set_ 2 _).set_ 3 _).set_ 4 _)
                  rw [HW.out] at hHeld
                  rw [HW.out]
                  clear HW
                  refine wpAnyH_done (by kernel_rfl) ?_ _
                  have HZ := Lib.hid (hHeld.2.2.2.2.2.2.2.2.2.2.2.2)
                  clear hHeld
                  go_wp2_with fail
                  go_meet
                  case rel => exact ⟨Y7, Y8, rfl, rfl, HY7_6.out, HY8_6.out, HZ.out⟩
                · go_simp
                  have HNN := Lib.hid (PE.new (hHeld.2.2.2.2.2.2.2.2.2.2.2.2))
                  refine hK.out _ _ (pe_mk (hHeld.2.2.2.2.2.2.2.2.2.2.2.2.step ((Below.refl _ _).alloc (Nat.le_refl _) _))) (fun hHeld1 => ?_)
                  clear hK K hHeld
                  have hHeld := hHeld1
                  clear hHeld1
                  try simp only [Act.put, List.getElem_toArray, List.getElem_cons_succ, List.getElem_cons_zero, List.setIfInBounds_toArray, List.set_cons_zero, List.set_cons_succ]
                  obtain ⟨Y7, HYe⟩ : ∃ Y, Hid (V2.heap.size = Y) := ⟨_, Lib.hid rfl⟩
                  obtain ⟨V3, HW⟩ : ∃ Wx, Hid (V2.alloc (.cells #[.int .i64 0, .int .i64 0, .int .i64 0, .int .i64 0, .int .i64 0] 29) = Wx) := ⟨_, Lib.hid rfl⟩
                  have HNY7 := Lib.hid (HYe.out ▸ HNN.out : w.heap.size ≤ Y7 ∧ ¬ Y7 = X ∧ u4.ownBlock ≠ some Y7)
                  clear HNN
                  have hne : ¬ Y7 = Y8 := by rw [← HYe.out]; have := HY8_2.out.lt; omega
                  have HY8_3 := Lib.hid (show Blk V3 Y8 29 #[.int .i64 0, .int .i64 0, .int .i64 0, .int .i64 0, .int .i64 0] from by rw [← HW.out]; exact HY8_2.out.alloc _)
                  have HY7_3 := Lib.hid (show Blk V3 Y7 29 #[.int .i64 0, .int .i64 0, .int .i64 0, .int .i64 0, .int .i64 0] by rw [← HW.out, ← HYe.out]; exact Blk.new _ _ _)
                  rw [HW.out] at hHeld
                  rw [HW.out]
                  rw [HYe.out]
                  clear HW HYe
                  refine wpAnyH_ready (rs := [10]) (by kernel_rfl) (by simp) ?_
                  refine AllReadyH.cons rfl (fun K hK => ?_) AllReadyH.nil
                  go_simp
                  refine (turned_is t u.frm b HBB _ HOT).mono ?_
                  rintro e V4 ⟨rfl, bb⟩
                  have HY7_4 := Lib.hid (show Blk V4 Y7 29 #[.int .i64 0, .int .i64 0, .int .i64 0, .int .i64 0, .int .i64 0] from HY7_3.out.below bb HY7_3.out.lt)
                  have HY8_4 := Lib.hid (show Blk V4 Y8 29 #[.int .i64 0, .int .i64 0, .int .i64 0, .int .i64 0, .int .i64 0] from HY8_3.out.below bb HY8_3.out.lt)
                  refine hK.out _ _ (pe_mk (hHeld.2.2.2.2.2.2.2.2.2.2.2.2.step bb)) (fun hHeld1 => ?_)
                  clear bb
                  clear hK K hHeld
                  have hHeld := hHeld1
                  clear hHeld1
                  try simp only [Act.put, List.getElem_toArray, List.getElem_cons_succ, List.getElem_cons_zero, List.setIfInBounds_toArray, List.set_cons_zero, List.set_cons_succ]
                  refine wpAnyH_ready (rs := [13]) (by kernel_rfl) (by simp) ?_
                  refine AllReadyH.cons rfl (fun K hK => ?_) AllReadyH.nil
                  obtain ⟨z0, z1, z2, z3, z4⟩ := (⟨HY7_4.out.cell 0, HY7_4.out.cell 1, HY7_4.out.cell 2, HY7_4.out.cell 3, HY7_4.out.cell 4⟩ : V4.cell? ⟨Y7, 0, none⟩ = some (.int .i64 0) ∧ V4.cell? ⟨Y7, 1, none⟩ = some (.int .i64 0) ∧ V4.cell? ⟨Y7, 2, none⟩ = some (.int .i64 0) ∧ V4.cell? ⟨Y7, 3, none⟩ = some (.int .i64 0) ∧ V4.cell? ⟨Y7, 4, none⟩ = some (.int .i64 0))
                  obtain ⟨k0, k1, k2, k3, k4⟩ := (⟨HY7_4.out.frozen 0, HY7_4.out.frozen 1, HY7_4.out.frozen 2, HY7_4.out.frozen 3, HY7_4.out.frozen 4⟩ : V4.frozen? ⟨Y7, 0, none⟩ = false ∧ V4.frozen? ⟨Y7, 1, none⟩ = false ∧ V4.frozen? ⟨Y7, 2, none⟩ = false ∧ V4.frozen? ⟨Y7, 3, none⟩ = false ∧ V4.frozen? ⟨Y7, 4, none⟩ = false)
                  go_simp
                  refine hK.out _ _ (pe_mk (PE.put (a := a) hHeld.2.2.2.2.2.2.2.2.2.2.2.2 HNY7.out.1 HNY7.out.2.1 HNY7.out.2.2)) (fun hHeld1 => ?_)
                  clear hK K hHeld
                  have hHeld := hHeld1
                  clear hHeld1
                  try simp only [Act.put, List.getElem_toArray, List.getElem_cons_succ, List.getElem_cons_zero, List.setIfInBounds_toArray, List.set_cons_zero, List.set_cons_succ]
                  clear z0 z1 z2 z3 z4 k0 k1 k2 k3 k4
                  obtain ⟨V5, HW⟩ : ∃ Wx, Hid ((((((V4.setCell ⟨Y7, 0, none⟩ (.int .i64 a.frm)).setCell ⟨Y7, 1, none⟩ (.int .i64 a.to_)).setCell ⟨Y7, 2, none⟩ (.int .i64 a.tape)).setCell ⟨Y7, 3, none⟩ (.int .i64 a.comp)).setCell ⟨Y7, 4, none⟩ (.int .i64 a.slope)) = Wx) := ⟨_, Lib.hid rfl⟩
                  have HY7_5 := Lib.hid (show Blk V5 Y7 29 #[.int .i64 a.frm, .int .i64 a.to_, .int .i64 a.tape, .int .i64 a.comp, .int .i64 a.slope] from by rw [← HW.out]; exact ((((HY7_4.out.set_ 0 _).set_ 1 _).set_ 2 _).set_ 3 _).set_ 4 _)
                  have HY8_5 := Lib.hid (show Blk V5 Y8 29 #[.int .i64 0, .int .i64 0, .int .i64 0, .int .i64 0, .int .i64 0] from by rw [← HW.out]; exact (((((HY8_4.out.far (by first | exact hne | exact fun c => hne c.symm) _).far (by first | exact hne | exact fun c => hne c.symm) _).far (by first | exact hne | exact fun c => hne c.symm) _).far (by first | exact hne | exact fun c => hne c.symm) _).far (by first | exact hne | exact fun c => hne c.symm) _))
                  rw [HW.out] at hHeld
                  rw [HW.out]
                  clear HW
                  refine wpAnyH_ready (rs := [14]) (by kernel_rfl) (by simp) ?_
                  refine AllReadyH.cons rfl (fun K hK => ?_) AllReadyH.nil
                  obtain ⟨z0, z1, z2, z3, z4⟩ := (⟨HY8_5.out.cell 0, HY8_5.out.cell 1, HY8_5.out.cell 2, HY8_5.out.cell 3, HY8_5.out.cell 4⟩ : V5.cell? ⟨Y8, 0, none⟩ = some (.int .i64 0) ∧ V5.cell? ⟨Y8, 1, none⟩ = some (.int .i64 0) ∧ V5.cell? ⟨Y8, 2, none⟩ = some (.int .i64 0) ∧ V5.cell? ⟨Y8, 3, none⟩ = some (.int .i64 0) ∧ V5.cell? ⟨Y8, 4, none⟩ = some (.int .i64 0))
                  obtain ⟨k0, k1, k2, k3, k4⟩ := (⟨HY8_5.out.frozen 0, HY8_5.out.frozen 1, HY8_5.out.frozen 2, HY8_5.out.frozen 3, HY8_5.out.frozen 4⟩ : V5.frozen? ⟨Y8, 0, none⟩ = false ∧ V5.frozen? ⟨Y8, 1, none⟩ = false ∧ V5.frozen? ⟨Y8, 2, none⟩ = false ∧ V5.frozen? ⟨Y8, 3, none⟩ = false ∧ V5.frozen? ⟨Y8, 4, none⟩ = false)
                  go_simp
                  refine hK.out _ _ (pe_mk (PE.put (a := b) hHeld.2.2.2.2.2.2.2.2.2.2.2.2 HNY8.out.1 HNY8.out.2.1 HNY8.out.2.2)) (fun hHeld1 => ?_)
                  clear hK K hHeld
                  have hHeld := hHeld1
                  clear hHeld1
                  try simp only [Act.put, List.getElem_toArray, List.getElem_cons_succ, List.getElem_cons_zero, List.setIfInBounds_toArray, List.set_cons_zero, List.set_cons_succ]
                  clear z0 z1 z2 z3 z4 k0 k1 k2 k3 k4
                  obtain ⟨V6, HW⟩ : ∃ Wx, Hid ((((((V5.setCell ⟨Y8, 0, none⟩ (.int .i64 b.frm)).setCell ⟨Y8, 1, none⟩ (.int .i64 b.to_)).setCell ⟨Y8, 2, none⟩ (.int .i64 b.tape)).setCell ⟨Y8, 3, none⟩ (.int .i64 b.comp)).setCell ⟨Y8, 4, none⟩ (.int .i64 b.slope)) = Wx) := ⟨_, Lib.hid rfl⟩
                  have HY7_6 := Lib.hid (show Blk V6 Y7 29 #[.int .i64 a.frm, .int .i64 a.to_, .int .i64 a.tape, .int .i64 a.comp, .int .i64 a.slope] from by rw [← HW.out]; exact (((((HY7_5.out.far (by first | exact hne | exact fun c => hne c.symm) _).far (by first | exact hne | exact fun c => hne c.symm) _).far (by first | exact hne | exact fun c => hne c.symm) _).far (by first | exact hne | exact fun c => hne c.symm) _).far (by first | exact hne | exact fun c => hne c.symm) _))
                  have HY8_6 := Lib.hid (show Blk V6 Y8 29 #[.int .i64 b.frm, .int .i64 b.to_, .int .i64 b.tape, .int .i64 b.comp, .int .i64 b.slope] from by rw [← HW.out]; exact ((((HY8_5.out.set_ 0 _).set_ 1 _).set_ 2 _).set_ 3 _).set_ 4 _)
                  rw [HW.out] at hHeld
                  rw [HW.out]
                  clear HW
                  refine wpAnyH_done (by kernel_rfl) ?_ _
                  have HZ := Lib.hid (hHeld.2.2.2.2.2.2.2.2.2.2.2.2)
                  clear hHeld
                  go_wp2_with fail
                  go_meet
                  case rel => exact ⟨Y7, Y8, rfl, rfl, HY7_6.out, HY8_6.out, HZ.out⟩
            · go_simp
              have HNN := Lib.hid (PE.new (hHeld.2.2.2.2.2.2.2.2.2.2.2.2))
              refine hK.out _ _ (pe_mk (hHeld.2.2.2.2.2.2.2.2.2.2.2.2.step ((Below.refl _ _).alloc (Nat.le_refl _) _))) (fun hHeld1 => ?_)
              clear hK K hHeld
              have hHeld := hHeld1
              clear hHeld1
              try simp only [Act.put, List.getElem_toArray, List.getElem_cons_succ, List.getElem_cons_zero, List.setIfInBounds_toArray, List.set_cons_zero, List.set_cons_succ]
              obtain ⟨Y7, HYe⟩ : ∃ Y, Hid (V0.heap.size = Y) := ⟨_, Lib.hid rfl⟩
              obtain ⟨V1, HW⟩ : ∃ Wx, Hid (V0.alloc (.cells #[.int .i64 0, .int .i64 0, .int .i64 0, .int .i64 0, .int .i64 0] 29) = Wx) := ⟨_, Lib.hid rfl⟩
              have HNY7 := Lib.hid (HYe.out ▸ HNN.out : w.heap.size ≤ Y7 ∧ ¬ Y7 = X ∧ u4.ownBlock ≠ some Y7)
              clear HNN
              have HY7_1 := Lib.hid (show Blk V1 Y7 29 #[.int .i64 0, .int .i64 0, .int .i64 0, .int .i64 0, .int .i64 0] by rw [← HW.out, ← HYe.out]; exact Blk.new _ _ _)
              rw [HW.out] at hHeld
              rw [HW.out]
              rw [HYe.out]
              clear HW HYe
              refine wpAnyH_ready (rs := [3, 12]) (by kernel_rfl) (by simp) ?_
              refine AllReadyH.cons rfl (fun K hK => ?_) (AllReadyH.cons rfl (fun K hK => ?_) AllReadyH.nil)
              · go_simp
                refine (turned_is u u.frm a HA _ HOU).mono ?_
                rintro e V2 ⟨rfl, bb⟩
                have HY7_2 := Lib.hid (show Blk V2 Y7 29 #[.int .i64 0, .int .i64 0, .int .i64 0, .int .i64 0, .int .i64 0] from HY7_1.out.below bb HY7_1.out.lt)
                refine hK.out _ _ (pe_mk (hHeld.2.2.2.2.2.2.2.2.2.2.2.2.step bb)) (fun hHeld1 => ?_)
                clear bb
                clear hK K hHeld
                have hHeld := hHeld1
                clear hHeld1
                try simp only [Act.put, List.getElem_toArray, List.getElem_cons_succ, List.getElem_cons_zero, List.setIfInBounds_toArray, List.set_cons_zero, List.set_cons_succ]
                refine wpAnyH_ready (rs := [10, 12]) (by kernel_rfl) (by simp) ?_
                refine AllReadyH.cons rfl (fun K hK => ?_) (AllReadyH.cons rfl (fun K hK => ?_) AllReadyH.nil)
                · go_simp
                  refine (turned_is t u.frm b HBB _ HOT).mono ?_
                  rintro e V3 ⟨rfl, bb⟩
                  have HY7_3 := Lib.hid (show Blk V3 Y7 29 #[.int .i64 0, .int .i64 0, .int .i64 0, .int .i64 0, .int .i64 0] from HY7_2.out.below bb HY7_2.out.lt)
                  refine hK.out _ _ (pe_mk (hHeld.2.2.2.2.2.2.2.2.2.2.2.2.step bb)) (fun hHeld1 => ?_)
                  clear bb
                  clear hK K hHeld
                  have hHeld := hHeld1
                  clear hHeld1
                  try simp only [Act.put, List.getElem_toArray, List.getElem_cons_succ, List.getElem_cons_zero, List.setIfInBounds_toArray, List.set_cons_zero, List.set_cons_succ]
                  refine wpAnyH_ready (rs := [12]) (by kernel_rfl) (by simp) ?_
                  refine AllReadyH.cons rfl (fun K hK => ?_) AllReadyH.nil
                  go_simp
                  have HNN := Lib.hid (PE.new (hHeld.2.2.2.2.2.2.2.2.2.2.2.2))
                  refine hK.out _ _ (pe_mk (hHeld.2.2.2.2.2.2.2.2.2.2.2.2.step ((Below.refl _ _).alloc (Nat.le_refl _) _))) (fun hHeld1 => ?_)
                  clear hK K hHeld
                  have hHeld := hHeld1
                  clear hHeld1
                  try simp only [Act.put, List.getElem_toArray, List.getElem_cons_succ, List.getElem_cons_zero, List.setIfInBounds_toArray, List.set_cons_zero, List.set_cons_succ]
                  obtain ⟨Y8, HYe⟩ : ∃ Y, Hid (V3.heap.size = Y) := ⟨_, Lib.hid rfl⟩
                  obtain ⟨V4, HW⟩ : ∃ Wx, Hid (V3.alloc (.cells #[.int .i64 0, .int .i64 0, .int .i64 0, .int .i64 0, .int .i64 0] 29) = Wx) := ⟨_, Lib.hid rfl⟩
                  have HNY8 := Lib.hid (HYe.out ▸ HNN.out : w.heap.size ≤ Y8 ∧ ¬ Y8 = X ∧ u4.ownBlock ≠ some Y8)
                  clear HNN
                  have hne : ¬ Y7 = Y8 := by rw [← HYe.out]; have := HY7_3.out.lt; omega
                  have HY7_4 := Lib.hid (show Blk V4 Y7 29 #[.int .i64 0, .int .i64 0, .int .i64 0, .int .i64 0, .int .i64 0] from by rw [← HW.out]; exact HY7_3.out.alloc _)
                  have HY8_4 := Lib.hid (show Blk V4 Y8 29 #[.int .i64 0, .int .i64 0, .int .i64 0, .int .i64 0, .int .i64 0] by rw [← HW.out, ← HYe.out]; exact Blk.new _ _ _)
                  rw [HW.out] at hHeld
                  rw [HW.out]
                  rw [HYe.out]
                  clear HW HYe
                  refine wpAnyH_ready (rs := [13]) (by kernel_rfl) (by simp) ?_
                  refine AllReadyH.cons rfl (fun K hK => ?_) AllReadyH.nil
                  obtain ⟨z0, z1, z2, z3, z4⟩ := (⟨HY7_4.out.cell 0, HY7_4.out.cell 1, HY7_4.out.cell 2, HY7_4.out.cell 3, HY7_4.out.cell 4⟩ : V4.cell? ⟨Y7, 0, none⟩ = some (.int .i64 0) ∧ V4.cell? ⟨Y7, 1, none⟩ = some (.int .i64 0) ∧ V4.cell? ⟨Y7, 2, none⟩ = some (.int .i64 0) ∧ V4.cell? ⟨Y7, 3, none⟩ = some (.int .i64 0) ∧ V4.cell? ⟨Y7, 4, none⟩ = some (.int .i64 0))
                  obtain ⟨k0, k1, k2, k3, k4⟩ := (⟨HY7_4.out.frozen 0, HY7_4.out.frozen 1, HY7_4.out.frozen 2, HY7_4.out.frozen 3, HY7_4.out.frozen 4⟩ : V4.frozen? ⟨Y7, 0, none⟩ = false ∧ V4.frozen? ⟨Y7, 1, none⟩ = false ∧ V4.frozen? ⟨Y7, 2, none⟩ = false ∧ V4.frozen? ⟨Y7, 3, none⟩ = false ∧ V4.frozen? ⟨Y7, 4, none⟩ = false)
                  go_simp
                  refine hK.out _ _ (pe_mk (PE.put (a := a) hHeld.2.2.2.2.2.2.2.2.2.2.2.2 HNY7.out.1 HNY7.out.2.1 HNY7.out.2.2)) (fun hHeld1 => ?_)
                  clear hK K hHeld
                  have hHeld := hHeld1
                  clear hHeld1
                  try simp only [Act.put, List.getElem_toArray, List.getElem_cons_succ, List.getElem_cons_zero, List.setIfInBounds_toArray, List.set_cons_zero, List.set_cons_succ]
                  clear z0 z1 z2 z3 z4 k0 k1 k2 k3 k4
                  obtain ⟨V5, HW⟩ : ∃ Wx, Hid ((((((V4.setCell ⟨Y7, 0, none⟩ (.int .i64 a.frm)).setCell ⟨Y7, 1, none⟩ (.int .i64 a.to_)).setCell ⟨Y7, 2, none⟩ (.int .i64 a.tape)).setCell ⟨Y7, 3, none⟩ (.int .i64 a.comp)).setCell ⟨Y7, 4, none⟩ (.int .i64 a.slope)) = Wx) := ⟨_, Lib.hid rfl⟩
                  have HY7_5 := Lib.hid (show Blk V5 Y7 29 #[.int .i64 a.frm, .int .i64 a.to_, .int .i64 a.tape, .int .i64 a.comp, .int .i64 a.slope] from by rw [← HW.out]; exact ((((HY7_4.out.set_ 0 _).set_ 1 _).set_ 2 _).set_ 3 _).set_ 4 _)
                  have HY8_5 := Lib.hid (show Blk V5 Y8 29 #[.int .i64 0, .int .i64 0, .int .i64 0, .int .i64 0, .int .i64 0] from by rw [← HW.out]; exact (((((HY8_4.out.far (by first | exact hne | exact fun c => hne c.symm) _).far (by first | exact hne | exact fun c => hne c.symm) _).far (by first | exact hne | exact fun c => hne c.symm) _).far (by first | exact hne | exact fun c => hne c.symm) _).far (by first | exact hne | exact fun c => hne c.symm) _))
                  rw [HW.out] at hHeld
                  rw [HW.out]
                  clear HW
                  refine wpAnyH_ready (rs := [14]) (by kernel_rfl) (by simp) ?_
                  refine AllReadyH.cons rfl (fun K hK => ?_) AllReadyH.nil
                  obtain ⟨z0, z1, z2, z3, z4⟩ := (⟨HY8_5.out.cell 0, HY8_5.out.cell 1, HY8_5.out.cell 2, HY8_5.out.cell 3, HY8_5.out.cell 4⟩ : V5.cell? ⟨Y8, 0, none⟩ = some (.int .i64 0) ∧ V5.cell? ⟨Y8, 1, none⟩ = some (.int .i64 0) ∧ V5.cell? ⟨Y8, 2, none⟩ = some (.int .i64 0) ∧ V5.cell? ⟨Y8, 3, none⟩ = some (.int .i64 0) ∧ V5.cell? ⟨Y8, 4, none⟩ = some (.int .i64 0))
                  obtain ⟨k0, k1, k2, k3, k4⟩ := (⟨HY8_5.out.frozen 0, HY8_5.out.frozen 1, HY8_5.out.frozen 2, HY8_5.out.frozen 3, HY8_5.out.frozen 4⟩ : V5.frozen? ⟨Y8, 0, none⟩ = false ∧ V5.frozen? ⟨Y8, 1, none⟩ = false ∧ V5.frozen? ⟨Y8, 2, none⟩ = false ∧ V5.frozen? ⟨Y8, 3, none⟩ = false ∧ V5.frozen? ⟨Y8, 4, none⟩ = false)
                  go_simp
                  refine hK.out _ _ (pe_mk (PE.put (a := b) hHeld.2.2.2.2.2.2.2.2.2.2.2.2 HNY8.out.1 HNY8.out.2.1 HNY8.out.2.2)) (fun hHeld1 => ?_)
                  clear hK K hHeld
                  have hHeld := hHeld1
                  clear hHeld1
                  try simp only [Act.put, List.getElem_toArray, List.getElem_cons_succ, List.getElem_cons_zero, List.setIfInBounds_toArray, List.set_cons_zero, List.set_cons_succ]
                  clear z0 z1 z2 z3 z4 k0 k1 k2 k3 k4
                  obtain ⟨V6, HW⟩ : ∃ Wx, Hid ((((((V5.setCell ⟨Y8, 0, none⟩ (.int .i64 b.frm)).setCell ⟨Y8, 1, none⟩ (.int .i64 b.to_)).setCell ⟨Y8, 2, none⟩ (.int .i64 b.tape)).setCell ⟨Y8, 3, none⟩ (.int .i64 b.comp)).setCell ⟨Y8, 4, none⟩ (.int .i64 b.slope)) = Wx) := ⟨_, Lib.hid rfl⟩
                  have HY7_6 := Lib.hid (show Blk V6 Y7 29 #[.int .i64 a.frm, .int .i64 a.to_, .int .i64 a.tape, .int .i64 a.comp, .int .i64 a.slope] from by rw [← HW.out]; exact (((((HY7_5.out.far (by first | exact hne | exact fun c => hne c.symm) _).far (by first | exact hne | exact fun c => hne c.symm) _).far (by first | exact hne | exact fun c => hne c.symm) _).far (by first | exact hne | exact fun c => hne c.symm) _).far (by first | exact hne | exact fun c => hne c.symm) _))
                  have HY8_6 := Lib.hid (show Blk V6 Y8 29 #[.int .i64 b.frm, .int .i64 b.to_, .int .i64 b.tape, .int .i64 b.comp, .int .i64 b.slope] from by rw [← HW.out]; exact ((((HY8_5.out.set_ 0 _).set_ 1 _).set_ 2 _).set_ 3 _).set_ 4 _)
                  rw [HW.out] at hHeld
                  rw [HW.out]
                  clear HW
                  refine wpAnyH_done (by kernel_rfl) ?_ _
                  have HZ := Lib.hid (hHeld.2.2.2.2.2.2.2.2.2.2.2.2)
                  clear hHeld
                  go_wp2_with fail
                  go_meet
                  case rel => exact ⟨Y7, Y8, rfl, rfl, HY7_6.out, HY8_6.out, HZ.out⟩
                · go_simp
                  have HNN := Lib.hid (PE.new (hHeld.2.2.2.2.2.2.2.2.2.2.2.2))
                  refine hK.out _ _ (pe_mk (hHeld.2.2.2.2.2.2.2.2.2.2.2.2.step ((Below.refl _ _).alloc (Nat.le_refl _) _))) (fun hHeld1 => ?_)
                  clear hK K hHeld
                  have hHeld := hHeld1
                  clear hHeld1
                  try simp only [Act.put, List.getElem_toArray, List.getElem_cons_succ, List.getElem_cons_zero, List.setIfInBounds_toArray, List.set_cons_zero, List.set_cons_succ]
                  obtain ⟨Y8, HYe⟩ : ∃ Y, Hid (V2.heap.size = Y) := ⟨_, Lib.hid rfl⟩
                  obtain ⟨V3, HW⟩ : ∃ Wx, Hid (V2.alloc (.cells #[.int .i64 0, .int .i64 0, .int .i64 0, .int .i64 0, .int .i64 0] 29) = Wx) := ⟨_, Lib.hid rfl⟩
                  have HNY8 := Lib.hid (HYe.out ▸ HNN.out : w.heap.size ≤ Y8 ∧ ¬ Y8 = X ∧ u4.ownBlock ≠ some Y8)
                  clear HNN
                  have hne : ¬ Y7 = Y8 := by rw [← HYe.out]; have := HY7_2.out.lt; omega
                  have HY7_3 := Lib.hid (show Blk V3 Y7 29 #[.int .i64 0, .int .i64 0, .int .i64 0, .int .i64 0, .int .i64 0] from by rw [← HW.out]; exact HY7_2.out.alloc _)
                  have HY8_3 := Lib.hid (show Blk V3 Y8 29 #[.int .i64 0, .int .i64 0, .int .i64 0, .int .i64 0, .int .i64 0] by rw [← HW.out, ← HYe.out]; exact Blk.new _ _ _)
                  rw [HW.out] at hHeld
                  rw [HW.out]
                  rw [HYe.out]
                  clear HW HYe
                  refine wpAnyH_ready (rs := [10]) (by kernel_rfl) (by simp) ?_
                  refine AllReadyH.cons rfl (fun K hK => ?_) AllReadyH.nil
                  go_simp
                  refine (turned_is t u.frm b HBB _ HOT).mono ?_
                  rintro e V4 ⟨rfl, bb⟩
                  have HY7_4 := Lib.hid (show Blk V4 Y7 29 #[.int .i64 0, .int .i64 0, .int .i64 0, .int .i64 0, .int .i64 0] from HY7_3.out.below bb HY7_3.out.lt)
                  have HY8_4 := Lib.hid (show Blk V4 Y8 29 #[.int .i64 0, .int .i64 0, .int .i64 0, .int .i64 0, .int .i64 0] from HY8_3.out.below bb HY8_3.out.lt)
                  refine hK.out _ _ (pe_mk (hHeld.2.2.2.2.2.2.2.2.2.2.2.2.step bb)) (fun hHeld1 => ?_)
                  clear bb
                  clear hK K hHeld
                  have hHeld := hHeld1
                  clear hHeld1
                  try simp only [Act.put, List.getElem_toArray, List.getElem_cons_succ, List.getElem_cons_zero, List.setIfInBounds_toArray, List.set_cons_zero, List.set_cons_succ]
                  refine wpAnyH_ready (rs := [13]) (by kernel_rfl) (by simp) ?_
                  refine AllReadyH.cons rfl (fun K hK => ?_) AllReadyH.nil
                  obtain ⟨z0, z1, z2, z3, z4⟩ := (⟨HY7_4.out.cell 0, HY7_4.out.cell 1, HY7_4.out.cell 2, HY7_4.out.cell 3, HY7_4.out.cell 4⟩ : V4.cell? ⟨Y7, 0, none⟩ = some (.int .i64 0) ∧ V4.cell? ⟨Y7, 1, none⟩ = some (.int .i64 0) ∧ V4.cell? ⟨Y7, 2, none⟩ = some (.int .i64 0) ∧ V4.cell? ⟨Y7, 3, none⟩ = some (.int .i64 0) ∧ V4.cell? ⟨Y7, 4, none⟩ = some (.int .i64 0))
                  obtain ⟨k0, k1, k2, k3, k4⟩ := (⟨HY7_4.out.frozen 0, HY7_4.out.frozen 1, HY7_4.out.frozen 2, HY7_4.out.frozen 3, HY7_4.out.frozen 4⟩ : V4.frozen? ⟨Y7, 0, none⟩ = false ∧ V4.frozen? ⟨Y7, 1, none⟩ = false ∧ V4.frozen? ⟨Y7, 2, none⟩ = false ∧ V4.frozen? ⟨Y7, 3, none⟩ = false ∧ V4.frozen? ⟨Y7, 4, none⟩ = false)
                  go_simp
                  refine hK.out _ _ (pe_mk (PE.put (a := a) hHeld.2.2.2.2.2.2.2.2.2.2.2.2 HNY7.out.1 HNY7.out.2.1 HNY7.out.2.2)) (fun hHeld1 => ?_)
                  clear hK K hHeld
                  have hHeld := hHeld1
                  clear hHeld1
                  try simp only [Act.put, List.getElem_toArray, List.getElem_cons_succ, List.getElem_cons_zero, List.setIfInBounds_toArray, List.set_cons_zero, List.set_cons_succ]
                  clear z0 z1 z2 z3 z4 k0 k1 k2 k3 k4
                  obtain ⟨V5, HW⟩ : ∃ Wx, Hid ((((((V4.setCell ⟨Y7, 0, none⟩ (.int .i64 a.frm)).setCell ⟨Y7, 1, none⟩ (.int .i64 a.to_)).setCell ⟨Y7, 2, none⟩ (.int .i64 a.tape)).setCell ⟨Y7, 3, none⟩ (.int .i64 a.comp)).setCell ⟨Y7, 4, none⟩ (.int .i64 a.slope)) = Wx) := ⟨_, Lib.hid rfl⟩
                  have HY7_5 := Lib.hid (show Blk V5 Y7 29 #[.int .i64 a.frm, .int .i64 a.to_, .int .i64 a.tape, .int .i64 a.comp, .int .i64 a.slope] from by rw [← HW.out]; exact ((((HY7_4.out.set_ 0 _).set_ 1 _).set_ 2 _).set_ 3 _).set_ 4 _)
                  have HY8_5 := Lib.hid (show Blk V5 Y8 29 #[.int .i64 0, .int .i64 0, .int .i64 0, .int .i64 0, .int .i64 0] from by rw [← HW.out]; exact (((((HY8_4.out.far (by first | exact hne | exact fun c => hne c.symm) _).far (by first | exact hne | exact fun c => hne c.symm) _).far (by first | exact hne | exact fun c => hne c.symm) _).far (by first | exact hne | exact fun c => hne c.symm) _).far (by first | exact hne | exact fun c => hne c.symm) _))
                  rw [HW.out] at hHeld
                  rw [HW.out]
                  clear HW
                  refine wpAnyH_ready (rs := [14]) (by kernel_rfl) (by simp) ?_
                  refine AllReadyH.cons rfl (fun K hK => ?_) AllReadyH.nil
                  obtain ⟨z0, z1, z2, z3, z4⟩ := (⟨HY8_5.out.cell 0, HY8_5.out.cell 1, HY8_5.out.cell 2, HY8_5.out.cell 3, HY8_5.out.cell 4⟩ : V5.cell? ⟨Y8, 0, none⟩ = some (.int .i64 0) ∧ V5.cell? ⟨Y8, 1, none⟩ = some (.int .i64 0) ∧ V5.cell? ⟨Y8, 2, none⟩ = some (.int .i64 0) ∧ V5.cell? ⟨Y8, 3, none⟩ = some (.int .i64 0) ∧ V5.cell? ⟨Y8, 4, none⟩ = some (.int .i64 0))
                  obtain ⟨k0, k1, k2, k3, k4⟩ := (⟨HY8_5.out.frozen 0, HY8_5.out.frozen 1, HY8_5.out.frozen 2, HY8_5.out.frozen 3, HY8_5.out.frozen 4⟩ : V5.frozen? ⟨Y8, 0, none⟩ = false ∧ V5.frozen? ⟨Y8, 1, none⟩ = false ∧ V5.frozen? ⟨Y8, 2, none⟩ = false ∧ V5.frozen? ⟨Y8, 3, none⟩ = false ∧ V5.frozen? ⟨Y8, 4, none⟩ = false)
                  go_simp
                  refine hK.out _ _ (pe_mk (PE.put (a := b) hHeld.2.2.2.2.2.2.2.2.2.2.2.2 HNY8.out.1 HNY8.out.2.1 HNY8.out.2.2)) (fun hHeld1 => ?_)
                  clear hK K hHeld
                  have hHeld := hHeld1
                  clear hHeld1
                  try simp only [Act.put, List.getElem_toArray, List.getElem_cons_succ, List.getElem_cons_zero, List.setIfInBounds_toArray, List.set_cons_zero, List.set_cons_succ]
                  clear z0 z1 z2 z3 z4 k0 k1 k2 k3 k4
                  obtain ⟨V6, HW⟩ : ∃ Wx, Hid ((((((V5.setCell ⟨Y8, 0, none⟩ (.int .i64 b.frm)).setCell ⟨Y8, 1, none⟩ (.int .i64 b.to_)).setCell ⟨Y8, 2, none⟩ (.int .i64 b.tape)).setCell ⟨Y8, 3, none⟩ (.int .i64 b.comp)).setCell ⟨Y8, 4, none⟩ (.int .i64 b.slope)) = Wx) := ⟨_, Lib.hid rfl⟩
                  have HY7_6 := Lib.hid (show Blk V6 Y7 29 #[.int .i64 a.frm, .int .i64 a.to_, .int .i64 a.tape, .int .i64 a.comp, .int .i64 a.slope] from by rw [← HW.out]; exact (((((HY7_5.out.far (by first | exact hne | exact fun c => hne c.symm) _).far (by first | exact hne | exact fun c => hne c.symm) _).far (by first | exact hne | exact fun c => hne c.symm) _).far (by first | exact hne | exact fun c => hne c.symm) _).far (by first | exact hne | exact fun c => hne c.symm) _))
                  have HY8_6 := Lib.hid (show Blk V6 Y8 29 #[.int .i64 b.frm, .int .i64 b.to_, .int .i64 b.tape, .int .i64 b.comp, .int .i64 b.slope] from by rw [← HW.out]; exact ((((HY8_5.out.set_ 0 _).set_ 1 _).set_ 2 _).set_ 3 _).set_ 4 _)
                  rw [HW.out] at hHeld
                  rw [HW.out]
                  clear HW
                  refine wpAnyH_done (by kernel_rfl) ?_ _
                  have HZ := Lib.hid (hHeld.2.2.2.2.2.2.2.2.2.2.2.2)
                  clear hHeld
                  go_wp2_with fail
                  go_meet
                  case rel => exact ⟨Y7, Y8, rfl, rfl, HY7_6.out, HY8_6.out, HZ.out⟩
              · go_simp
                have HNN := Lib.hid (PE.new (hHeld.2.2.2.2.2.2.2.2.2.2.2.2))
                refine hK.out _ _ (pe_mk (hHeld.2.2.2.2.2.2.2.2.2.2.2.2.step ((Below.refl _ _).alloc (Nat.le_refl _) _))) (fun hHeld1 => ?_)
                clear hK K hHeld
                have hHeld := hHeld1
                clear hHeld1
                try simp only [Act.put, List.getElem_toArray, List.getElem_cons_succ, List.getElem_cons_zero, List.setIfInBounds_toArray, List.set_cons_zero, List.set_cons_succ]
                obtain ⟨Y8, HYe⟩ : ∃ Y, Hid (V1.heap.size = Y) := ⟨_, Lib.hid rfl⟩
                obtain ⟨V2, HW⟩ : ∃ Wx, Hid (V1.alloc (.cells #[.int .i64 0, .int .i64 0, .int .i64 0, .int .i64 0, .int .i64 0] 29) = Wx) := ⟨_, Lib.hid rfl⟩
                have HNY8 := Lib.hid (HYe.out ▸ HNN.out : w.heap.size ≤ Y8 ∧ ¬ Y8 = X ∧ u4.ownBlock ≠ some Y8)
                clear HNN
                have hne : ¬ Y7 = Y8 := by rw [← HYe.out]; have := HY7_1.out.lt; omega
                have HY7_2 := Lib.hid (show Blk V2 Y7 29 #[.int .i64 0, .int .i64 0, .int .i64 0, .int .i64 0, .int .i64 0] from by rw [← HW.out]; exact HY7_1.out.alloc _)
                have HY8_2 := Lib.hid (show Blk V2 Y8 29 #[.int .i64 0, .int .i64 0, .int .i64 0, .int .i64 0, .int .i64 0] by rw [← HW.out, ← HYe.out]; exact Blk.new _ _ _)
                rw [HW.out] at hHeld
                rw [HW.out]
                rw [HYe.out]
                clear HW HYe
                refine wpAnyH_ready (rs := [3]) (by kernel_rfl) (by simp) ?_
                refine AllReadyH.cons rfl (fun K hK => ?_) AllReadyH.nil
                go_simp
                refine (turned_is u u.frm a HA _ HOU).mono ?_
                rintro e V3 ⟨rfl, bb⟩
                have HY7_3 := Lib.hid (show Blk V3 Y7 29 #[.int .i64 0, .int .i64 0, .int .i64 0, .int .i64 0, .int .i64 0] from HY7_2.out.below bb HY7_2.out.lt)
                have HY8_3 := Lib.hid (show Blk V3 Y8 29 #[.int .i64 0, .int .i64 0, .int .i64 0, .int .i64 0, .int .i64 0] from HY8_2.out.below bb HY8_2.out.lt)
                refine hK.out _ _ (pe_mk (hHeld.2.2.2.2.2.2.2.2.2.2.2.2.step bb)) (fun hHeld1 => ?_)
                clear bb
                clear hK K hHeld
                have hHeld := hHeld1
                clear hHeld1
                try simp only [Act.put, List.getElem_toArray, List.getElem_cons_succ, List.getElem_cons_zero, List.setIfInBounds_toArray, List.set_cons_zero, List.set_cons_succ]
                refine wpAnyH_ready (rs := [10]) (by kernel_rfl) (by simp) ?_
                refine AllReadyH.cons rfl (fun K hK => ?_) AllReadyH.nil
                go_simp
                refine (turned_is t u.frm b HBB _ HOT).mono ?_
                rintro e V4 ⟨rfl, bb⟩
                have HY7_4 := Lib.hid (show Blk V4 Y7 29 #[.int .i64 0, .int .i64 0, .int .i64 0, .int .i64 0, .int .i64 0] from HY7_3.out.below bb HY7_3.out.lt)
                have HY8_4 := Lib.hid (show Blk V4 Y8 29 #[.int .i64 0, .int .i64 0, .int .i64 0, .int .i64 0, .int .i64 0] from HY8_3.out.below bb HY8_3.out.lt)
                refine hK.out _ _ (pe_mk (hHeld.2.2.2.2.2.2.2.2.2.2.2.2.step bb)) (fun hHeld1 => ?_)
                clear bb
                clear hK K hHeld
                have hHeld := hHeld1
                clear hHeld1
                try simp only [Act.put, List.getElem_toArray, List.getElem_cons_succ, List.getElem_cons_zero, List.setIfInBounds_toArray, List.set_cons_zero, List.set_cons_succ]
                refine wpAnyH_ready (rs := [13]) (by kernel_rfl) (by simp) ?_
                refine AllReadyH.cons rfl (fun K hK => ?_) AllReadyH.nil
                obtain ⟨z0, z1, z2, z3, z4⟩ := (⟨HY7_4.out.cell 0, HY7_4.out.cell 1, HY7_4.out.cell 2, HY7_4.out.cell 3, HY7_4.out.cell 4⟩ : V4.cell? ⟨Y7, 0, none⟩ = some (.int .i64 0) ∧ V4.cell? ⟨Y7, 1, none⟩ = some (.int .i64 0) ∧ V4.cell? ⟨Y7, 2, none⟩ = some (.int .i64 0) ∧ V4.cell? ⟨Y7, 3, none⟩ = some (.int .i64 0) ∧ V4.cell? ⟨Y7, 4, none⟩ = some (.int .i64 0))
                obtain ⟨k0, k1, k2, k3, k4⟩ := (⟨HY7_4.out.frozen 0, HY7_4.out.frozen 1, HY7_4.out.frozen 2, HY7_4.out.frozen 3, HY7_4.out.frozen 4⟩ : V4.frozen? ⟨Y7, 0, none⟩ = false ∧ V4.frozen? ⟨Y7, 1, none⟩ = false ∧ V4.frozen? ⟨Y7, 2, none⟩ = false ∧ V4.frozen? ⟨Y7, 3, none⟩ = false ∧ V4.frozen? ⟨Y7, 4, none⟩ = false)
                go_simp
                refine hK.out _ _ (pe_mk (PE.put (a := a) hHeld.2.2.2.2.2.2.2.2.2.2.2.2 HNY7.out.1 HNY7.out.2.1 HNY7.out.2.2)) (fun hHeld1 => ?_)
                clear hK K hHeld
                have hHeld := hHeld1
                clear hHeld1
                try simp only [Act.put, List.getElem_toArray, List.getElem_cons_succ, List.getElem_cons_zero, List.setIfInBounds_toArray, List.set_cons_zero, List.set_cons_succ]
                clear z0 z1 z2 z3 z4 k0 k1 k2 k3 k4
                obtain ⟨V5, HW⟩ : ∃ Wx, Hid ((((((V4.setCell ⟨Y7, 0, none⟩ (.int .i64 a.frm)).setCell ⟨Y7, 1, none⟩ (.int .i64 a.to_)).setCell ⟨Y7, 2, none⟩ (.int .i64 a.tape)).setCell ⟨Y7, 3, none⟩ (.int .i64 a.comp)).setCell ⟨Y7, 4, none⟩ (.int .i64 a.slope)) = Wx) := ⟨_, Lib.hid rfl⟩
                have HY7_5 := Lib.hid (show Blk V5 Y7 29 #[.int .i64 a.frm, .int .i64 a.to_, .int .i64 a.tape, .int .i64 a.comp, .int .i64 a.slope] from by rw [← HW.out]; exact ((((HY7_4.out.set_ 0 _).set_ 1 _).set_ 2 _).set_ 3 _).set_ 4 _)
                have HY8_5 := Lib.hid (show Blk V5 Y8 29 #[.int .i64 0, .int .i64 0, .int .i64 0, .int .i64 0, .int .i64 0] from by rw [← HW.out]; exact (((((HY8_4.out.far (by first | exact hne | exact fun c => hne c.symm) _).far (by first | exact hne | exact fun c => hne c.symm) _).far (by first | exact hne | exact fun c => hne c.symm) _).far (by first | exact hne | exact fun c => hne c.symm) _).far (by first | exact hne | exact fun c => hne c.symm) _))
                rw [HW.out] at hHeld
                rw [HW.out]
                clear HW
                refine wpAnyH_ready (rs := [14]) (by kernel_rfl) (by simp) ?_
                refine AllReadyH.cons rfl (fun K hK => ?_) AllReadyH.nil
                obtain ⟨z0, z1, z2, z3, z4⟩ := (⟨HY8_5.out.cell 0, HY8_5.out.cell 1, HY8_5.out.cell 2, HY8_5.out.cell 3, HY8_5.out.cell 4⟩ : V5.cell? ⟨Y8, 0, none⟩ = some (.int .i64 0) ∧ V5.cell? ⟨Y8, 1, none⟩ = some (.int .i64 0) ∧ V5.cell? ⟨Y8, 2, none⟩ = some (.int .i64 0) ∧ V5.cell? ⟨Y8, 3, none⟩ = some (.int .i64 0) ∧ V5.cell? ⟨Y8, 4, none⟩ = some (.int .i64 0))
                obtain ⟨k0, k1, k2, k3, k4⟩ := (⟨HY8_5.out.frozen 0, HY8_5.out.frozen 1, HY8_5.out.frozen 2, HY8_5.out.frozen 3, HY8_5.out.frozen 4⟩ : V5.frozen? ⟨Y8, 0, none⟩ = false ∧ V5.frozen? ⟨Y8, 1, none⟩ = false ∧ V5.frozen? ⟨Y8, 2, none⟩ = false ∧ V5.frozen? ⟨Y8, 3, none⟩ = false ∧ V5.frozen? ⟨Y8, 4, none⟩ = false)
                go_simp
                refine hK.out _ _ (pe_mk (PE.put (a := b) hHeld.2.2.2.2.2.2.2.2.2.2.2.2 HNY8.out.1 HNY8.out.2.1 HNY8.out.2.2)) (fun hHeld1 => ?_)
                clear hK K hHeld
                have hHeld := hHeld1
                clear hHeld1
                try simp only [Act.put, List.getElem_toArray, List.getElem_cons_succ, List.getElem_cons_zero, List.setIfInBounds_toArray, List.set_cons_zero, List.set_cons_succ]
                clear z0 z1 z2 z3 z4 k0 k1 k2 k3 k4
                obtain ⟨V6, HW⟩ : ∃ Wx, Hid ((((((V5.setCell ⟨Y8, 0, none⟩ (.int .i64 b.frm)).setCell ⟨Y8, 1, none⟩ (.int .i64 b.to_)).setCell ⟨Y8, 2, none⟩ (.int .i64 b.tape)).setCell ⟨Y8, 3, none⟩ (.int .i64 b.comp)).setCell ⟨Y8, 4, none⟩ (.int .i64 b.slope)) = Wx) := ⟨_, Lib.hid rfl⟩
                have HY7_6 := Lib.hid (show Blk V6 Y7 29 #[.int .i64 a.frm, .int .i64 a.to_, .int .i64 a.tape, .int .i64 a.comp, .int .i64 a.slope] from by rw [← HW.out]; exact (((((HY7_5.out.far (by first | exact hne | exact fun c => hne c.symm) _).far (by first | exact hne | exact fun c => hne c.symm) _).far (by first | exact hne | exact fun c => hne c.symm) _).far (by first | exact hne | exact fun c => hne c.symm) _).far (by first | exact hne | exact fun c => hne c.symm) _))
                have HY8_6 := Lib.hid (show Blk V6 Y8 29 #[.int .i64 b.frm, .int .i64 b.to_, .int .i64 b.tape, .int .i64 b.comp, .int .i64 b.slope] from by rw [← HW.out]; exact ((((HY8_5.out.set_ 0 _).set_ 1 _).set_ 2 _).set_ 3 _).set_ 4 _)
                rw [HW.out] at hHeld
                rw [HW.out]
                clear HW
                refine wpAnyH_done (by kernel_rfl) ?_ _
                have HZ := Lib.hid (hHeld.2.2.2.2.2.2.2.2.2.2.2.2)
                clear hHeld
                go_wp2_with fail
                go_meet
                case rel => exact ⟨Y7, Y8, rfl, rfl, HY7_6.out, HY8_6.out, HZ.out⟩
            · go_simp
              have HNN := Lib.hid (PE.new (hHeld.2.2.2.2.2.2.2.2.2.2.2.2))
              refine hK.out _ _ (pe_mk (hHeld.2.2.2.2.2.2.2.2.2.2.2.2.step ((Below.refl _ _).alloc (Nat.le_refl _) _))) (fun hHeld1 => ?_)
              clear hK K hHeld
              have hHeld := hHeld1
              clear hHeld1
              try simp only [Act.put, List.getElem_toArray, List.getElem_cons_succ, List.getElem_cons_zero, List.setIfInBounds_toArray, List.set_cons_zero, List.set_cons_succ]
              obtain ⟨Y8, HYe⟩ : ∃ Y, Hid (V0.heap.size = Y) := ⟨_, Lib.hid rfl⟩
              obtain ⟨V1, HW⟩ : ∃ Wx, Hid (V0.alloc (.cells #[.int .i64 0, .int .i64 0, .int .i64 0, .int .i64 0, .int .i64 0] 29) = Wx) := ⟨_, Lib.hid rfl⟩
              have HNY8 := Lib.hid (HYe.out ▸ HNN.out : w.heap.size ≤ Y8 ∧ ¬ Y8 = X ∧ u4.ownBlock ≠ some Y8)
              clear HNN
              have HY8_1 := Lib.hid (show Blk V1 Y8 29 #[.int .i64 0, .int .i64 0, .int .i64 0, .int .i64 0, .int .i64 0] by rw [← HW.out, ← HYe.out]; exact Blk.new _ _ _)
              rw [HW.out] at hHeld
              rw [HW.out]
              rw [HYe.out]
              clear HW HYe
              refine wpAnyH_ready (rs := [3, 11]) (by kernel_rfl) (by simp) ?_
              refine AllReadyH.cons rfl (fun K hK => ?_) (AllReadyH.cons rfl (fun K hK => ?_) AllReadyH.nil)
              · go_simp
                refine (turned_is u u.frm a HA _ HOU).mono ?_
                rintro e V2 ⟨rfl, bb⟩
                have HY8_2 := Lib.hid (show Blk V2 Y8 29 #[.int .i64 0, .int .i64 0, .int .i64 0, .int .i64 0, .int .i64 0] from HY8_1.out.below bb HY8_1.out.lt)
                refine hK.out _ _ (pe_mk (hHeld.2.2.2.2.2.2.2.2.2.2.2.2.step bb)) (fun hHeld1 => ?_)
                clear bb
                clear hK K hHeld
                have hHeld := hHeld1
                clear hHeld1
                try simp only [Act.put, List.getElem_toArray, List.getElem_cons_succ, List.getElem_cons_zero, List.setIfInBounds_toArray, List.set_cons_zero, List.set_cons_succ]
                refine wpAnyH_ready (rs := [10, 11]) (by kernel_rfl) (by simp) ?_
                refine AllReadyH.cons rfl (fun K hK => ?_) (AllReadyH.cons rfl (fun K hK => ?_) AllReadyH.nil)
                · go_simp
                  refine (turned_is t u.frm b HBB _ HOT).mono ?_
                  rintro e V3 ⟨rfl, bb⟩
                  have HY8_3 := Lib.hid (show Blk V3 Y8 29 #[.int .i64 0, .int .i64 0, .int .i64 0, .int .i64 0, .int .i64 0] from HY8_2.out.below bb HY8_2.out.lt)
                  refine hK.out _ _ (pe_mk (hHeld.2.2.2.2.2.2.2.2.2.2.2.2.step bb)) (fun hHeld1 => ?_)
                  clear bb
                  clear hK K hHeld
                  have hHeld := hHeld1
                  clear hHeld1
                  try simp only [Act.put, List.getElem_toArray, List.getElem_cons_succ, List.getElem_cons_zero, List.setIfInBounds_toArray, List.set_cons_zero, List.set_cons_succ]
                  refine wpAnyH_ready (rs := [11]) (by kernel_rfl) (by simp) ?_
                  refine AllReadyH.cons rfl (fun K hK => ?_) AllReadyH.nil
                  go_simp
                  have HNN := Lib.hid (PE.new (hHeld.2.2.2.2.2.2.2.2.2.2.2.2))
                  refine hK.out _ _ (pe_mk (hHeld.2.2.2.2.2.2.2.2.2.2.2.2.step ((Below.refl _ _).alloc (Nat.le_refl _) _))) (fun hHeld1 => ?_)
                  clear hK K hHeld
                  have hHeld := hHeld1
                  clear hHeld1
                  try simp only [Act.put, List.getElem_toArray, List.getElem_cons_succ, List.getElem_cons_zero, List.setIfInBounds_toArray, List.set_cons_zero, List.set_cons_succ]
                  obtain ⟨Y7, HYe⟩ : ∃ Y, Hid (V3.heap.size = Y) := ⟨_, Lib.hid rfl⟩
                  obtain ⟨V4, HW⟩ : ∃ Wx, Hid (V3.alloc (.cells #[.int .i64 0, .int .i64 0, .int .i64 0, .int .i64 0, .int .i64 0] 29) = Wx) := ⟨_, Lib.hid rfl⟩
                  have HNY7 := Lib.hid (HYe.out ▸ HNN.out : w.heap.size ≤ Y7 ∧ ¬ Y7 = X ∧ u4.ownBlock ≠ some Y7)
                  clear HNN
                  have hne : ¬ Y7 = Y8 := by rw [← HYe.out]; have := HY8_3.out.lt; omega
                  have HY8_4 := Lib.hid (show Blk V4 Y8 29 #[.int .i64 0, .int .i64 0, .int .i64 0, .int .i64 0, .int .i64 0] from by rw [← HW.out]; exact HY8_3.out.alloc _)
                  have HY7_4 := Lib.hid (show Blk V4 Y7 29 #[.int .i64 0, .int .i64 0, .int .i64 0, .int .i64 0, .int .i64 0] by rw [← HW.out, ← HYe.out]; exact Blk.new _ _ _)
                  rw [HW.out] at hHeld
                  rw [HW.out]
                  rw [HYe.out]
                  clear HW HYe
                  refine wpAnyH_ready (rs := [13]) (by kernel_rfl) (by simp) ?_
                  refine AllReadyH.cons rfl (fun K hK => ?_) AllReadyH.nil
                  obtain ⟨z0, z1, z2, z3, z4⟩ := (⟨HY7_4.out.cell 0, HY7_4.out.cell 1, HY7_4.out.cell 2, HY7_4.out.cell 3, HY7_4.out.cell 4⟩ : V4.cell? ⟨Y7, 0, none⟩ = some (.int .i64 0) ∧ V4.cell? ⟨Y7, 1, none⟩ = some (.int .i64 0) ∧ V4.cell? ⟨Y7, 2, none⟩ = some (.int .i64 0) ∧ V4.cell? ⟨Y7, 3, none⟩ = some (.int .i64 0) ∧ V4.cell? ⟨Y7, 4, none⟩ = some (.int .i64 0))
                  obtain ⟨k0, k1, k2, k3, k4⟩ := (⟨HY7_4.out.frozen 0, HY7_4.out.frozen 1, HY7_4.out.frozen 2, HY7_4.out.frozen 3, HY7_4.out.frozen 4⟩ : V4.frozen? ⟨Y7, 0, none⟩ = false ∧ V4.frozen? ⟨Y7, 1, none⟩ = false ∧ V4.frozen? ⟨Y7, 2, none⟩ = false ∧ V4.frozen? ⟨Y7, 3, none⟩ = false ∧ V4.frozen? ⟨Y7, 4, none⟩ = false)
                  go_simp
                  refine hK.out _ _ (pe_mk (PE.put (a := a) hHeld.2.2.2.2.2.2.2.2.2.2.2.2 HNY7.out.1 HNY7.out.2.1 HNY7.out.2.2)) (fun hHeld1 => ?_)
                  clear hK K hHeld
                  have hHeld := hHeld1
                  clear hHeld1
                  try simp only [Act.put, List.getElem_toArray, List.getElem_cons_succ, List.getElem_cons_zero, List.setIfInBounds_toArray, List.set_cons_zero, List.set_cons_succ]
                  clear z0 z1 z2 z3 z4 k0 k1 k2 k3 k4
                  obtain ⟨V5, HW⟩ : ∃ Wx, Hid ((((((V4.setCell ⟨Y7, 0, none⟩ (.int .i64 a.frm)).setCell ⟨Y7, 1, none⟩ (.int .i64 a.to_)).setCell ⟨Y7, 2, none⟩ (.int .i64 a.tape)).setCell ⟨Y7, 3, none⟩ (.int .i64 a.comp)).setCell ⟨Y7, 4, none⟩ (.int .i64 a.slope)) = Wx) := ⟨_, Lib.hid rfl⟩
                  have HY7_5 := Lib.hid (show Blk V5 Y7 29 #[.int .i64 a.frm, .int .i64 a.to_, .int .i64 a.tape, .int .i64 a.comp, .int .i64 a.slope] from by rw [← HW.out]; exact ((((HY7_4.out.set_ 0 _).set_ 1 _).set_ 2 _).set_ 3 _).set_ 4 _)
                  have HY8_5 := Lib.hid (show Blk V5 Y8 29 #[.int .i64 0, .int .i64 0, .int .i64 0, .int .i64 0, .int .i64 0] from by rw [← HW.out]; exact (((((HY8_4.out.far (by first | exact hne | exact fun c => hne c.symm) _).far (by first | exact hne | exact fun c => hne c.symm) _).far (by first | exact hne | exact fun c => hne c.symm) _).far (by first | exact hne | exact fun c => hne c.symm) _).far (by first | exact hne | exact fun c => hne c.symm) _))
                  rw [HW.out] at hHeld
                  rw [HW.out]
                  clear HW
                  refine wpAnyH_ready (rs := [14]) (by kernel_rfl) (by simp) ?_
                  refine AllReadyH.cons rfl (fun K hK => ?_) AllReadyH.nil
                  obtain ⟨z0, z1, z2, z3, z4⟩ := (⟨HY8_5.out.cell 0, HY8_5.out.cell 1, HY8_5.out.cell 2, HY8_5.out.cell 3, HY8_5.out.cell 4⟩ : V5.cell? ⟨Y8, 0, none⟩ = some (.int .i64 0) ∧ V5.cell? ⟨Y8, 1, none⟩ = some (.int .i64 0) ∧ V5.cell? ⟨Y8, 2, none⟩ = some (.int .i64 0) ∧ V5.cell? ⟨Y8, 3, none⟩ = some (.int .i64 0) ∧ V5.cell? ⟨Y8, 4, none⟩ = some (.int .i64 0))
                  obtain ⟨k0, k1, k2, k3, k4⟩ := (⟨HY8_5.out.frozen 0, HY8_5.out.frozen 1, HY8_5.out.frozen 2, HY8_5.out.frozen 3, HY8_5.out.frozen 4⟩ : V5.frozen? ⟨Y8, 0, none⟩ = false ∧ V5.frozen? ⟨Y8, 1, none⟩ = false ∧ V5.frozen? ⟨Y8, 2, none⟩ = false ∧ V5.frozen? ⟨Y8, 3, none⟩ = false ∧ V5.frozen? ⟨Y8, 4, none⟩ = false)
                  go_simp
                  refine hK.out _ _ (pe_mk (PE.put (a := b) hHeld.2.2.2.2.2.2.2.2.2.2.2.2 HNY8.out.1 HNY8.out.2.1 HNY8.out.2.2)) (fun hHeld1 => ?_)
                  clear hK K hHeld
                  have hHeld := hHeld1
                  clear hHeld1
                  try simp only [Act.put, List.getElem_toArray, List.getElem_cons_succ, List.getElem_cons_zero, List.setIfInBounds_toArray, List.set_cons_zero, List.set_cons_succ]
                  clear z0 z1 z2 z3 z4 k0 k1 k2 k3 k4
                  obtain ⟨V6, HW⟩ : ∃ Wx, Hid ((((((V5.setCell ⟨Y8, 0, none⟩ (.int .i64 b.frm)).setCell ⟨Y8, 1, none⟩ (.int .i64 b.to_)).setCell ⟨Y8, 2, none⟩ (.int .i64 b.tape)).setCell ⟨Y8, 3, none⟩ (.int .i64 b.comp)).setCell ⟨Y8, 4, none⟩ (.int .i64 b.slope)) = Wx) := ⟨_, Lib.hid rfl⟩
                  have HY7_6 := Lib.hid (show Blk V6 Y7 29 #[.int .i64 a.frm, .int .i64 a.to_, .int .i64 a.tape, .int .i64 a.comp, .int .i64 a.slope] from by rw [← HW.out]; exact (((((HY7_5.out.far (by first | exact hne | exact fun c => hne c.symm) _).far (by first | exact hne | exact fun c => hne c.symm) _).far (by first | exact hne | exact fun c => hne c.symm) _).far (by first | exact hne | exact fun c => hne c.symm) _).far (by first | exact hne | exact fun c => hne c.symm) _))
                  have HY8_6 := Lib.hid (show Blk V6 Y8 29 #[.int .i64 b.frm, .int .i64 b.to_, .int .i64 b.tape, .int .i64 b.comp, .int .i64 b.slope] from by rw [← HW.out]; exact ((((HY8_5.out.set_ 0 _).set_ 1 _).set_ 2 _).set_ 3 _).set_ 4 _)
                  rw [HW.out] at hHeld
                  rw [HW.out]
                  clear HW
                  refine wpAnyH_done (by kernel_rfl) ?_ _
                  have HZ := Lib.hid (hHeld.2.2.2.2.2.2.2.2.2.2.2.2)
                  clear hHeld
                  go_wp2_with fail
                  go_meet
                  case rel => exact ⟨Y7, Y8, rfl, rfl, HY7_6.out, HY8_6.out, HZ.out⟩
                · go_simp
                  have HNN := Lib.hid (PE.new (hHeld.2.2.2.2.2.2.2.2.2.2.2.2))
                  refine hK.out _ _ (pe_mk (hHeld.2.2.2.2.2.2.2.2.2.2.2.2.step ((Below.refl _ _).alloc (Nat.le_refl _) _))) (fun hHeld1 => ?_)
                  clear hK K hHeld
                  have hHeld := hHeld1
                  clear hHeld1
                  try simp only [Act.put, List.getElem_toArray, List.getElem_cons_succ, List.getElem_cons_zero, List.setIfInBounds_toArray, List.set_cons_zero, List.set_cons_succ]
                  obtain ⟨Y7, HYe⟩ : ∃ Y, Hid (V2.heap.size = Y) := ⟨_, Lib.hid rfl⟩
                  obtain ⟨V3, HW⟩ : ∃ Wx, Hid (V2.alloc (.cells #[.int .i64 0, .int .i64 0, .int .i64 0, .int .i64 0, .int .i64 0] 29) = Wx) := ⟨_, Lib.hid rfl⟩
                  have HNY7 := Lib.hid (HYe.out ▸ HNN.out : w.heap.size ≤ Y7 ∧ ¬ Y7 = X ∧ u4.ownBlock ≠ some Y7)
                  clear HNN
                  have hne : ¬ Y7 = Y8 := by rw [← HYe.out]; have := HY8_2.out.lt; omega
                  have HY8_3 := Lib.hid (show Blk V3 Y8 29 #[.int .i64 0, .int .i64 0, .int .i64 0, .int .i64 0, .int .i64 0] from by rw [← HW.out]; exact HY8_2.out.alloc _)
                  have HY7_3 := Lib.hid (show Blk V3 Y7 29 #[.int .i64 0, .int .i64 0, .int .i64 0, .int .i64 0, .int .i64 0] by rw [← HW.out, ← HYe.out]; exact Blk.new _ _ _)
                  rw [HW.out] at hHeld
                  rw [HW.out]
                  rw [HYe.out]
                  clear HW HYe
                  refine wpAnyH_ready (rs := [10]) (by kernel_rfl) (by simp) ?_
                  refine AllReadyH.cons rfl (fun K hK => ?_) AllReadyH.nil
                  go_simp
                  refine (turned_is t u.frm b HBB _ HOT).mono ?_
                  rintro e V4 ⟨rfl, bb⟩
                  have HY7_4 := Lib.hid (show Blk V4 Y7 29 #[.int .i64 0, .int .i64 0, .int .i64 0, .int .i64 0, .int .i64 0] from HY7_3.out.below bb HY7_3.out.lt)
                  have HY8_4 := Lib.hid (show Blk V4 Y8 29 #[.int .i64 0, .int .i64 0, .int .i64 0, .int .i64 0, .int .i64 0] from HY8_3.out.below bb HY8_3.out.lt)
                  refine hK.out _ _ (pe_mk (hHeld.2.2.2.2.2.2.2.2.2.2.2.2.step bb)) (fun hHeld1 => ?_)
                  clear bb
                  clear hK K hHeld
                  have hHeld := hHeld1
                  clear hHeld1
                  try simp only [Act.put, List.getElem_toArray, List.getElem_cons_succ, List.getElem_cons_zero, List.setIfInBounds_toArray, List.set_cons_zero, List.set_cons_succ]
                  refine wpAnyH_ready (rs := [13]) (by kernel_rfl) (by simp) ?_
                  refine AllReadyH.cons rfl (fun K hK => ?_) AllReadyH.nil
                  obtain ⟨z0, z1, z2, z3, z4⟩ := (⟨HY7_4.out.cell 0, HY7_4.out.cell 1, HY7_4.out.cell 2, HY7_4.out.cell 3, HY7_4.out.cell 4⟩ : V4.cell? ⟨Y7, 0, none⟩ = some (.int .i64 0) ∧ V4.cell? ⟨Y7, 1, none⟩ = some (.int .i64 0) ∧ V4.cell? ⟨Y7, 2, none⟩ = some (.int .i64 0) ∧ V4.cell? ⟨Y7, 3, none⟩ = some (.int .i64 0) ∧ V4.cell? ⟨Y7, 4, none⟩ = some (.int .i64 0))
                  obtain ⟨k0, k1, k2, k3, k4⟩ := (⟨HY7_4.out.frozen 0, HY7_4.out.frozen 1, HY7_4.out.frozen 2, HY7_4.out.frozen 3, HY7_4.out.frozen 4⟩ : V4.frozen? ⟨Y7, 0, none⟩ = false ∧ V4.frozen? ⟨Y7, 1, none⟩ = false ∧ V4.frozen? ⟨Y7, 2, none⟩ = false ∧ V4.frozen? ⟨Y7, 3, none⟩ = false ∧ V4.frozen? ⟨Y7, 4, none⟩ = false)
                  go_simp
                  refine hK.out _ _ (pe_mk (PE.put (a := a) hHeld.2.2.2.2.2.2.2.2.2.2.2.2 HNY7.out.1 HNY7.out.2.1 HNY7.out.2.2)) (fun hHeld1 => ?_)
                  clear hK K hHeld
                  have hHeld := hHeld1
                  clear hHeld1
                  try simp only [Act.put, List.getElem_toArray, List.getElem_cons_succ, List.getElem_cons_zero, List.setIfInBounds_toArray, List.set_cons_zero, List.set_cons_succ]
                  clear z0 z1 z2 z3 z4 k0 k1 k2 k3 k4
                  obtain ⟨V5, HW⟩ : ∃ Wx, Hid ((((((V4.setCell ⟨Y7, 0, none⟩ (.int .i64 a.frm)).setCell ⟨Y7, 1, none⟩ (.int .i64 a.to_)).setCell ⟨Y7, 2, none⟩ (.int .i64 a.tape)).setCell ⟨Y7, 3, none⟩ (.int .i64 a.comp)).setCell ⟨Y7, 4, none⟩ (.int .i64 a.slope)) = Wx) := ⟨_, Lib.hid rfl⟩
                  have HY7_5 := Lib.hid (show Blk V5 Y7 29 #[.int .i64 a.frm, .int .i64 a.to_, .int .i64 a.tape, .int .i64 a.comp, .int .i64 a.slope] from by rw [← HW.out]; exact ((((HY7_4.out.set_ 0 _).set_ 1 _).set_ 2 _).set_ 3 _).set_ 4 _)
                  have HY8_5 := Lib.hid (show Blk V5 Y8 29 #[.int .i64 0, .int .i64 0, .int .i64 0, .int .i64 0, .int .i64 0] from by rw [← HW.out]; exact (((((HY8_4.out.far (by first | exact hne | exact fun c => hne c.symm) _).far (by first | exact hne | exact fun c => hne c.symm) _).far (by first | exact hne | exact fun c => hne c.symm) _).far (by first | exact hne | exact fun c => hne c.symm) _).far (by first | exact hne | exact fun c => hne c.symm) _))
                  rw [HW.out] at hHeld
                  rw [HW.out]
                  clear HW
                  refine wpAnyH_ready (rs := [14]) (by kernel_rfl) (by simp) ?_
                  refine AllReadyH.cons rfl (fun K hK => ?_) AllReadyH.nil
                  obtain ⟨z0, z1, z2, z3, z4⟩ := (⟨HY8_5.out.cell 0, HY8_5.out.cell 1, HY8_5.out.cell 2, HY8_5.out.cell 3, HY8_5.out.cell 4⟩ : V5.cell? ⟨Y8, 0, none⟩ = some (.int .i64 0) ∧ V5.cell? ⟨Y8, 1, none⟩ = some (.int .i64 0) ∧ V5.cell? ⟨Y8, 2, none⟩ = some (.int .i64 0) ∧ V5.cell? ⟨Y8, 3, none⟩ = some (.int .i64 0) ∧ V5.cell? ⟨Y8, 4, none⟩ = some (.int .i64 0))
                  obtain ⟨k0, k1, k2, k3, k4⟩ := (⟨HY8_5.out.frozen 0, HY8_5.out.frozen 1, HY8_5.out.frozen 2, HY8_5.out.frozen 3, HY8_5.out.frozen 4⟩ : V5.frozen? ⟨Y8, 0, none⟩ = false ∧ V5.frozen? ⟨Y8, 1, none⟩ = false ∧ V5.frozen? ⟨Y8, 2, none⟩ = false ∧ V5.frozen? ⟨Y8, 3, none⟩ = false ∧ V5.frozen? ⟨Y8, 4, none⟩ = false)
                  go_simp
                  refine hK.out _ _ (pe_mk (PE.put (a := b) hHeld.2.2.2.2.2.2.2.2.2.2.2.2 HNY8.out.1 HNY8.out.2.1 HNY8.out.2.2)) (fun hHeld1 => ?_)
                  clear hK K hHeld
                  have hHeld := hHeld1
                  clear hHeld1
                  try simp only [Act.put, List.getElem_toArray, List.getElem_cons_succ, List.getElem_cons_zero, List.setIfInBounds_toArray, List.set_cons_zero, List.set_cons_succ]
                  clear z0 z1 z2 z3 z4 k0 k1 k2 k3 k4
                  obtain ⟨V6, HW⟩ : ∃ Wx, Hid ((((((V5.setCell ⟨Y8, 0, none⟩ (.int .i64 b.frm)).setCell ⟨Y8, 1, none⟩ (.int .i64 b.to_)).setCell ⟨Y8, 2, none⟩ (.int .i64 b.tape)).setCell ⟨Y8, 3, none⟩ (.int .i64 b.comp)).setCell ⟨Y8, 4, none⟩ (.int .i64 b.slope)) = Wx) := ⟨_, Lib.hid rfl⟩
                  have HY7_6 := Lib.hid (show Blk V6 Y7 29 #[.int .i64 a.frm, .int .i64 a.to_, .int .i64 a.tape, .int .i64 a.comp, .int .i64 a.slope] from by rw [← HW.out]; exact (((((HY7_5.out.far (by first | exact hne | exact fun c => hne c.symm) _).far (by first | exact hne | exact fun c => hne c.symm) _).far (by first | exact hne | exact fun c => hne c.symm) _).far (by first | exact hne | exact fun c => hne c.symm) _).far (by first | exact hne | exact fun c => hne c.symm) _))
                  have HY8_6 := Lib.hid (show Blk V6 Y8 29 #[.int .i64 b.frm, .int .i64 b.to_, .int .i64 b.tape, .int .i64 b.comp, .int .i64 b.slope] from by rw [← HW.out]; exact ((((HY8_5.out.set_ 0 _).set_ 1 _).set_ 2 _).set_ 3 _).set_ 4 _)
                  rw [HW.out] at hHeld
                  rw [HW.out]
                  clear HW
                  refine wpAnyH_done (by kernel_rfl) ?_ _
                  have HZ := Lib.hid (hHeld.2.2.2.2.2.2.2.2.2.2.2.2)
                  clear hHeld
                  go_wp2_with fail
                  go_meet
                  case rel => exact ⟨Y7, Y8, rfl, rfl, HY7_6.out, HY8_6.out, HZ.out⟩
              · go_simp
                have HNN := Lib.hid (PE.new (hHeld.2.2.2.2.2.2.2.2.2.2.2.2))
                refine hK.out _ _ (pe_mk (hHeld.2.2.2.2.2.2.2.2.2.2.2.2.step ((Below.refl _ _).alloc (Nat.le_refl _) _))) (fun hHeld1 => ?_)
                clear hK K hHeld
                have hHeld := hHeld1
                clear hHeld1
                try simp only [Act.put, List.getElem_toArray, List.getElem_cons_succ, List.getElem_cons_zero, List.setIfInBounds_toArray, List.set_cons_zero, List.set_cons_succ]
                obtain ⟨Y7, HYe⟩ : ∃ Y, Hid (V1.heap.size = Y) := ⟨_, Lib.hid rfl⟩
                obtain ⟨V2, HW⟩ : ∃ Wx, Hid (V1.alloc (.cells #[.int .i64 0, .int .i64 0, .int .i64 0, .int .i64 0, .int .i64 0] 29) = Wx) := ⟨_, Lib.hid rfl⟩
                have HNY7 := Lib.hid (HYe.out ▸ HNN.out : w.heap.size ≤ Y7 ∧ ¬ Y7 = X ∧ u4.ownBlock ≠ some Y7)
                clear HNN
                have hne : ¬ Y7 = Y8 := by rw [← HYe.out]; have := HY8_1.out.lt; omega
                have HY8_2 := Lib.hid (show Blk V2 Y8 29 #[.int .i64 0, .int .i64 0, .int .i64 0, .int .i64 0, .int .i64 0] from by rw [← HW.out]; exact HY8_1.out.alloc _)
                have HY7_2 := Lib.hid (show Blk V2 Y7 29 #[.int .i64 0, .int .i64 0, .int .i64 0, .int .i64 0, .int .i64 0] by rw [← HW.out, ← HYe.out]; exact Blk.new _ _ _)
                rw [HW.out] at hHeld
                rw [HW.out]
                rw [HYe.out]
                clear HW HYe
                refine wpAnyH_ready (rs := [3]) (by kernel_rfl) (by simp) ?_
                refine AllReadyH.cons rfl (fun K hK => ?_) AllReadyH.nil
                go_simp
                refine (turned_is u u.frm a HA _ HOU).mono ?_
                rintro e V3 ⟨rfl, bb⟩
                have HY7_3 := Lib.hid (show Blk V3 Y7 29 #[.int .i64 0, .int .i64 0, .int .i64 0, .int .i64 0, .int .i64 0] from HY7_2.out.below bb HY7_2.out.lt)
                have HY8_3 := Lib.hid (show Blk V3 Y8 29 #[.int .i64 0, .int .i64 0, .int .i64 0, .int .i64 0, .int .i64 0] from HY8_2.out.below bb HY8_2.out.lt)
                refine hK.out _ _ (pe_mk (hHeld.2.2.2.2.2.2.2.2.2.2.2.2.step bb)) (fun hHeld1 => ?_)
                clear bb
                clear hK K hHeld
                have hHeld := hHeld1
                clear hHeld1
                try simp only [Act.put, List.getElem_toArray, List.getElem_cons_succ, List.getElem_cons_zero, List.setIfInBounds_toArray, List.set_cons_zero, List.set_cons_succ]
                refine wpAnyH_ready (rs := [10]) (by kernel_rfl) (by simp) ?_
                refine AllReadyH.cons rfl (fun K hK => ?_) AllReadyH.nil
                go_simp
                refine (turned_is t u.frm b HBB _ HOT).mono ?_
                rintro e V4 ⟨rfl, bb⟩
                have HY7_4 := Lib.hid (show Blk V4 Y7 29 #[.int .i64 0, .int .i64 0, .int .i64 0, .int .i64 0, .int .i64 0] from HY7_3.out.below bb HY7_3.out.lt)
                have HY8_4 := Lib.hid (show Blk V4 Y8 29 #[.int .i64 0, .int .i64 0, .int .i64 0, .int .i64 0, .int .i64 0] from HY8_3.out.below bb HY8_3.out.lt)
                refine hK.out _ _ (pe_mk (hHeld.2.2.2.2.2.2.2.2.2.2.2.2.step bb)) (fun hHeld1 => ?_)
                clear bb
                clear hK K hHeld
                have hHeld := hHeld1
                clear hHeld1
                try simp only [Act.put, List.getElem_toArray, List.getElem_cons_succ, List.getElem_cons_zero, List.setIfInBounds_toArray, List.set_cons_zero, List.set_cons_succ]
                refine wpAnyH_ready (rs := [13]) (by kernel_rfl) (by simp) ?_
                refine AllReadyH.cons rfl (fun K hK => ?_) AllReadyH.nil
                obtain ⟨z0, z1, z2, z3, z4⟩ := (⟨HY7_4.out.cell 0, HY7_4.out.cell 1, HY7_4.out.cell 2, HY7_4.out.cell 3, HY7_4.out.cell 4⟩ : V4.cell? ⟨Y7, 0, none⟩ = some (.int .i64 0) ∧ V4.cell? ⟨Y7, 1, none⟩ = some (.int .i64 0) ∧ V4.cell? ⟨Y7, 2, none⟩ = some (.int .i64 0) ∧ V4.cell? ⟨Y7, 3, none⟩ = some (.int .i64 0) ∧ V4.cell? ⟨Y7, 4, none⟩ = some (.int .i64 0))
                obtain ⟨k0, k1, k2, k3, k4⟩ := (⟨HY7_4.out.frozen 0, HY7_4.out.frozen 1, HY7_4.out.frozen 2, HY7_4.out.frozen 3, HY7_4.out.frozen 4⟩ : V4.frozen? ⟨Y7, 0, none⟩ = false ∧ V4.frozen? ⟨Y7, 1, none⟩ = false ∧ V4.frozen? ⟨Y7, 2, none⟩ = false ∧ V4.frozen? ⟨Y7, 3, none⟩ = false ∧ V4.frozen? ⟨Y7, 4, none⟩ = false)
                go_simp
                refine hK.out _ _ (pe_mk (PE.put (a := a) hHeld.2.2.2.2.2.2.2.2.2.2.2.2 HNY7.out.1 HNY7.out.2.1 HNY7.out.2.2)) (fun hHeld1 => ?_)
                clear hK K hHeld
                have hHeld := hHeld1
                clear hHeld1
                try simp only [Act.put, List.getElem_toArray, List.getElem_cons_succ, List.getElem_cons_zero, List.setIfInBounds_toArray, List.set_cons_zero, List.set_cons_succ]
                clear z0 z1 z2 z3 z4 k0 k1 k2 k3 k4
                obtain ⟨V5, HW⟩ : ∃ Wx, Hid ((((((V4.setCell ⟨Y7, 0, none⟩ (.int .i64 a.frm)).setCell ⟨Y7, 1, none⟩ (.int .i64 a.to_)).setCell ⟨Y7, 2, none⟩ (.int .i64 a.tape)).setCell ⟨Y7, 3, none⟩ (.int .i64 a.comp)).setCell ⟨Y7, 4, none⟩ (.int .i64 a.slope)) = Wx) := ⟨_, Lib.hid rfl⟩
                have HY7_5 := Lib.hid (show Blk V5 Y7 29 #[.int .i64 a.frm, .int .i64 a.to_, .int .i64 a.tape, .int .i64 a.comp, .int .i64 a.slope] from by rw [← HW.out]; exact ((((HY7_4.out.set_ 0 _).set_ 1 _).set_ 2 _).set_ 3 _).set_ 4 _)
                have HY8_5 := Lib.hid (show Blk V5 Y8 29 #[.int .i64 0, .int .i64 0, .int .i64 0, .int .i64 0, .int .i64 0] from by rw [← HW.out]; exact (((((HY8_4.out.far (by first | exact hne | exact fun c => hne c.symm) _).far (by first | exact hne | exact fun c => hne c.symm) _).far (by first | exact hne | exact fun c => hne c.symm) _).far (by first | exact hne | exact fun c => hne c.symm) _).far (by first | exact hne | exact fun c => hne c.symm) _))
                rw [HW.out] at hHeld
                rw [HW.out]
                clear HW
                refine wpAnyH_ready (rs := [14]) (by kernel_rfl) (by simp) ?_
                refine AllReadyH.cons rfl (fun K hK => ?_) AllReadyH.nil
                obtain ⟨z0, z1, z2, z3, z4⟩ := (⟨HY8_5.out.cell 0, HY8_5.out.cell 1, HY8_5.out.cell 2, HY8_5.out.cell 3, HY8_5.out.cell 4⟩ : V5.cell? ⟨Y8, 0, none⟩ = some (.int .i64 0) ∧ V5.cell? ⟨Y8, 1, none⟩ = some (.int .i64 0) ∧ V5.cell? ⟨Y8, 2, none⟩ = some (.int .i64 0) ∧ V5.cell? ⟨Y8, 3, none⟩ = some (.int .i64 0) ∧ V5.cell? ⟨Y8, 4, none⟩ = some (.int .i64 0))
                obtain ⟨k0, k1, k2, k3, k4⟩ := (⟨HY8_5.out.frozen 0, HY8_5.out.frozen 1, HY8_5.out.frozen 2, HY8_5.out.frozen 3, HY8_5.out.frozen 4⟩ : V5.frozen? ⟨Y8, 0, none⟩ = false ∧ V5.frozen? ⟨Y8, 1, none⟩ = false ∧ V5.frozen? ⟨Y8, 2, none⟩ = false ∧ V5.frozen? ⟨Y8, 3, none⟩ = false ∧ V5.frozen? ⟨Y8, 4, none⟩ = false)
                go_simp
                refine hK.out _ _ (pe_mk (PE.put (a := b) hHeld.2.2.2.2.2.2.2.2.2.2.2.2 HNY8.out.1 HNY8.out.2.1 HNY8.out.2.2)) (fun hHeld1 => ?_)
                clear hK K hHeld
                have hHeld := hHeld1
                clear hHeld1
                try simp only [Act.put, List.getElem_toArray, List.getElem_cons_succ, List.getElem_cons_zero, List.setIfInBounds_toArray, List.set_cons_zero, List.set_cons_succ]
                clear z0 z1 z2 z3 z4 k0 k1 k2 k3 k4
                obtain ⟨V6, HW⟩ : ∃ Wx, Hid ((((((V5.setCell ⟨Y8, 0, none⟩ (.int .i64 b.frm)).setCell ⟨Y8, 1, none⟩ (.int .i64 b.to_)).setCell ⟨Y8, 2, none⟩ (.int .i64 b.tape)).setCell ⟨Y8, 3, none⟩ (.int .i64 b.comp)).setCell ⟨Y8, 4, none⟩ (.int .i64 b.slope)) = Wx) := ⟨_, Lib.hid rfl⟩
                have HY7_6 := Lib.hid (show Blk V6 Y7 29 #[.int .i64 a.frm, .int .i64 a.to_, .int .i64 a.tape, .int .i64 a.comp, .int .i64 a.slope] from by rw [← HW.out]; exact (((((HY7_5.out.far (by first | exact hne | exact fun c => hne c.symm) _).far (by first | exact hne | exact fun c => hne c.symm) _).far (by first | exact hne | exact fun c => hne c.symm) _).far (by first | exact hne | exact fun c => hne c.symm) _).far (by first | exact hne | exact fun c => hne c.symm) _))
                have HY8_6 := Lib.hid (show Blk V6 Y8 29 #[.int .i64 b.frm, .int .i64 b.to_, .int .i64 b.tape, .int .i64 b.comp, .int .i64 b.slope] from by rw [← HW.out]; exact ((((HY8_5.out.set_ 0 _).set_ 1 _).set_ 2 _).set_ 3 _).set_ 4 _)
                rw [HW.out] at hHeld
                rw [HW.out]
                clear HW
                refine wpAnyH_done (by kernel_rfl) ?_ _
                have HZ := Lib.hid (hHeld.2.2.2.2.2.2.2.2.2.2.2.2)
                clear hHeld
                go_wp2_with fail
                go_meet
                case rel => exact ⟨Y7, Y8, rfl, rfl, HY7_6.out, HY8_6.out, HZ.out⟩
        case rest =>
          as_aux_lemma =>
            obtain ⟨y, z, rfl, rfl, hy, hz, hp⟩ := hcut
            obtain ⟨y0, y1, y2, y3, y4⟩ := (⟨hy.cell 0, hy.cell 1, hy.cell 2, hy.cell 3, hy.cell 4⟩ : wc.cell? ⟨y, 0, none⟩ = some (.int .i64 a.frm) ∧ wc.cell? ⟨y, 1, none⟩ = some (.int .i64 a.to_) ∧ wc.cell? ⟨y, 2, none⟩ = some (.int .i64 a.tape) ∧ wc.cell? ⟨y, 3, none⟩ = some (.int .i64 a.comp) ∧ wc.cell? ⟨y, 4, none⟩ = some (.int .i64 a.slope))
            obtain ⟨z0, z1, z2, z3, z4⟩ := (⟨hz.cell 0, hz.cell 1, hz.cell 2, hz.cell 3, hz.cell 4⟩ : wc.cell? ⟨z, 0, none⟩ = some (.int .i64 b.frm) ∧ wc.cell? ⟨z, 1, none⟩ = some (.int .i64 b.to_) ∧ wc.cell? ⟨z, 2, none⟩ = some (.int .i64 b.tape) ∧ wc.cell? ⟨z, 3, none⟩ = some (.int .i64 b.comp) ∧ wc.cell? ⟨z, 4, none⟩ = some (.int .i64 b.slope))
            have hyl := hy.lt
            have hzl := hz.lt
            have HRO := Lib.hid hp.2.2.1
            have HB2 := Lib.hid hp.2.2.2.1
            have hBs := HB2.out.size
            obtain ⟨p1, HP1⟩ : ∃ p, Hid (apart a.comp b.comp = p) := ⟨_, Lib.hid rfl⟩
            obtain ⟨p2, HP2⟩ : ∃ p, Hid (apart a.tape b.tape = p) := ⟨_, Lib.hid rfl⟩
            obtain ⟨p3, HP3⟩ : ∃ p, Hid (apart a.slope b.slope = p) := ⟨_, Lib.hid rfl⟩
            obtain ⟨p4, HP4⟩ : ∃ p, Hid (lst.mn p1 (360 - p1) = p) := ⟨_, Lib.hid rfl⟩
            have hp1 : 0 ≤ p1 ∧ p1 ≤ 800 := by rw [← HP1.out]; have := apart_bd (m := 400) (a := a.comp) (b := b.comp) (by omega) (by omega) (by omega) (by omega); omega
            obtain ⟨q0, q1⟩ := hp1
            have HOE := Lib.hid (show erP ts t = (decide (2 < p2) || decide (2 < p4) || decide (2 < p3)) by rw [HOF.out]; unfold offEn; rw [HP1.out, HP2.out, HP3.out, HP4.out])
            have HYES := Lib.hid (show (2 < p2 ∨ 2 < p4 ∨ 2 < p3) → erP ts t = true from fun h => by rw [HOE.out]; simp; omega)
            clear hy hz hp
            go_wp2_with fail
            refine (apart_is a.comp b.comp p1 HP1 _ (by omega) (by omega) (by omega) (by omega)).mono ?_
            rintro e w' ⟨rfl, rfl⟩
            go_wp2_with fail
            refine (apart_is a.tape b.tape p2 HP2 _ (by omega) (by omega) (by omega) (by omega)).mono ?_
            rintro e w' ⟨rfl, rfl⟩
            by_cases c1 : 2 < p2
            · have e1 : decide (2 < p2) = true := by simpa using c1
              go_wp2_with (at_builtin; refine wpList_append_own _ rfl _ _ 41 rfl w.heap.size 3 i0 (.int .i64 0) 1 8 Try.underlying41 hi hz0 hz1 hz2 rfl (by decide) _ _ _ rfl (HRO.out.alloc _) ⟨wc.heap.size, 0, none⟩ 1 1 [.int .i64 (k : Int)] rfl rfl (cell_one_new _ _ _) (by simp [Value.oneCell']) (by unfold maxLen; omega) (by omega) (by simp; omega) ?_; intro v' w9 hown' hgrow _)
              go_roundw
              case rel =>
                refine ⟨k + 1, ids ++ [(k : Int)], by omega, by go_num, Lib.hid (by rw [idxs_yes HK.out (HYES.out (.inl c1)), HD.out]), Lib.hid ?_, ?_⟩
                · rw [List.length_append, List.length_singleton, intsV_app]; exact hown'
                · exact (HB2.out.alloc HB2.out.size _).grown hgrow (by simp; omega) (fun j ej => (HRO.out.lt j ej).1)
              case measure => simp [intOf]; omega
            have e1 : decide (2 < p2) = false := by simpa using c1
            go_wp2_with fail
            refine (lst.least_is p1 (360 - p1) p4 HP4 _).mono ?_
            rintro e w' ⟨rfl, rfl⟩
            by_cases c2 : 2 < p4
            · have e2 : decide (2 < p4) = true := by simpa using c2
              go_wp2_with (at_builtin; refine wpList_append_own _ rfl _ _ 41 rfl w.heap.size 3 i0 (.int .i64 0) 1 8 Try.underlying41 hi hz0 hz1 hz2 rfl (by decide) _ _ _ rfl (HRO.out.alloc _) ⟨wc.heap.size, 0, none⟩ 1 1 [.int .i64 (k : Int)] rfl rfl (cell_one_new _ _ _) (by simp [Value.oneCell']) (by unfold maxLen; omega) (by omega) (by simp; omega) ?_; intro v' w9 hown' hgrow _)
              go_roundw
              case rel =>
                refine ⟨k + 1, ids ++ [(k : Int)], by omega, by go_num, Lib.hid (by rw [idxs_yes HK.out (HYES.out (.inr (.inl c2))), HD.out]), Lib.hid ?_, ?_⟩
                · rw [List.length_append, List.length_singleton, intsV_app]; exact hown'
                · exact (HB2.out.alloc HB2.out.size _).grown hgrow (by simp; omega) (fun j ej => (HRO.out.lt j ej).1)
              case measure => simp [intOf]; omega
            have e2 : decide (2 < p4) = false := by simpa using c2
            go_wp2_with fail
            refine (apart_is a.slope b.slope p3 HP3 _ (by omega) (by omega) (by omega) (by omega)).mono ?_
            rintro e w' ⟨rfl, rfl⟩
            by_cases c3 : 2 < p3
            · have e3 : decide (2 < p3) = true := by simpa using c3
              go_wp2_with (at_builtin; refine wpList_append_own _ rfl _ _ 41 rfl w.heap.size 3 i0 (.int .i64 0) 1 8 Try.underlying41 hi hz0 hz1 hz2 rfl (by decide) _ _ _ rfl (HRO.out.alloc _) ⟨wc.heap.size, 0, none⟩ 1 1 [.int .i64 (k : Int)] rfl rfl (cell_one_new _ _ _) (by simp [Value.oneCell']) (by unfold maxLen; omega) (by omega) (by simp; omega) ?_; intro v' w9 hown' hgrow _)
              go_roundw
              case rel =>
                refine ⟨k + 1, ids ++ [(k : Int)], by omega, by go_num, Lib.hid (by rw [idxs_yes HK.out (HYES.out (.inr (.inr c3))), HD.out]), Lib.hid ?_, ?_⟩
                · rw [List.length_append, List.length_singleton, intsV_app]; exact hown'
                · exact (HB2.out.alloc HB2.out.size _).grown hgrow (by simp; omega) (fun j ej => (HRO.out.lt j ej).1)
              case measure => simp [intOf]; omega
            have e3 : decide (2 < p3) = false := by simpa using c3
            have HN := Lib.hid (show idxs (erP ts) ts (k + 1) = ids by rw [idxs_no HK.out (by rw [HOE.out, e1, e2, e3]; rfl)]; exact HD.out)
            go_wp2_with fail
            go_roundw
            case rel => exact ⟨k + 1, ids, by omega, by go_num, HN, HRO, HB2.out⟩
            case measure => simp [intOf]; omega
      · have hkd : decide (k < n) = false := by simpa using hlt
        obtain rfl : k = n := by omega
        go_wp2_with fail
        go_ret2
        rw [HD.out]
        exact ⟨_, rfl, HRW.out, HBr.out⟩
end Go.Proofs.Ytnlljdepcldibaa.en
