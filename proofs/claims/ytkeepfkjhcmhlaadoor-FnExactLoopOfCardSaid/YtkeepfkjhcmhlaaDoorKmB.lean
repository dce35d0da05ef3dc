/-
  The legs of a loop, by the model.
  Conditions: the legs lie in one block, at most 2000000 of them.
-/
import Derived.Test.YtkeepfkjhcmhlaaDoorKmA
namespace Go.Proofs.YtkeepfkjhcmhlaaDoor.lp
open Go.RowKit
open reads base ty lg rowi hs nt
set_option linter.unusedVariables false
set_option linter.unusedSimpArgs false

set_option maxHeartbeats 4000000 in
set_option maxRecDepth 100000 in
theorem closing8_any (A : Option Addr) (n cap : Nat) (ts : List Lg) (i : Int) (t : Bool) (w : World) (ht : Hid (lpOk ts i = t)) (hn : n ≤ 2000000) (hts : Hid (LgAt w w.heap.size A n ts)) :
    Calls Tryd.prog 51 #[.slice A n cap, .int .i64 i] w (BPost t w) := by
  cases hg : goodLg ts
  · have HG := Lib.hid hg
    obtain rfl : t = false := by rw [← ht.out]; unfold lpOk; rw [hg]; rfl
    clear hg
    go_enter Tryd.func51, Tryd.ntmps51
    go_wp2_with fail
    refine (legs_is A n cap ts false _ hn hts HG).mono ?_
    rintro e w1 ⟨rfl, b1⟩
    have HB := Lib.hid b1
    clear b1
    go_wp2_with fail
    go_ret
    exact ⟨rfl, HB.out⟩
  · have HG := Lib.hid hg
    have HM := Lib.hid (show mem (clN ts (net ts) ts.length) i = t by rw [← ht.out]; unfold lpOk clIds; rw [hg]; rfl)
    have hcl := Nat.le_trans (clN_len ts (net ts) ts.length) (goodLg_len hg)
    obtain ⟨C, HC⟩ : ∃ C, Hid (clN ts (net ts) ts.length = C) := ⟨_, Lib.hid rfl⟩
    rw [HC.out] at HM hcl
    clear hg
    go_enter Tryd.func51, Tryd.ntmps51
    go_wp2_with fail
    refine (legs_is A n cap ts true _ hn hts HG).mono ?_
    rintro e w1 ⟨rfl, b1⟩
    have HB := Lib.hid b1
    clear b1
    go_wp2_with fail
    refine (closing_any A n cap ts (net ts) (Lib.hid rfl) _ HG (Lib.hid (hts.out.step HB.out))).mono ?_
    rintro e w2 ⟨v, rfl, ho, b⟩
    rw [HC.out] at ho
    obtain ⟨m, HMM⟩ : ∃ m, Hid (C.length = m) := ⟨_, Lib.hid rfl⟩
    rw [HMM.out] at ho hcl
    obtain ⟨A2, c2, rfl⟩ := row_slice ho
    have HO := Lib.hid ho
    have HB2 := Lib.hid (HB.out.trans (b.mono HB.out.size))
    clear ho b
    go_wp2_with fail
    refine (has_is A2 m c2 C i t HM _ (by omega) (Lib.hid (ints.IL.of_own HO.out))).mono ?_
    rintro e w9 ⟨rfl, rfl⟩
    go_wp2_with fail
    go_ret
    exact ⟨rfl, HB2.out⟩
set_option maxHeartbeats 8000000 in
set_option maxRecDepth 100000 in
theorem legs8_any (A : Option Addr) (n cap : Nat) (ts : List Lg) (i : Int) (w : World) (ht : Hid (lpOk ts i = true)) (hts : Hid (LgAt w w.heap.size A n ts)) :
    Calls Tryd.prog 52 #[.slice A n cap, .int .i64 i] w (IPo (lpIds ts i) w) := by
  obtain ⟨hg0, h0, h1, x, hx, hl, hok, hf, hto, hnt⟩ := lp_leg ht.out
  have hg := Lib.hid hg0
  have HL := Lib.hid hts.out.1
  obtain ⟨j, rfl⟩ := Int.eq_ofNat_of_zero_le h0
  rw [Int.toNat_natCast] at hx
  have hjn : j < n := by have := lt_at hx; rw [HL.out] at this; exact this
  have HX := Lib.hid hx
  have HLA := Lib.hid hl
  have ho3 := (ok_net hg0).tr_len
  have HON := Lib.hid (ok_net hg0)
  have HF13 := Lib.hid (show ∀ l b', NB ts (net ts).tr (-1) x.to_ l b' → l.length < 13 from fun l b' h => by have := (nb_once h).2; omega)
  obtain ⟨N, HNN⟩ : ∃ N, Hid (net ts = N) := ⟨_, Lib.hid rfl⟩
  obtain ⟨i0, hi, hz0, hz1, hz2⟩ := info_parts infoI
  have hji : (j : Int) < (n : Int) := by omega
  have hj0 : (0 : Int) ≤ (j : Int) := by omega
  have hn12 := len12 HL.out hg0
  clear hg0 h0 h1 hl hok hf hto hnt
  go_enter Tryd.func52, Tryd.ntmps52
  go_wp2_with fail
  refine (place_any A n cap ts _ hg hts).mono ?_
  rintro e w1 ⟨g1, g2, c2, g3, c3, rfl, hN⟩
  obtain ⟨m3, HM3⟩ : ∃ m, Hid ((net ts).tr.length = m) := ⟨_, Lib.hid rfl⟩
  obtain ⟨m2, HM2⟩ : ∃ m, Hid ((net ts).ps.length = m) := ⟨_, Lib.hid rfl⟩
  rw [HM2.out, HM3.out] at hN
  rw [HM3.out] at ho3
  rw [HM2.out, HM3.out]
  have HB1 := Lib.hid hN.1
  have HT1 := Lib.hid (own_In HM3.out hN.2.2.2)
  obtain ⟨gL, rfl, hgL, e0, e1, -, -, -⟩ := (hts.out.below hN.1).2 j x hx
  clear hN hx
  have HGL : ∀ v, Below w1.heap.size w1 v → gL < v.heap.size := fun v hv => by have := hv.size; have := HB1.out.size; omega
  go_upto_region 2 with fail
  refine wp_region_held_drew (S := fun v => v.cell? ⟨gL, j * 5, none⟩ = some (.int .i64 x.frm) ∧ v.cell? ⟨gL, j * 5 + 1, none⟩ = some (.int .i64 x.to_) ∧ Below w1.heap.size w1 v) (by kernel_rfl) ?_ (fun hHeld => ?_)
  · exact ⟨e0, e1, (Below.refl _ _).drew⟩
  refine' wpAnyH_take (i := 0) (v := ?vr1_0) rfl (by kernel_rfl) (by kernel_rfl) (by kernel_rfl) (fun _ _ _ h => h) (Or.inl ⟨by rfl, ?hyr1_0⟩) (by assumption) ?restr1_0
  case hyr1_0 => (intro w hSw; (try dsimp only at hSw); go_simp; try (with_reducible rfl))
  simp only [Act.put, List.getElem_toArray, List.getElem_cons_succ, List.getElem_cons_zero, List.setIfInBounds_toArray, List.set_cons_zero, List.set_cons_succ]
  refine' wpAnyH_take (i := 1) (v := ?vr1_1) rfl (by kernel_rfl) (by kernel_rfl) (by kernel_rfl) (fun _ _ _ h => h) (Or.inl ⟨by rfl, ?hyr1_1⟩) (by assumption) ?restr1_1
  case hyr1_1 => (intro w hSw; (try dsimp only at hSw); go_simp; try (with_reducible rfl))
  simp only [Act.put, List.getElem_toArray, List.getElem_cons_succ, List.getElem_cons_zero, List.setIfInBounds_toArray, List.set_cons_zero, List.set_cons_succ]
  refine' wpAnyH_take (i := 2) (v := ?vr1_2) rfl (by kernel_rfl) (by kernel_rfl) (by kernel_rfl) (fun _ _ _ h => h) (Or.inl ⟨by rfl, ?hyr1_2⟩) (by assumption) ?restr1_2
  case hyr1_2 => (intro w hSw; (try dsimp only at hSw); go_simp; try (with_reducible rfl))
  simp only [Act.put, List.getElem_toArray, List.getElem_cons_succ, List.getElem_cons_zero, List.setIfInBounds_toArray, List.set_cons_zero, List.set_cons_succ]
  refine' wpAnyH_take (i := 3) (v := ?vr1_3) rfl (by kernel_rfl) (by kernel_rfl) (by kernel_rfl) (fun _ _ _ h => h) (Or.inl ⟨by rfl, ?hyr1_3⟩) (by assumption) ?restr1_3
  case hyr1_3 => (intro w hSw; (try dsimp only at hSw); go_simp; try (with_reducible rfl))
  simp only [Act.put, List.getElem_toArray, List.getElem_cons_succ, List.getElem_cons_zero, List.setIfInBounds_toArray, List.set_cons_zero, List.set_cons_succ]
  refine' wpAnyH_take (i := 4) (v := ?vr1_4) rfl (by kernel_rfl) (by kernel_rfl) (by kernel_rfl) (fun _ _ _ h => h) (Or.inl ⟨by rfl, ?hyr1_4⟩) (by assumption) ?restr1_4
  case hyr1_4 => (intro w hSw; (try dsimp only at hSw); go_simp; try (with_reducible rfl))
  simp only [Act.put, List.getElem_toArray, List.getElem_cons_succ, List.getElem_cons_zero, List.setIfInBounds_toArray, List.set_cons_zero, List.set_cons_succ]
  refine' wpAnyH_take (i := 5) (v := ?vr1_5) rfl (by kernel_rfl) (by kernel_rfl) (by kernel_rfl) (fun _ _ _ h => h) (Or.inl ⟨by rfl, ?hyr1_5⟩) (by assumption) ?restr1_5
  case hyr1_5 => (intro w hSw; (try dsimp only at hSw); go_simp; try (with_reducible rfl))
  simp only [Act.put, List.getElem_toArray, List.getElem_cons_succ, List.getElem_cons_zero, List.setIfInBounds_toArray, List.set_cons_zero, List.set_cons_succ]
  refine' wpAnyH_take (i := 6) (v := ?vr1_6) rfl (by kernel_rfl) (by kernel_rfl) (by kernel_rfl) (fun _ _ _ h => h) (Or.inl ⟨by rfl, ?hyr1_6⟩) (by assumption) ?restr1_6
  case hyr1_6 => (intro w hSw; (try dsimp only at hSw); go_simp; try (with_reducible rfl))
  simp only [Act.put, List.getElem_toArray, List.getElem_cons_succ, List.getElem_cons_zero, List.setIfInBounds_toArray, List.set_cons_zero, List.set_cons_succ]
  refine' wpAnyH_take (i := 7) (v := ?vr1_7) rfl (by kernel_rfl) (by kernel_rfl) (by kernel_rfl) (fun _ _ _ h => h) (Or.inl ⟨by rfl, ?hyr1_7⟩) (by assumption) ?restr1_7
  case hyr1_7 => (intro w hSw; (try dsimp only at hSw); go_simp; try (with_reducible rfl))
  simp only [Act.put, List.getElem_toArray, List.getElem_cons_succ, List.getElem_cons_zero, List.setIfInBounds_toArray, List.set_cons_zero, List.set_cons_succ]
  refine' wpAnyH_take (i := 8) (v := ?vr1_8) rfl (by kernel_rfl) (by kernel_rfl) (by kernel_rfl) (fun _ _ _ h => h) (Or.inl ⟨by rfl, ?hyr1_8⟩) (by assumption) ?restr1_8
  case hyr1_8 => (intro w hSw; (try dsimp only at hSw); go_simp; try (with_reducible rfl))
  simp only [Act.put, List.getElem_toArray, List.getElem_cons_succ, List.getElem_cons_zero, List.setIfInBounds_toArray, List.set_cons_zero, List.set_cons_succ]
  refine' wpAnyH_take (i := 9) (v := ?vr1_9) rfl (by kernel_rfl) (by kernel_rfl) (by kernel_rfl) (fun _ _ _ h => h) (Or.inl ⟨by rfl, ?hyr1_9⟩) (by assumption) ?restr1_9
  case hyr1_9 => (intro w hSw; (try dsimp only at hSw); go_simp; try (with_reducible rfl))
  simp only [Act.put, List.getElem_toArray, List.getElem_cons_succ, List.getElem_cons_zero, List.setIfInBounds_toArray, List.set_cons_zero, List.set_cons_succ]
  refine' wpAnyH_take (i := 10) (v := ?vr1_10) rfl (by kernel_rfl) (by kernel_rfl) (by kernel_rfl) (fun _ _ _ h => h) (Or.inl ⟨by rfl, ?hyr1_10⟩) (by assumption) ?restr1_10
  case hyr1_10 => (intro w hSw; (try dsimp only at hSw); go_simp; try (with_reducible rfl))
  simp only [Act.put, List.getElem_toArray, List.getElem_cons_succ, List.getElem_cons_zero, List.setIfInBounds_toArray, List.set_cons_zero, List.set_cons_succ]
  refine' wpAnyH_take (i := 11) (v := ?vr1_11) rfl (by kernel_rfl) (by kernel_rfl) (by kernel_rfl) (fun _ _ _ h => h) (Or.inl ⟨by rfl, ?hyr1_11⟩) (by assumption) ?restr1_11
  case hyr1_11 => (intro w hSw; (try dsimp only at hSw); go_simp; try (with_reducible rfl))
  simp only [Act.put, List.getElem_toArray, List.getElem_cons_succ, List.getElem_cons_zero, List.setIfInBounds_toArray, List.set_cons_zero, List.set_cons_succ]
  refine wpAnyH_ready (rs := [12]) (by kernel_rfl) (by simp) ?_
  refine AllReadyH.cons rfl (fun K hK => ?_) AllReadyH.nil
  go_simp
  refine (way_any ts hg 13 (-1) x.to_ x.frm _ n cap _ m3 c3 _ HF13 (Lib.hid (hts.out.step (HB1.out.trans (hHeld.2.2.mono HB1.out.size)))) (Lib.hid (HT1.out.step hHeld.2.2))).mono ?_
  rintro _ w2 ⟨r, ok, g9, c9, m9, rfl, hr, hm9, hown, hb2, hok⟩
  have HOW := Lib.hid (nt.own_mono hown (Nat.le_trans HB1.out.size hHeld.2.2.size))
  have HR := Lib.hid hr
  have HOK2 := Lib.hid hok
  clear hown hr hok
  refine hK.out _ _ (⟨(hb2.cell (p := ⟨gL, j * 5, none⟩) (HGL _ hHeld.2.2)).trans hHeld.1, (hb2.cell (p := ⟨gL, j * 5 + 1, none⟩) (HGL _ hHeld.2.2)).trans hHeld.2.1, hHeld.2.2.trans (hb2.mono hHeld.2.2.size)⟩) (fun hHeld1 => ?_)
  clear hK K hHeld
  have hHeld := hHeld1
  clear hHeld1
  try simp only [Act.put, List.getElem_toArray, List.getElem_cons_succ, List.getElem_cons_zero, List.setIfInBounds_toArray, List.set_cons_zero, List.set_cons_succ]
  refine' wpAnyH_take (i := 13) (v := ?vr1_13) rfl (by kernel_rfl) (by kernel_rfl) (by kernel_rfl) (fun _ _ _ h => h) (Or.inl ⟨by rfl, ?hyr1_13⟩) (by assumption) ?restr1_13
  case hyr1_13 => (intro w hSw; (try dsimp only at hSw); go_simp; try (with_reducible rfl))
  simp only [Act.put, List.getElem_toArray, List.getElem_cons_succ, List.getElem_cons_zero, List.setIfInBounds_toArray, List.set_cons_zero, List.set_cons_succ]
  refine' wpAnyH_take (i := 14) (v := ?vr1_14) rfl (by kernel_rfl) (by kernel_rfl) (by kernel_rfl) (fun _ _ _ h => h) (Or.inl ⟨by rfl, ?hyr1_14⟩) (by assumption) ?restr1_14
  case hyr1_14 => (intro w hSw; (try dsimp only at hSw); go_simp; try (with_reducible rfl))
  simp only [Act.put, List.getElem_toArray, List.getElem_cons_succ, List.getElem_cons_zero, List.setIfInBounds_toArray, List.set_cons_zero, List.set_cons_succ]
  refine' wpAnyH_take (i := 15) (v := ?vr1_15) rfl (by kernel_rfl) (by kernel_rfl) (by kernel_rfl) (fun _ _ _ h => h) (Or.inl ⟨by rfl, ?hyr1_15⟩) (by assumption) ?restr1_15
  case hyr1_15 => (intro w hSw; (try dsimp only at hSw); go_simp; try (with_reducible rfl))
  simp only [Act.put, List.getElem_toArray, List.getElem_cons_succ, List.getElem_cons_zero, List.setIfInBounds_toArray, List.set_cons_zero, List.set_cons_succ]
  refine' wpAnyH_take (i := 16) (v := ?vr1_16) rfl (by kernel_rfl) (by kernel_rfl) (by kernel_rfl) (fun _ _ _ h => h) (Or.inl ⟨by rfl, ?hyr1_16⟩) (by assumption) ?restr1_16
  case hyr1_16 => (intro w hSw; (try dsimp only at hSw); go_simp; try (with_reducible rfl))
  simp only [Act.put, List.getElem_toArray, List.getElem_cons_succ, List.getElem_cons_zero, List.setIfInBounds_toArray, List.set_cons_zero, List.set_cons_succ]
  refine' wpAnyH_take (i := 17) (v := ?vr1_17) rfl (by kernel_rfl) (by kernel_rfl) (by kernel_rfl) (fun _ _ _ h => h) (Or.inl ⟨by rfl, ?hyr1_17⟩) (by assumption) ?restr1_17
  case hyr1_17 => (intro w hSw; (try dsimp only at hSw); go_simp; try (with_reducible rfl))
  simp only [Act.put, List.getElem_toArray, List.getElem_cons_succ, List.getElem_cons_zero, List.setIfInBounds_toArray, List.set_cons_zero, List.set_cons_succ]
  refine wpAnyH_done (by kernel_rfl) ?_ _
  have HB2 := Lib.hid (HB1.out.trans (hHeld.2.2.mono HB1.out.size))
  have hw2 := HB2.out.size
  clear hHeld e0 e1 HGL
  have HNB := Lib.hid (show r = pathOf ts (j : Int) by
    have q := HOK2.out
    refine path_is ht.out ?_
    rw [HLA.out]
    cases ok
    · rw [if_neg (by simp)] at q
      have q2 := path_nb ht.out
      rw [HLA.out] at q2
      exact absurd q2 (q _)
    · rw [if_pos rfl] at q; exact q)
  have HIS := Lib.hid (lpIds_is ht.out)
  go_wp2_with (at_builtin; refine wpList_append_lies _ rfl _ _ 24 rfl w.heap.size 3 i0 (.int .i64 0) 1 8 Tryd.underlying24 hi hz0 hz1 hz2 rfl (by decide) _ _ _ rfl (HOW.out.alloc _) ⟨w2.heap.size, 0, none⟩ 1 1 [.int .i64 (j : Int)] rfl rfl (cell_one_new _ _ _) (by simp [Value.oneCell']) (by decide) (by unfold maxLen; omega) (by omega) (by simp; omega) _ rfl ?_; intro g8 c8 w3 hown' hgrow hat hlt9)
  have HB3 := Lib.hid ((HB2.out.alloc hw2 (.cells #[.int .i64 (j : Int)] 3)).grown hgrow (by simp; omega) (fun g e => (HOW.out.lt g e).1))
  have HO8 := Lib.hid (show w3.ownsRow w.heap.size 3 1 (.slice (some ⟨g8, 0, none⟩) (m9 + 1) c8) (m9 + 1) (ints.intsV (lpIds ts (j : Int))) by rw [HIS.out, ← HNB.out, intsV_app]; exact hown')
  have HLN := Lib.hid (show (lpIds ts (j : Int)).length = m9 + 1 by rw [HIS.out, ← HNB.out, List.length_append, HR.out]; rfl)
  clear hown' hgrow hat
  go_wp2_with fail
  go_ret
  exact ⟨_, rfl, by rw [HLN.out]; exact HO8.out, HB3.out⟩
#print axioms closing8_any
#print axioms legs8_any
end Go.Proofs.YtkeepfkjhcmhlaaDoor.lp
