/-
  ParseLeg: the walk of the program.
  Conditions: the variables of strconv are laid; the text has at most 1048576 bytes.
-/
import Derived.Test.YtpacgdjbclogoaaDoorLgZ0
import Derived.Test.YtpacgdjbclogoaaDoorLgU
import Derived.Deep.DeepCutAuto
import Derived.Deep.RegionHeld3
import Derived.Deep.RegionWith
import Derived.Deep.QuietTactic
import Derived.BigQuiet
namespace Go.Proofs.YtpacgdjbclogoaaDoor.lgz
open Go.RowKit
open reads base ty lg pow txt strmath iterc readc rowi pcrd lgx lgy
set_option linter.unusedVariables false
set_option linter.unusedSimpArgs false

/-- the answer, the words, the ends, the variables -/
def WS (w : World) (g e : Nat) (us es : List ByteArray) (v : World) : Prop :=
  RB w v ∧ VarsP v ∧ (∀ (k : Nat) u, us[k]? = some u → v.cell? ⟨g, k, none⟩ = some (.string u)) ∧ (∀ (k : Nat) u, es[k]? = some u → v.cell? ⟨e, k, none⟩ = some (.string u)) ∧ g < v.heap.size ∧ e < v.heap.size
theorem WS.step {w v v' : World} {g e : Nat} {us es : List ByteArray} (h : WS w g e us es v) (hb : Below v.heap.size v v') : WS w g e us es v' := by
  obtain ⟨h1, h2, h3, h4, h5, h6⟩ := h
  have z := hb.size
  exact ⟨h1.step hb, h2.below hb, fun k u q => (hb.cell (p := ⟨g, k, none⟩) h5).trans (h3 k u q), fun k u q => (hb.cell (p := ⟨e, k, none⟩) h6).trans (h4 k u q), by omega, by omega⟩
theorem ws_mk {w v : World} {g e : Nat} {u0 u1 u2 u3 u4 u5 u6 u7 e0 e1 : ByteArray} (h : WS w g e [u0, u1, u2, u3, u4, u5, u6, u7] [e0, e1] v) : v.cell? ⟨e, 0, none⟩ = some (.string e0) ∧ v.cell? ⟨e, 1, none⟩ = some (.string e1) ∧ v.cell? ⟨g, 3, none⟩ = some (.string u3) ∧ v.cell? ⟨g, 5, none⟩ = some (.string u5) ∧ v.cell? ⟨g, 7, none⟩ = some (.string u7) ∧ WS w g e [u0, u1, u2, u3, u4, u5, u6, u7] [e0, e1] v :=
  ⟨h.2.2.2.1 0 e0 rfl, h.2.2.2.1 1 e1 rfl, h.2.2.1 3 u3 rfl, h.2.2.1 5 u5 rfl, h.2.2.1 7 u7 rfl, h⟩
/-- the words that a leg's text has -/
theorem words_of {s u0 u1 u2 u3 u4 u5 u6 u7 e0 e1 : ByteArray} {y : Lg} (hw : pcs 32 s.data.toList = [u0, u1, u2, u3, u4, u5, u6, u7]) (he : pcs 45 u1.data.toList = [e0, e1]) (hy : IsLT s y) : e0 = num y.frm ∧ e1 = num y.to_ ∧ u3 = num y.tape ∧ u5 = num y.comp ∧ u7 = num y.slope := by
  have k := ltx_words y hy.1
  rw [hy.2, hw] at k
  simp only [List.cons.injEq, and_true] at k
  obtain ⟨-, k1, -, k3, -, k5, -, k7⟩ := k
  have e := ltx_ends y hy.1
  rw [← k1, he] at e
  simp only [List.cons.injEq, and_true] at e
  exact ⟨e.1, e.2, k3, k5, k7⟩
theorem all_num {s u0 u1 u2 u3 u4 u5 u6 u7 e0 e1 : ByteArray} {y : Lg} (hw : pcs 32 s.data.toList = [u0, u1, u2, u3, u4, u5, u6, u7]) (he : pcs 45 u1.data.toList = [e0, e1]) (hy : IsLT s y) : ∀ t ∈ [e0, e1, u3, u5, u7], ∃ n, IsNum t n := by
  obtain ⟨rfl, rfl, rfl, rfl, rfl⟩ := words_of hw he hy
  obtain ⟨⟨a0, a1⟩, ⟨a2, a3⟩, -, ⟨a4, a5⟩, ⟨a6, a7⟩, a8, a9⟩ := okLg_lim hy.1
  intro t ht
  simp only [List.mem_cons, List.not_mem_nil, or_false] at ht
  rcases ht with rfl | rfl | rfl | rfl | rfl
  · exact ⟨_, isNum_num _ (by omega) (by omega)⟩
  · exact ⟨_, isNum_num _ (by omega) (by omega)⟩
  · exact ⟨_, isNum_num _ (by omega) (by omega)⟩
  · exact ⟨_, isNum_num _ (by omega) (by omega)⟩
  · exact ⟨_, isNum_num _ (by omega) (by omega)⟩
theorem told2 {s u0 u1 u2 u3 u4 u5 u6 u7 e0 e1 : ByteArray} {v0 v1 v2 v3 v4 : Int} {y : Lg} (hw : pcs 32 s.data.toList = [u0, u1, u2, u3, u4, u5, u6, u7]) (he : pcs 45 u1.data.toList = [e0, e1])
    (r0 : IsNum e0 v0) (r1 : IsNum e1 v1) (r2 : IsNum u3 v2) (r3 : IsNum u5 v3) (r4 : IsNum u7 v4) (hy : IsLT s y) : (⟨v0, v1, v2, v3, v4⟩ : Lg) = y := by
  obtain ⟨rfl, rfl, rfl, rfl, rfl⟩ := words_of hw he hy
  obtain ⟨⟨a0, a1⟩, ⟨a2, a3⟩, -, ⟨a4, a5⟩, ⟨a6, a7⟩, a8, a9⟩ := okLg_lim hy.1
  have g0 := isNum_one r0 (isNum_num _ (by omega) (by omega))
  have g1 := isNum_one r1 (isNum_num _ (by omega) (by omega))
  have g2 := isNum_one r2 (isNum_num _ (by omega) (by omega))
  have g3 := isNum_one r3 (isNum_num _ (by omega) (by omega))
  have g4 := isNum_one r4 (isNum_num _ (by omega) (by omega))
  cases y
  simp only at g0 g1 g2 g3 g4
  subst g0 g1 g2 g3 g4
  rfl
theorem five {α : Type} {l : List α} (h : l.length = 5) : ∃ a b c d e, l = [a, b, c, d, e] := by
  match l, h with
  | [a, b, c, d, e], _ => exact ⟨a, b, c, d, e, rfl⟩
set_option maxHeartbeats 4000000 in
set_option maxRecDepth 100000 in
theorem parse_impl (s : ByteArray) (r : Lg × Bool) (w : World) (hs : s.size ≤ 1048576) (hr : Hid (PL s r)) (hV : Hid (VarsP w)) : Calls Tryd.prog 29 #[.string s] w (APost (plV r) w) := by
  have HB0 := Lib.hid (RB.start w)
  have HV0 := Lib.hid (hV.out.below ((Below.refl w.heap.size w).alloc (Nat.le_refl _) (.cells #[.int .i64 0, .int .i64 0, .int .i64 0, .int .i64 0, .int .i64 0] 28)))
  by_cases h4 : 4000 < s.size
  · go_enter Tryd.func29, Tryd.ntmps29
    go_wp2_with fail
    refine (splitc.split_bad s _ _ hs (by decide) (Or.inl h4)).mono ?_
    rintro e w1 ⟨rfl, hw1⟩
    have HB1 := Lib.hid (show RB w w1 by rw [hw1]; exact HB0.out.step ((Below.refl _ _).alloc (Nat.le_refl _) _))
    clear hw1 HB0 HV0
    have HNO := Lib.hid (pl_no hr.out (fun x hx => by have := ltx_size x hx.1; rw [hx.2] at this; omega))
    obtain ⟨z0, z1, z2, z3, z4, f0, f1, f2, f3, f4, hz⟩ := HB1.out.zs
    go_wp2_with fail
    refine bodyPost_ret (v := .tuple #[.agg #[.int .i64 0, .int .i64 0, .int .i64 0, .int .i64 0, .int .i64 0], .bool false]) (by simp [results, Tryd.results29, go_sem, *]) rfl ⟨by rw [HNO.out]; rfl, ?_⟩
    exact HB1.out.put _ _ _ _ _
  have h4' : s.size ≤ 4000 := by omega
  clear h4
  go_enter Tryd.func29, Tryd.ntmps29
  go_wp2_with fail
  refine (splitc.split_any s 32 h4' _).mono ?_
  rintro e w1 ⟨v, rfl, hown, b⟩
  have HB1 := Lib.hid (HB0.out.step b)
  have HV1 := Lib.hid (HV0.out.below b)
  obtain ⟨N, hN⟩ : ∃ N, (pcs 32 s.data.toList).length = N := ⟨_, rfl⟩
  rw [hN] at hown
  obtain ⟨WA, wc, rfl⟩ := row_slice hown
  have HO := Lib.hid hown
  have HN := Lib.hid hN
  clear b hown hN HB0 HV0
  by_cases h8 : ¬ N = 8
  · have d8 : ((N : Int) != 8) = true := by simp; omega
    have d8' : (N != 8) = true := by simpa using h8
    have HNO := Lib.hid (pl_no hr.out (fun x hx => h8 (by have k := ltx_words x hx.1; rw [hx.2] at k; have := HN.out; rw [k] at this; simpa using this.symm)))
    obtain ⟨z0, z1, z2, z3, z4, f0, f1, f2, f3, f4, hz⟩ := HB1.out.zs
    go_wp2_with fail
    refine bodyPost_ret (v := .tuple #[.agg #[.int .i64 0, .int .i64 0, .int .i64 0, .int .i64 0, .int .i64 0], .bool false]) (by simp [results, Tryd.results29, go_sem, *]) rfl ⟨by rw [HNO.out]; rfl, ?_⟩
    exact HB1.out.put _ _ _ _ _
  have h8 : N = 8 := by omega
  subst h8
  obtain ⟨u0, u1, u2, u3, u4, u5, u6, u7, hw⟩ := eight HN.out
  have HW := Lib.hid hw
  have hrow := HO.out
  rw [hw] at hrow
  obtain ⟨g, rfl, hgl, hcells⟩ := cells_of hrow (by decide) rfl
  have HCE := Lib.hid hcells
  have c1 := hcells 1 u1 rfl
  have HM := Lib.hid (show ∀ t ∈ pcs 32 s.data.toList, t.size ≤ 4000 from fun t ht => by have := pcs_mem 32 s t ht; omega)
  have hm1 : u1.size ≤ 4000 := HM.out u1 (by rw [HW.out]; simp)
  have hm3 : u3.size ≤ 4000 := HM.out u3 (by rw [HW.out]; simp)
  have hm5 : u5.size ≤ 4000 := HM.out u5 (by rw [HW.out]; simp)
  have hm7 : u7.size ≤ 4000 := HM.out u7 (by rw [HW.out]; simp)
  clear hrow hcells hw HO HM
  go_wp2_with fail
  refine (splitc.split_any u1 45 hm1 _).mono ?_
  rintro e w2 ⟨v, rfl, hown, b⟩
  have HB2 := Lib.hid (HB1.out.step b)
  have HV2 := Lib.hid (HV1.out.below b)
  have HC2 := Lib.hid (show ∀ (k : Nat) u, [u0, u1, u2, u3, u4, u5, u6, u7][k]? = some u → w2.cell? ⟨g, k, none⟩ = some (.string u) from fun k u q => (b.cell (p := ⟨g, k, none⟩) hgl).trans (HCE.out k u q))
  have hgl2 : g < w2.heap.size := Nat.lt_of_lt_of_le hgl b.size
  obtain ⟨M, hM⟩ : ∃ M, (pcs 45 u1.data.toList).length = M := ⟨_, rfl⟩
  rw [hM] at hown
  obtain ⟨EA, ec, rfl⟩ := row_slice hown
  have HO := Lib.hid hown
  have HMM := Lib.hid hM
  clear b hown hM HB1 HV1 HCE c1
  by_cases h2 : ¬ M = 2
  · have d2 : ((M : Int) != 2) = true := by simp; omega
    have d2' : (M != 2) = true := by simpa using h2
    have HNO := Lib.hid (pl_no hr.out (fun x hx => h2 (by have k := ltx_words x hx.1; rw [hx.2, HW.out] at k; simp only [List.cons.injEq, and_true] at k; have e := ltx_ends x hx.1; rw [← k.2.1] at e; have := HMM.out; rw [e] at this; simpa using this.symm)))
    obtain ⟨z0, z1, z2, z3, z4, f0, f1, f2, f3, f4, hz⟩ := HB2.out.zs
    go_wp2_with fail
    refine bodyPost_ret (v := .tuple #[.agg #[.int .i64 0, .int .i64 0, .int .i64 0, .int .i64 0, .int .i64 0], .bool false]) (by simp [results, Tryd.results29, go_sem, *]) rfl ⟨by rw [HNO.out]; rfl, ?_⟩
    exact HB2.out.put _ _ _ _ _
  have h2 : M = 2 := by omega
  subst h2
  obtain ⟨e0, e1, he⟩ := two_of HMM.out
  have HE := Lib.hid he
  have hrow := HO.out
  rw [he] at hrow
  obtain ⟨ge, rfl, hel, hce⟩ := cells_of hrow (by decide) rfl
  have HS2 := Lib.hid (show WS w g ge [u0, u1, u2, u3, u4, u5, u6, u7] [e0, e1] w2 from ⟨HB2.out, HV2.out, HC2.out, hce, hgl2, hel⟩)
  have hs0 : e0.size ≤ 4000 := by have := pcs_mem 45 u1 e0 (by rw [he]; simp); omega
  have hs1 : e1.size ≤ 4000 := by have := pcs_mem 45 u1 e1 (by rw [he]; simp); omega
  have HSZ := Lib.hid (show ∀ t ∈ [e0, e1, u3, u5, u7], t.size ≤ 1048576 from fun t ht => by
    simp only [List.mem_cons, List.not_mem_nil, or_false] at ht
    rcases ht with rfl | rfl | rfl | rfl | rfl <;> omega)
  clear hrow hce he HO HB2 HV2 HC2 hgl hgl2 hel
  go_wp2_with fail
  refine wp_region_held_drew (S := (fun v => v.cell? ⟨ge, 0, none⟩ = some (.string e0) ∧ v.cell? ⟨ge, 1, none⟩ = some (.string e1) ∧ v.cell? ⟨g, 3, none⟩ = some (.string u3) ∧ v.cell? ⟨g, 5, none⟩ = some (.string u5) ∧ v.cell? ⟨g, 7, none⟩ = some (.string u7) ∧ WS w g ge [u0, u1, u2, u3, u4, u5, u6, u7] [e0, e1] v)) (by kernel_rfl) ?_ (fun hHeld => ?_)
  · exact ws_mk (HS2.out.step (drewN_below _ 1))
  refine' wpAnyH_take (i := 0) (v := ?vr1_0) rfl (by kernel_rfl) (by kernel_rfl) (by kernel_rfl) (fun _ _ _ h => h) (Or.inl ⟨by rfl, ?hyr1_0⟩) (by assumption) ?restr1_0
  case hyr1_0 => (intro w hSw; (try dsimp only at hSw); go_simp; try (with_reducible rfl))
  simp only [Act.put, List.getElem_toArray, List.getElem_cons_succ, List.getElem_cons_zero, List.setIfInBounds_toArray, List.set_cons_zero, List.set_cons_succ]
  refine' wpAnyH_take (i := 1) (v := ?vr1_1) rfl (by kernel_rfl) (by kernel_rfl) (by kernel_rfl) (fun _ _ _ h => h) (Or.inl ⟨by rfl, ?hyr1_1⟩) (by assumption) ?restr1_1
  case hyr1_1 => (intro w hSw; (try dsimp only at hSw); go_simp; try (with_reducible rfl))
  simp only [Act.put, List.getElem_toArray, List.getElem_cons_succ, List.getElem_cons_zero, List.setIfInBounds_toArray, List.set_cons_zero, List.set_cons_succ]
  refine' wpAnyH_take (i := 2) (v := ?vr1_2) rfl (by kernel_rfl) (by kernel_rfl) (by kernel_rfl) (fun _ _ _ h => h) (Or.inl ⟨by rfl, ?hyr1_2⟩) (by assumption) ?restr1_2
  case hyr1_2 => (intro w hSw; (try dsimp only at hSw); go_simp; try (with_reducible rfl))
  simp only [Act.put, List.getElem_toArray, List.getElem_cons_succ, List.getElem_cons_zero, List.setIfInBounds_toArray, List.set_cons_zero, List.set_cons_succ]
  refine' wpAnyH_take (i := 3) (v := ?vr1_3) rfl (by kernel_rfl) (by kernel_rfl) (by kernel_rfl) (fun _ _ _ h => h) (Or.inl ⟨by rfl, ?hyr1_3⟩) (by assumption) ?restr1_3
  case hyr1_3 => (intro w hSw; (try dsimp only at hSw); go_simp; try (with_reducible rfl))
  simp only [Act.put, List.getElem_toArray, List.getElem_cons_succ, List.getElem_cons_zero, List.setIfInBounds_toArray, List.set_cons_zero, List.set_cons_succ]
  refine' wpAnyH_take (i := 4) (v := ?vr1_4) rfl (by kernel_rfl) (by kernel_rfl) (by kernel_rfl) (fun _ _ _ h => h) (Or.inl ⟨by rfl, ?hyr1_4⟩) (by assumption) ?restr1_4
  case hyr1_4 => (intro w hSw; (try dsimp only at hSw); go_simp; try (with_reducible rfl))
  simp only [Act.put, List.getElem_toArray, List.getElem_cons_succ, List.getElem_cons_zero, List.setIfInBounds_toArray, List.set_cons_zero, List.set_cons_succ]
  refine' wpAnyH_take (i := 5) (v := ?vr1_5) rfl (by kernel_rfl) (by kernel_rfl) (by kernel_rfl) (fun _ _ _ h => h) (Or.inl ⟨by rfl, ?hyr1_5⟩) (by assumption) ?restr1_5
  case hyr1_5 => (intro w hSw; (try dsimp only at hSw); go_simp; try (with_reducible rfl))
  simp only [Act.put, List.getElem_toArray, List.getElem_cons_succ, List.getElem_cons_zero, List.setIfInBounds_toArray, List.set_cons_zero, List.set_cons_succ]
  refine' wpAnyH_take (i := 6) (v := ?vr1_6) rfl (by kernel_rfl) (by kernel_rfl) (by kernel_rfl) (fun _ _ _ h => h) (Or.inl ⟨by rfl, ?hyr1_6⟩) (by assumption) ?restr1_6
  case hyr1_6 => (intro w hSw; (try dsimp only at hSw); go_simp; try (with_reducible rfl))
  simp only [Act.put, List.getElem_toArray, List.getElem_cons_succ, List.getElem_cons_zero, List.setIfInBounds_toArray, List.set_cons_zero, List.set_cons_succ]
  refine' wpAnyH_take (i := 7) (v := ?vr1_7) rfl (by kernel_rfl) (by kernel_rfl) (by kernel_rfl) (fun _ _ _ h => h) (Or.inl ⟨by rfl, ?hyr1_7⟩) (by assumption) ?restr1_7
  case hyr1_7 => (intro w hSw; (try dsimp only at hSw); go_simp; try (with_reducible rfl))
  simp only [Act.put, List.getElem_toArray, List.getElem_cons_succ, List.getElem_cons_zero, List.setIfInBounds_toArray, List.set_cons_zero, List.set_cons_succ]
  refine' wpAnyH_take (i := 8) (v := ?vr1_8) rfl (by kernel_rfl) (by kernel_rfl) (by kernel_rfl) (fun _ _ _ h => h) (Or.inl ⟨by rfl, ?hyr1_8⟩) (by assumption) ?restr1_8
  case hyr1_8 => (intro w hSw; (try dsimp only at hSw); go_simp; try (with_reducible rfl))
  simp only [Act.put, List.getElem_toArray, List.getElem_cons_succ, List.getElem_cons_zero, List.setIfInBounds_toArray, List.set_cons_zero, List.set_cons_succ]
  refine' wpAnyH_take (i := 9) (v := ?vr1_9) rfl (by kernel_rfl) (by kernel_rfl) (by kernel_rfl) (fun _ _ _ h => h) (Or.inl ⟨by rfl, ?hyr1_9⟩) (by assumption) ?restr1_9
  case hyr1_9 => (intro w hSw; (try dsimp only at hSw); go_simp; try (with_reducible rfl))
  simp only [Act.put, List.getElem_toArray, List.getElem_cons_succ, List.getElem_cons_zero, List.setIfInBounds_toArray, List.set_cons_zero, List.set_cons_succ]
  refine' wpAnyH_take (i := 10) (v := ?vr1_10) rfl (by kernel_rfl) (by kernel_rfl) (by kernel_rfl) (fun _ _ _ h => h) (Or.inl ⟨by rfl, ?hyr1_10⟩) (by assumption) ?restr1_10
  case hyr1_10 => (intro w hSw; (try dsimp only at hSw); go_simp; try (with_reducible rfl))
  simp only [Act.put, List.getElem_toArray, List.getElem_cons_succ, List.getElem_cons_zero, List.setIfInBounds_toArray, List.set_cons_zero, List.set_cons_succ]
  refine' wpAnyH_take (i := 11) (v := ?vr1_11) rfl (by kernel_rfl) (by kernel_rfl) (by kernel_rfl) (fun _ _ _ h => h) (Or.inl ⟨by rfl, ?hyr1_11⟩) (by assumption) ?restr1_11
  case hyr1_11 => (intro w hSw; (try dsimp only at hSw); go_simp; try (with_reducible rfl))
  simp only [Act.put, List.getElem_toArray, List.getElem_cons_succ, List.getElem_cons_zero, List.setIfInBounds_toArray, List.set_cons_zero, List.set_cons_succ]
  refine' wpAnyH_take (i := 12) (v := ?vr1_12) rfl (by kernel_rfl) (by kernel_rfl) (by kernel_rfl) (fun _ _ _ h => h) (Or.inl ⟨by rfl, ?hyr1_12⟩) (by assumption) ?restr1_12
  case hyr1_12 => (intro w hSw; (try dsimp only at hSw); go_simp; try (with_reducible rfl))
  simp only [Act.put, List.getElem_toArray, List.getElem_cons_succ, List.getElem_cons_zero, List.setIfInBounds_toArray, List.set_cons_zero, List.set_cons_succ]
  refine' wpAnyH_take (i := 13) (v := ?vr1_13) rfl (by kernel_rfl) (by kernel_rfl) (by kernel_rfl) (fun _ _ _ h => h) (Or.inl ⟨by rfl, ?hyr1_13⟩) (by assumption) ?restr1_13
  case hyr1_13 => (intro w hSw; (try dsimp only at hSw); go_simp; try (with_reducible rfl))
  simp only [Act.put, List.getElem_toArray, List.getElem_cons_succ, List.getElem_cons_zero, List.setIfInBounds_toArray, List.set_cons_zero, List.set_cons_succ]
  refine' wpAnyH_take (i := 14) (v := ?vr1_14) rfl (by kernel_rfl) (by kernel_rfl) (by kernel_rfl) (fun _ _ _ h => h) (Or.inl ⟨by rfl, ?hyr1_14⟩) (by assumption) ?restr1_14
  case hyr1_14 => (intro w hSw; (try dsimp only at hSw); go_simp; try (with_reducible rfl))
  simp only [Act.put, List.getElem_toArray, List.getElem_cons_succ, List.getElem_cons_zero, List.setIfInBounds_toArray, List.set_cons_zero, List.set_cons_succ]
  refine wpAnyH_ready (rs := [15]) (by kernel_rfl) (by simp) ?_
  refine AllReadyH.cons rfl (fun K hK => ?_) AllReadyH.nil
  go_simp
  refine hK.out _ _ (ws_mk (hHeld.2.2.2.2.2.step ((Below.refl _ _).alloc (Nat.le_refl _) _))) (fun hHeld1 => ?_)
  clear hK K hHeld
  have hHeld := hHeld1
  clear hHeld1
  try simp only [Act.put, List.getElem_toArray, List.getElem_cons_succ, List.getElem_cons_zero, List.setIfInBounds_toArray, List.set_cons_zero, List.set_cons_succ]
  refine wpAnyH_ready (rs := [16]) (by kernel_rfl) (by simp) ?_
  refine AllReadyH.cons rfl (fun K hK => ?_) AllReadyH.nil
  go_simp
  refine (parseInts_new _ 5 _ [e0, e1, u3, u5, u7] _ _ _ rfl rfl (by decide) rfl HSZ.out (HS2.out.2.1.below (drewN_below _ 1))).mono ?_
  rintro e w3 ⟨v, xs, ok, rfl, hrow, hres, bb⟩
  refine hK.out _ _ (ws_mk (hHeld.2.2.2.2.2.step bb)) (fun hHeld1 => ?_)
  clear hK K hHeld
  have hHeld := hHeld1
  clear hHeld1
  try simp only [Act.put, List.getElem_toArray, List.getElem_cons_succ, List.getElem_cons_zero, List.setIfInBounds_toArray, List.set_cons_zero, List.set_cons_succ]
  refine' wpAnyH_take (i := 17) (v := ?vr1_17) rfl (by kernel_rfl) (by kernel_rfl) (by kernel_rfl) (fun _ _ _ h => h) (Or.inl ⟨by rfl, ?hyr1_17⟩) (by assumption) ?restr1_17
  case hyr1_17 => (intro w hSw; (try dsimp only at hSw); go_simp; try (with_reducible rfl))
  simp only [Act.put, List.getElem_toArray, List.getElem_cons_succ, List.getElem_cons_zero, List.setIfInBounds_toArray, List.set_cons_zero, List.set_cons_succ]
  refine' wpAnyH_take (i := 18) (v := ?vr1_18) rfl (by kernel_rfl) (by kernel_rfl) (by kernel_rfl) (fun _ _ _ h => h) (Or.inl ⟨by rfl, ?hyr1_18⟩) (by assumption) ?restr1_18
  case hyr1_18 => (intro w hSw; (try dsimp only at hSw); go_simp; try (with_reducible rfl))
  simp only [Act.put, List.getElem_toArray, List.getElem_cons_succ, List.getElem_cons_zero, List.setIfInBounds_toArray, List.set_cons_zero, List.set_cons_succ]
  refine' wpAnyH_take (i := 19) (v := ?vr1_19) rfl (by kernel_rfl) (by kernel_rfl) (by kernel_rfl) (fun _ _ _ h => h) (Or.inl ⟨by rfl, ?hyr1_19⟩) (by assumption) ?restr1_19
  case hyr1_19 => (intro w hSw; (try dsimp only at hSw); go_simp; try (with_reducible rfl))
  simp only [Act.put, List.getElem_toArray, List.getElem_cons_succ, List.getElem_cons_zero, List.setIfInBounds_toArray, List.set_cons_zero, List.set_cons_succ]
  refine' wpAnyH_take (i := 20) (v := ?vr1_20) rfl (by kernel_rfl) (by kernel_rfl) (by kernel_rfl) (fun _ _ _ h => h) (Or.inl ⟨by rfl, ?hyr1_20⟩) (by assumption) ?restr1_20
  case hyr1_20 => (intro w hSw; (try dsimp only at hSw); go_simp; try (with_reducible rfl))
  simp only [Act.put, List.getElem_toArray, List.getElem_cons_succ, List.getElem_cons_zero, List.setIfInBounds_toArray, List.set_cons_zero, List.set_cons_succ]
  refine' wpAnyH_take (i := 21) (v := ?vr1_21) rfl (by kernel_rfl) (by kernel_rfl) (by kernel_rfl) (fun _ _ _ h => h) (Or.inl ⟨by rfl, ?hyr1_21⟩) (by assumption) ?restr1_21
  case hyr1_21 => (intro w hSw; (try dsimp only at hSw); go_simp; try (with_reducible rfl))
  simp only [Act.put, List.getElem_toArray, List.getElem_cons_succ, List.getElem_cons_zero, List.setIfInBounds_toArray, List.set_cons_zero, List.set_cons_succ]
  refine wpAnyH_done (by kernel_rfl) ?_ _
  have HS3 := Lib.hid hHeld.2.2.2.2.2
  obtain ⟨NA, nc, rfl⟩ := row_slice hrow
  have HRW := Lib.hid hrow
  have HPR := Lib.hid hres
  clear hHeld HS2 hrow hres
  cases ok
  · have HFN := Lib.hid (show ∃ t, t ∈ [e0, e1, u3, u5, u7] ∧ ∀ n, ¬ IsNum t n by rcases HPR.out with ⟨h, -⟩ | ⟨-, h⟩; cases h; exact h)
    have HB3 := Lib.hid HS3.out.1
    have HNO := Lib.hid (pl_no hr.out (fun x hx => by obtain ⟨t, ht, hno⟩ := HFN.out; obtain ⟨n, hn⟩ := all_num HW.out HE.out hx t ht; exact hno n hn))
    obtain ⟨z0, z1, z2, z3, z4, f0, f1, f2, f3, f4, hz⟩ := HB3.out.zs
    go_wp2_with fail
    refine bodyPost_ret (v := .tuple #[.agg #[.int .i64 0, .int .i64 0, .int .i64 0, .int .i64 0, .int .i64 0], .bool false]) (by simp [results, Tryd.results29, go_sem, *]) rfl ⟨by rw [HNO.out]; rfl, ?_⟩
    exact HB3.out.put _ _ _ _ _
  have HTN := Lib.hid (show xs.length = 5 ∧ ∀ (k : Nat) t x, [e0, e1, u3, u5, u7][k]? = some t → xs[k]? = some x → IsNum t x by rcases HPR.out with ⟨-, h1, h2⟩ | ⟨h, -⟩; exact ⟨h1, h2⟩; cases h)
  obtain ⟨v0, v1, v2, v3, v4, hxs⟩ := five HTN.out.1
  subst hxs
  obtain ⟨gn, cap', hv, -, hnl⟩ := HRW.out.form (by simp)
  injection hv with hA _ hc
  subst hA hc
  have k0 := HRW.out.cellAt 0 (by simp)
  have k1 := HRW.out.cellAt 1 (by simp)
  have k2 := HRW.out.cellAt 2 (by simp)
  have k3 := HRW.out.cellAt 3 (by simp)
  have k4 := HRW.out.cellAt 4 (by simp)
  simp only [ints.intsV, List.map_cons, List.map_nil, List.getElem?_cons_zero, List.getElem?_cons_succ] at k0 k1 k2 k3 k4
  have HT := Lib.hid (show ∀ y, IsLT s y → (⟨v0, v1, v2, v3, v4⟩ : Lg) = y from fun y hy => by exact told2 HW.out HE.out (HTN.out.2 0 _ _ rfl rfl) (HTN.out.2 1 _ _ rfl rfl) (HTN.out.2 2 _ _ rfl rfl) (HTN.out.2 3 _ _ rfl rfl) (HTN.out.2 4 _ _ rfl rfl) hy)
  go_wp2_with fail
  go_region
  obtain ⟨Q, HQ⟩ : ∃ Q, Hid (w3.heap.size = Q) := ⟨_, Lib.hid rfl⟩
  have HB4 := Lib.hid (show RB w (w3.drew.alloc (.cells #[.int .i64 v0, .int .i64 v1, .int .i64 v2, .int .i64 v3, .int .i64 v4] 28)) from (HS3.out.1.step (drewN_below w3 1)).step ((Below.refl _ _).alloc (Nat.le_refl _) _))
  have HV4 := Lib.hid (show VarsP (w3.drew.alloc (.cells #[.int .i64 v0, .int .i64 v1, .int .i64 v2, .int .i64 v3, .int .i64 v4] 28)) from (HS3.out.2.1.below (drewN_below w3 1)).below ((Below.refl _ _).alloc (Nat.le_refl _) _))
  have HX4 := Lib.hid (show Blk (w3.drew.alloc (.cells #[.int .i64 v0, .int .i64 v1, .int .i64 v2, .int .i64 v3, .int .i64 v4] 28)) Q 28 #[.int .i64 v0, .int .i64 v1, .int .i64 v2, .int .i64 v3, .int .i64 v4] by rw [← HQ.out]; exact Blk.new w3.drew _ _)
  have HTB := Lib.hid (show TabP (w3.drew.alloc (.cells #[.int .i64 v0, .int .i64 v1, .int .i64 v2, .int .i64 v3, .int .i64 v4] 28)) from HV4.out.1)
  clear k0 k1 k2 k3 k4 HRW hnl HPR
  obtain ⟨q, ok2, hF, hy, hn⟩ : ∃ q ok2, ansText ⟨v0, v1, v2, v3, v4⟩ = .tuple #[.string q, .bool ok2] ∧ (ok2 = true → okLg ⟨v0, v1, v2, v3, v4⟩ = true ∧ ltx ⟨v0, v1, v2, v3, v4⟩ = q) ∧ (ok2 = false → okLg ⟨v0, v1, v2, v3, v4⟩ = false) := by
    unfold ansText
    cases h : okLg ⟨v0, v1, v2, v3, v4⟩
    · exact ⟨_, false, rfl, (fun c => by cases c), fun _ => rfl⟩
    · exact ⟨_, true, rfl, (fun _ => ⟨rfl, rfl⟩), (fun c => by cases c)⟩
  have HF := Lib.hid hF
  have HY := Lib.hid hy
  have HNN := Lib.hid hn
  clear hF hy hn
  go_wp2_with fail
  refine (lgi.legText_impl ⟨v0, v1, v2, v3, v4⟩ _ HTB).mono ?_
  rintro e w5 ⟨rfl, b⟩
  rw [HF.out]
  have HB5 := Lib.hid (HB4.out.step b)
  have HX5 := Lib.hid (HX4.out.below b HX4.out.lt)
  clear b HB4 HX4 HV4 HTB
  rw [HQ.out]
  cases ok2
  · clear HX5
    have HNO := Lib.hid (pl_no hr.out (fun y hy => by have e := HT.out y hy; have k := hy.1; rw [← e, HNN.out rfl] at k; cases k))
    obtain ⟨z0, z1, z2, z3, z4, f0, f1, f2, f3, f4, hz⟩ := HB5.out.zs
    go_wp2_with fail
    refine bodyPost_ret (v := .tuple #[.agg #[.int .i64 0, .int .i64 0, .int .i64 0, .int .i64 0, .int .i64 0], .bool false]) (by simp [results, Tryd.results29, go_sem, *]) rfl ⟨by rw [HNO.out]; rfl, ?_⟩
    exact HB5.out.put _ _ _ _ _
  obtain ⟨hok, hql⟩ := HY.out rfl
  by_cases hq : q = s
  · have k1 : (q.toList == s.toList) = true := by rw [hq]; simp
    have HANS := Lib.hid (pl_yes hr.out (show IsLT s ⟨v0, v1, v2, v3, v4⟩ from ⟨hok, by rw [hql, hq]⟩))
    obtain ⟨y0, y1, y2, y3, y4, yl⟩ := (⟨HX5.out.cell 0, HX5.out.cell 1, HX5.out.cell 2, HX5.out.cell 3, HX5.out.cell 4, HX5.out.lt⟩ : w5.cell? ⟨Q, 0, none⟩ = some (.int .i64 v0) ∧ w5.cell? ⟨Q, 1, none⟩ = some (.int .i64 v1) ∧ w5.cell? ⟨Q, 2, none⟩ = some (.int .i64 v2) ∧ w5.cell? ⟨Q, 3, none⟩ = some (.int .i64 v3) ∧ w5.cell? ⟨Q, 4, none⟩ = some (.int .i64 v4) ∧ Q < w5.heap.size)
    obtain ⟨z0, z1, z2, z3, z4, f0, f1, f2, f3, f4, hz⟩ := HB5.out.zs
    clear hq hok hql
    go_wp2_with fail
    refine bodyPost_ret (v := .tuple #[.agg #[.int .i64 v0, .int .i64 v1, .int .i64 v2, .int .i64 v3, .int .i64 v4], .bool true]) (by simp [results, Tryd.results29, go_sem, *]) rfl ⟨by rw [HANS.out]; rfl, ?_⟩
    exact HB5.out.put _ _ _ _ _
  · have k1 : (q.toList == s.toList) = false := by
      rw [ByteArray.toList_eq, ByteArray.toList_eq]
      simpa using fun c => hq (ByteArray.ext (Array.toList_inj.1 c))
    have HNQ := Lib.hid hq
    have HQL := Lib.hid hql
    clear hq hok hql HX5
    have HNO := Lib.hid (pl_no hr.out (fun y hy => by have e := HT.out y hy; have k := hy.2; rw [← e, HQL.out] at k; exact HNQ.out k))
    obtain ⟨z0, z1, z2, z3, z4, f0, f1, f2, f3, f4, hz⟩ := HB5.out.zs
    go_wp2_with fail
    refine bodyPost_ret (v := .tuple #[.agg #[.int .i64 0, .int .i64 0, .int .i64 0, .int .i64 0, .int .i64 0], .bool false]) (by simp [results, Tryd.results29, go_sem, *]) rfl ⟨by rw [HNO.out]; rfl, ?_⟩
    exact HB5.out.put _ _ _ _ _
end Go.Proofs.YtpacgdjbclogoaaDoor.lgz
