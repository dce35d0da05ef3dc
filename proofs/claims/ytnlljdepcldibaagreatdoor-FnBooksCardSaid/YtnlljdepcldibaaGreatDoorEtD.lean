/-
  ParseEntry of the program.
  Conditions: the variables of strconv are laid; the text has at most 1048576 bytes.
-/
import Derived.Test.YtnlljdepcldibaaGreatDoorEtB
import Derived.Test.YtnlljdepcldibaaGreatDoorEtC
import Derived.Test.YtnlljdepcldibaaGreatDoorPrT
import Derived.Test.YtnlljdepcldibaaGreatDoorShelfCut
import Derived.Deep.RegionHeld3
import Derived.Deep.DeepCutAuto
namespace Go.Proofs.YtnlljdepcldibaaGreatDoor.ent
open Go.RowKit
open reads base ty win lg en eni pow txt strmath iterc readc rowi pcrd ntx lgz
set_option linter.unusedVariables false
set_option linter.unusedSimpArgs false

theorem trim_is (s t : ByteArray) (h : Hid ((⟨(Lib.trimPrefix s.data.toList [43]).toArray⟩ : ByteArray) = t)) (w : World) : Calls Tryz.prog 31 #[.string s, .string ⟨#[43]⟩] w (APost (.string t) w) := by
  refine (Tryz.strings_TrimPrefix s ⟨#[43]⟩ w).mono ?_
  rintro e w' ⟨rfl, rfl⟩
  exact ⟨by rw [← h.out], Below.refl _ _⟩
/-- the answer, the words, the ends, the variables -/
def WE (w : World) (g e : Nat) (us es : List ByteArray) (v : World) : Prop :=
  RE w v ∧ VarsP v ∧ (∀ (k : Nat) u, us[k]? = some u → v.cell? ⟨g, k, none⟩ = some (.string u)) ∧ (∀ (k : Nat) u, es[k]? = some u → v.cell? ⟨e, k, none⟩ = some (.string u)) ∧ g < v.heap.size ∧ e < v.heap.size
theorem WE.step {w v v' : World} {g e : Nat} {us es : List ByteArray} (h : WE w g e us es v) (hb : Below v.heap.size v v') : WE w g e us es v' := by
  obtain ⟨h1, h2, h3, h4, h5, h6⟩ := h
  have z := hb.size
  exact ⟨h1.step hb, h2.below hb, fun k u q => (hb.cell (p := ⟨g, k, none⟩) h5).trans (h3 k u q), fun k u q => (hb.cell (p := ⟨e, k, none⟩) h6).trans (h4 k u q), by omega, by omega⟩
theorem we_mk {w v : World} {g ge : Nat} {u0 u1 u2 u3 u4 e0 e1 : ByteArray} {r : List ByteArray} (h : WE w g ge (u0 :: u1 :: u2 :: u3 :: u4 :: r) [e0, e1] v) : v.cell? ⟨g, 0, none⟩ = some (.string u0) ∧ v.cell? ⟨g, 1, none⟩ = some (.string u1) ∧ v.cell? ⟨ge, 0, none⟩ = some (.string e0) ∧ v.cell? ⟨ge, 1, none⟩ = some (.string e1) ∧ v.cell? ⟨g, 3, none⟩ = some (.string u3) ∧ v.cell? ⟨g, 4, none⟩ = some (.string u4) ∧ WE w g ge (u0 :: u1 :: u2 :: u3 :: u4 :: r) [e0, e1] v :=
  ⟨h.2.2.1 0 u0 rfl, h.2.2.1 1 u1 rfl, h.2.2.2.1 0 e0 rfl, h.2.2.2.1 1 e1 rfl, h.2.2.1 3 u3 rfl, h.2.2.1 4 u4 rfl, h⟩
/-- the answer, the numbers, the variables -/
def WN (w : World) (gn : Nat) (v : World) : Prop := RE w v ∧ VarsP v ∧ gn < v.heap.size
theorem WN.step {w v v' : World} {gn : Nat} (h : WN w gn v) (hb : Below v.heap.size v v') : WN w gn v' := by
  have z := hb.size
  exact ⟨h.1.step hb, h.2.1.below hb, by have := h.2.2; omega⟩
theorem wn_mk {w v v' : World} {gn : Nat} {v0 v1 v2 v3 v4 v5 : Int} (h : v.cell? ⟨gn, 0, none⟩ = some (.int .i64 v0) ∧ v.cell? ⟨gn, 1, none⟩ = some (.int .i64 v1) ∧ v.cell? ⟨gn, 2, none⟩ = some (.int .i64 v2) ∧ v.cell? ⟨gn, 3, none⟩ = some (.int .i64 v3) ∧ v.cell? ⟨gn, 4, none⟩ = some (.int .i64 v4) ∧ v.cell? ⟨gn, 5, none⟩ = some (.int .i64 v5) ∧ WN w gn v) (hb : Below v.heap.size v v') : v'.cell? ⟨gn, 0, none⟩ = some (.int .i64 v0) ∧ v'.cell? ⟨gn, 1, none⟩ = some (.int .i64 v1) ∧ v'.cell? ⟨gn, 2, none⟩ = some (.int .i64 v2) ∧ v'.cell? ⟨gn, 3, none⟩ = some (.int .i64 v3) ∧ v'.cell? ⟨gn, 4, none⟩ = some (.int .i64 v4) ∧ v'.cell? ⟨gn, 5, none⟩ = some (.int .i64 v5) ∧ WN w gn v' := by
  obtain ⟨c0, c1, c2, c3, c4, c5, hn⟩ := h
  have hl := hn.2.2
  exact ⟨(hb.cell (p := ⟨gn, 0, none⟩) hl).trans c0, (hb.cell (p := ⟨gn, 1, none⟩) hl).trans c1, (hb.cell (p := ⟨gn, 2, none⟩) hl).trans c2, (hb.cell (p := ⟨gn, 3, none⟩) hl).trans c3, (hb.cell (p := ⟨gn, 4, none⟩) hl).trans c4, (hb.cell (p := ⟨gn, 5, none⟩) hl).trans c5, hn.step hb⟩
theorem six_of {α : Type} {l : List α} (h : l.length = 6) : ∃ a b c d e f, l = [a, b, c, d, e, f] := by
  match l, h with
  | [a, b, c, d, e, f], _ => exact ⟨a, b, c, d, e, f, rfl⟩
set_option maxHeartbeats 40000000 in
set_option maxRecDepth 100000 in
theorem parseE_impl (s : ByteArray) (q : En × Bool) (w : World) (hs : s.size ≤ 1048576) (hr : Hid (PT s q)) (hV : Hid (VarsP w)) : Calls Tryz.prog 9 #[.string s] w (APost (ptV q) w) := by
  have HB0 := Lib.hid (RE.start w)
  have HV0 := Lib.hid (hV.out.below ((Below.refl w.heap.size w).alloc (Nat.le_refl _) (.cells #[.int .i64 0, .int .i64 0, .int .i64 0, .int .i64 0, .int .i64 0, .bool false] 25)))
  by_cases h4 : 4000 < s.size
  · go_enter Tryz.func9, Tryz.ntmps9
    go_wp2_with fail
    refine (splitc.split_bad s _ _ hs (by decide) (Or.inl h4)).mono ?_
    rintro e w1 ⟨rfl, hw1⟩
    have HB1 := Lib.hid (show RE w w1 by rw [hw1]; exact HB0.out.step ((Below.refl _ _).alloc (Nat.le_refl _) _))
    clear hw1 HB0 HV0
    have HNO := Lib.hid (pt_no hr.out (fun x hx => by have := etx_size hx.1; rw [hx.2] at this; omega))
    obtain ⟨z0, z1, z2, z3, z4, z5, f0, f1, f2, f3, f4, f5, hz⟩ := HB1.out.zs
    go_wp2_with fail
    refine bodyPost_ret (v := .tuple #[.agg #[.int .i64 0, .int .i64 0, .int .i64 0, .int .i64 0, .int .i64 0, .bool false], .bool false]) (by simp [results, Tryz.results9, go_sem, *]) rfl ⟨by rw [HNO.out]; rfl, ?_⟩
    exact HB1.out.put _ _ _ _ _ _
  have h4' : s.size ≤ 4000 := by omega
  clear h4
  go_enter Tryz.func9, Tryz.ntmps9
  go_wp2_with fail
  refine (splitc.split_any s 32 h4' _).mono ?_
  rintro e w1 ⟨v, rfl, hown, b⟩
  have HB1 := Lib.hid (HB0.out.step b)
  have HV1 := Lib.hid (HV0.out.below b)
  obtain ⟨N, hN⟩ : ∃ N, (pcs 32 s.data.toList).length = N := ⟨_, rfl⟩
  rw [hN] at hown
  have hNl : N ≤ 4001 := by rw [← hN]; exact splitc.pcs_len 32 s h4'
  obtain ⟨WA, wc, rfl⟩ := row_slice hown
  have HO := Lib.hid hown
  have HN := Lib.hid hN
  clear b hown hN HB0 HV0
  by_cases h8 : ¬ (5 ≤ N ∧ N ≤ 6)
  · have K := Lib.hid (show allIn 5 6 [(N : Int)] = false by simp [allIn, btw]; omega)
    go_wp2_with fail
    refine (within_new _ _ _ [(N : Int)] _ _ _ false _ _ rfl rfl (by simp) rfl K.out).mono ?_
    rintro e w2 ⟨rfl, hw⟩
    have HB2 := Lib.hid (show RE w w2 by rw [← hw]; exact HB1.out.step ((Below.refl _ _).alloc (Nat.le_refl _) _))
    clear hw HB1
    have HNO := Lib.hid (pt_no hr.out (fun x hx => h8 (by have := words_len hx; rw [HN.out] at this; exact this)))
    obtain ⟨z0, z1, z2, z3, z4, z5, f0, f1, f2, f3, f4, f5, hz⟩ := HB2.out.zs
    go_wp2_with fail
    refine bodyPost_ret (v := .tuple #[.agg #[.int .i64 0, .int .i64 0, .int .i64 0, .int .i64 0, .int .i64 0, .bool false], .bool false]) (by simp [results, Tryz.results9, go_sem, *]) rfl ⟨by rw [HNO.out]; rfl, ?_⟩
    exact HB2.out.put _ _ _ _ _ _
  have hN5 : 5 ≤ N := by omega
  have hN6 : N ≤ 6 := by omega
  clear h8
  have K := Lib.hid (show allIn 5 6 [(N : Int)] = true by simp [allIn, btw]; omega)
  obtain ⟨u0, u1, u2, u3, u4, r, hw, hrl⟩ := five_of (by rw [HN.out]; omega) (by rw [HN.out]; omega)
  have hNr : N = r.length + 5 := by rw [← HN.out, hw]; rfl
  have HW := Lib.hid hw
  have hrow := HO.out
  rw [hw] at hrow
  obtain ⟨g, rfl, hgl, hcells⟩ := cells_of hrow (by omega) (by rw [hNr]; rfl)
  have hm : ∀ t ∈ pcs 32 s.data.toList, t.size ≤ 4000 := fun t ht => by have := pcs_mem 32 s t ht; omega
  rw [hw] at hm
  have m0 := hm u0 (by simp)
  have m1 := hm u1 (by simp)
  have m2 := hm u2 (by simp)
  have m3 := hm u3 (by simp)
  have m4 := hm u4 (by simp)
  obtain ⟨six, HSIX⟩ : ∃ b, Hid (decide (r.length + 5 = 6) = b) := ⟨_, Lib.hid rfl⟩
  have Q6 := Lib.hid (show decide (5 < N) = six by rw [← HSIX.out, hNr, Bool.eq_iff_iff]; simp; omega)
  have HCE := Lib.hid hcells
  clear hrow hcells hw HO hm hNr hrl
  go_wp2_with fail
  refine (within_new _ _ _ [(N : Int)] _ _ _ true _ _ rfl rfl (by simp) rfl K.out).mono ?_
  rintro e w2 ⟨rfl, hw⟩
  have hb12 : Below w1.heap.size w1 w2 := by rw [← hw]; exact (Below.refl _ _).alloc (Nat.le_refl _) _
  have HB2 := Lib.hid (HB1.out.step hb12)
  have HV2 := Lib.hid (HV1.out.below hb12)
  have HC2 := Lib.hid (show ∀ (k : Nat) u, (u0 :: u1 :: u2 :: u3 :: u4 :: r)[k]? = some u → w2.cell? ⟨g, k, none⟩ = some (.string u) from fun k u q => (hb12.cell (p := ⟨g, k, none⟩) hgl).trans (HCE.out k u q))
  have hgl2 : g < w2.heap.size := Nat.lt_of_lt_of_le hgl hb12.size
  clear hw hb12 HB1 HV1 HCE K
  have c2 := HC2.out 2 u2 rfl
  have hb2 : 2 < N := by omega
  have hbi2 : (2 : Int) < (N : Int) := by omega
  go_wp2_with fail
  refine (splitc.split_any u2 46 m2 _).mono ?_
  rintro e w3 ⟨v, rfl, hown, b⟩
  have HB3 := Lib.hid (HB2.out.step b)
  have HV3 := Lib.hid (HV2.out.below b)
  have HC3 := Lib.hid (show ∀ (k : Nat) u, (u0 :: u1 :: u2 :: u3 :: u4 :: r)[k]? = some u → w3.cell? ⟨g, k, none⟩ = some (.string u) from fun k u q => (b.cell (p := ⟨g, k, none⟩) hgl2).trans (HC2.out k u q))
  have hgl3 : g < w3.heap.size := Nat.lt_of_lt_of_le hgl2 b.size
  obtain ⟨M, hM⟩ : ∃ M, (pcs 46 u2.data.toList).length = M := ⟨_, rfl⟩
  rw [hM] at hown
  obtain ⟨EA, ec, rfl⟩ := row_slice hown
  have HO := Lib.hid hown
  have HMM := Lib.hid hM
  clear b hown hM HB2 HV2 HC2 c2
  by_cases h2 : ¬ M = 2
  · have d2 : ((M : Int) != 2) = true := by simp; omega
    have d2' : (M != 2) = true := by simpa using h2
    have HNO := Lib.hid (pt_no hr.out (fun x hx => h2 (by rw [← HMM.out]; exact ends_two HW.out hx)))
    obtain ⟨z0, z1, z2, z3, z4, z5, f0, f1, f2, f3, f4, f5, hz⟩ := HB3.out.zs
    go_wp2_with fail
    refine bodyPost_ret (v := .tuple #[.agg #[.int .i64 0, .int .i64 0, .int .i64 0, .int .i64 0, .int .i64 0, .bool false], .bool false]) (by simp [results, Tryz.results9, go_sem, *]) rfl ⟨by rw [HNO.out]; rfl, ?_⟩
    exact HB3.out.put _ _ _ _ _ _
  have h2 : M = 2 := by omega
  subst h2
  obtain ⟨e0, e1, he⟩ := two_of HMM.out
  have HE := Lib.hid he
  have hrow := HO.out
  rw [he] at hrow
  obtain ⟨ge, rfl, hel, hce⟩ := cells_of hrow (by decide) rfl
  have HS2 := Lib.hid (show WE w g ge (u0 :: u1 :: u2 :: u3 :: u4 :: r) [e0, e1] w3 from ⟨HB3.out, HV3.out, HC3.out, hce, hgl3, hel⟩)
  have hs0 : e0.size ≤ 4000 := by have := pcs_mem 46 u2 e0 (by rw [he]; simp); omega
  have hs1 : e1.size ≤ 4000 := by have := pcs_mem 46 u2 e1 (by rw [he]; simp); omega
  obtain ⟨tt, HTT⟩ : ∃ t, Hid ((⟨(Lib.trimPrefix u4.data.toList [43]).toArray⟩ : ByteArray) = t) := ⟨_, Lib.hid rfl⟩
  have hst : tt.size ≤ 4000 := by
    rw [← HTT.out]
    have h := trim_len u4.data.toList
    have e : u4.data.toList.length = u4.size := rfl
    show (Lib.trimPrefix u4.data.toList [43]).toArray.size ≤ _
    simp only [List.size_toArray]; omega
  have HSZ := Lib.hid (show ∀ t ∈ [u0, u1, e0, e1, u3, tt], t.size ≤ 1048576 from fun t ht => by
    simp only [List.mem_cons, List.not_mem_nil, or_false] at ht
    rcases ht with rfl | rfl | rfl | rfl | rfl | rfl <;> omega)
  clear hrow hce he HO HB3 HV3 HC3 hgl hgl2 hgl3 hel hb2 hbi2
  have hb0 : 0 < N := by omega
  have hb1 : 1 < N := by omega
  have hb3 : 3 < N := by omega
  have hb4 : 4 < N := by omega
  have hbi1 : (1 : Int) < (N : Int) := by omega
  have hbi3 : (3 : Int) < (N : Int) := by omega
  have hbi4 : (4 : Int) < (N : Int) := by omega
  go_wp2_with fail
  refine wp_region_held_drew (S := (fun v => v.cell? ⟨g, 0, none⟩ = some (.string u0) ∧ v.cell? ⟨g, 1, none⟩ = some (.string u1) ∧ v.cell? ⟨ge, 0, none⟩ = some (.string e0) ∧ v.cell? ⟨ge, 1, none⟩ = some (.string e1) ∧ v.cell? ⟨g, 3, none⟩ = some (.string u3) ∧ v.cell? ⟨g, 4, none⟩ = some (.string u4) ∧ WE w g ge (u0 :: u1 :: u2 :: u3 :: u4 :: r) [e0, e1] v)) (by kernel_rfl) ?_ (fun hHeld => ?_)
  · exact we_mk (HS2.out.step (drewN_below _ 1))
  refine' wpAnyH_take (i := 0) (v := ?vr1_0) rfl (by kernel_rfl) (by kernel_rfl) (by kernel_rfl) (fun _ _ _ h => h) (Or.inl ⟨by rfl, ?hyr1_0⟩) (by assumption) ?restr1_0
  case hyr1_0 => (intro w hSw; (try dsimp only at hSw); go_simp; try (with_reducible rfl))
  simp only [Act.put, List.getElem_toArray, List.getElem_cons_succ, List.getElem_cons_zero, List.setIfInBounds_toArray, List.set_cons_zero, List.set_cons_succ]
  refine' wpAnyH_take (i := 1) (v := ?vr1_1) rfl (by kernel_rfl) (by kernel_rfl) (by kernel_rfl) (fun _ _ _ h => h) (Or.inl ⟨by rfl, ?hyr1_1⟩) (by assumption) ?restr1_1
  case hyr1_1 => (intro w hSw; (try dsimp only at hSw); go_simp; try (with_reducible rfl))
  simp only [Act.put, List.getElem_toArray, List.getElem_cons_succ, List.getElem_cons_zero, List.setIfInBounds_toArray, List.set_cons_zero, List.set_cons_succ]
  refine' wpAnyH_take (i := 2) (v := ?vr1_2) rfl (by kernel_rfl) (by kernel_rfl) (by kernel_rfl) (fun _ _ _ h => h) (Or.inl ⟨by rfl, ?hyr1_2⟩) (by assumption) ?restr1_2
  case hyr1_2 => (intro w hSw; (try dsimp only at hSw); go_simp; try (with_reducible rfl))
  simp only [Act.put, List.getElem_toArray, List.getElem_cons_succ, List.getElem_cons_zero, List.setIfInBounds_toArray, List.set_cons_zero, List.set_cons_succ]
  refine' wpAnyH_take (i := 3) (v := ?vr1_3) rfl (by kernel_rfl) (by kernel_rfl) (by kernel_rfl) (fun _ _ _ h => h) (Or.inl ⟨by rfl, ?hyr1_3⟩) (by assumption) ?restr1_3
  case hyr1_3 => (intro w hSw; (try dsimp only at hSw); go_simp; try (with_reducible rfl))
  simp only [Act.put, List.getElem_toArray, List.getElem_cons_succ, List.getElem_cons_zero, List.setIfInBounds_toArray, List.set_cons_zero, List.set_cons_succ]
  refine' wpAnyH_take (i := 4) (v := ?vr1_4) rfl (by kernel_rfl) (by kernel_rfl) (by kernel_rfl) (fun _ _ _ h => h) (Or.inl ⟨by rfl, ?hyr1_4⟩) (by assumption) ?restr1_4
  case hyr1_4 => (intro w hSw; (try dsimp only at hSw); go_simp; try (with_reducible rfl))
  simp only [Act.put, List.getElem_toArray, List.getElem_cons_succ, List.getElem_cons_zero, List.setIfInBounds_toArray, List.set_cons_zero, List.set_cons_succ]
  refine' wpAnyH_take (i := 5) (v := ?vr1_5) rfl (by kernel_rfl) (by kernel_rfl) (by kernel_rfl) (fun _ _ _ h => h) (Or.inl ⟨by rfl, ?hyr1_5⟩) (by assumption) ?restr1_5
  case hyr1_5 => (intro w hSw; (try dsimp only at hSw); go_simp; try (with_reducible rfl))
  simp only [Act.put, List.getElem_toArray, List.getElem_cons_succ, List.getElem_cons_zero, List.setIfInBounds_toArray, List.set_cons_zero, List.set_cons_succ]
  refine' wpAnyH_take (i := 6) (v := ?vr1_6) rfl (by kernel_rfl) (by kernel_rfl) (by kernel_rfl) (fun _ _ _ h => h) (Or.inl ⟨by rfl, ?hyr1_6⟩) (by assumption) ?restr1_6
  case hyr1_6 => (intro w hSw; (try dsimp only at hSw); go_simp; try (with_reducible rfl))
  simp only [Act.put, List.getElem_toArray, List.getElem_cons_succ, List.getElem_cons_zero, List.setIfInBounds_toArray, List.set_cons_zero, List.set_cons_succ]
  refine' wpAnyH_take (i := 7) (v := ?vr1_7) rfl (by kernel_rfl) (by kernel_rfl) (by kernel_rfl) (fun _ _ _ h => h) (Or.inl ⟨by rfl, ?hyr1_7⟩) (by assumption) ?restr1_7
  case hyr1_7 => (intro w hSw; (try dsimp only at hSw); go_simp; try (with_reducible rfl))
  simp only [Act.put, List.getElem_toArray, List.getElem_cons_succ, List.getElem_cons_zero, List.setIfInBounds_toArray, List.set_cons_zero, List.set_cons_succ]
  refine' wpAnyH_take (i := 8) (v := ?vr1_8) rfl (by kernel_rfl) (by kernel_rfl) (by kernel_rfl) (fun _ _ _ h => h) (Or.inl ⟨by rfl, ?hyr1_8⟩) (by assumption) ?restr1_8
  case hyr1_8 => (intro w hSw; (try dsimp only at hSw); go_simp; try (with_reducible rfl))
  simp only [Act.put, List.getElem_toArray, List.getElem_cons_succ, List.getElem_cons_zero, List.setIfInBounds_toArray, List.set_cons_zero, List.set_cons_succ]
  refine' wpAnyH_take (i := 9) (v := ?vr1_9) rfl (by kernel_rfl) (by kernel_rfl) (by kernel_rfl) (fun _ _ _ h => h) (Or.inl ⟨by rfl, ?hyr1_9⟩) (by assumption) ?restr1_9
  case hyr1_9 => (intro w hSw; (try dsimp only at hSw); go_simp; try (with_reducible rfl))
  simp only [Act.put, List.getElem_toArray, List.getElem_cons_succ, List.getElem_cons_zero, List.setIfInBounds_toArray, List.set_cons_zero, List.set_cons_succ]
  refine' wpAnyH_take (i := 10) (v := ?vr1_10) rfl (by kernel_rfl) (by kernel_rfl) (by kernel_rfl) (fun _ _ _ h => h) (Or.inl ⟨by rfl, ?hyr1_10⟩) (by assumption) ?restr1_10
  case hyr1_10 => (intro w hSw; (try dsimp only at hSw); go_simp; try (with_reducible rfl))
  simp only [Act.put, List.getElem_toArray, List.getElem_cons_succ, List.getElem_cons_zero, List.setIfInBounds_toArray, List.set_cons_zero, List.set_cons_succ]
  refine' wpAnyH_take (i := 11) (v := ?vr1_11) rfl (by kernel_rfl) (by kernel_rfl) (by kernel_rfl) (fun _ _ _ h => h) (Or.inl ⟨by rfl, ?hyr1_11⟩) (by assumption) ?restr1_11
  case hyr1_11 => (intro w hSw; (try dsimp only at hSw); go_simp; try (with_reducible rfl))
  simp only [Act.put, List.getElem_toArray, List.getElem_cons_succ, List.getElem_cons_zero, List.setIfInBounds_toArray, List.set_cons_zero, List.set_cons_succ]
  refine' wpAnyH_take (i := 12) (v := ?vr1_12) rfl (by kernel_rfl) (by kernel_rfl) (by kernel_rfl) (fun _ _ _ h => h) (Or.inl ⟨by rfl, ?hyr1_12⟩) (by assumption) ?restr1_12
  case hyr1_12 => (intro w hSw; (try dsimp only at hSw); go_simp; try (with_reducible rfl))
  simp only [Act.put, List.getElem_toArray, List.getElem_cons_succ, List.getElem_cons_zero, List.setIfInBounds_toArray, List.set_cons_zero, List.set_cons_succ]
  refine' wpAnyH_take (i := 13) (v := ?vr1_13) rfl (by kernel_rfl) (by kernel_rfl) (by kernel_rfl) (fun _ _ _ h => h) (Or.inl ⟨by rfl, ?hyr1_13⟩) (by assumption) ?restr1_13
  case hyr1_13 => (intro w hSw; (try dsimp only at hSw); go_simp; try (with_reducible rfl))
  simp only [Act.put, List.getElem_toArray, List.getElem_cons_succ, List.getElem_cons_zero, List.setIfInBounds_toArray, List.set_cons_zero, List.set_cons_succ]
  refine' wpAnyH_take (i := 14) (v := ?vr1_14) rfl (by kernel_rfl) (by kernel_rfl) (by kernel_rfl) (fun _ _ _ h => h) (Or.inl ⟨by rfl, ?hyr1_14⟩) (by assumption) ?restr1_14
  case hyr1_14 => (intro w hSw; (try dsimp only at hSw); go_simp; try (with_reducible rfl))
  simp only [Act.put, List.getElem_toArray, List.getElem_cons_succ, List.getElem_cons_zero, List.setIfInBounds_toArray, List.set_cons_zero, List.set_cons_succ]
  refine' wpAnyH_take (i := 15) (v := ?vr1_15) rfl (by kernel_rfl) (by kernel_rfl) (by kernel_rfl) (fun _ _ _ h => h) (Or.inl ⟨by rfl, ?hyr1_15⟩) (by assumption) ?restr1_15
  case hyr1_15 => (intro w hSw; (try dsimp only at hSw); go_simp; try (with_reducible rfl))
  simp only [Act.put, List.getElem_toArray, List.getElem_cons_succ, List.getElem_cons_zero, List.setIfInBounds_toArray, List.set_cons_zero, List.set_cons_succ]
  refine' wpAnyH_take (i := 16) (v := ?vr1_16) rfl (by kernel_rfl) (by kernel_rfl) (by kernel_rfl) (fun _ _ _ h => h) (Or.inl ⟨by rfl, ?hyr1_16⟩) (by assumption) ?restr1_16
  case hyr1_16 => (intro w hSw; (try dsimp only at hSw); go_simp; try (with_reducible rfl))
  simp only [Act.put, List.getElem_toArray, List.getElem_cons_succ, List.getElem_cons_zero, List.setIfInBounds_toArray, List.set_cons_zero, List.set_cons_succ]
  refine' wpAnyH_take (i := 17) (v := ?vr1_17) rfl (by kernel_rfl) (by kernel_rfl) (by kernel_rfl) (fun _ _ _ h => h) (Or.inl ⟨by rfl, ?hyr1_17⟩) (by assumption) ?restr1_17
  case hyr1_17 => (intro w hSw; (try dsimp only at hSw); go_simp; try (with_reducible rfl))
  simp only [Act.put, List.getElem_toArray, List.getElem_cons_succ, List.getElem_cons_zero, List.setIfInBounds_toArray, List.set_cons_zero, List.set_cons_succ]
  refine wpAnyH_ready (rs := [18]) (by kernel_rfl) (by simp) ?_
  refine AllReadyH.cons rfl (fun K hK => ?_) AllReadyH.nil
  go_simp
  refine (trim_is u4 tt HTT _).mono ?_
  rintro e y1 ⟨rfl, bb⟩
  have HVY := Lib.hid ((hHeld.2.2.2.2.2.2.step bb).2.1)
  refine hK.out _ _ (we_mk (hHeld.2.2.2.2.2.2.step bb)) (fun hHeld1 => ?_)
  clear hK K hHeld
  have hHeld := hHeld1
  clear hHeld1
  try simp only [Act.put, List.getElem_toArray, List.getElem_cons_succ, List.getElem_cons_zero, List.setIfInBounds_toArray, List.set_cons_zero, List.set_cons_succ]
  refine wpAnyH_ready (rs := [19]) (by kernel_rfl) (by simp) ?_
  refine AllReadyH.cons rfl (fun K hK => ?_) AllReadyH.nil
  go_simp
  refine hK.out _ _ (we_mk (hHeld.2.2.2.2.2.2.step ((Below.refl _ _).alloc (Nat.le_refl _) _))) (fun hHeld1 => ?_)
  clear hK K hHeld
  have hHeld := hHeld1
  clear hHeld1
  try simp only [Act.put, List.getElem_toArray, List.getElem_cons_succ, List.getElem_cons_zero, List.setIfInBounds_toArray, List.set_cons_zero, List.set_cons_succ]
  refine wpAnyH_ready (rs := [20]) (by kernel_rfl) (by simp) ?_
  refine AllReadyH.cons rfl (fun K hK => ?_) AllReadyH.nil
  go_simp
  refine (lgz.parseInts_new _ 6 _ [u0, u1, e0, e1, u3, tt] _ _ _ rfl rfl (by decide) rfl HSZ.out HVY.out).mono ?_
  rintro e w3 ⟨v, xs, ok, rfl, hrow, hres, bb⟩
  refine hK.out _ _ (we_mk (hHeld.2.2.2.2.2.2.step bb)) (fun hHeld1 => ?_)
  clear hK K hHeld
  have hHeld := hHeld1
  clear hHeld1
  try simp only [Act.put, List.getElem_toArray, List.getElem_cons_succ, List.getElem_cons_zero, List.setIfInBounds_toArray, List.set_cons_zero, List.set_cons_succ]
  refine' wpAnyH_take (i := 21) (v := ?vr1_21) rfl (by kernel_rfl) (by kernel_rfl) (by kernel_rfl) (fun _ _ _ h => h) (Or.inl ⟨by rfl, ?hyr1_21⟩) (by assumption) ?restr1_21
  case hyr1_21 => (intro w hSw; (try dsimp only at hSw); go_simp; try (with_reducible rfl))
  simp only [Act.put, List.getElem_toArray, List.getElem_cons_succ, List.getElem_cons_zero, List.setIfInBounds_toArray, List.set_cons_zero, List.set_cons_succ]
  refine' wpAnyH_take (i := 22) (v := ?vr1_22) rfl (by kernel_rfl) (by kernel_rfl) (by kernel_rfl) (fun _ _ _ h => h) (Or.inl ⟨by rfl, ?hyr1_22⟩) (by assumption) ?restr1_22
  case hyr1_22 => (intro w hSw; (try dsimp only at hSw); go_simp; try (with_reducible rfl))
  simp only [Act.put, List.getElem_toArray, List.getElem_cons_succ, List.getElem_cons_zero, List.setIfInBounds_toArray, List.set_cons_zero, List.set_cons_succ]
  refine' wpAnyH_take (i := 23) (v := ?vr1_23) rfl (by kernel_rfl) (by kernel_rfl) (by kernel_rfl) (fun _ _ _ h => h) (Or.inl ⟨by rfl, ?hyr1_23⟩) (by assumption) ?restr1_23
  case hyr1_23 => (intro w hSw; (try dsimp only at hSw); go_simp; try (with_reducible rfl))
  simp only [Act.put, List.getElem_toArray, List.getElem_cons_succ, List.getElem_cons_zero, List.setIfInBounds_toArray, List.set_cons_zero, List.set_cons_succ]
  refine' wpAnyH_take (i := 24) (v := ?vr1_24) rfl (by kernel_rfl) (by kernel_rfl) (by kernel_rfl) (fun _ _ _ h => h) (Or.inl ⟨by rfl, ?hyr1_24⟩) (by assumption) ?restr1_24
  case hyr1_24 => (intro w hSw; (try dsimp only at hSw); go_simp; try (with_reducible rfl))
  simp only [Act.put, List.getElem_toArray, List.getElem_cons_succ, List.getElem_cons_zero, List.setIfInBounds_toArray, List.set_cons_zero, List.set_cons_succ]
  refine' wpAnyH_take (i := 25) (v := ?vr1_25) rfl (by kernel_rfl) (by kernel_rfl) (by kernel_rfl) (fun _ _ _ h => h) (Or.inl ⟨by rfl, ?hyr1_25⟩) (by assumption) ?restr1_25
  case hyr1_25 => (intro w hSw; (try dsimp only at hSw); go_simp; try (with_reducible rfl))
  simp only [Act.put, List.getElem_toArray, List.getElem_cons_succ, List.getElem_cons_zero, List.setIfInBounds_toArray, List.set_cons_zero, List.set_cons_succ]
  refine wpAnyH_done (by kernel_rfl) ?_ _
  have HS3 := Lib.hid (hHeld.2.2.2.2.2.2)
  obtain ⟨NA, nc, rfl⟩ := row_slice hrow
  have HRW := Lib.hid hrow
  have HPR := Lib.hid hres
  clear hHeld HS2 hrow hres
  cases ok
  · have HFN := Lib.hid (show ∃ t, t ∈ [u0, u1, e0, e1, u3, tt] ∧ ∀ n, ¬ IsNum t n by rcases HPR.out with ⟨h, -⟩ | ⟨-, h⟩; cases h; exact h)
    have HB3 := Lib.hid HS3.out.1
    have HNO := Lib.hid (pt_no hr.out (fun x hx => by obtain ⟨t, ht, hn⟩ := HFN.out; rw [← HTT.out] at ht; obtain ⟨n, hq⟩ := all_num HW.out HE.out hx t ht; exact hn n hq))
    obtain ⟨z0, z1, z2, z3, z4, z5, f0, f1, f2, f3, f4, f5, hz⟩ := HB3.out.zs
    go_wp2_with fail
    refine bodyPost_ret (v := .tuple #[.agg #[.int .i64 0, .int .i64 0, .int .i64 0, .int .i64 0, .int .i64 0, .bool false], .bool false]) (by simp [results, Tryz.results9, go_sem, *]) rfl ⟨by rw [HNO.out]; rfl, ?_⟩
    exact HB3.out.put _ _ _ _ _ _
  have HTN := Lib.hid (show xs.length = 6 ∧ ∀ (k : Nat) t x, [u0, u1, e0, e1, u3, tt][k]? = some t → xs[k]? = some x → IsNum t x by rcases HPR.out with ⟨-, h1, h2⟩ | ⟨h, -⟩; exact ⟨h1, h2⟩; cases h)
  obtain ⟨v0, v1, v2, v3, v4, v5, hxs⟩ := six_of HTN.out.1
  subst hxs
  obtain ⟨gn, cap', hv, -, hnl⟩ := HRW.out.form (by simp)
  injection hv with hA _ hc
  subst hA hc
  have k0 := HRW.out.cellAt 0 (by simp)
  have k1 := HRW.out.cellAt 1 (by simp)
  have k2 := HRW.out.cellAt 2 (by simp)
  have k3 := HRW.out.cellAt 3 (by simp)
  have k4 := HRW.out.cellAt 4 (by simp)
  have k5 := HRW.out.cellAt 5 (by simp)
  simp only [ints.intsV, List.map_cons, List.map_nil, List.getElem?_cons_zero, List.getElem?_cons_succ] at k0 k1 k2 k3 k4 k5
  have r2 := HTN.out.2 2 _ _ rfl rfl
  have r3 := HTN.out.2 3 _ _ rfl rfl
  have b20 := r2.1
  have b21 := r2.2.1
  have b30 := r3.1
  have b31 := r3.2.1
  have HT := Lib.hid (show ∀ y, IsET s y → (⟨v0, v1, 10 * v2 + v3, v4, v5, six⟩ : En) = y from fun y hy => by
    rw [← HSIX.out]
    exact told2 HW.out HE.out (HTN.out.2 0 _ _ rfl rfl) (HTN.out.2 1 _ _ rfl rfl) r2 r3 (HTN.out.2 4 _ _ rfl rfl) (by have h := HTN.out.2 5 _ _ rfl rfl; rw [← HTT.out] at h; exact h) hy)
  have HWN := Lib.hid (show w3.cell? ⟨gn, 0, none⟩ = some (.int .i64 v0) ∧ w3.cell? ⟨gn, 1, none⟩ = some (.int .i64 v1) ∧ w3.cell? ⟨gn, 2, none⟩ = some (.int .i64 v2) ∧ w3.cell? ⟨gn, 3, none⟩ = some (.int .i64 v3) ∧ w3.cell? ⟨gn, 4, none⟩ = some (.int .i64 v4) ∧ w3.cell? ⟨gn, 5, none⟩ = some (.int .i64 v5) ∧ WN w gn w3 from ⟨k0, k1, k2, k3, k4, k5, HS3.out.1, HS3.out.2.1, hnl⟩)
  have q6 := Q6.out
  have q6i : decide ((5 : Int) < (N : Int)) = six := by rw [← q6, Bool.eq_iff_iff]; simp; omega
  have hwm : IntKind.i64.wrap (10 * v2) = 10 * v2 := IntWalk.i64_in _ ⟨by omega, by omega⟩
  have hws : IntKind.i64.wrap (10 * v2 + v3) = 10 * v2 + v3 := IntWalk.i64_in _ ⟨by omega, by omega⟩
  clear r2 r3 k0 k1 k2 k3 k4 k5 HRW hnl HPR HS3 Q6
  go_wp2_with fail
  refine wp_region_held_drew (S := (fun v => v.cell? ⟨gn, 0, none⟩ = some (.int .i64 v0) ∧ v.cell? ⟨gn, 1, none⟩ = some (.int .i64 v1) ∧ v.cell? ⟨gn, 2, none⟩ = some (.int .i64 v2) ∧ v.cell? ⟨gn, 3, none⟩ = some (.int .i64 v3) ∧ v.cell? ⟨gn, 4, none⟩ = some (.int .i64 v4) ∧ v.cell? ⟨gn, 5, none⟩ = some (.int .i64 v5) ∧ WN w gn v)) (by kernel_rfl) ?_ (fun hHeld => ?_)
  · exact wn_mk HWN.out (drewN_below _ 1)
  refine' wpAnyH_take (i := 0) (v := ?vr5_0) rfl (by kernel_rfl) (by kernel_rfl) (by kernel_rfl) (fun _ _ _ h => h) (Or.inl ⟨by rfl, ?hyr5_0⟩) (by assumption) ?restr5_0
  case hyr5_0 => (intro w hSw; (try dsimp only at hSw); go_simp; try (with_reducible rfl))
  simp only [Act.put, List.getElem_toArray, List.getElem_cons_succ, List.getElem_cons_zero, List.setIfInBounds_toArray, List.set_cons_zero, List.set_cons_succ]
  refine' wpAnyH_take (i := 1) (v := ?vr5_1) rfl (by kernel_rfl) (by kernel_rfl) (by kernel_rfl) (fun _ _ _ h => h) (Or.inl ⟨by rfl, ?hyr5_1⟩) (by assumption) ?restr5_1
  case hyr5_1 => (intro w hSw; (try dsimp only at hSw); go_simp; try (with_reducible rfl))
  simp only [Act.put, List.getElem_toArray, List.getElem_cons_succ, List.getElem_cons_zero, List.setIfInBounds_toArray, List.set_cons_zero, List.set_cons_succ]
  refine' wpAnyH_take (i := 2) (v := ?vr5_2) rfl (by kernel_rfl) (by kernel_rfl) (by kernel_rfl) (fun _ _ _ h => h) (Or.inl ⟨by rfl, ?hyr5_2⟩) (by assumption) ?restr5_2
  case hyr5_2 => (intro w hSw; (try dsimp only at hSw); go_simp; try (with_reducible rfl))
  simp only [Act.put, List.getElem_toArray, List.getElem_cons_succ, List.getElem_cons_zero, List.setIfInBounds_toArray, List.set_cons_zero, List.set_cons_succ]
  refine' wpAnyH_take (i := 3) (v := ?vr5_3) rfl (by kernel_rfl) (by kernel_rfl) (by kernel_rfl) (fun _ _ _ h => h) (Or.inl ⟨by rfl, ?hyr5_3⟩) (by assumption) ?restr5_3
  case hyr5_3 => (intro w hSw; (try dsimp only at hSw); go_simp; try (with_reducible rfl))
  simp only [Act.put, List.getElem_toArray, List.getElem_cons_succ, List.getElem_cons_zero, List.setIfInBounds_toArray, List.set_cons_zero, List.set_cons_succ]
  refine' wpAnyH_take (i := 4) (v := ?vr5_4) rfl (by kernel_rfl) (by kernel_rfl) (by kernel_rfl) (fun _ _ _ h => h) (Or.inl ⟨by rfl, ?hyr5_4⟩) (by assumption) ?restr5_4
  case hyr5_4 => (intro w hSw; (try dsimp only at hSw); go_simp; try (with_reducible rfl))
  simp only [Act.put, List.getElem_toArray, List.getElem_cons_succ, List.getElem_cons_zero, List.setIfInBounds_toArray, List.set_cons_zero, List.set_cons_succ]
  refine' wpAnyH_take (i := 5) (v := ?vr5_5) rfl (by kernel_rfl) (by kernel_rfl) (by kernel_rfl) (fun _ _ _ h => h) (Or.inl ⟨by rfl, ?hyr5_5⟩) (by assumption) ?restr5_5
  case hyr5_5 => (intro w hSw; (try dsimp only at hSw); go_simp; try (with_reducible rfl))
  simp only [Act.put, List.getElem_toArray, List.getElem_cons_succ, List.getElem_cons_zero, List.setIfInBounds_toArray, List.set_cons_zero, List.set_cons_succ]
  refine' wpAnyH_take (i := 6) (v := ?vr5_6) rfl (by kernel_rfl) (by kernel_rfl) (by kernel_rfl) (fun _ _ _ h => h) (Or.inl ⟨by rfl, ?hyr5_6⟩) (by assumption) ?restr5_6
  case hyr5_6 => (intro w hSw; (try dsimp only at hSw); go_simp; try (with_reducible rfl))
  simp only [Act.put, List.getElem_toArray, List.getElem_cons_succ, List.getElem_cons_zero, List.setIfInBounds_toArray, List.set_cons_zero, List.set_cons_succ]
  refine' wpAnyH_take (i := 7) (v := ?vr5_7) rfl (by kernel_rfl) (by kernel_rfl) (by kernel_rfl) (fun _ _ _ h => h) (Or.inl ⟨by rfl, ?hyr5_7⟩) (by assumption) ?restr5_7
  case hyr5_7 => (intro w hSw; (try dsimp only at hSw); go_simp; try (with_reducible rfl))
  simp only [Act.put, List.getElem_toArray, List.getElem_cons_succ, List.getElem_cons_zero, List.setIfInBounds_toArray, List.set_cons_zero, List.set_cons_succ]
  refine' wpAnyH_take (i := 8) (v := ?vr5_8) rfl (by kernel_rfl) (by kernel_rfl) (by kernel_rfl) (fun _ _ _ h => h) (Or.inl ⟨by rfl, ?hyr5_8⟩) (by assumption) ?restr5_8
  case hyr5_8 => (intro w hSw; (try dsimp only at hSw); go_simp; try (with_reducible rfl))
  simp only [Act.put, List.getElem_toArray, List.getElem_cons_succ, List.getElem_cons_zero, List.setIfInBounds_toArray, List.set_cons_zero, List.set_cons_succ]
  refine' wpAnyH_take (i := 9) (v := .int .i64 (10 * v2)) rfl (by kernel_rfl) (by kernel_rfl) (by kernel_rfl) (fun _ _ _ h => h) (Or.inl ⟨by rfl, ?hym3_9⟩) (by assumption) ?restm3_9
  case hym3_9 => (intro w hSw; (try dsimp only at hSw); go_simp; (try simp only [hwm]); try (with_reducible rfl))
  simp only [Act.put, List.getElem_toArray, List.getElem_cons_succ, List.getElem_cons_zero, List.setIfInBounds_toArray, List.set_cons_zero, List.set_cons_succ]
  refine' wpAnyH_take (i := 10) (v := ?vr5_10) rfl (by kernel_rfl) (by kernel_rfl) (by kernel_rfl) (fun _ _ _ h => h) (Or.inl ⟨by rfl, ?hyr5_10⟩) (by assumption) ?restr5_10
  case hyr5_10 => (intro w hSw; (try dsimp only at hSw); go_simp; try (with_reducible rfl))
  simp only [Act.put, List.getElem_toArray, List.getElem_cons_succ, List.getElem_cons_zero, List.setIfInBounds_toArray, List.set_cons_zero, List.set_cons_succ]
  refine' wpAnyH_take (i := 11) (v := ?vr5_11) rfl (by kernel_rfl) (by kernel_rfl) (by kernel_rfl) (fun _ _ _ h => h) (Or.inl ⟨by rfl, ?hyr5_11⟩) (by assumption) ?restr5_11
  case hyr5_11 => (intro w hSw; (try dsimp only at hSw); go_simp; try (with_reducible rfl))
  simp only [Act.put, List.getElem_toArray, List.getElem_cons_succ, List.getElem_cons_zero, List.setIfInBounds_toArray, List.set_cons_zero, List.set_cons_succ]
  refine' wpAnyH_take (i := 12) (v := ?vr5_12) rfl (by kernel_rfl) (by kernel_rfl) (by kernel_rfl) (fun _ _ _ h => h) (Or.inl ⟨by rfl, ?hyr5_12⟩) (by assumption) ?restr5_12
  case hyr5_12 => (intro w hSw; (try dsimp only at hSw); go_simp; try (with_reducible rfl))
  simp only [Act.put, List.getElem_toArray, List.getElem_cons_succ, List.getElem_cons_zero, List.setIfInBounds_toArray, List.set_cons_zero, List.set_cons_succ]
  refine' wpAnyH_take (i := 13) (v := .int .i64 (10 * v2 + v3)) rfl (by kernel_rfl) (by kernel_rfl) (by kernel_rfl) (fun _ _ _ h => h) (Or.inl ⟨by rfl, ?hym4_13⟩) (by assumption) ?restm4_13
  case hym4_13 => (intro w hSw; (try dsimp only at hSw); go_simp; (try simp only [hws]); try (with_reducible rfl))
  simp only [Act.put, List.getElem_toArray, List.getElem_cons_succ, List.getElem_cons_zero, List.setIfInBounds_toArray, List.set_cons_zero, List.set_cons_succ]
  refine' wpAnyH_take (i := 14) (v := ?vr5_14) rfl (by kernel_rfl) (by kernel_rfl) (by kernel_rfl) (fun _ _ _ h => h) (Or.inl ⟨by rfl, ?hyr5_14⟩) (by assumption) ?restr5_14
  case hyr5_14 => (intro w hSw; (try dsimp only at hSw); go_simp; try (with_reducible rfl))
  simp only [Act.put, List.getElem_toArray, List.getElem_cons_succ, List.getElem_cons_zero, List.setIfInBounds_toArray, List.set_cons_zero, List.set_cons_succ]
  refine' wpAnyH_take (i := 15) (v := ?vr5_15) rfl (by kernel_rfl) (by kernel_rfl) (by kernel_rfl) (fun _ _ _ h => h) (Or.inl ⟨by rfl, ?hyr5_15⟩) (by assumption) ?restr5_15
  case hyr5_15 => (intro w hSw; (try dsimp only at hSw); go_simp; try (with_reducible rfl))
  simp only [Act.put, List.getElem_toArray, List.getElem_cons_succ, List.getElem_cons_zero, List.setIfInBounds_toArray, List.set_cons_zero, List.set_cons_succ]
  refine' wpAnyH_take (i := 16) (v := ?vr5_16) rfl (by kernel_rfl) (by kernel_rfl) (by kernel_rfl) (fun _ _ _ h => h) (Or.inl ⟨by rfl, ?hyr5_16⟩) (by assumption) ?restr5_16
  case hyr5_16 => (intro w hSw; (try dsimp only at hSw); go_simp; try (with_reducible rfl))
  simp only [Act.put, List.getElem_toArray, List.getElem_cons_succ, List.getElem_cons_zero, List.setIfInBounds_toArray, List.set_cons_zero, List.set_cons_succ]
  refine' wpAnyH_take (i := 17) (v := ?vr5_17) rfl (by kernel_rfl) (by kernel_rfl) (by kernel_rfl) (fun _ _ _ h => h) (Or.inl ⟨by rfl, ?hyr5_17⟩) (by assumption) ?restr5_17
  case hyr5_17 => (intro w hSw; (try dsimp only at hSw); go_simp; try (with_reducible rfl))
  simp only [Act.put, List.getElem_toArray, List.getElem_cons_succ, List.getElem_cons_zero, List.setIfInBounds_toArray, List.set_cons_zero, List.set_cons_succ]
  refine' wpAnyH_take (i := 18) (v := ?vr5_18) rfl (by kernel_rfl) (by kernel_rfl) (by kernel_rfl) (fun _ _ _ h => h) (Or.inl ⟨by rfl, ?hyr5_18⟩) (by assumption) ?restr5_18
  case hyr5_18 => (intro w hSw; (try dsimp only at hSw); go_simp; try (with_reducible rfl))
  simp only [Act.put, List.getElem_toArray, List.getElem_cons_succ, List.getElem_cons_zero, List.setIfInBounds_toArray, List.set_cons_zero, List.set_cons_succ]
  refine' wpAnyH_take (i := 19) (v := ?vr5_19) rfl (by kernel_rfl) (by kernel_rfl) (by kernel_rfl) (fun _ _ _ h => h) (Or.inl ⟨by rfl, ?hyr5_19⟩) (by assumption) ?restr5_19
  case hyr5_19 => (intro w hSw; (try dsimp only at hSw); go_simp; try (with_reducible rfl))
  simp only [Act.put, List.getElem_toArray, List.getElem_cons_succ, List.getElem_cons_zero, List.setIfInBounds_toArray, List.set_cons_zero, List.set_cons_succ]
  refine' wpAnyH_take (i := 20) (v := ?vr5_20) rfl (by kernel_rfl) (by kernel_rfl) (by kernel_rfl) (fun _ _ _ h => h) (Or.inl ⟨by rfl, ?hyr5_20⟩) (by assumption) ?restr5_20
  case hyr5_20 => (intro w hSw; (try dsimp only at hSw); go_simp; try (with_reducible rfl))
  simp only [Act.put, List.getElem_toArray, List.getElem_cons_succ, List.getElem_cons_zero, List.setIfInBounds_toArray, List.set_cons_zero, List.set_cons_succ]
  refine' wpAnyH_take (i := 21) (v := ?vr5_21) rfl (by kernel_rfl) (by kernel_rfl) (by kernel_rfl) (fun _ _ _ h => h) (Or.inl ⟨by rfl, ?hyr5_21⟩) (by assumption) ?restr5_21
  case hyr5_21 => (intro w hSw; (try dsimp only at hSw); go_simp; try (with_reducible rfl))
  simp only [Act.put, List.getElem_toArray, List.getElem_cons_succ, List.getElem_cons_zero, List.setIfInBounds_toArray, List.set_cons_zero, List.set_cons_succ]
  refine' wpAnyH_take (i := 22) (v := .bool six) rfl (by kernel_rfl) (by kernel_rfl) (by kernel_rfl) (fun _ _ _ h => h) (Or.inl ⟨by rfl, ?hysix⟩) (by assumption) ?restsix
  case hysix => (intro w hSw; (try dsimp only at hSw); go_simp; (try simp only [q6, q6i]); try (with_reducible rfl))
  simp only [Act.put, List.getElem_toArray, List.getElem_cons_succ, List.getElem_cons_zero, List.setIfInBounds_toArray, List.set_cons_zero, List.set_cons_succ]
  refine' wpAnyH_take (i := 23) (v := ?vr5_23) rfl (by kernel_rfl) (by kernel_rfl) (by kernel_rfl) (fun _ _ _ h => h) (Or.inl ⟨by rfl, ?hyr5_23⟩) (by assumption) ?restr5_23
  case hyr5_23 => (intro w hSw; (try dsimp only at hSw); go_simp; try (with_reducible rfl))
  simp only [Act.put, List.getElem_toArray, List.getElem_cons_succ, List.getElem_cons_zero, List.setIfInBounds_toArray, List.set_cons_zero, List.set_cons_succ]
  refine wpAnyH_ready (rs := [24]) (by kernel_rfl) (by simp) ?_
  refine AllReadyH.cons rfl (fun K hK => ?_) AllReadyH.nil
  go_simp
  refine hK.out _ _ (wn_mk hHeld ((Below.refl _ _).alloc (Nat.le_refl _) _)) (fun hHeld1 => ?_)
  clear hK K hHeld
  have hHeld := hHeld1
  clear hHeld1
  try simp only [Act.put, List.getElem_toArray, List.getElem_cons_succ, List.getElem_cons_zero, List.setIfInBounds_toArray, List.set_cons_zero, List.set_cons_succ]
  refine wpAnyH_ready (rs := [25]) (by kernel_rfl) (by simp) ?_
  refine AllReadyH.cons rfl (fun K hK => ?_) AllReadyH.nil
  go_simp
  refine hK.out _ _ (wn_mk HWN.out (by repeat (first | exact Below.refl _ _ | refine Below.drew ?_ | refine Below.alloc ?_ (by first | (simp; done) | (simp; omega)) _ | refine Below.setCell ?_ (by first | (simp; done) | (simp; omega)) _))) (fun hHeld1 => ?_)
  clear hK K hHeld
  have hHeld := hHeld1
  clear hHeld1
  try simp only [Act.put, List.getElem_toArray, List.getElem_cons_succ, List.getElem_cons_zero, List.setIfInBounds_toArray, List.set_cons_zero, List.set_cons_succ]
  refine wpAnyH_done (by kernel_rfl) ?_ _
  obtain ⟨Q, HQ⟩ : ∃ Q, Hid (w3.heap.size = Q) := ⟨_, Lib.hid rfl⟩
  obtain ⟨W4, HW4⟩ : ∃ W, Hid ((w3.alloc (.cells #[.int .i64 v0, .int .i64 v1, .int .i64 (10 * v2 + v3), .int .i64 v4, .int .i64 v5, .bool six] 25)).drew = W) := ⟨_, Lib.hid rfl⟩
  have hwn := HWN.out.2.2.2.2.2.2
  have hb34 : Below w3.heap.size w3 (w3.alloc (.cells #[.int .i64 v0, .int .i64 v1, .int .i64 (10 * v2 + v3), .int .i64 v4, .int .i64 v5, .bool six] 25)).drew := ((Below.refl _ _).alloc (Nat.le_refl _) _).drew
  have HB4 := Lib.hid (show RE w W4 by rw [← HW4.out]; exact hwn.1.step hb34)
  have HTB := Lib.hid (show TabP W4 by rw [← HW4.out]; exact (hwn.2.1.below hb34).1)
  have HX4 := Lib.hid (show Blk W4 Q 25 #[.int .i64 v0, .int .i64 v1, .int .i64 (10 * v2 + v3), .int .i64 v4, .int .i64 v5, .bool six] by rw [← HW4.out, ← HQ.out]; exact (Blk.new w3 _ _).drew)
  rw [HW4.out, HQ.out]
  clear hHeld hwn hb34 HW4 HQ HWN hwm hws q6 q6i hb0 hb1 hb3 hb4 hbi1 hbi3 hbi4
  obtain ⟨ql, ok2, hF, hy, hn⟩ : ∃ ql ok2, ansLn ⟨v0, v1, 10 * v2 + v3, v4, v5, six⟩ = .tuple #[.string ql, .bool ok2] ∧ (ok2 = true → okEn ⟨v0, v1, 10 * v2 + v3, v4, v5, six⟩ = true ∧ etx ⟨v0, v1, 10 * v2 + v3, v4, v5, six⟩ = ql) ∧ (ok2 = false → okEn ⟨v0, v1, 10 * v2 + v3, v4, v5, six⟩ = false) := by
    unfold ansLn
    cases h : okEn ⟨v0, v1, 10 * v2 + v3, v4, v5, six⟩
    · exact ⟨_, false, rfl, (fun c => by cases c), fun _ => rfl⟩
    · exact ⟨_, true, rfl, (fun _ => ⟨rfl, rfl⟩), (fun c => by cases c)⟩
  have HF := Lib.hid hF
  have HY := Lib.hid hy
  have HNN := Lib.hid hn
  clear hF hy hn
  obtain ⟨y0, y1', y2, y3, y4, y5, yl⟩ := (⟨HX4.out.cell 0, HX4.out.cell 1, HX4.out.cell 2, HX4.out.cell 3, HX4.out.cell 4, HX4.out.cell 5, HX4.out.lt⟩ : W4.cell? ⟨Q, 0, none⟩ = some (.int .i64 v0) ∧ W4.cell? ⟨Q, 1, none⟩ = some (.int .i64 v1) ∧ W4.cell? ⟨Q, 2, none⟩ = some (.int .i64 (10 * v2 + v3)) ∧ W4.cell? ⟨Q, 3, none⟩ = some (.int .i64 v4) ∧ W4.cell? ⟨Q, 4, none⟩ = some (.int .i64 v5) ∧ W4.cell? ⟨Q, 5, none⟩ = some (.bool six) ∧ Q < W4.heap.size)
  go_wp2_with fail
  refine (entryLine_impl ⟨v0, v1, 10 * v2 + v3, v4, v5, six⟩ _ HTB).mono ?_
  rintro e w5 ⟨rfl, b⟩
  rw [HF.out]
  have HB5 := Lib.hid (HB4.out.step b)
  have HX5 := Lib.hid (HX4.out.below b HX4.out.lt)
  clear b HB4 HX4 HTB y0 y1' y2 y3 y4 y5 yl
  cases ok2
  · clear HX5
    have HNO := Lib.hid (pt_no hr.out (fun y hy => by have e := HT.out y hy; have k := hy.1; rw [← e, HNN.out rfl] at k; cases k))
    obtain ⟨z0, z1, z2, z3, z4, z5, f0, f1, f2, f3, f4, f5, hz⟩ := HB5.out.zs
    go_wp2_with fail
    refine bodyPost_ret (v := .tuple #[.agg #[.int .i64 0, .int .i64 0, .int .i64 0, .int .i64 0, .int .i64 0, .bool false], .bool false]) (by simp [results, Tryz.results9, go_sem, *]) rfl ⟨by rw [HNO.out]; rfl, ?_⟩
    exact HB5.out.put _ _ _ _ _ _
  obtain ⟨hok, hql⟩ := HY.out rfl
  by_cases hq : ql = s
  · have k1 : (ql.toList == s.toList) = true := by rw [hq]; simp
    have k2 : (ql.toList != s.toList) = false := by rw [hq]; simp
    have HANS := Lib.hid (pt_yes hr.out (show IsET s ⟨v0, v1, 10 * v2 + v3, v4, v5, six⟩ from ⟨hok, by rw [hql, hq]⟩))
    obtain ⟨y0, y1', y2, y3, y4, y5, yl⟩ := (⟨HX5.out.cell 0, HX5.out.cell 1, HX5.out.cell 2, HX5.out.cell 3, HX5.out.cell 4, HX5.out.cell 5, HX5.out.lt⟩ : w5.cell? ⟨Q, 0, none⟩ = some (.int .i64 v0) ∧ w5.cell? ⟨Q, 1, none⟩ = some (.int .i64 v1) ∧ w5.cell? ⟨Q, 2, none⟩ = some (.int .i64 (10 * v2 + v3)) ∧ w5.cell? ⟨Q, 3, none⟩ = some (.int .i64 v4) ∧ w5.cell? ⟨Q, 4, none⟩ = some (.int .i64 v5) ∧ w5.cell? ⟨Q, 5, none⟩ = some (.bool six) ∧ Q < w5.heap.size)
    obtain ⟨z0, z1, z2, z3, z4, z5, f0, f1, f2, f3, f4, f5, hz⟩ := HB5.out.zs
    clear hq hok hql
    go_wp2_with fail
    refine bodyPost_ret (v := .tuple #[.agg #[.int .i64 v0, .int .i64 v1, .int .i64 (10 * v2 + v3), .int .i64 v4, .int .i64 v5, .bool six], .bool true]) (by simp [results, Tryz.results9, go_sem, *]) rfl ⟨by rw [HANS.out]; rfl, ?_⟩
    exact HB5.out.put _ _ _ _ _ _
  · have k1 : (ql.toList == s.toList) = false := by
      rw [ByteArray.toList_eq, ByteArray.toList_eq]
      simpa using fun c => hq (ByteArray.ext (Array.toList_inj.1 c))
    have k2 : (ql.toList != s.toList) = true := by rw [bne, k1]; rfl
    have HNQ := Lib.hid hq
    have HQL := Lib.hid hql
    clear hq hok hql HX5
    have HNO := Lib.hid (pt_no hr.out (fun y hy => by have e := HT.out y hy; have k := hy.2; rw [← e, HQL.out] at k; exact HNQ.out k))
    obtain ⟨z0, z1, z2, z3, z4, z5, f0, f1, f2, f3, f4, f5, hz⟩ := HB5.out.zs
    go_wp2_with fail
    refine bodyPost_ret (v := .tuple #[.agg #[.int .i64 0, .int .i64 0, .int .i64 0, .int .i64 0, .int .i64 0, .bool false], .bool false]) (by simp [results, Tryz.results9, go_sem, *]) rfl ⟨by rw [HNO.out]; rfl, ?_⟩
    exact HB5.out.put _ _ _ _ _ _
end Go.Proofs.YtnlljdepcldibaaGreatDoor.ent
