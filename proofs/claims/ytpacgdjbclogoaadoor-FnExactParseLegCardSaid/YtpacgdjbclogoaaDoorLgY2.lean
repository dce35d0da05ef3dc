/-
  ParseLeg: the walk of the model.
  Conditions: the text has at most 1048576 bytes.
-/
import Derived.Test.YtpacgdjbclogoaaDoorLgY
import Derived.Deep.DeepCutAuto
namespace Go.Proofs.YtpacgdjbclogoaaDoor.lgy
open Go.RowKit
open reads base ty lg pow txt strmath iterc readc lgx
set_option linter.unusedVariables false
set_option linter.unusedSimpArgs false

theorem cells_of {w : World} {base n c : Nat} {A : Option Addr} {ps : List ByteArray} (h : w.ownsRow base 9 1 (.slice A n c) n (strs ps)) (hn : 0 < n) (hl : ps.length = n) : ∃ g, A = some ⟨g, 0, none⟩ ∧ g < w.heap.size ∧ ∀ k u, ps[k]? = some u → w.cell? ⟨g, k, none⟩ = some (.string u) := by
  obtain ⟨g, cap, hv, hb, hlt⟩ := h.form hn
  injection hv with hA _ hc
  subst hA hc
  refine ⟨g, rfl, hlt, fun k u hk => ?_⟩
  have hkn : k < n := by have := (List.getElem?_eq_some_iff.1 hk).1; omega
  rw [h.cellAt k (by omega)]
  simp [strs, hk]
theorem num_ne (n : Int) : num n ≠ ⟨#[]⟩ := fun h => by
  by_cases hn : n < 0
  · have := slope_neg hn; rw [h] at this; simp at this
  · obtain ⟨b, r, e, -⟩ := slope_pos (n := n) (by omega); rw [h] at e; simp at e
theorem eight {α : Type} {l : List α} (h : l.length = 8) : ∃ a b c d e f g i, l = [a, b, c, d, e, f, g, i] := by
  match l, h with
  | [a, b, c, d, e, f, g, i], _ => exact ⟨a, b, c, d, e, f, g, i, rfl⟩
theorem two_of {α : Type} {l : List α} (h : l.length = 2) : ∃ a b, l = [a, b] := by
  match l, h with
  | [a, b], _ => exact ⟨a, b, rfl⟩
set_option maxHeartbeats 4000000 in
set_option maxRecDepth 100000 in
theorem parse_model (s : ByteArray) (r : Lg × Bool) (w : World) (hs : s.size ≤ 1048576) (hr : Hid (PL s r)) : Calls Tryd.prog 28 #[.string s] w (APost (plV r) w) := by
  have HB0 := Lib.hid (RB.start w)
  go_enter Tryd.func28, Tryd.ntmps28
  go_wp2_with fail
  refine (splitb.l1Split_any s 32 hs _).mono ?_
  rintro e w1 ⟨v, rfl, hown, b⟩
  have HB1 := Lib.hid (HB0.out.step b)
  obtain ⟨N, hN⟩ : ∃ N, (pcs 32 s.data.toList).length = N := ⟨_, rfl⟩
  rw [hN] at hown
  obtain ⟨WA, wc, rfl⟩ := row_slice hown
  have HO := Lib.hid hown
  have HN := Lib.hid hN
  clear b hown hN HB0
  by_cases h60 : 60 < s.size
  · have d60 : decide ((60 : Int) < (s.size : Int)) = true := by simp; omega
    have d60' : decide (60 < s.size) = true := by simpa using h60
    have HNO := Lib.hid (pl_no hr.out (fun x hx => by have := ltx_size x hx.1; rw [hx.2] at this; omega))
    obtain ⟨z0, z1, z2, z3, z4, f0, f1, f2, f3, f4, hz⟩ := HB1.out.zs
    go_wp2_with fail
    refine bodyPost_ret (v := .tuple #[.agg #[.int .i64 0, .int .i64 0, .int .i64 0, .int .i64 0, .int .i64 0], .bool false]) (by simp [results, Tryd.results28, go_sem, *]) rfl ⟨by rw [HNO.out]; rfl, ?_⟩
    exact HB1.out.put _ _ _ _ _
  have d60 : decide ((60 : Int) < (s.size : Int)) = false := by simp; omega
  have d60' : decide (60 < s.size) = false := by simpa using h60
  by_cases h8 : ¬ N = 8
  · have d8 : ((N : Int) != 8) = true := by simp; omega
    have d8' : (N != 8) = true := by simpa using h8
    have HNO := Lib.hid (pl_no hr.out (fun x hx => h8 (by have k := ltx_words x hx.1; rw [hx.2] at k; have := HN.out; rw [k] at this; simpa using this.symm)))
    obtain ⟨z0, z1, z2, z3, z4, f0, f1, f2, f3, f4, hz⟩ := HB1.out.zs
    go_wp2_with fail
    refine bodyPost_ret (v := .tuple #[.agg #[.int .i64 0, .int .i64 0, .int .i64 0, .int .i64 0, .int .i64 0], .bool false]) (by simp [results, Tryd.results28, go_sem, *]) rfl ⟨by rw [HNO.out]; rfl, ?_⟩
    exact HB1.out.put _ _ _ _ _
  have h8 : N = 8 := by omega
  subst h8
  obtain ⟨u0, u1, u2, u3, u4, u5, u6, u7, hw⟩ := eight HN.out
  have HW := Lib.hid hw
  have hrow := HO.out
  rw [hw] at hrow
  obtain ⟨g, rfl, hgl, hcells⟩ := cells_of hrow (by decide) rfl
  have HCE := Lib.hid hcells
  have c7 := hcells 7 u7 rfl
  have HM := Lib.hid (show ∀ t ∈ pcs 32 s.data.toList, t.size ≤ 60 from fun t ht => by have := pcs_mem 32 s t ht; omega)
  clear hrow hcells hw HO
  by_cases h7 : u7.size = 0
  · obtain rfl : u7 = ⟨#[]⟩ := by
      have : u7.data = #[] := Array.eq_empty_of_size_eq_zero h7
      exact ByteArray.ext this
    have HNO := Lib.hid (pl_no hr.out (fun x hx => by have k := ltx_words x hx.1; rw [hx.2, HW.out] at k; simp only [List.cons.injEq, and_true] at k; have e := k.2.2.2.2.2.2.2; exact num_ne _ e.symm))
    obtain ⟨z0, z1, z2, z3, z4, f0, f1, f2, f3, f4, hz⟩ := HB1.out.zs
    go_wp2_with fail
    refine bodyPost_ret (v := .tuple #[.agg #[.int .i64 0, .int .i64 0, .int .i64 0, .int .i64 0, .int .i64 0], .bool false]) (by simp [results, Tryd.results28, go_sem, *]) rfl ⟨by rw [HNO.out]; rfl, ?_⟩
    exact HB1.out.put _ _ _ _ _
  have hne7 : u7.data.toList ≠ [] := fun c => h7 (by have := congrArg List.length c; simpa using this)
  have e7 : (u7.toList == ByteArray.toList ⟨#[]⟩) = false := by rw [ByteArray.toList_eq, ByteArray.toList_eq]; simpa using hne7
  have e7' : (u7.toList == []) = false := by rw [ByteArray.toList_eq]; simpa using hne7
  have H7 := Lib.hid h7
  obtain ⟨z0, z1, z2, z3, z4, f0, f1, f2, f3, f4, hz⟩ := HB1.out.zs
  have c1 := HCE.out 1 u1 rfl
  have hm1 : u1.size ≤ 60 := HM.out u1 (by rw [HW.out]; simp)
  have hm3 : u3.size ≤ 60 := HM.out u3 (by rw [HW.out]; simp)
  have hm5 : u5.size ≤ 60 := HM.out u5 (by rw [HW.out]; simp)
  have hm7 : u7.size ≤ 60 := HM.out u7 (by rw [HW.out]; simp)
  clear h7 hne7 HM
  go_wp2_with fail
  refine (splitb.l1Split_any u1 45 (by omega) _).mono ?_
  rintro e w2 ⟨v, rfl, hown, b⟩
  have HB2 := Lib.hid (HB1.out.step b)
  have HC2 := Lib.hid (show ∀ k u, [u0, u1, u2, u3, u4, u5, u6, u7][k]? = some u → w2.cell? ⟨g, k, none⟩ = some (.string u) from fun k u q => (b.cell (p := ⟨g, k, none⟩) hgl).trans (HCE.out k u q))
  have hgl2 : g < w2.heap.size := Nat.lt_of_lt_of_le hgl b.size
  obtain ⟨M, hM⟩ : ∃ M, (pcs 45 u1.data.toList).length = M := ⟨_, rfl⟩
  rw [hM] at hown
  obtain ⟨EA, ec, rfl⟩ := row_slice hown
  have HO := Lib.hid hown
  have HMM := Lib.hid hM
  clear b hown hM HB1 HCE c7 c1 z0 z1 z2 z3 z4 f0 f1 f2 f3 f4 hz e7 e7'
  by_cases h2 : ¬ M = 2
  · have d2 : ((M : Int) != 2) = true := by simp; omega
    have d2' : (M != 2) = true := by simpa using h2
    have HNO := Lib.hid (pl_no hr.out (fun x hx => h2 (by have k := ltx_words x hx.1; rw [hx.2, HW.out] at k; simp only [List.cons.injEq, and_true] at k; have e := ltx_ends x hx.1; rw [← k.2.1] at e; have := HMM.out; rw [e] at this; simpa using this.symm)))
    obtain ⟨z0, z1, z2, z3, z4, f0, f1, f2, f3, f4, hz⟩ := HB2.out.zs
    go_wp2_with fail
    refine bodyPost_ret (v := .tuple #[.agg #[.int .i64 0, .int .i64 0, .int .i64 0, .int .i64 0, .int .i64 0], .bool false]) (by simp [results, Tryd.results28, go_sem, *]) rfl ⟨by rw [HNO.out]; rfl, ?_⟩
    exact HB2.out.put _ _ _ _ _
  have h2 : M = 2 := by omega
  subst h2
  obtain ⟨e0, e1, he⟩ := two_of HMM.out
  have HE := Lib.hid he
  have hrow := HO.out
  rw [he] at hrow
  obtain ⟨ge, rfl, hel, hce⟩ := cells_of hrow (by decide) rfl
  have HCX := Lib.hid hce
  have hs0 : e0.size ≤ 60 := by have := pcs_mem 45 u1 e0 (by rw [he]; simp); omega
  have hs1 : e1.size ≤ 60 := by have := pcs_mem 45 u1 e1 (by rw [he]; simp); omega
  clear hrow hce he HO
  obtain ⟨v0, hv0⟩ := rv_ex e0
  obtain ⟨v1, hv1⟩ := rv_ex e1
  obtain ⟨v2, hv2⟩ := rv_ex u3
  obtain ⟨v3, hv3⟩ := rv_ex u5
  have V0 := Lib.hid hv0
  have V1 := Lib.hid hv1
  have V2 := Lib.hid hv2
  have V3 := Lib.hid hv3
  clear hv0 hv1 hv2 hv3
  have HP0 := Lib.hid (show PS w g ge w2.heap.size [u0, u1, u2, u3, u4, u5, u6, u7] [e0, e1] ⟨0, 0, 0, 0, 0⟩ (w2.alloc (.cells #[.int .i64 0, .int .i64 0, .int .i64 0, .int .i64 0, .int .i64 0] 28)) from
    ⟨HB2.out.step ((Below.refl _ _).alloc (Nat.le_refl _) _), fun k u q => (World.cell?_alloc_lt w2 _ ⟨g, k, none⟩ hgl2).trans (HC2.out k u q), fun k u q => (World.cell?_alloc_lt w2 _ ⟨ge, k, none⟩ hel).trans (HCX.out k u q), Blk.new _ _ _, HB2.out.1.lt, hgl2, hel⟩)
  go_upto_region 8 with fail
  obtain ⟨X, HX⟩ : ∃ X, Hid (w2.heap.size = X) := ⟨_, Lib.hid rfl⟩
  obtain ⟨W0, HW0⟩ : ∃ W0, Hid (w2.alloc (.cells #[.int .i64 0, .int .i64 0, .int .i64 0, .int .i64 0, .int .i64 0] 28) = W0) := ⟨_, Lib.hid rfl⟩
  rw [HW0.out, HX.out] at HP0
  rw [HW0.out, HX.out]
  clear HW0 HX HB2 HC2 HCX
  have cw := HP0.out.2.2.1 0 e0 rfl
  go_wp2_with fail
  refine (read_rv e0 v0 V0 _ (by omega)).mono ?_
  rintro e x0 ⟨ok0, rfl, b⟩
  have HQ := Lib.hid (HP0.out.step b)
  have ff := HQ.out.fx 0
  obtain ⟨y0, y1, y2, y3, y4, yl⟩ := HQ.out.cx
  have HP1 := Lib.hid (HQ.out.put 0 (.int .i64 v0) ⟨v0, 0, 0, 0, 0⟩ rfl)
  clear b HP0 cw
  go_upto_region 9 with fail
  obtain ⟨W1, HW1⟩ : ∃ W, Hid (x0.setCell ⟨X, 0, none⟩ (.int .i64 v0) = W) := ⟨_, Lib.hid rfl⟩
  rw [HW1.out] at HP1
  rw [HW1.out]
  clear HW1 HQ ff y0 y1 y2 y3 y4 yl
  have cw := HP1.out.2.2.1 1 e1 rfl
  go_wp2_with fail
  refine (read_rv e1 v1 V1 _ (by omega)).mono ?_
  rintro e x1 ⟨ok1, rfl, b⟩
  have HQ := Lib.hid (HP1.out.step b)
  have ff := HQ.out.fx 1
  obtain ⟨y0, y1, y2, y3, y4, yl⟩ := HQ.out.cx
  have HP2 := Lib.hid (HQ.out.put 1 (.int .i64 v1) ⟨v0, v1, 0, 0, 0⟩ rfl)
  clear b HP1 cw
  go_upto_region 10 with fail
  obtain ⟨W2, HW2⟩ : ∃ W, Hid (x1.setCell ⟨X, 1, none⟩ (.int .i64 v1) = W) := ⟨_, Lib.hid rfl⟩
  rw [HW2.out] at HP2
  rw [HW2.out]
  clear HW2 HQ ff y0 y1 y2 y3 y4 yl
  have cw := HP2.out.2.1 3 u3 rfl
  go_wp2_with fail
  refine (read_rv u3 v2 V2 _ (by omega)).mono ?_
  rintro e x2 ⟨ok2, rfl, b⟩
  have HQ := Lib.hid (HP2.out.step b)
  have ff := HQ.out.fx 2
  obtain ⟨y0, y1, y2, y3, y4, yl⟩ := HQ.out.cx
  have HP3 := Lib.hid (HQ.out.put 2 (.int .i64 v2) ⟨v0, v1, v2, 0, 0⟩ rfl)
  clear b HP2 cw
  go_upto_region 11 with fail
  obtain ⟨W3, HW3⟩ : ∃ W, Hid (x2.setCell ⟨X, 2, none⟩ (.int .i64 v2) = W) := ⟨_, Lib.hid rfl⟩
  rw [HW3.out] at HP3
  rw [HW3.out]
  clear HW3 HQ ff y0 y1 y2 y3 y4 yl
  have cw := HP3.out.2.1 5 u5 rfl
  go_wp2_with fail
  refine (read_rv u5 v3 V3 _ (by omega)).mono ?_
  rintro e x3 ⟨ok3, rfl, b⟩
  have HQ := Lib.hid (HP3.out.step b)
  have ff := HQ.out.fx 3
  obtain ⟨y0, y1, y2, y3, y4, yl⟩ := HQ.out.cx
  have HP4 := Lib.hid (HQ.out.put 3 (.int .i64 v3) ⟨v0, v1, v2, v3, 0⟩ rfl)
  clear b HP3 cw
  go_upto_region 12 with fail
  obtain ⟨W4, HW4⟩ : ∃ W, Hid (x3.setCell ⟨X, 3, none⟩ (.int .i64 v3) = W) := ⟨_, Lib.hid rfl⟩
  rw [HW4.out] at HP4
  rw [HW4.out]
  clear HW4 HQ ff y0 y1 y2 y3 y4 yl
  have hlen7 : 0 < u7.size := by have := H7.out; omega
  have hlen7' : (0 : Int) < (u7.size : Int) := by omega
  obtain ⟨b, rr, hl⟩ : ∃ b rr, u7.data.toList = b :: rr := by
    cases q : u7.data.toList with
    | nil => exact absurd (by have := congrArg List.length q; simpa using this) H7.out
    | cons b rr => exact ⟨b, rr, rfl⟩
  have hb0 : u7[0] = b := by
    have : u7.data.toList[0]? = some b := by rw [hl]; rfl
    have k : u7.data.toList[0]? = some u7[0] := by rw [List.getElem?_eq_getElem (show 0 < u7.data.toList.length from hlen7)]; rfl
    rw [k] at this; exact Option.some.inj this
  have HL := Lib.hid hl
  have HB0 := Lib.hid hb0
  clear hl hb0
  have cw7 := HP4.out.2.1 7 u7 rfl
  by_cases hb : b.toNat = 45
  · have q1 : (u7[0].toNat == 45) = true := by rw [HB0.out]; simpa using hb
    have q2 : ((u7[0].toNat : Int) == 45) = true := by rw [HB0.out]; simp; omega
    obtain ⟨v4, hv4⟩ := rv_ex (u7.extract 1 u7.size)
    obtain ⟨bd0, bd1⟩ := rv_bd hv4
    have V4 := Lib.hid hv4
    have hle : (u7.extract 1 u7.size).data.toList = rr := by
      have := HL.out
      have hsz : rr.length = u7.size - 1 := by
        have k := congrArg List.length this
        have e : u7.data.toList.length = u7.size := rfl
        rw [e] at k
        simp at k
        omega
      simp [ByteArray.data_extract, Array.toList_extract, this]
      exact List.take_of_length_le (by omega)
    have hs4 : (u7.extract 1 u7.size).size ≤ 60 := by simp [ByteArray.size_extract]; omega
    have SLH := Lib.hid (show SL u7 (-v4) from ⟨b, rr, HL.out, .inl ⟨hb, _, v4, hle, hv4, rfl⟩⟩)
    clear hv4 hle
    go_wp2_with fail
    refine (read_rv _ v4 V4 _ (by omega)).mono ?_
    rintro e x4 ⟨ok4, rfl, b⟩
    have HQ := Lib.hid (HP4.out.step b)
    have ff := HQ.out.fx 4
    obtain ⟨y0, y1, y2, y3, y4, yl⟩ := HQ.out.cx
    have HP5 := Lib.hid (HQ.out.put 4 (.int .i64 (-v4)) ⟨v0, v1, v2, v3, -v4⟩ rfl)
    have HT := Lib.hid (show ∀ y, IsLT s y → (⟨v0, v1, v2, v3, -v4⟩ : Lg) = y from fun y hy => told HW.out HE.out V0.out V1.out V2.out V3.out SLH.out hy)
    clear b HP4
    go_upto_region 16 with fail
    obtain ⟨W5, HW5⟩ : ∃ W, Hid (x4.setCell ⟨X, 4, none⟩ (.int .i64 (-v4)) = W) := ⟨_, Lib.hid rfl⟩
    rw [HW5.out] at HP5
    rw [HW5.out]
    clear HW5 HQ ff y0 y1 y2 y3 y4 yl
    obtain ⟨y0, y1, y2, y3, y4, yl⟩ := HP5.out.cx
    cases hok : okLg ⟨v0, v1, v2, v3, -v4⟩
    · have HOK := Lib.hid hok
      clear hok
      go_wp2_with fail
      refine (leg_is ⟨v0, v1, v2, v3, -v4⟩ false HOK _).mono ?_
      rintro e x5 ⟨rfl, bb⟩
      have HB6 := Lib.hid (HP5.out.1.step bb)
      clear bb y0 y1 y2 y3 y4 yl
      have HNO := Lib.hid (pl_no hr.out (fun y hy => by have e := HT.out y hy; have k := hy.1; rw [← e, HOK.out] at k; cases k))
      obtain ⟨z0, z1, z2, z3, z4, f0, f1, f2, f3, f4, hz⟩ := HB6.out.zs
      go_wp2_with fail
      refine bodyPost_ret (v := .tuple #[.agg #[.int .i64 0, .int .i64 0, .int .i64 0, .int .i64 0, .int .i64 0], .bool false]) (by simp [results, Tryd.results28, go_sem, *]) rfl ⟨by rw [HNO.out]; rfl, ?_⟩
      exact HB6.out.put _ _ _ _ _
    · have HOK := Lib.hid hok
      obtain ⟨q, HQT⟩ : ∃ q, Hid (ltx ⟨v0, v1, v2, v3, -v4⟩ = q) := ⟨_, Lib.hid rfl⟩
      clear hok
      go_wp2_with fail
      refine (leg_is ⟨v0, v1, v2, v3, -v4⟩ true HOK _).mono ?_
      rintro e x5 ⟨rfl, bb⟩
      have HP6 := Lib.hid (HP5.out.step bb)
      clear bb y0 y1 y2 y3 y4 yl HP5
      obtain ⟨y0, y1, y2, y3, y4, yl⟩ := HP6.out.cx
      go_wp2_with fail
      refine (l4Text_is ⟨v0, v1, v2, v3, -v4⟩ q HQT _ HOK).mono ?_
      rintro e x6 ⟨rfl, bb⟩
      have HP7 := Lib.hid (HP6.out.step bb)
      clear bb y0 y1 y2 y3 y4 yl HP6
      by_cases hq : q = s
      · have k1 : (q.toList == s.toList) = true := by rw [hq]; simp
        have HYES := Lib.hid (pl_yes hr.out (show IsLT s ⟨v0, v1, v2, v3, -v4⟩ from ⟨HOK.out, by rw [HQT.out, hq]⟩))
        obtain ⟨y0, y1, y2, y3, y4, yl⟩ := HP7.out.cx
        obtain ⟨z0, z1, z2, z3, z4, f0, f1, f2, f3, f4, hz⟩ := HP7.out.1.zs
        clear hq
        go_wp2_with fail
        refine bodyPost_ret (v := .tuple #[.agg #[.int .i64 v0, .int .i64 v1, .int .i64 v2, .int .i64 v3, .int .i64 (-v4)], .bool true]) (by simp [results, Tryd.results28, go_sem, *]) rfl ⟨by rw [HYES.out]; rfl, ?_⟩
        exact HP7.out.1.put _ _ _ _ _
      · have k1 : (q.toList == s.toList) = false := by
          rw [ByteArray.toList_eq, ByteArray.toList_eq]
          simpa using fun c => hq (ByteArray.ext (Array.toList_inj.1 c))
        have HNQ := Lib.hid hq
        have HB7 := Lib.hid HP7.out.1
        clear hq
        have HNO := Lib.hid (pl_no hr.out (fun y hy => by have e := HT.out y hy; have k := hy.2; rw [← e, HQT.out] at k; exact HNQ.out k))
        obtain ⟨z0, z1, z2, z3, z4, f0, f1, f2, f3, f4, hz⟩ := HB7.out.zs
        go_wp2_with fail
        refine bodyPost_ret (v := .tuple #[.agg #[.int .i64 0, .int .i64 0, .int .i64 0, .int .i64 0, .int .i64 0], .bool false]) (by simp [results, Tryd.results28, go_sem, *]) rfl ⟨by rw [HNO.out]; rfl, ?_⟩
        exact HB7.out.put _ _ _ _ _
  · have q1 : (u7[0].toNat == 45) = false := by rw [HB0.out]; simpa using hb
    have q2 : ((u7[0].toNat : Int) == 45) = false := by rw [HB0.out]; simp; omega
    obtain ⟨v4, hv4⟩ := rv_ex u7
    obtain ⟨bd0, bd1⟩ := rv_bd hv4
    have V4 := Lib.hid hv4
    have SLH := Lib.hid (show SL u7 v4 from ⟨b, rr, HL.out, .inr ⟨hb, hv4⟩⟩)
    clear hv4
    go_wp2_with fail
    refine (read_rv _ v4 V4 _ (by omega)).mono ?_
    rintro e x4 ⟨ok4, rfl, b⟩
    have HQ := Lib.hid (HP4.out.step b)
    have ff := HQ.out.fx 4
    obtain ⟨y0, y1, y2, y3, y4, yl⟩ := HQ.out.cx
    have HP5 := Lib.hid (HQ.out.put 4 (.int .i64 v4) ⟨v0, v1, v2, v3, v4⟩ rfl)
    have HT := Lib.hid (show ∀ y, IsLT s y → (⟨v0, v1, v2, v3, v4⟩ : Lg) = y from fun y hy => told HW.out HE.out V0.out V1.out V2.out V3.out SLH.out hy)
    clear b HP4
    go_upto_region 16 with fail
    obtain ⟨W5, HW5⟩ : ∃ W, Hid (x4.setCell ⟨X, 4, none⟩ (.int .i64 v4) = W) := ⟨_, Lib.hid rfl⟩
    rw [HW5.out] at HP5
    rw [HW5.out]
    clear HW5 HQ ff y0 y1 y2 y3 y4 yl
    obtain ⟨y0, y1, y2, y3, y4, yl⟩ := HP5.out.cx
    cases hok : okLg ⟨v0, v1, v2, v3, v4⟩
    · have HOK := Lib.hid hok
      clear hok
      go_wp2_with fail
      refine (leg_is ⟨v0, v1, v2, v3, v4⟩ false HOK _).mono ?_
      rintro e x5 ⟨rfl, bb⟩
      have HB6 := Lib.hid (HP5.out.1.step bb)
      clear bb y0 y1 y2 y3 y4 yl
      have HNO := Lib.hid (pl_no hr.out (fun y hy => by have e := HT.out y hy; have k := hy.1; rw [← e, HOK.out] at k; cases k))
      obtain ⟨z0, z1, z2, z3, z4, f0, f1, f2, f3, f4, hz⟩ := HB6.out.zs
      go_wp2_with fail
      refine bodyPost_ret (v := .tuple #[.agg #[.int .i64 0, .int .i64 0, .int .i64 0, .int .i64 0, .int .i64 0], .bool false]) (by simp [results, Tryd.results28, go_sem, *]) rfl ⟨by rw [HNO.out]; rfl, ?_⟩
      exact HB6.out.put _ _ _ _ _
    · have HOK := Lib.hid hok
      obtain ⟨q, HQT⟩ : ∃ q, Hid (ltx ⟨v0, v1, v2, v3, v4⟩ = q) := ⟨_, Lib.hid rfl⟩
      clear hok
      go_wp2_with fail
      refine (leg_is ⟨v0, v1, v2, v3, v4⟩ true HOK _).mono ?_
      rintro e x5 ⟨rfl, bb⟩
      have HP6 := Lib.hid (HP5.out.step bb)
      clear bb y0 y1 y2 y3 y4 yl HP5
      obtain ⟨y0, y1, y2, y3, y4, yl⟩ := HP6.out.cx
      go_wp2_with fail
      refine (l4Text_is ⟨v0, v1, v2, v3, v4⟩ q HQT _ HOK).mono ?_
      rintro e x6 ⟨rfl, bb⟩
      have HP7 := Lib.hid (HP6.out.step bb)
      clear bb y0 y1 y2 y3 y4 yl HP6
      by_cases hq : q = s
      · have k1 : (q.toList == s.toList) = true := by rw [hq]; simp
        have HYES := Lib.hid (pl_yes hr.out (show IsLT s ⟨v0, v1, v2, v3, v4⟩ from ⟨HOK.out, by rw [HQT.out, hq]⟩))
        obtain ⟨y0, y1, y2, y3, y4, yl⟩ := HP7.out.cx
        obtain ⟨z0, z1, z2, z3, z4, f0, f1, f2, f3, f4, hz⟩ := HP7.out.1.zs
        clear hq
        go_wp2_with fail
        refine bodyPost_ret (v := .tuple #[.agg #[.int .i64 v0, .int .i64 v1, .int .i64 v2, .int .i64 v3, .int .i64 v4], .bool true]) (by simp [results, Tryd.results28, go_sem, *]) rfl ⟨by rw [HYES.out]; rfl, ?_⟩
        exact HP7.out.1.put _ _ _ _ _
      · have k1 : (q.toList == s.toList) = false := by
          rw [ByteArray.toList_eq, ByteArray.toList_eq]
          simpa using fun c => hq (ByteArray.ext (Array.toList_inj.1 c))
        have HNQ := Lib.hid hq
        have HB7 := Lib.hid HP7.out.1
        clear hq
        have HNO := Lib.hid (pl_no hr.out (fun y hy => by have e := HT.out y hy; have k := hy.2; rw [← e, HQT.out] at k; exact HNQ.out k))
        obtain ⟨z0, z1, z2, z3, z4, f0, f1, f2, f3, f4, hz⟩ := HB7.out.zs
        go_wp2_with fail
        refine bodyPost_ret (v := .tuple #[.agg #[.int .i64 0, .int .i64 0, .int .i64 0, .int .i64 0, .int .i64 0], .bool false]) (by simp [results, Tryd.results28, go_sem, *]) rfl ⟨by rw [HNO.out]; rfl, ?_⟩
        exact HB7.out.put _ _ _ _ _
end Go.Proofs.YtpacgdjbclogoaaDoor.lgy
