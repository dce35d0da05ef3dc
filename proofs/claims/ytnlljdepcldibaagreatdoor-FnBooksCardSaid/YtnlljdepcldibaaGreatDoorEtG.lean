/-
  ParseBook of the program.
  Conditions: the variables of strconv are laid; the text has at most 1048576 bytes.
-/
import Derived.Test.YtnlljdepcldibaaGreatDoorEtD
import Derived.Test.YtnlljdepcldibaaGreatDoorEtF
import Derived.Test.YtnlljdepcldibaaGreatDoorCut
namespace Go.Proofs.YtnlljdepcldibaaGreatDoor.ent
open Go.RowKit
open reads base ty lg en pow txt strmath iterc readc ntx rowi pcrd
set_option linter.unusedVariables false
set_option linter.unusedSimpArgs false

def strLen : Value → Nat
  | .string s => s.size
  | _ => 0
theorem scan_hit (f : ByteArray → En × Bool) (n : Nat) (R p q : ByteArray) (xs : List En) (h : R.data.toList = p.data.toList ++ 10 :: q.data.toList) (hno : (10 : UInt8) ∉ p.data.toList) :
    scan f n (pcs 10 R.data.toList) xs = if (f p).2 = true ∧ n < 12 then scan f (n + 1) (pcs 10 q.data.toList) (xs ++ [(f p).1]) else ([], (n : Int) + 1, false) := by
  have e : pcs 10 R.data.toList = p :: pcs 10 q.data.toList := by
    rw [h]; unfold pcs; rw [pieces_hit _ _ _ hno, List.map_cons, b_eq]
  have k := pcs_ne 10 q.data.toList
  rw [e]
  cases hq : pcs 10 q.data.toList with
  | nil => rw [hq] at k; exact absurd k (by decide)
  | cons a b => rw [scan]
theorem scan_end (f : ByteArray → En × Bool) (n : Nat) (R : ByteArray) (xs : List En) (hno : (10 : UInt8) ∉ R.data.toList) :
    scan f n (pcs 10 R.data.toList) xs = if R.size = 0 then (xs, 0, true) else ([], (n : Int) + 1, false) := by
  have e : pcs 10 R.data.toList = [R] := by unfold pcs; rw [pieces_end _ _ hno, List.map_cons, List.map_nil, b_eq]
  rw [e, scan]
theorem cut_at (R : ByteArray) (h : (10 : UInt8) ∈ R.data.toList) : ∃ p q : ByteArray, R.data.toList = p.data.toList ++ 10 :: q.data.toList ∧ (10 : UInt8) ∉ p.data.toList := by
  obtain ⟨a, b, e, h2⟩ := List.eq_append_cons_of_mem h
  exact ⟨⟨a.toArray⟩, ⟨b.toArray⟩, by simpa using e, by simpa using h2⟩
set_option maxHeartbeats 4000000 in
set_option maxRecDepth 100000 in
theorem parseBook_impl (s : ByteArray) (r : List En × Int × Bool) (w : World) (hs : s.size ≤ 1048576) (hr : Hid (PB s r)) (hV : Hid (VarsP w)) : Calls Tryz.prog 15 #[.string s] w (BPo r w) := by
  obtain ⟨i0, hi, hz0, hz1, hz2⟩ := info_parts infoEn
  obtain ⟨f, hf, hsc⟩ := hr.out
  have HF := Lib.hid hf
  have HSC := Lib.hid hsc
  have HO := Lib.hid (World.ownsRow_made (base := w.heap.size) (e := 25) (size := 6) w #[] 0 (Nat.le_refl _) (by decide) (by simp))
  have HB1 := Lib.hid (show Below w.heap.size w (w.alloc (.cells #[] 25)) from (Below.refl _ _).alloc (Nat.le_refl _) _)
  clear hf hsc
  go_enter Tryz.func15, Tryz.ntmps15
  go_wp2_with fail
  go_loopw [5, 6] (fun v x wr => ∃ (n : Nat) (xs : List En) (R : ByteArray), x = .string R ∧ xs.length = n ∧ n ≤ 12 ∧ R.size ≤ 1048576 ∧ Hid (scan f n (pcs 10 R.data.toList) xs = r) ∧ Hid (wr.ownsRow w.heap.size 25 6 v n (flatEn xs)) ∧ Below w.heap.size w wr) (fun _ x _ => strLen x)
  case atStart => exact ⟨0, [], s, rfl, rfl, by decide, hs, HSC, HO, HB1.out⟩
  case round =>
    obtain ⟨n, xs, R, rfl, hxl, hn12, hRs, HD, HRW, hB⟩ := hrel
    have hBs := hB.size
    have HBr := Lib.hid hB
    have HVr := Lib.hid (hV.out.below hB)
    obtain ⟨A, cap, rfl⟩ := row_slice HRW.out
    clear hB HO HB1
    by_cases h0 : R.size = 0
    · have k1 : (R.toList == ByteArray.toList ⟨#[]⟩) = true := by rw [nil_eq]; simpa using h0
      have k1' : (R.toList == []) = true := by have := size_nil h0; rw [ByteArray.toList_eq, this]; rfl
      have k2 : (R.toList != ByteArray.toList ⟨#[]⟩) = false := by rw [bne, k1]; rfl
      have k2' : (R.toList != []) = false := by rw [bne, k1']; rfl
      have HRR := Lib.hid (show r = (xs, 0, true) by rw [← HD.out, scan_end f n R xs (by rw [size_nil h0]; simp), if_pos h0])
      clear h0
      go_wp2_with fail
      go_ret3
      rw [HRR.out]
      exact ⟨_, rfl, by show World.ownsRow _ _ _ _ _ xs.length _; rw [hxl]; exact HRW.out, HBr.out⟩
    have k1 : (R.toList == ByteArray.toList ⟨#[]⟩) = false := by rw [nil_eq]; simpa using h0
    have k1' : (R.toList == []) = false := by rw [ByteArray.toList_eq]; rw [ByteArray.toList_eq, ByteArray.toList_eq] at k1; exact k1
    have k2 : (R.toList != ByteArray.toList ⟨#[]⟩) = true := by rw [bne, k1]; rfl
    have k2' : (R.toList != []) = true := by rw [bne, k1']; rfl
    by_cases hm : (10 : UInt8) ∈ R.data.toList
    · obtain ⟨p, q, hpq, hpn⟩ := cut_at R hm
      have HSL := Lib.hid (show (if (f p).2 = true ∧ n < 12 then scan f (n + 1) (pcs 10 q.data.toList) (xs ++ [(f p).1]) else ([], (n : Int) + 1, false)) = r by rw [← HD.out]; exact (scan_hit f n R p q xs hpq hpn).symm)
      have hlen : R.size = p.size + 1 + q.size := by
        have k := congrArg List.length hpq
        rw [List.length_append, List.length_cons] at k
        have e1 : R.data.toList.length = R.size := rfl
        have e2 : p.data.toList.length = p.size := rfl
        have e3 : q.data.toList.length = q.size := rfl
        omega
      have hps : p.size ≤ 1048576 := by omega
      have hqs : q.size ≤ 1048576 := by omega
      have hql : q.size < R.size := by omega
      have HPQ := Lib.hid hpq
      have HPN := Lib.hid hpn
      obtain ⟨⟨x, ok⟩, hfl⟩ : ∃ z, f p = z := ⟨_, rfl⟩
      have HPT := Lib.hid (show PT p (x, ok) by rw [← hfl]; exact HF.out p)
      have HFL := Lib.hid hfl
      clear hpq hpn hlen hm h0 hfl
      go_wp2_with fail
      refine (cut.cut_yes R p q 10 _ HPQ HPN hRs).mono ?_
      rintro e w2 ⟨rfl, b2⟩
      have HB2 := Lib.hid (HBr.out.trans (b2.mono HBr.out.size))
      have HV2 := Lib.hid (HVr.out.below b2)
      have HR2 := Lib.hid (row_below HRW.out b2)
      clear b2 HBr HVr HRW hBs
      go_wp2_with fail
      refine (parseE_impl p (x, ok) _ hps HPT HV2).mono ?_
      rintro e w3 ⟨rfl, b3⟩
      rw [ptV_mk]
      have HB3 := Lib.hid (HB2.out.trans (b3.mono HB2.out.size))
      have HR3 := Lib.hid (row_below HR2.out b3)
      have hb3 := HB3.out.size
      clear b3 HB2 HV2 HR2
      cases ok
      · have HRR := Lib.hid (show r = ([], (n : Int) + 1, false) by rw [← HSL.out, if_neg (by rw [HFL.out]; simp)])
        go_wp2_with fail
        go_ret3
        rw [HRR.out]
        exact ⟨_, rfl, World.ownsRow_nil _ _ _ _, HB3.out.alloc hb3 _⟩
      by_cases h12 : n = 12
      · have d12 : ((n : Int) == 12) = true := by rw [beq_iff_eq]; omega
        have d12' : (n == 12) = true := by simpa using h12
        have HRR := Lib.hid (show r = ([], (13 : Int), false) by rw [← HSL.out, if_neg (fun c => by have := c.2; omega), h12]; rfl)
        go_wp2_with fail
        go_ret3
        rw [HRR.out]
        exact ⟨_, rfl, World.ownsRow_nil _ _ _ _, HB3.out.alloc hb3 _⟩
      have d12 : ((n : Int) == 12) = false := by rw [beq_eq_false_iff_ne]; omega
      have d12' : (n == 12) = false := by simpa using h12
      have HRR := Lib.hid (show scan f (n + 1) (pcs 10 q.data.toList) (xs ++ [x]) = r by rw [← HSL.out, if_pos (by rw [HFL.out]; exact ⟨rfl, by omega⟩), HFL.out])
      go_upto_region 8 with fail
      obtain ⟨X, HX⟩ : ∃ X, Hid (w3.heap.size = X) := ⟨_, Lib.hid rfl⟩
      obtain ⟨W3, HW3⟩ : ∃ W, Hid (w3.alloc (.cells #[.int .i64 x.frm, .int .i64 x.to_, .int .i64 x.tape, .int .i64 x.comp, .int .i64 x.slope, .bool x.back] 25) = W) := ⟨_, Lib.hid rfl⟩
      have HBX := Lib.hid (show Blk W3 X 25 #[.int .i64 x.frm, .int .i64 x.to_, .int .i64 x.tape, .int .i64 x.comp, .int .i64 x.slope, .bool x.back] by rw [← HW3.out, ← HX.out]; exact Blk.new _ _ _)
      have HR4 := Lib.hid (show W3.ownsRow w.heap.size 25 6 (.slice A n cap) n (flatEn xs) by rw [← HW3.out]; exact HR3.out.alloc _)
      have HB4 := Lib.hid (show Below w.heap.size w W3 by rw [← HW3.out]; exact HB3.out.alloc hb3 _)
      rw [HW3.out, HX.out]
      clear HW3 HX HR3 HB3 hb3
      have hXl := HBX.out.lt
      have hb3 := HB4.out.size
      have HR3 := HR4
      obtain ⟨x0, x1, x2, x3, x4, x5⟩ := (⟨HBX.out.cell 0, HBX.out.cell 1, HBX.out.cell 2, HBX.out.cell 3, HBX.out.cell 4, HBX.out.cell 5⟩ : W3.cell? ⟨X, 0, none⟩ = some (.int .i64 x.frm) ∧ W3.cell? ⟨X, 1, none⟩ = some (.int .i64 x.to_) ∧ W3.cell? ⟨X, 2, none⟩ = some (.int .i64 x.tape) ∧ W3.cell? ⟨X, 3, none⟩ = some (.int .i64 x.comp) ∧ W3.cell? ⟨X, 4, none⟩ = some (.int .i64 x.slope) ∧ W3.cell? ⟨X, 5, none⟩ = some (.bool x.back))
      go_wp2_with (at_builtin; refine wpList_append_own _ rfl _ _ 33 rfl w.heap.size 25 i0 _ 6 48 Tryz.underlying33 hi hz0 hz1 hz2 rfl (by decide) _ _ _ rfl (HR3.out.alloc _) ⟨W3.heap.size, 0, none⟩ 1 1 [.int .i64 x.frm, .int .i64 x.to_, .int .i64 x.tape, .int .i64 x.comp, .int .i64 x.slope, .bool x.back] rfl rfl (World.news_of_block (alloc_at rfl)) (by simp [Value.oneCell']) (by unfold maxLen; omega) (by omega) (by simp; omega) ?_; intro v' w9 hown' hgrow _)
      go_roundw
      case rel =>
        refine ⟨n + 1, xs ++ [x], q, rfl, by rw [List.length_append, List.length_singleton, hxl], by omega, hqs, HRR, Lib.hid ?_, ?_⟩
        · rw [flatEn_app]; exact hown'
        · exact (HB4.out.alloc hb3 _).grown hgrow (by simp; omega) (fun j ej => (HR4.out.lt j ej).1)
      case measure => exact hql
    · have HSL := Lib.hid (show r = ([], (n : Int) + 1, false) by rw [← HD.out, scan_end f n R xs hm, if_neg h0])
      have HM := Lib.hid hm
      obtain ⟨⟨x, ok⟩, hfl⟩ : ∃ z, f R = z := ⟨_, rfl⟩
      have HPT := Lib.hid (show PT R (x, ok) by rw [← hfl]; exact HF.out R)
      clear hm h0 hfl
      go_wp2_with fail
      refine (cut.cut_no R 10 _ HM).mono ?_
      rintro e w2 ⟨rfl, b2⟩
      have HB2 := Lib.hid (HBr.out.trans (b2.mono HBr.out.size))
      have HV2 := Lib.hid (HVr.out.below b2)
      clear b2 HBr HVr HRW hBs
      go_wp2_with fail
      refine (parseE_impl R (x, ok) _ hRs HPT HV2).mono ?_
      rintro e w3 ⟨rfl, b3⟩
      rw [ptV_mk]
      have HB3 := Lib.hid (HB2.out.trans (b3.mono HB2.out.size))
      have hb3 := HB3.out.size
      clear b3 HB2 HV2
      cases ok
      · go_wp2_with fail
        go_ret3
        rw [HSL.out]
        exact ⟨_, rfl, World.ownsRow_nil _ _ _ _, HB3.out.alloc hb3 _⟩
      · go_wp2_with fail
        go_ret3
        rw [HSL.out]
        exact ⟨_, rfl, World.ownsRow_nil _ _ _ _, HB3.out.alloc hb3 _⟩
end Go.Proofs.YtnlljdepcldibaaGreatDoor.ent
