/-
  ParseBook: what both walks share, and the walk of the model.
  Conditions: the text has at most 1048576 bytes.
-/
import Derived.Test.YtnlljdepcldibaaGreatDoorEtC
namespace Go.Proofs.YtnlljdepcldibaaGreatDoor.ent
open Go.RowKit
open reads base ty lg en pow txt strmath iterc readc ntx
set_option linter.unusedVariables false
set_option linter.unusedSimpArgs false

/-- what ParseBook answers: the lines from the i-th on, with the entries of those before it -/
def scan (f : ByteArray → En × Bool) : Nat → List ByteArray → List En → List En × Int × Bool
  | _, [], acc => (acc, 0, true)
  | i, [l], acc => if l.size = 0 then (acc, 0, true) else ([], (i : Int) + 1, false)
  | i, l :: q :: ls, acc => if (f l).2 = true ∧ i < 12 then scan f (i + 1) (q :: ls) (acc ++ [(f l).1]) else ([], (i : Int) + 1, false)
/-- entries that the call has made, a number, and a word -/
def BPo (r : List En × Int × Bool) (w : World) (e : Ending) (w' : World) : Prop :=
  ∃ v, e = .returned (.tuple #[v, .int .i64 r.2.1, .bool r.2.2]) ∧ w'.ownsRow w.heap.size 25 6 v r.1.length (flatEn r.1) ∧ Below w.heap.size w w'
def PB (s : ByteArray) (r : List En × Int × Bool) : Prop := ∃ f : ByteArray → En × Bool, (∀ t, PT t (f t)) ∧ scan f 0 (pcs 10 s.data.toList) [] = r
theorem pb_ex (s : ByteArray) : ∃ r, PB s r := ⟨_, fun t => (pt_ex t).choose, fun t => (pt_ex t).choose_spec, rfl⟩
theorem scan_len (f : ByteArray → En × Bool) : ∀ (ls : List ByteArray) (i : Nat) (acc : List En), acc.length ≤ i → i ≤ 12 → (scan f i ls acc).1.length ≤ 12
  | [], i, acc, h, h2 => by unfold scan; simp; omega
  | [l], i, acc, h, h2 => by
    unfold scan
    split
    · simp; omega
    · simp
  | l :: q :: ls, i, acc, h, h2 => by
    unfold scan
    split
    · rename_i hc
      exact scan_len f (q :: ls) (i + 1) _ (by rw [List.length_append, List.length_singleton]; omega) (by omega)
    · simp
theorem size_nil {l : ByteArray} (h : l.size = 0) : l = ⟨#[]⟩ := by
  have : l.data = #[] := Array.eq_empty_of_size_eq_zero h
  exact ByteArray.ext this
theorem nil_eq (l : ByteArray) : (l.toList == ByteArray.toList ⟨#[]⟩) = decide (l.size = 0) := by
  rw [ByteArray.toList_eq, ByteArray.toList_eq]
  by_cases h : l.size = 0
  · rw [size_nil h]; rfl
  · have : l.data.toList ≠ [] := fun c => h (by have := congrArg List.length c; simpa using this)
    simp [h]
    intro c
    exact h (by rw [← ByteArray.size_data, c]; rfl)
theorem ptV_mk (x : En) (ok : Bool) : ptV (x, ok) = .tuple #[.agg #[.int .i64 x.frm, .int .i64 x.to_, .int .i64 x.tape, .int .i64 x.comp, .int .i64 x.slope, .bool x.back], .bool ok] := rfl
theorem own_base {w : World} {b b' size n : Nat} {e : TypeId} {v : Value} {xs : List Value} (h : w.ownsRow b e size v n xs) (hb : b' ≤ b) : w.ownsRow b' e size v n xs := by
  refine ⟨h.1, ?_⟩
  rcases h.2 with q | ⟨g, cap, cur, h1, h2, h3⟩
  · exact .inl q
  · exact .inr ⟨g, cap, cur, h1, Nat.le_trans hb h2, h3⟩
set_option maxHeartbeats 4000000 in
set_option maxRecDepth 100000 in
theorem parseBook_model (s : ByteArray) (r : List En × Int × Bool) (w : World) (hs : s.size ≤ 1048576) (hr : Hid (PB s r)) : Calls Tryz.prog 18 #[.string s] w (BPo r w) := by
  obtain ⟨i0, hi, hz0, hz1, hz2⟩ := info_parts infoEn
  obtain ⟨f, hf, hsc⟩ := hr.out
  have HF := Lib.hid hf
  have HSC := Lib.hid hsc
  clear hf hsc
  go_enter Tryz.func18, Tryz.ntmps18
  go_wp2_with fail
  refine (splitb.l1Split_any s 10 hs _).mono ?_
  rintro e w1 ⟨v, rfl, hown, b⟩
  obtain ⟨n, hN⟩ : ∃ n, (pcs 10 s.data.toList).length = n := ⟨_, rfl⟩
  have hn0 : 0 < n := by rw [← hN]; exact pcs_ne 10 _
  have hnM : n ≤ 1048577 := by
    rw [← hN]
    have := pieces_len 10 s.data.toList
    have hl : s.data.toList.length = s.size := rfl
    rw [pcs, List.length_map]; omega
  rw [hN] at hown
  obtain ⟨WA, wc, rfl⟩ := row_slice hown
  obtain ⟨g, rfl, hgl, hcells⟩ := cells_of hown hn0 hN
  have HN := Lib.hid hN
  have HC := Lib.hid hcells
  have HB1 := Lib.hid (b.alloc b.size (.cells #[] 25))
  have HO := Lib.hid (World.ownsRow_made (base := w1.heap.size) (e := 25) (size := 6) w1 #[] 0 (Nat.le_refl _) (by decide) (by simp))
  have hw1 := b.size
  have HB1w := Lib.hid (show Below w1.heap.size w1 (w1.alloc (.cells #[] 25)) from (Below.refl _ _).alloc (Nat.le_refl _) _)
  have HSZ := Lib.hid (show ∀ t ∈ pcs 10 s.data.toList, t.size ≤ 1048576 from fun t ht => by have := pcs_mem 10 s t ht; omega)
  clear hown hcells b hN
  go_wp2_with fail
  go_loopw [6, 8] (fun v i wr => ∃ (k : Nat) (xs : List En), k < n ∧ k ≤ 12 ∧ i = .int .i64 k ∧ xs.length = k ∧ Hid (scan f k ((pcs 10 s.data.toList).drop k) xs = r) ∧ Hid (wr.ownsRow w1.heap.size 25 6 v xs.length (flatEn xs)) ∧ Below w.heap.size w wr ∧ Below w1.heap.size w1 wr) (fun _ i _ => n - (intOf i).toNat)
  case atStart => exact ⟨0, [], hn0, by decide, rfl, rfl, Lib.hid (by rw [List.drop_zero]; exact HSC.out), HO, HB1.out, HB1w.out⟩
  case round =>
    obtain ⟨k, xs, hk, hk12, rfl, hxl, HD, HRW, hB, hBw⟩ := hrel
    have hBs := hB.size
    have HBr := Lib.hid hB
    have HBw := Lib.hid hBw
    clear hB hBw HO HB1 HB1w
    obtain ⟨l, hl⟩ := at_lt HN.out hk
    have HLM := Lib.hid (HSZ.out l (List.mem_of_getElem? hl))
    have hcw : wr.cell? ⟨g, k, none⟩ = some (.string l) := (HBw.out.cell (p := ⟨g, k, none⟩) hgl).trans (HC.out k l hl)
    obtain ⟨rest, hdr⟩ : ∃ rest, (pcs 10 s.data.toList).drop k = l :: rest := by
      obtain ⟨hk2, hge⟩ := List.getElem?_eq_some_iff.1 hl
      exact ⟨_, by rw [List.drop_eq_getElem_cons hk2, hge]⟩
    have HDR := Lib.hid hdr
    have hrl : rest.length + k + 1 = n := by
      have h := congrArg List.length hdr
      rw [List.length_drop, HN.out, List.length_cons] at h; omega
    have hki : (k : Int) < (n : Int) := by omega
    have hk0 : 0 ≤ (k : Int) := by omega
    have hkd : decide (k < n) = true := by simpa using hk
    have hkdi : decide ((k : Int) < (n : Int)) = true := by simpa using hk
    clear hl hdr
    obtain ⟨⟨x, ok⟩, hfl⟩ : ∃ q, f l = q := ⟨_, rfl⟩
    have HPT := Lib.hid (show PT l (x, ok) by rw [← hfl]; exact HF.out l)
    have HFL := Lib.hid hfl
    have hlm := HLM.out
    clear hfl
    by_cases hlast : rest = []
    · have hkn : k + 1 = n := by rw [hlast] at hrl; simp at hrl; omega
      have e1 : ((k : Int) == (n : Int) - 1) = true := by rw [beq_iff_eq]; omega
      have HSL := Lib.hid (show (if l.size = 0 then (xs, (0 : Int), true) else (([] : List En), (k : Int) + 1, false)) = r by
        have h := HD.out; rw [HDR.out, hlast] at h; unfold scan at h; exact h)
      clear hlast hrl
      by_cases h0 : l.size = 0
      · have k1 : (l.toList == ByteArray.toList ⟨#[]⟩) = true := by rw [nil_eq]; simpa using h0
        have k1' : (l.toList == []) = true := by rw [nil_eq] at k1; rw [ByteArray.toList_eq]; have := size_nil h0; rw [this]; rfl
        have HRR := Lib.hid (show r = (xs, 0, true) by rw [← HSL.out, if_pos h0])
        clear h0
        rw [HRR.out]
        go_wp2_with fail
        go_ret3
        exact ⟨_, rfl, own_base HRW.out hw1, HBr.out⟩
      · have k1 : (l.toList == ByteArray.toList ⟨#[]⟩) = false := by rw [nil_eq]; simpa using h0
        have k1' : (l.toList == []) = false := by rw [ByteArray.toList_eq]; rw [ByteArray.toList_eq, ByteArray.toList_eq] at k1; exact k1
        have HRR := Lib.hid (show r = ([], (k : Int) + 1, false) by rw [← HSL.out, if_neg h0])
        clear h0
        rw [HRR.out]
        go_wp2_with fail
        refine (parseE_model l (x, ok) _ hlm HPT).mono ?_
        rintro e w2 ⟨rfl, b2⟩
        rw [ptV_mk]
        have HB2 := Lib.hid (HBr.out.trans (b2.mono HBr.out.size))
        have hb2 := HB2.out.size
        clear b2
        cases ok
        · go_wp2_with fail
          go_ret3
          exact ⟨_, rfl, by have h := World.ownsRow_made (base := w.heap.size) (e := 25) (size := 6) (w2.alloc (.cells #[.int .i64 x.frm, .int .i64 x.to_, .int .i64 x.tape, .int .i64 x.comp, .int .i64 x.slope, .bool x.back] 25)) #[] 0 (by simp; omega) (by decide) (by simp); show World.ownsRow _ _ _ _ _ 0 []; simpa using h, (HB2.out.alloc hb2 _).alloc (by simp; omega) _⟩
        · go_wp2_with fail
          go_ret3
          exact ⟨_, rfl, by have h := World.ownsRow_made (base := w.heap.size) (e := 25) (size := 6) (w2.alloc (.cells #[.int .i64 x.frm, .int .i64 x.to_, .int .i64 x.tape, .int .i64 x.comp, .int .i64 x.slope, .bool x.back] 25)) #[] 0 (by simp; omega) (by decide) (by simp); show World.ownsRow _ _ _ _ _ 0 []; simpa using h, (HB2.out.alloc hb2 _).alloc (by simp; omega) _⟩
    · obtain ⟨q, ls, rfl⟩ : ∃ q ls, rest = q :: ls := by cases rest with
        | nil => exact absurd rfl hlast
        | cons q ls => exact ⟨q, ls, rfl⟩
      have hkn : k + 1 < n := by rw [List.length_cons] at hrl; omega
      have e1 : ((k : Int) == (n : Int) - 1) = false := by rw [beq_eq_false_iff_ne]; omega
      have HSL := Lib.hid (show (if (f l).2 = true ∧ k < 12 then scan f (k + 1) (q :: ls) (xs ++ [(f l).1]) else ([], (k : Int) + 1, false)) = r by
        have h := HD.out; rw [HDR.out] at h; unfold scan at h; exact h)
      clear hlast hrl
      go_wp2_with fail
      refine (parseE_model l (x, ok) _ hlm HPT).mono ?_
      rintro e w2 ⟨rfl, b2⟩
      rw [ptV_mk]
      have HB2 := Lib.hid (HBr.out.trans (b2.mono HBr.out.size))
      have HBw2 := Lib.hid (HBw.out.trans (b2.mono HBw.out.size))
      have HR2 := Lib.hid (row_below HRW.out b2)
      have hb2 := HB2.out.size
      have hbw2 := HBw2.out.size
      clear b2 HBr HBw HRW hBs hcw
      cases ok
      · have HRR := Lib.hid (show r = ([], (k : Int) + 1, false) by rw [← HSL.out, if_neg (by rw [HFL.out]; simp)])
        go_wp2_with fail
        go_ret3
        rw [HRR.out]
        exact ⟨_, rfl, by have h := World.ownsRow_made (base := w.heap.size) (e := 25) (size := 6) (w2.alloc (.cells #[.int .i64 x.frm, .int .i64 x.to_, .int .i64 x.tape, .int .i64 x.comp, .int .i64 x.slope, .bool x.back] 25)) #[] 0 (by simp; omega) (by decide) (by simp); show World.ownsRow _ _ _ _ _ 0 []; simpa using h, (HB2.out.alloc hb2 _).alloc (by simp; omega) _⟩
      by_cases h12 : k < 12
      · have d12 : decide ((12 : Int) ≤ (k : Int)) = false := by simp; omega
        have d12' : decide (12 ≤ k) = false := by simp; omega
        have HRR := Lib.hid (show scan f (k + 1) ((pcs 10 s.data.toList).drop (k + 1)) (xs ++ [x]) = r by
          rw [← HSL.out, if_pos (by rw [HFL.out]; exact ⟨rfl, h12⟩), HFL.out]
          rw [← List.drop_drop, HDR.out]; rfl)
        go_upto_region 10 with fail
        obtain ⟨X, HX⟩ : ∃ X, Hid (w2.heap.size = X) := ⟨_, Lib.hid rfl⟩
        obtain ⟨W3, HW3⟩ : ∃ W, Hid (w2.alloc (.cells #[.int .i64 x.frm, .int .i64 x.to_, .int .i64 x.tape, .int .i64 x.comp, .int .i64 x.slope, .bool x.back] 25) = W) := ⟨_, Lib.hid rfl⟩
        have HBX := Lib.hid (show Blk W3 X 25 #[.int .i64 x.frm, .int .i64 x.to_, .int .i64 x.tape, .int .i64 x.comp, .int .i64 x.slope, .bool x.back] by rw [← HW3.out, ← HX.out]; exact Blk.new _ _ _)
        have HR3 := Lib.hid (show W3.ownsRow w1.heap.size 25 6 u6 xs.length (flatEn xs) by rw [← HW3.out]; exact HR2.out.alloc _)
        have HB3 := Lib.hid (show Below w.heap.size w W3 by rw [← HW3.out]; exact HB2.out.alloc hb2 _)
        have HBw3 := Lib.hid (show Below w1.heap.size w1 W3 by rw [← HW3.out]; exact HBw2.out.alloc hbw2 _)
        rw [HW3.out, HX.out]
        clear HW3 HX HR2 HB2 HBw2 hb2 hbw2
        have hXl := HBX.out.lt
        have hb3 := HB3.out.size
        have hbw3 := HBw3.out.size
        obtain ⟨x0, x1, x2, x3, x4, x5⟩ := (⟨HBX.out.cell 0, HBX.out.cell 1, HBX.out.cell 2, HBX.out.cell 3, HBX.out.cell 4, HBX.out.cell 5⟩ : W3.cell? ⟨X, 0, none⟩ = some (.int .i64 x.frm) ∧ W3.cell? ⟨X, 1, none⟩ = some (.int .i64 x.to_) ∧ W3.cell? ⟨X, 2, none⟩ = some (.int .i64 x.tape) ∧ W3.cell? ⟨X, 3, none⟩ = some (.int .i64 x.comp) ∧ W3.cell? ⟨X, 4, none⟩ = some (.int .i64 x.slope) ∧ W3.cell? ⟨X, 5, none⟩ = some (.bool x.back))
        go_wp2_with (at_builtin; refine wpList_append_own _ rfl _ _ 33 rfl w1.heap.size 25 i0 _ 6 48 Tryz.underlying33 hi hz0 hz1 hz2 rfl (by decide) _ _ _ rfl (HR3.out.alloc _) ⟨W3.heap.size, 0, none⟩ 1 1 [.int .i64 x.frm, .int .i64 x.to_, .int .i64 x.tape, .int .i64 x.comp, .int .i64 x.slope, .bool x.back] rfl rfl (World.news_of_block (alloc_at rfl)) (by simp [Value.oneCell']) (by unfold maxLen; omega) (by omega) (by simp; omega) ?_; intro v' w9 hown' hgrow _)
        go_roundw
        case rel =>
          refine ⟨k + 1, xs ++ [x], hkn, by omega, by go_num, by rw [List.length_append, List.length_singleton, hxl], HRR, Lib.hid ?_, ?_, ?_⟩
          · rw [List.length_append, List.length_singleton, flatEn_app]; exact hown'
          · exact (HB3.out.alloc hb3 _).grown hgrow (by simp; omega) (fun j ej => Nat.le_trans hw1 (HR3.out.lt j ej).1)
          · exact (HBw3.out.alloc hbw3 _).grown hgrow (by simp; omega) (fun j ej => (HR3.out.lt j ej).1)
        case measure => simp [intOf]; omega
      · have d12 : decide ((12 : Int) ≤ (k : Int)) = true := by simp; omega
        have d12' : decide (12 ≤ k) = true := by simp; omega
        have HRR := Lib.hid (show r = ([], (k : Int) + 1, false) by rw [← HSL.out, if_neg (fun c => h12 c.2)])
        go_wp2_with fail
        go_ret3
        rw [HRR.out]
        exact ⟨_, rfl, by have h := World.ownsRow_made (base := w.heap.size) (e := 25) (size := 6) (w2.alloc (.cells #[.int .i64 x.frm, .int .i64 x.to_, .int .i64 x.tape, .int .i64 x.comp, .int .i64 x.slope, .bool x.back] 25)) #[] 0 (by simp; omega) (by decide) (by simp); show World.ownsRow _ _ _ _ _ 0 []; simpa using h, (HB2.out.alloc hb2 _).alloc (by simp; omega) _⟩
end Go.Proofs.YtnlljdepcldibaaGreatDoor.ent
