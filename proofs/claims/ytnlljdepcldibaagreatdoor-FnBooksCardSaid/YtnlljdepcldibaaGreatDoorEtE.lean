/-
  BookText of the model and of the program.
  Conditions: the entries lie in one block below the call's own; for the program: the table of the powers of ten is laid.
-/
import Derived.Test.YtnlljdepcldibaaGreatDoorEtB
namespace Go.Proofs.YtnlljdepcldibaaGreatDoor.ent
open Go.RowKit
open reads base ty lg en eni pow txt strmath iterc ntx
set_option linter.unusedVariables false
set_option linter.unusedSimpArgs false

/-- the text of a book -/
def btL (ts : List En) : List UInt8 := ts.flatMap fun t => (etx t).data.toList ++ [10]
def btx (ts : List En) : ByteArray := ⟨(btL ts).toArray⟩
theorem btx_snoc (a : List En) (t : En) : btx (a ++ [t]) = btx a ++ etx t ++ (⟨#[10]⟩ : ByteArray) := by
  refine ByteArray.ext (Array.toList_inj.1 ?_)
  simp [btx, btL, ByteArray.data_append, List.flatMap_append]
theorem btx_nil : btx [] = ⟨#[]⟩ := rfl
theorem btx_size {ts : List En} (h : ∀ t ∈ ts, okEn t = true) : (btx ts).size ≤ 41 * ts.length := by
  have e : (btx ts).size = (btL ts).length := by show (btL ts).toArray.size = _; simp
  rw [e]
  clear e
  induction ts with
  | nil => simp [btL]
  | cons x a ih =>
    have i := ih (fun t ht => h t (List.mem_cons_of_mem _ ht))
    have k := etx_size (h x (List.mem_cons_self ..))
    have kl : (etx x).data.toList.length = (etx x).size := rfl
    have e : btL (x :: a) = ((etx x).data.toList ++ [10]) ++ btL a := rfl
    rw [e, List.length_append, List.length_append, List.length_cons, List.length_cons, List.length_nil]
    omega
def ansBt (ts : List En) : Value := if goodEn ts = true then .tuple #[.string (btx ts), .bool true] else .tuple #[.string ⟨#[]⟩, .bool false]
theorem line_is (x : En) (s : ByteArray) (h : Hid (etx x = s)) (hx : Hid (okEn x = true)) (w : World) (hT : Hid (TabP w)) : Calls Tryz.prog 6 #[.agg #[.int .i64 x.frm, .int .i64 x.to_, .int .i64 x.tape, .int .i64 x.comp, .int .i64 x.slope, .bool x.back]] w (APost (.tuple #[.string s, .bool true]) w) := by
  have e : ansLn x = .tuple #[.string s, .bool true] := by unfold ansLn; rw [hx.out, h.out]; rfl
  rw [← e]; exact entryLine_impl x w hT
set_option maxHeartbeats 4000000 in
set_option maxRecDepth 100000 in
theorem bookText_model (A : Option Addr) (n cap : Nat) (ts : List En) (w : World) (hn : n ≤ 2000000) (hts : Hid (EnAt w w.heap.size A n ts)) : Calls Tryz.prog 14 #[.slice A n cap] w (APost (ansBt ts) w) := by
  have hL : Hid (ts.length = n) := Lib.hid hts.out.1
  cases hg : goodEn ts
  · have HA := Lib.hid (show ansBt ts = .tuple #[.string ⟨#[]⟩, .bool false] by unfold ansBt; rw [hg]; rfl)
    have HG := Lib.hid hg
    clear hg
    rw [HA.out]
    go_enter Tryz.func14, Tryz.ntmps14
    go_wp2_with fail
    refine (book_is A n cap ts false _ hn hts HG).mono ?_
    rintro e w1 ⟨rfl, b1⟩
    have HB := Lib.hid b1
    clear b1
    go_wp2_with fail
    go_ret2
    exact ⟨rfl, HB.out⟩
  · have HA := Lib.hid (show ansBt ts = .tuple #[.string (btx ts), .bool true] by unfold ansBt; rw [hg]; rfl)
    have HG := Lib.hid hg
    have hn12 : n ≤ 12 := by rw [← hL.out]; exact goodEn_len hg
    have HOKS := Lib.hid (goodEn_all hg)
    clear hg
    rw [HA.out]
    go_enter Tryz.func14, Tryz.ntmps14
    go_wp2_with fail
    refine (book_is A n cap ts true _ hn hts HG).mono ?_
    rintro e w1 ⟨rfl, b1⟩
    have HB := Lib.hid b1
    clear b1
    go_wp2_with fail
    go_loopw [4, 5] (fun v i wr => ∃ (k : Nat) (s : ByteArray), k ≤ n ∧ i = .int .i64 k ∧ v = .string s ∧ s.size ≤ 41 * k ∧ Hid (btx (ts.take k) = s) ∧ Below w.heap.size w wr) (fun _ i _ => n - (intOf i).toNat)
    case atStart => exact ⟨0, ⟨#[]⟩, Nat.zero_le _, rfl, rfl, Nat.le_refl _, Lib.hid (by simp [btx_nil]), HB.out⟩
    case round =>
      obtain ⟨k, s, hk, rfl, rfl, hs, HS, hB⟩ := hrel
      have hBs := hB.size
      have HBr := Lib.hid hB
      clear hB HB
      by_cases hlt : k < n
      · obtain ⟨t, htk⟩ := at_lt hL.out hlt
        obtain ⟨g, rfl, hgB, d0, d1, d2, d3, d4, d5⟩ := (hts.out.below HBr.out).2 k t htk
        have HOT := Lib.hid (HOKS.out t (List.mem_of_getElem? htk))
        obtain ⟨lt, HLT⟩ : ∃ q, Hid (etx t = q) := ⟨_, Lib.hid rfl⟩
        have hl := etx_size HOT.out
        rw [HLT.out] at hl
        obtain ⟨q, hq⟩ : ∃ q, s ++ lt ++ (⟨#[10]⟩ : ByteArray) = q := ⟨_, rfl⟩
        have HN := Lib.hid (show btx (ts.take (k + 1)) = q by rw [base.take_snoc htk, btx_snoc, HS.out, HLT.out, hq])
        have e1 : (⟨#[10]⟩ : ByteArray).size = 1 := rfl
        obtain ⟨p, hp⟩ : ∃ p, s ++ lt = p := ⟨_, rfl⟩
        have hz := add_size hp
        have HW1 := Lib.hid (show ∀ W : World, (Op.stringOp .add s lt).run Tryz.prog W = .ok (.string p) W from fun W => add_run hp 2000 (by omega) (by decide) W)
        have HW2 := Lib.hid (show ∀ W : World, (Op.stringOp .add p (⟨#[10]⟩ : ByteArray)).run Tryz.prog W = .ok (.string q) W from fun W => add_run (by rw [← hq, ← hp]) 2000 (by omega) (by decide) W)
        clear hp hz
        have hqs : q.size ≤ 41 * (k + 1) := by
          have := add_size hq
          have := add_size (show s ++ lt = s ++ lt from rfl)
          omega
        clear htk hq
        have hki : (k : Int) < (n : Int) := by omega
        have hk0 : 0 ≤ (k : Int) := by omega
        have hkd : decide (k < n) = true := by simpa using hlt
        go_wp2_with fail
        refine (l7Line_is t lt HLT _ HOT).mono ?_
        rintro e w2 ⟨rfl, b2⟩
        have HB2 := Lib.hid (HBr.out.trans (b2.mono HBr.out.size))
        have hw1 := HW1.out
        have hw2 := HW2.out
        clear b2 HBr hBs d0 d1 d2 d3 d4 d5
        go_wp2_with fail
        go_roundw
        case rel => exact ⟨k + 1, q, by omega, by go_num, rfl, hqs, HN, HB2.out⟩
        case measure => simp [intOf]; omega
      · have hkd : decide (k < n) = false := by simpa using hlt
        obtain rfl : k = n := by omega
        have HF := Lib.hid (show btx ts = s by rw [← HS.out, List.take_of_length_le (by rw [hL.out]; omega)])
        go_wp2_with fail
        go_ret2
        exact ⟨by rw [HF.out]; rfl, HBr.out⟩
set_option maxHeartbeats 4000000 in
set_option maxRecDepth 100000 in
theorem bookText_impl (A : Option Addr) (n cap : Nat) (ts : List En) (w : World) (hn : n ≤ 2000000) (hts : Hid (EnAt w w.heap.size A n ts)) (hT : Hid (TabP w)) : Calls Tryz.prog 13 #[.slice A n cap] w (APost (ansBt ts) w) := by
  have hL : Hid (ts.length = n) := Lib.hid hts.out.1
  cases hg : goodEn ts
  · have HA := Lib.hid (show ansBt ts = .tuple #[.string ⟨#[]⟩, .bool false] by unfold ansBt; rw [hg]; rfl)
    have HG := Lib.hid hg
    clear hg
    rw [HA.out]
    go_enter Tryz.func13, Tryz.ntmps13
    go_wp2_with fail
    refine (isBook_is A n cap ts false _ hn hts HG).mono ?_
    rintro e w1 ⟨rfl, b1⟩
    have HB := Lib.hid b1
    clear b1
    go_wp2_with fail
    go_ret2
    exact ⟨rfl, HB.out⟩
  · have HA := Lib.hid (show ansBt ts = .tuple #[.string (btx ts), .bool true] by unfold ansBt; rw [hg]; rfl)
    have HG := Lib.hid hg
    have hn12 : n ≤ 12 := by rw [← hL.out]; exact goodEn_len hg
    have HOKS := Lib.hid (goodEn_all hg)
    clear hg
    rw [HA.out]
    go_enter Tryz.func13, Tryz.ntmps13
    go_wp2_with fail
    refine (isBook_is A n cap ts true _ hn hts HG).mono ?_
    rintro e w1 ⟨rfl, b1⟩
    have HB := Lib.hid b1
    clear b1
    go_wp2_with fail
    go_loopw [4, 14] (fun v i wr => ∃ (k : Nat) (s : ByteArray), k ≤ n ∧ i = .int .i64 k ∧ v = .string s ∧ s.size ≤ 41 * k ∧ Hid (btx (ts.take k) = s) ∧ Below w.heap.size w wr) (fun _ i _ => n - (intOf i).toNat)
    case atStart => exact ⟨0, ⟨#[]⟩, Nat.zero_le _, rfl, rfl, Nat.le_refl _, Lib.hid (by simp [btx_nil]), HB.out⟩
    case round =>
      obtain ⟨k, s, hk, rfl, rfl, hs, HS, hB⟩ := hrel
      have hBs := hB.size
      have HBr := Lib.hid hB
      clear hB HB
      by_cases hlt : k < n
      · obtain ⟨t, htk⟩ := at_lt hL.out hlt
        obtain ⟨g, rfl, hgB, d0, d1, d2, d3, d4, d5⟩ := (hts.out.below HBr.out).2 k t htk
        have HOT := Lib.hid (HOKS.out t (List.mem_of_getElem? htk))
        obtain ⟨lt, HLT⟩ : ∃ q, Hid (etx t = q) := ⟨_, Lib.hid rfl⟩
        have hl := etx_size HOT.out
        rw [HLT.out] at hl
        obtain ⟨q, hq⟩ : ∃ q, s ++ lt ++ (⟨#[10]⟩ : ByteArray) = q := ⟨_, rfl⟩
        have HN := Lib.hid (show btx (ts.take (k + 1)) = q by rw [base.take_snoc htk, btx_snoc, HS.out, HLT.out, hq])
        have e1 : (⟨#[10]⟩ : ByteArray).size = 1 := rfl
        obtain ⟨p, hp⟩ : ∃ p, lt ++ (⟨#[10]⟩ : ByteArray) = p := ⟨_, rfl⟩
        have hz := add_size hp
        have HW1 := Lib.hid (show ∀ W : World, (Op.stringOp .add lt (⟨#[10]⟩ : ByteArray)).run Tryz.prog W = .ok (.string p) W from fun W => add_run hp 2000 (by omega) (by decide) W)
        have HW2 := Lib.hid (show ∀ W : World, (Op.stringOp .add s p).run Tryz.prog W = .ok (.string q) W from fun W => add_run (by rw [← hq, ← hp, ByteArray.append_assoc]) 2000 (by omega) (by decide) W)
        clear hp hz
        have hqs : q.size ≤ 41 * (k + 1) := by
          have := add_size hq
          have := add_size (show s ++ lt = s ++ lt from rfl)
          omega
        clear htk hq
        have hki : (k : Int) < (n : Int) := by omega
        have hk0 : 0 ≤ (k : Int) := by omega
        have hkd : decide (k < n) = true := by simpa using hlt
        go_upto_region 7 with fail
        obtain ⟨X, HX⟩ : ∃ X, Hid (wr.heap.size = X) := ⟨_, Lib.hid rfl⟩
        obtain ⟨W1, HW0⟩ : ∃ W, Hid (wr.alloc (.cells #[.int .i64 t.frm, .int .i64 t.to_, .int .i64 t.tape, .int .i64 t.comp, .int .i64 t.slope, .bool t.back] 25) = W) := ⟨_, Lib.hid rfl⟩
        have HBX := Lib.hid (show Blk W1 X 25 #[.int .i64 t.frm, .int .i64 t.to_, .int .i64 t.tape, .int .i64 t.comp, .int .i64 t.slope, .bool t.back] by rw [← HW0.out, ← HX.out]; exact Blk.new _ _ _)
        have HB1 := Lib.hid (show Below w.heap.size w W1 by rw [← HW0.out]; exact HBr.out.alloc HBr.out.size _)
        rw [HW0.out, HX.out]
        clear HW0 HX d0 d1 d2 d3 d4 d5 HBr hBs
        have hXl := HBX.out.lt
        obtain ⟨x0, x1, x2, x3, x4, x5⟩ := (⟨HBX.out.cell 0, HBX.out.cell 1, HBX.out.cell 2, HBX.out.cell 3, HBX.out.cell 4, HBX.out.cell 5⟩ : W1.cell? ⟨X, 0, none⟩ = some (.int .i64 t.frm) ∧ W1.cell? ⟨X, 1, none⟩ = some (.int .i64 t.to_) ∧ W1.cell? ⟨X, 2, none⟩ = some (.int .i64 t.tape) ∧ W1.cell? ⟨X, 3, none⟩ = some (.int .i64 t.comp) ∧ W1.cell? ⟨X, 4, none⟩ = some (.int .i64 t.slope) ∧ W1.cell? ⟨X, 5, none⟩ = some (.bool t.back))
        go_wp2_with fail
        refine (line_is t lt HLT HOT _ (Lib.hid (hT.out.below HB1.out))).mono ?_
        rintro e w2 ⟨rfl, b2⟩
        have HB2 := Lib.hid (HB1.out.trans (b2.mono HB1.out.size))
        have hw1 := HW1.out
        have hw2 := HW2.out
        clear b2 HBX HB1 x0 x1 x2 x3 x4 x5 hXl
        go_wp2_with fail
        go_roundw
        case rel => exact ⟨k + 1, q, by omega, by go_num, rfl, hqs, HN, HB2.out⟩
        case measure => simp [intOf]; omega
      · have hkd : decide (k < n) = false := by simpa using hlt
        obtain rfl : k = n := by omega
        have HF := Lib.hid (show btx ts = s by rw [← HS.out, List.take_of_length_le (by rw [hL.out]; omega)])
        go_wp2_with fail
        go_ret2
        exact ⟨by rw [HF.out]; rfl, HBr.out⟩
end Go.Proofs.YtnlljdepcldibaaGreatDoor.ent
