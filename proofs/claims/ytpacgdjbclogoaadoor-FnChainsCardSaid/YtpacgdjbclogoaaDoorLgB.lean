/-
  The model of the legs: the sum of the tapes, the legs at a station, the reverse.
  Conditions: the legs lie in one block below the call's own.
-/
import Derived.Test.YtpacgdjbclogoaaDoorLgA
import Derived.Test.YtpacgdjbclogoaaDoorRowI
namespace Go.Proofs.YtpacgdjbclogoaaDoor.lg
open Go.RowKit
open reads base ty inn rowi
set_option linter.unusedVariables false
set_option linter.unusedSimpArgs false

/-- the sum of the tapes -/
def tsum : List Lg → Int
  | [] => 0
  | t :: ts => t.tape + tsum ts
theorem tsum_app (a : List Lg) (t : Lg) : tsum (a ++ [t]) = tsum a + t.tape := by
  induction a with
  | nil => simp [tsum]
  | cons x a ih => simp only [List.cons_append, tsum, ih]; omega
theorem tsum_bd {ts : List Lg} (h : ∀ t ∈ ts, okLg t = true) : 0 ≤ tsum ts ∧ tsum ts ≤ 500 * ts.length := by
  induction ts with
  | nil => simp [tsum]
  | cons x a ih =>
    have i := ih (fun t ht => h t (List.mem_cons_of_mem _ ht))
    have k := (okLg_lim (h x (List.mem_cons_self ..))).2.2.2.1
    simp only [tsum, List.length_cons]
    omega
def ansLen (ts : List Lg) : Value := if goodLg ts = true then .tuple #[.int .i64 (tsum ts), .bool true] else .tuple #[.int .i64 0, .bool false]
set_option maxHeartbeats 4000000 in
set_option maxRecDepth 100000 in
theorem legsLength_model (A : Option Addr) (n cap : Nat) (ts : List Lg) (w : World) (hn : n ≤ 2000000) (hts : Hid (LgAt w w.heap.size A n ts)) :
    Calls Tryd.prog 21 #[.slice A n cap] w (APost (ansLen ts) w) := by
  have hL : Hid (ts.length = n) := Lib.hid hts.out.1
  cases hg : goodLg ts
  · have HA := Lib.hid (show ansLen ts = .tuple #[.int .i64 0, .bool false] by unfold ansLen; rw [hg]; rfl)
    have HG := Lib.hid hg
    clear hg
    rw [HA.out]
    go_enter Tryd.func21, Tryd.ntmps21
    go_wp2_with fail
    refine (legs_is A n cap ts false _ hn hts HG).mono ?_
    rintro e w1 ⟨rfl, b1⟩
    have HB := Lib.hid b1
    clear b1
    go_wp2_with fail
    go_ret2
    exact ⟨rfl, HB.out⟩
  · have HA := Lib.hid (show ansLen ts = .tuple #[.int .i64 (tsum ts), .bool true] by unfold ansLen; rw [hg]; rfl)
    have HG := Lib.hid hg
    have hn12 : n ≤ 12 := by rw [← hL.out]; exact goodLg_len hg
    clear hg
    rw [HA.out]
    go_enter Tryd.func21, Tryd.ntmps21
    go_wp2_with fail
    refine (legs_is A n cap ts true _ hn hts HG).mono ?_
    rintro e w1 ⟨rfl, b1⟩
    have HB := Lib.hid b1
    have HT := Lib.hid (hts.out.step b1)
    clear b1
    go_wp2_with fail
    go_loopw [4, 5] (fun s i wr => ∃ (k : Nat) (z : Int), k ≤ n ∧ i = .int .i64 k ∧ s = .int .i64 z ∧ Hid (tsum (ts.take k) = z) ∧ wr = w1) (fun _ i _ => n - (intOf i).toNat)
    case atStart => exact ⟨0, 0, Nat.zero_le _, rfl, rfl, Lib.hid (by simp [tsum]), rfl⟩
    case round =>
      obtain ⟨k, z, hk, rfl, rfl, HZ, rfl⟩ := hrel
      have zb := tsum_bd (ts := ts.take k) (fun t ht => goodLg_all HG.out t (List.mem_of_mem_take ht))
      have zl := List.length_take_le k ts
      rw [HZ.out] at zb
      obtain ⟨z0, z1⟩ := zb
      by_cases hlt : k < n
      · obtain ⟨t, htk⟩ := at_lt hL.out hlt
        obtain ⟨g, rfl, hg, h0, h1, h2, h3, h4⟩ := HT.out.2 k t htk
        have tb := (okLg_lim (goodLg_at HG.out htk)).2.2.2.1
        obtain ⟨tb0, tb1⟩ := tb
        have HN := Lib.hid (show tsum (ts.take (k + 1)) = z + t.tape by rw [take_snoc htk, tsum_app, HZ.out])
        clear htk
        have hki : (k : Int) < (n : Int) := by omega
        have hk0 : 0 ≤ (k : Int) := by omega
        have hkd : decide (k < n) = true := by simpa using hlt
        go_wp2_with fail
        go_roundw
        case rel => exact ⟨k + 1, z + t.tape, by omega, by go_num, rfl, HN, by first | rfl | trivial⟩
        case measure => simp [intOf]; omega
      · have hkd : decide (k < n) = false := by simpa using hlt
        have HF := Lib.hid (show tsum ts = z by rw [← HZ.out, List.take_of_length_le (by rw [hL.out]; omega)])
        go_wp2_with fail
        go_ret2
        exact ⟨by rw [HF.out]; rfl, HB.out⟩

/-- the legs at a station -/
def isAt (q : Int) (t : Lg) : Bool := t.frm == q || t.to_ == q
def atOk (ts : List Lg) (q : Int) : Bool := goodLg ts && btw 0 q 7
def atIds (ts : List Lg) (q : Int) : List Int := if atOk ts q = true then idxs (isAt q) ts ts.length else []
set_option maxHeartbeats 4000000 in
set_option maxRecDepth 100000 in
theorem legsAt_model (A : Option Addr) (n cap : Nat) (ts : List Lg) (q : Int) (w : World) (hn : n ≤ 2000000) (hts : Hid (LgAt w w.heap.size A n ts)) :
    Calls Tryd.prog 24 #[.slice A n cap, .int .i64 q] w (LPost (atIds ts q) (atOk ts q) w) := by
  obtain ⟨i0, hi, hz0, hz1, hz2⟩ := info_parts infoI
  have hrow0 : (w.alloc (.cells #[] 3)).ownsRow w.heap.size 3 1 (.slice (some ⟨w.heap.size, 0, none⟩) 0 0) 0 [] := World.ownsRow_made w #[] 0 (Nat.le_refl _) (by decide) (by simp)
  have HRow := Lib.hid hrow0
  have HT := Lib.hid (hts.out.alloc (.cells #[] 3))
  have HB0 := Lib.hid ((Below.refl w.heap.size w).alloc (Nat.le_refl _) (.cells #[] 3))
  have hL : Hid (ts.length = n) := Lib.hid hts.out.1
  clear hrow0
  cases hg : goodLg ts
  · have HG := Lib.hid hg
    have HA := Lib.hid (show atOk ts q = false by unfold atOk; rw [hg]; rfl)
    have HI := Lib.hid (show atIds ts q = [] by unfold atIds; rw [HA.out]; rfl)
    clear hg
    rw [HA.out, HI.out]
    go_enter Tryd.func24, Tryd.ntmps24
    go_wp2_with fail
    refine (legs_is A n cap ts false _ hn HT HG).mono ?_
    rintro e w1 ⟨rfl, b1⟩
    have HE := Lib.hid (HB0.out.trans (b1.mono HB0.out.size))
    have HR := Lib.hid (row_below HRow.out b1)
    clear b1
    go_wp2_with fail
    go_ret2
    exact ⟨_, rfl, HR.out, HE.out⟩
  cases hq : btw 0 q 7
  · have HG := Lib.hid hg
    have HQ := Lib.hid hq
    have HA := Lib.hid (show atOk ts q = false by unfold atOk; rw [hg, hq]; rfl)
    have HI := Lib.hid (show atIds ts q = [] by unfold atIds; rw [HA.out]; rfl)
    clear hg hq
    rw [HA.out, HI.out]
    go_enter Tryd.func24, Tryd.ntmps24
    go_wp2_with fail
    refine (legs_is A n cap ts true _ hn HT HG).mono ?_
    rintro e w1 ⟨rfl, b1⟩
    have HE := Lib.hid (HB0.out.trans (b1.mono HB0.out.size))
    have HR := Lib.hid (row_below HRow.out b1)
    clear b1
    go_wp2_with fail
    refine (station_is q false HQ _).mono ?_
    rintro e w' ⟨rfl, rfl⟩
    go_wp2_with fail
    go_ret2
    exact ⟨_, rfl, HR.out, HE.out⟩
  · have HG := Lib.hid hg
    have HQ := Lib.hid hq
    have hn12 : n ≤ 12 := by rw [← hL.out]; exact goodLg_len hg
    have HA := Lib.hid (show atOk ts q = true by unfold atOk; rw [hg, hq]; rfl)
    have HI := Lib.hid (show atIds ts q = idxs (isAt q) ts n by unfold atIds; rw [HA.out, hL.out]; rfl)
    clear hg hq
    rw [HA.out, HI.out]
    go_enter Tryd.func24, Tryd.ntmps24
    go_wp2_with fail
    refine (legs_is A n cap ts true _ hn HT HG).mono ?_
    rintro e w1 ⟨rfl, b1⟩
    have HE := Lib.hid (HB0.out.trans (b1.mono HB0.out.size))
    have HR := Lib.hid (row_below HRow.out b1)
    clear b1 HT HRow
    go_wp2_with fail
    refine (station_is q true HQ _).mono ?_
    rintro e w' ⟨rfl, rfl⟩
    go_wp2_with fail
    go_loopw [6, 7] (fun v i wr => ∃ (k : Nat) (ids : List Int), k ≤ n ∧ i = .int .i64 k ∧ Hid (idxs (isAt q) ts k = ids) ∧ Hid (wr.ownsRow w.heap.size 3 1 v ids.length (ints.intsV ids)) ∧ Below w.heap.size w wr) (fun _ i _ => n - (intOf i).toNat)
    case atStart => exact ⟨0, [], Nat.zero_le _, rfl, Lib.hid rfl, HR, HE.out⟩
    case round =>
      obtain ⟨k, ids, hk, rfl, HD, HO, hB⟩ := hrel
      have hlen : ids.length ≤ 12 := by rw [← HD.out]; have := idxs_len (isAt q) ts k; omega
      have hBs := hB.size
      have HB := Lib.hid hB
      clear hB HE HR
      by_cases hlt : k < n
      · obtain ⟨t, htk⟩ := at_lt hL.out hlt
        obtain ⟨g, rfl, hgB, h0, h1, -, -, -⟩ := (hts.out.below HB.out).2 k t htk
        have HK := Lib.hid htk
        clear htk
        have hki : (k : Int) < (n : Int) := by omega
        have hk0 : 0 ≤ (k : Int) := by omega
        have hkd : decide (k < n) = true := by simpa using hlt
        cases p0 : (t.frm == q)
        · cases p1 : (t.to_ == q)
          · have HN := Lib.hid (show idxs (isAt q) ts (k + 1) = ids by rw [idxs_no HK.out (by unfold isAt; rw [p0, p1]; rfl)]; exact HD.out)
            go_wp2_with fail
            go_roundw
            case rel => exact ⟨k + 1, ids, by omega, by go_num, HN, HO, HB.out⟩
            case measure => simp [intOf]; omega
          · have HN := Lib.hid (show idxs (isAt q) ts (k + 1) = ids ++ [(k : Int)] by rw [idxs_yes HK.out (by unfold isAt; rw [p0, p1]; rfl), HD.out])
            go_wp2_with (at_builtin; refine wpList_append_own _ rfl _ _ 44 rfl w.heap.size 3 i0 (.int .i64 0) 1 8 Tryd.underlying44 hi hz0 hz1 hz2 rfl (by decide) _ _ _ rfl (HO.out.alloc _) ⟨wr.heap.size, 0, none⟩ 1 1 [.int .i64 (k : Int)] rfl rfl (cell_one_new _ _ _) (by simp [Value.oneCell']) (by unfold maxLen; omega) (by omega) (by simp; omega) ?_; intro v' w2 hown' hgrow _)
            go_roundw
            case rel =>
              refine ⟨k + 1, ids ++ [(k : Int)], by omega, by go_num, HN, Lib.hid ?_, ?_⟩
              · rw [List.length_append, List.length_singleton, intsV_app]; exact hown'
              · exact (HB.out.alloc HB.out.size _).grown hgrow (by simp; omega) (fun j ej => (HO.out.lt j ej).1)
            case measure => simp [intOf]; omega
        · have HN := Lib.hid (show idxs (isAt q) ts (k + 1) = ids ++ [(k : Int)] by rw [idxs_yes HK.out (by unfold isAt; rw [p0]; rfl), HD.out])
          go_wp2_with (at_builtin; refine wpList_append_own _ rfl _ _ 44 rfl w.heap.size 3 i0 (.int .i64 0) 1 8 Tryd.underlying44 hi hz0 hz1 hz2 rfl (by decide) _ _ _ rfl (HO.out.alloc _) ⟨wr.heap.size, 0, none⟩ 1 1 [.int .i64 (k : Int)] rfl rfl (cell_one_new _ _ _) (by simp [Value.oneCell']) (by unfold maxLen; omega) (by omega) (by simp; omega) ?_; intro v' w2 hown' hgrow _)
          go_roundw
          case rel =>
            refine ⟨k + 1, ids ++ [(k : Int)], by omega, by go_num, HN, Lib.hid ?_, ?_⟩
            · rw [List.length_append, List.length_singleton, intsV_app]; exact hown'
            · exact (HB.out.alloc HB.out.size _).grown hgrow (by simp; omega) (fun j ej => (HO.out.lt j ej).1)
          case measure => simp [intOf]; omega
      · have hkd : decide (k < n) = false := by simpa using hlt
        obtain rfl : k = n := by omega
        go_wp2_with fail
        go_ret2
        rw [HD.out]
        exact ⟨_, rfl, HO.out, HB.out⟩
end Go.Proofs.YtpacgdjbclogoaaDoor.lg
