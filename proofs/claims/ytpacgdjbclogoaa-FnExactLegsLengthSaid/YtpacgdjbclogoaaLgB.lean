/-
  The model of the legs: the sum of the tapes, the legs at a station, the reverse.
  Conditions: the legs lie in one block below the call's own.
-/
import Derived.Test.YtpacgdjbclogoaaLgA
import Derived.Test.YtpacgdjbclogoaaRowI
namespace Go.Proofs.Ytpacgdjbclogoaa.lg
open Go.RowKit
open reads base ty inn rowi
set_option linter.unusedVariables false
set_option linter.unusedSimpArgs false

/-- the sum of the tapes -/
def tsum : List Lg → Int
  | [] => 0
  | t :: ts => t.tape + tsum ts
theorem tsum_app (a : List Lg) (t : Lg) : tsum (a ++ [t]) = tsum a + t.tape := by
  induction a with
  | nil => simp [tsum]
  | cons x a ih => simp only [List.cons_append, tsum, ih]; omega
theorem tsum_bd {ts : List Lg} (h : ∀ t ∈ ts, okLg t = true) : 0 ≤ tsum ts ∧ tsum ts ≤ 500 * ts.length := by
  induction ts with
  | nil => simp [tsum]
  | cons x a ih =>
    have i := ih (fun t ht => h t (List.mem_cons_of_mem _ ht))
    have k := (okLg_lim (h x (List.mem_cons_self ..))).2.2.2.1
    simp only [tsum, List.length_cons]
    omega
def ansLen (ts : List Lg) : Value := if goodLg ts = true then .tuple #[.int .i64 (tsum ts), .bool true] else .tuple #[.int .i64 0, .bool false]
theorem goodLg_all {ts : List Lg} (h : goodLg ts = true) : ∀ t ∈ ts, okLg t = true := by
  simp only [goodLg, Bool.and_eq_true, List.all_eq_true] at h
  exact h.1
set_option maxHeartbeats 4000000 in
set_option maxRecDepth 100000 in
theorem legsLength_model (A : Option Addr) (n cap : Nat) (ts : List Lg) (w : World) (hn : n ≤ 2000000) (hts : Hid (LgAt w w.heap.size A n ts)) :
    Calls Try.prog 20 #[.slice A n cap] w (APost (ansLen ts) w) := by
  have hL : Hid (ts.length = n) := Lib.hid hts.out.1
  cases hg : goodLg ts
  · have HA := Lib.hid (show ansLen ts = .tuple #[.int .i64 0, .bool false] by unfold ansLen; rw [hg]; rfl)
    have HG := Lib.hid hg
    clear hg
    rw [HA.out]
    go_enter Try.func20, Try.ntmps20
    go_wp2_with fail
    refine (legs_is A n cap ts false _ hn hts HG).mono ?_
    rintro e w1 ⟨rfl, b1⟩
    have HB := Lib.hid b1
    clear b1
    go_wp2_with fail
    go_ret2
    exact ⟨rfl, HB.out⟩
  · have HA := Lib.hid (show ansLen ts = .tuple #[.int .i64 (tsum ts), .bool true] by unfold ansLen; rw [hg]; rfl)
    have HG := Lib.hid hg
    have hn12 : n ≤ 12 := by rw [← hL.out]; exact goodLg_len hg
    clear hg
    rw [HA.out]
    go_enter Try.func20, Try.ntmps20
    go_wp2_with fail
    refine (legs_is A n cap ts true _ hn hts HG).mono ?_
    rintro e w1 ⟨rfl, b1⟩
    have HB := Lib.hid b1
    have HT := Lib.hid (hts.out.step b1)
    clear b1
    go_wp2_with fail
    go_loopw [4, 5] (fun s i wr => ∃ (k : Nat) (z : Int), k ≤ n ∧ i = .int .i64 k ∧ s = .int .i64 z ∧ Hid (tsum (ts.take k) = z) ∧ wr = w1) (fun _ i _ => n - (intOf i).toNat)
    case atStart => exact ⟨0, 0, Nat.zero_le _, rfl, rfl, Lib.hid (by simp [tsum]), rfl⟩
    case round =>
      obtain ⟨k, z, hk, rfl, rfl, HZ, rfl⟩ := hrel
      have zb := tsum_bd (ts := ts.take k) (fun t ht => goodLg_all HG.out t (List.mem_of_mem_take ht))
      have zl := List.length_take_le k ts
      rw [HZ.out] at zb
      obtain ⟨z0, z1⟩ := zb
      by_cases hlt : k < n
      · obtain ⟨t, htk⟩ := at_lt hL.out hlt
        obtain ⟨g, rfl, hg, h0, h1, h2, h3, h4⟩ := HT.out.2 k t htk
        have tb := (okLg_lim (goodLg_at HG.out htk)).2.2.2.1
        obtain ⟨tb0, tb1⟩ := tb
        have HN := Lib.hid (show tsum (ts.take (k + 1)) = z + t.tape by rw [take_snoc htk, tsum_app, HZ.out])
        clear htk
        have hki : (k : Int) < (n : Int) := by omega
        have hk0 : 0 ≤ (k : Int) := by omega
        have hkd : decide (k < n) = true := by simpa using hlt
        go_wp2_with fail
        go_roundw
        case rel => exact ⟨k + 1, z + t.tape, by omega, by go_num, rfl, HN, by first | rfl | trivial⟩
        case measure => simp [intOf]; omega
      · have hkd : decide (k < n) = false := by simpa using hlt
        have HF := Lib.hid (show tsum ts = z by rw [← HZ.out, List.take_of_length_le (by rw [hL.out]; omega)])
        go_wp2_with fail
        go_ret2
        exact ⟨by rw [HF.out]; rfl, HB.out⟩

/-- the legs at a station -/
def isAt (q : Int) (t : Lg) : Bool := t.frm == q || t.to_ == q
def atOk (ts : List Lg) (q : Int) : Bool := goodLg ts && btw 0 q 7
def atIds (ts : List Lg) (q : Int) : List Int := if atOk ts q = true then idxs (isAt q) ts ts.length else []
set_option maxHeartbeats 4000000 in
set_option maxRecDepth 100000 in
theorem legsAt_model (A : Option Addr) (n cap : Nat) (ts : List Lg) (q : Int) (w : World) (hn : n ≤ 2000000) (hts : Hid (LgAt w w.heap.size A n ts)) :
    Calls Try.prog 24 #[.slice A n cap, .int .i64 q] w (LPost (atIds ts q) (atOk ts q) w) := by
  obtain ⟨i0, hi, hz0, hz1, hz2⟩ := info_parts infoI
  have hrow0 : (w.alloc (.cells #[] 3)).ownsRow w.heap.size 3 1 (.slice (some ⟨w.heap.size, 0, none⟩) 0 0) 0 [] := World.ownsRow_made w #[] 0 (Nat.le_refl _) (by decide) (by simp)
  have HRow := Lib.hid hrow0
  have HT := Lib.hid (hts.out.alloc (.cells #[] 3))
  have HB0 := Lib.hid ((Below.refl w.heap.size w).alloc (Nat.le_refl _) (.cells #[] 3))
  have hL : Hid (ts.length = n) := Lib.hid hts.out.1
  clear hrow0
  cases hg : goodLg ts
  · have HG := Lib.hid hg
    have HA := Lib.hid (show atOk ts q = false by unfold atOk; rw [hg]; rfl)
    have HI := Lib.hid (show atIds ts q = [] by unfold atIds; rw [HA.out]; rfl)
    clear hg
    rw [HA.out, HI.out]
    go_enter Try.func24, Try.ntmps24
    go_wp2_with fail
    refine (legs_is A n cap ts false _ hn HT HG).mono ?_
    rintro e w1 ⟨rfl, b1⟩
    have HE := Lib.hid (HB0.out.trans (b1.mono HB0.out.size))
    have HR := Lib.hid (row_below HRow.out b1)
    clear b1
    go_wp2_with fail
    go_ret2
    exact ⟨_, rfl, HR.out, HE.out⟩
  cases hq : btw 0 q 7
  · have HG := Lib.hid hg
    have HQ := Lib.hid hq
    have HA := Lib.hid (show atOk ts q = false by unfold atOk; rw [hg, hq]; rfl)
    have HI := Lib.hid (show atIds ts q = [] by unfold atIds; rw [HA.out]; rfl)
    clear hg hq
    rw [HA.out, HI.out]
    go_enter Try.func24, Try.ntmps24
    go_wp2_with fail
    refine (legs_is A n cap ts true _ hn HT HG).mono ?_
    rintro e w1 ⟨rfl, b1⟩
    have HE := Lib.hid (HB0.out.trans (b1.mono HB0.out.size))
    have HR := Lib.hid (row_below HRow.out b1)
    clear b1
    go_wp2_with fail
    refine (station_is q false HQ _).mono ?_
    rintro e w' ⟨rfl, rfl⟩
    go_wp2_with fail
    go_ret2
    exact ⟨_, rfl, HR.out, HE.out⟩
  · have HG := Lib.hid hg
    have HQ := Lib.hid hq
    have hn12 : n ≤ 12 := by rw [← hL.out]; exact goodLg_len hg
    have HA := Lib.hid (show atOk ts q = true by unfold atOk; rw [hg, hq]; rfl)
    have HI := Lib.hid (show atIds ts q = idxs (isAt q) ts n by unfold atIds; rw [HA.out, hL.out]; rfl)
    clear hg hq
    rw [HA.out, HI.out]
    go_enter Try.func24, Try.ntmps24
    go_wp2_with fail
    refine (legs_is A n cap ts true _ hn HT HG).mono ?_
    rintro e w1 ⟨rfl, b1⟩
    have HE := Lib.hid (HB0.out.trans (b1.mono HB0.out.size))
    have HR := Lib.hid (row_below HRow.out b1)
    clear b1 HT HRow
    go_wp2_with fail
    refine (station_is q true HQ _).mono ?_
    rintro e w' ⟨rfl, rfl⟩
    go_wp2_with fail
    go_loopw [6, 7] (fun v i wr => ∃ (k : Nat) (ids : List Int), k ≤ n ∧ i = .int .i64 k ∧ Hid (idxs (isAt q) ts k = ids) ∧ Hid (wr.ownsRow w.heap.size 3 1 v ids.length (ints.intsV ids)) ∧ Below w.heap.size w wr) (fun _ i _ => n - (intOf i).toNat)
    case atStart => exact ⟨0, [], Nat.zero_le _, rfl, Lib.hid rfl, HR, HE.out⟩
    case round =>
      obtain ⟨k, ids, hk, rfl, HD, HO, hB⟩ := hrel
      have hlen : ids.length ≤ 12 := by rw [← HD.out]; have := idxs_len (isAt q) ts k; omega
      have hBs := hB.size
      have HB := Lib.hid hB
      clear hB HE HR
      by_cases hlt : k < n
      · obtain ⟨t, htk⟩ := at_lt hL.out hlt
        obtain ⟨g, rfl, hgB, h0, h1, -, -, -⟩ := (hts.out.below HB.out).2 k t htk
        have HK := Lib.hid htk
        clear htk
        have hki : (k : Int) < (n : Int) := by omega
        have hk0 : 0 ≤ (k : Int) := by omega
        have hkd : decide (k < n) = true := by simpa using hlt
        cases p0 : (t.frm == q)
        · cases p1 : (t.to_ == q)
          · have HN := Lib.hid (show idxs (isAt q) ts (k + 1) = ids by rw [idxs_no HK.out (by unfold isAt; rw [p0, p1]; rfl)]; exact HD.out)
            go_wp2_with fail
            go_roundw
            case rel => exact ⟨k + 1, ids, by omega, by go_num, HN, HO, HB.out⟩
            case measure => simp [intOf]; omega
          · have HN := Lib.hid (show idxs (isAt q) ts (k + 1) = ids ++ [(k : Int)] by rw [idxs_yes HK.out (by unfold isAt; rw [p0, p1]; rfl), HD.out])
            go_wp2_with (at_builtin; refine wpList_append_own _ rfl _ _ 44 rfl w.heap.size 3 i0 (.int .i64 0) 1 8 Try.underlying44 hi hz0 hz1 hz2 rfl (by decide) _ _ _ rfl (HO.out.alloc _) ⟨wr.heap.size, 0, none⟩ 1 1 [.int .i64 (k : Int)] rfl rfl (cell_one_new _ _ _) (by simp [Value.oneCell']) (by unfold maxLen; omega) (by omega) (by simp; omega) ?_; intro v' w2 hown' hgrow _)
            go_roundw
            case rel =>
              refine ⟨k + 1, ids ++ [(k : Int)], by omega, by go_num, HN, Lib.hid ?_, ?_⟩
              · rw [List.length_append, List.length_singleton, intsV_app]; exact hown'
              · exact (HB.out.alloc HB.out.size _).grown hgrow (by simp; omega) (fun j ej => (HO.out.lt j ej).1)
            case measure => simp [intOf]; omega
        · have HN := Lib.hid (show idxs (isAt q) ts (k + 1) = ids ++ [(k : Int)] by rw [idxs_yes HK.out (by unfold isAt; rw [p0]; rfl), HD.out])
          go_wp2_with (at_builtin; refine wpList_append_own _ rfl _ _ 44 rfl w.heap.size 3 i0 (.int .i64 0) 1 8 Try.underlying44 hi hz0 hz1 hz2 rfl (by decide) _ _ _ rfl (HO.out.alloc _) ⟨wr.heap.size, 0, none⟩ 1 1 [.int .i64 (k : Int)] rfl rfl (cell_one_new _ _ _) (by simp [Value.oneCell']) (by unfold maxLen; omega) (by omega) (by simp; omega) ?_; intro v' w2 hown' hgrow _)
          go_roundw
          case rel =>
            refine ⟨k + 1, ids ++ [(k : Int)], by omega, by go_num, HN, Lib.hid ?_, ?_⟩
            · rw [List.length_append, List.length_singleton, intsV_app]; exact hown'
            · exact (HB.out.alloc HB.out.size _).grown hgrow (by simp; omega) (fun j ej => (HO.out.lt j ej).1)
          case measure => simp [intOf]; omega
      · have hkd : decide (k < n) = false := by simpa using hlt
        obtain rfl : k = n := by omega
        go_wp2_with fail
        go_ret2
        rw [HD.out]
        exact ⟨_, rfl, HO.out, HB.out⟩

/-- the reverse -/
def revLg (x : Lg) : Lg := ⟨x.to_, x.frm, x.tape, (x.comp + 180) % 360, -x.slope⟩
theorem revLg_ok {x : Lg} (h : okLg x = true) : okLg (revLg x) = true := by
  obtain ⟨a, b, c, d, e, f⟩ := okLg_lim h
  exact okLg_mk ⟨b, a, fun q => c q.symm, d, by simp only [revLg]; omega, by simp only [revLg]; omega⟩
set_option maxHeartbeats 4000000 in
set_option maxRecDepth 100000 in
theorem rev_any (x : Lg) (w : World) (c0 : 0 ≤ x.comp) (c1 : x.comp ≤ 100000) (s0 : -1000 ≤ x.slope) (s1 : x.slope ≤ 1000) : Calls Try.prog 37 #[.agg #[.int .i64 x.frm, .int .i64 x.to_, .int .i64 x.tape, .int .i64 x.comp, .int .i64 x.slope]] w (APost (.agg #[.int .i64 (revLg x).frm, .int .i64 (revLg x).to_, .int .i64 (revLg x).tape, .int .i64 (revLg x).comp, .int .i64 (revLg x).slope]) w) := by
  have HR := Lib.hid (show revLg x = ⟨x.to_, x.frm, x.tape, (x.comp + 180) % 360, -x.slope⟩ from rfl)
  go_enter Try.func37, Try.ntmps37
  go_wp2_with fail
  refine bodyPost_ret (v := .agg #[.int .i64 (revLg x).frm, .int .i64 (revLg x).to_, .int .i64 (revLg x).tape, .int .i64 (revLg x).comp, .int .i64 (revLg x).slope]) (by simp [results, Try.results37, go_sem, HR.out]) rfl ⟨rfl, ?_⟩
  exact ((Below.refl _ _).alloc (Nat.le_refl _) _).alloc (by simp) _
theorem rev_is (x y : Lg) (h : Hid (revLg x = y)) (w : World) (c0 : 0 ≤ x.comp) (c1 : x.comp ≤ 100000) (s0 : -1000 ≤ x.slope) (s1 : x.slope ≤ 1000) : Calls Try.prog 37 #[.agg #[.int .i64 x.frm, .int .i64 x.to_, .int .i64 x.tape, .int .i64 x.comp, .int .i64 x.slope]] w (APost (.agg #[.int .i64 y.frm, .int .i64 y.to_, .int .i64 y.tape, .int .i64 y.comp, .int .i64 y.slope]) w) := by rw [← h.out]; exact rev_any x w c0 c1 s0 s1
def ansRev (x : Lg) : Value := if okLg x = true then .tuple #[.agg #[.int .i64 (revLg x).frm, .int .i64 (revLg x).to_, .int .i64 (revLg x).tape, .int .i64 (revLg x).comp, .int .i64 (revLg x).slope], .bool true] else .tuple #[.agg #[.int .i64 0, .int .i64 0, .int .i64 0, .int .i64 0, .int .i64 0], .bool false]
set_option maxHeartbeats 4000000 in
set_option maxRecDepth 100000 in
theorem reverseLeg_model (x : Lg) (w : World) : Calls Try.prog 14 #[.agg #[.int .i64 x.frm, .int .i64 x.to_, .int .i64 x.tape, .int .i64 x.comp, .int .i64 x.slope]] w (APost (ansRev x) w) := by
  cases hx : okLg x
  · have HA := Lib.hid (show ansRev x = .tuple #[.agg #[.int .i64 0, .int .i64 0, .int .i64 0, .int .i64 0, .int .i64 0], .bool false] by unfold ansRev; rw [hx]; rfl)
    have HX := Lib.hid hx
    clear hx
    rw [HA.out]
    go_enter Try.func14, Try.ntmps14
    go_wp2_with fail
    refine (leg_is x false HX _).mono ?_
    rintro e w1 ⟨rfl, b1⟩
    obtain ⟨hc1, hf1⟩ := bcell b1
    have hz : w.heap.size + 2 ≤ w1.heap.size := by have := b1.size; simp at this; omega
    have hz0 : w.heap.size < w1.heap.size := by omega
    have hz1 : w.heap.size + 1 < w1.heap.size := by omega
    have HB := Lib.hid ((((Below.refl w.heap.size w).alloc (Nat.le_refl _) _).alloc (by simp) _).trans (b1.mono (by simp; omega)))
    clear b1
    go_wp2_with fail
    refine bodyPost_ret (v := .tuple #[.agg #[.int .i64 0, .int .i64 0, .int .i64 0, .int .i64 0, .int .i64 0], .bool false]) (by simp [results, Try.results14, go_sem, hc1]) rfl ⟨rfl, ?_⟩
    exact ((((HB.out.setCell (by simp) _).setCell (by simp) _).setCell (by simp) _).setCell (by simp) _).setCell (by simp) _
  · obtain ⟨y, hy⟩ : ∃ y, revLg x = y := ⟨_, rfl⟩
    have HA := Lib.hid (show ansRev x = .tuple #[.agg #[.int .i64 y.frm, .int .i64 y.to_, .int .i64 y.tape, .int .i64 y.comp, .int .i64 y.slope], .bool true] by unfold ansRev; rw [hx, hy]; rfl)
    obtain ⟨-, -, -, -, ⟨c0, c1⟩, s0, s1⟩ := okLg_lim hx
    have HX := Lib.hid hx
    have HY := Lib.hid hy
    clear hx hy
    rw [HA.out]
    go_enter Try.func14, Try.ntmps14
    go_wp2_with fail
    refine (leg_is x true HX _).mono ?_
    rintro e w1 ⟨rfl, b1⟩
    obtain ⟨hc1, hf1⟩ := bcell b1
    have hz : w.heap.size + 2 ≤ w1.heap.size := by have := b1.size; simp at this; omega
    have hz0 : w.heap.size < w1.heap.size := by omega
    have hz1 : w.heap.size + 1 < w1.heap.size := by omega
    have HB := Lib.hid ((((Below.refl w.heap.size w).alloc (Nat.le_refl _) _).alloc (by simp) _).trans (b1.mono (by simp; omega)))
    clear b1
    go_wp2_with fail
    refine (rev_is x y HY _ c0 (by omega) (by omega) (by omega)).mono ?_
    rintro e w2 ⟨rfl, b2⟩
    obtain ⟨hc2, hf2⟩ := bcell b2
    have hz2 : w1.heap.size ≤ w2.heap.size := b2.size
    have HB2 := Lib.hid (HB.out.trans (b2.mono HB.out.size))
    clear b2
    go_wp2_with fail
    refine bodyPost_ret (v := .tuple #[.agg #[.int .i64 y.frm, .int .i64 y.to_, .int .i64 y.tape, .int .i64 y.comp, .int .i64 y.slope], .bool true]) (by simp [results, Try.results14, go_sem, *]) rfl ⟨rfl, ?_⟩
    exact ((((HB2.out.setCell (by simp) _).setCell (by simp) _).setCell (by simp) _).setCell (by simp) _).setCell (by simp) _
end Go.Proofs.Ytpacgdjbclogoaa.lg
