/-
  The model of the field books: the sum of the tapes.
  Conditions: the entries lie in one block below the call's own.
-/
import Derived.Test.YtnlljdepcldibaaEnA
import Derived.Test.YtnlljdepcldibaaRowI
namespace Go.Proofs.Ytnlljdepcldibaa.en
open Go.RowKit
open reads base ty inn lg rowi
set_option linter.unusedVariables false
set_option linter.unusedSimpArgs false

theorem goodEn_all {ts : List En} (h : goodEn ts = true) : ∀ t ∈ ts, okEn t = true := by
  simp only [goodEn, Bool.and_eq_true, List.all_eq_true] at h
  exact h.1
/-- the sum of the tapes -/
def bsum : List En → Int
  | [] => 0
  | t :: ts => t.tape + bsum ts
theorem bsum_app (a : List En) (t : En) : bsum (a ++ [t]) = bsum a + t.tape := by
  induction a with
  | nil => simp [bsum]
  | cons x a ih => simp only [List.cons_append, bsum, ih]; omega
theorem bsum_bd {ts : List En} (h : ∀ t ∈ ts, okEn t = true) : 0 ≤ bsum ts ∧ bsum ts ≤ 500 * ts.length := by
  induction ts with
  | nil => simp [bsum]
  | cons x a ih =>
    have i := ih (fun t ht => h t (List.mem_cons_of_mem _ ht))
    have k := (okEn_lim (h x (List.mem_cons_self ..))).2.2.2.1
    simp only [bsum, List.length_cons]
    omega
def ansBl (ts : List En) : Value := if goodEn ts = true then .tuple #[.int .i64 (bsum ts), .bool true] else .tuple #[.int .i64 0, .bool false]
set_option maxHeartbeats 4000000 in
set_option maxRecDepth 100000 in
theorem bookLength_model (A : Option Addr) (n cap : Nat) (ts : List En) (w : World) (hn : n ≤ 2000000) (hts : Hid (EnAt w w.heap.size A n ts)) :
    Calls Try.prog 17 #[.slice A n cap] w (APost (ansBl ts) w) := by
  have hL : Hid (ts.length = n) := Lib.hid hts.out.1
  cases hg : goodEn ts
  · have HA := Lib.hid (show ansBl ts = .tuple #[.int .i64 0, .bool false] by unfold ansBl; rw [hg]; rfl)
    have HG := Lib.hid hg
    clear hg
    rw [HA.out]
    go_enter Try.func17, Try.ntmps17
    go_wp2_with fail
    refine (book_is A n cap ts false _ hn hts HG).mono ?_
    rintro e w1 ⟨rfl, b1⟩
    have HB := Lib.hid b1
    clear b1
    go_wp2_with fail
    go_ret2
    exact ⟨rfl, HB.out⟩
  · have HA := Lib.hid (show ansBl ts = .tuple #[.int .i64 (bsum ts), .bool true] by unfold ansBl; rw [hg]; rfl)
    have HG := Lib.hid hg
    have hn12 : n ≤ 12 := by rw [← hL.out]; exact goodEn_len hg
    clear hg
    rw [HA.out]
    go_enter Try.func17, Try.ntmps17
    go_wp2_with fail
    refine (book_is A n cap ts true _ hn hts HG).mono ?_
    rintro e w1 ⟨rfl, b1⟩
    have HB := Lib.hid b1
    have HT := Lib.hid (hts.out.step b1)
    clear b1
    go_wp2_with fail
    go_loopw [4, 5] (fun s i wr => ∃ (k : Nat) (z : Int), k ≤ n ∧ i = .int .i64 k ∧ s = .int .i64 z ∧ Hid (bsum (ts.take k) = z) ∧ wr = w1) (fun _ i _ => n - (intOf i).toNat)
    case atStart => exact ⟨0, 0, Nat.zero_le _, rfl, rfl, Lib.hid (by simp [bsum]), rfl⟩
    case round =>
      obtain ⟨k, z, hk, rfl, rfl, HZ, rfl⟩ := hrel
      have zb := bsum_bd (ts := ts.take k) (fun t ht => goodEn_all HG.out t (List.mem_of_mem_take ht))
      have zl := List.length_take_le k ts
      rw [HZ.out] at zb
      obtain ⟨z0, z1⟩ := zb
      by_cases hlt : k < n
      · obtain ⟨t, htk⟩ := at_lt hL.out hlt
        obtain ⟨g, rfl, hg, h0, h1, h2, h3, h4, h5⟩ := HT.out.2 k t htk
        have tb := (okEn_lim (goodEn_at HG.out htk)).2.2.2.1
        obtain ⟨tb0, tb1⟩ := tb
        have HN := Lib.hid (show bsum (ts.take (k + 1)) = z + t.tape by rw [take_snoc htk, bsum_app, HZ.out])
        clear htk
        have hki : (k : Int) < (n : Int) := by omega
        have hk0 : 0 ≤ (k : Int) := by omega
        have hkd : decide (k < n) = true := by simpa using hlt
        go_wp2_with fail
        go_roundw
        case rel => exact ⟨k + 1, z + t.tape, by omega, by go_num, rfl, HN, by first | rfl | trivial⟩
        case measure => simp [intOf]; omega
      · have hkd : decide (k < n) = false := by simpa using hlt
        have HF := Lib.hid (show bsum ts = z by rw [← HZ.out, List.take_of_length_le (by rw [hL.out]; omega)])
        go_wp2_with fail
        go_ret2
        exact ⟨by rw [HF.out]; rfl, HB.out⟩

end Go.Proofs.Ytnlljdepcldibaa.en
