/-
  The program of bearings corrected, each on its day.
  Conditions: the points lie in one block, at most 2000000 of them.
-/
import Derived.Test.YtiimegmaokfpgaaVaF
import Derived.Test.YtiimegmaokfpgaaVaK
import Derived.BigQuiet
import Derived.Deep.QuietTactic
import Derived.Deep.Cut
import Derived.Deep.DeepCutAuto
import Derived.RegionTactic
import Derived.Deep.RegionWith
import Derived.OwnWalk
namespace Go.Proofs.Ytiimegmaokfpgaa.va
open Go.RowKit
open reads base ty rowi inn win
set_option linter.unusedVariables false
set_option linter.unusedSimpArgs false

set_option maxHeartbeats 8000000 in
set_option maxRecDepth 100000 in
theorem correctAll_impl (A : Option Addr) (n cap : Nat) (ts : List Dp) (A1 : Option Addr) (n1 c1 : Nat) (ds : List Int) (A2 : Option Addr) (n2 c2 : Nat) (ms : List Int) (w : World) (hn : n ≤ 2000000) (hn1 : n1 ≤ 2000000) (hn2 : n2 ≤ 2000000) (hts : Hid (DpAt w w.heap.size A n ts)) (h1 : Hid (InAt w w.heap.size A1 n1 ds)) (h2 : Hid (InAt w w.heap.size A2 n2 ms)) :
    Calls Try.prog 22 #[.slice A n cap, .slice A1 n1 c1, .slice A2 n2 c2] w (LPost (crV ts ds ms) (crGood ts ds ms) w) := by
  have HL1 := Lib.hid h1.out.1
  have HL2 := Lib.hid h2.out.1
  obtain ⟨i0, hi, hz0, hz1, hz2⟩ := info_parts infoI
  obtain ⟨G, HG⟩ : ∃ G, Hid (goodDp ts = G) := ⟨_, Lib.hid rfl⟩
  cases G
  · have HNO := Lib.hid (crGood_no (ts := ts) (ds := ds) (ms := ms) (.inl HG.out))
    go_enter Try.func22, Try.ntmps22
    go_wp2_with fail
    refine (arePoints_is A n cap ts _ HG _ hn hts).mono ?_
    rintro e w1 ⟨rfl, b1⟩
    have HB1 := Lib.hid b1
    clear b1
    go_wp2_with fail
    go_ret2
    exact ⟨_, by rw [HNO.out]; rfl, by rw [crV_no HNO.out]; exact made0 w w1 HB1.out.size 3 1, HB1.out.alloc HB1.out.size _⟩
  by_cases h20 : 20 < n1
  · have HNO := Lib.hid (crGood_no (ts := ts) (ds := ds) (ms := ms) (.inr (.inr (by rw [HL1.out]; exact h20))))
    have r1 : decide ((20 : Int) < (n1 : Int)) = true := by simp; omega
    have r2 : decide (20 < n1) = true := by simp; omega
    go_enter Try.func22, Try.ntmps22
    go_wp2_with fail
    refine (arePoints_is A n cap ts _ HG _ hn hts).mono ?_
    rintro e w1 ⟨rfl, b1⟩
    have HB1 := Lib.hid b1
    clear b1
    go_wp2_with fail
    go_ret2
    exact ⟨_, by rw [HNO.out]; rfl, by rw [crV_no HNO.out]; exact made0 w w1 HB1.out.size 3 1, HB1.out.alloc HB1.out.size _⟩
  by_cases hq : ¬ n1 = n2
  · have HNO := Lib.hid (crGood_no (ts := ts) (ds := ds) (ms := ms) (.inr (.inl (by rw [HL1.out, HL2.out]; exact hq))))
    have r1 : decide ((20 : Int) < (n1 : Int)) = false := by simp; omega
    have r2 : decide (20 < n1) = false := by simp; omega
    have q1 : ((n1 : Int) != (n2 : Int)) = true := by simp [bne]; omega
    have q2 : ((n1 : Int) == (n2 : Int)) = false := by simp; omega
    have q3 : decide ((n1 : Int) = (n2 : Int)) = false := by simp; omega
    have q4 : decide (n1 = n2) = false := by simp; omega
    have q5 : (n1 == n2) = false := by simp; omega
    have q6 : (n1 != n2) = true := by simp; omega
    go_enter Try.func22, Try.ntmps22
    go_wp2_with fail
    refine (arePoints_is A n cap ts _ HG _ hn hts).mono ?_
    rintro e w1 ⟨rfl, b1⟩
    have HB1 := Lib.hid b1
    clear b1
    go_wp2_with fail
    go_ret2
    exact ⟨_, by rw [HNO.out]; rfl, by rw [crV_no HNO.out]; exact made0 w w1 HB1.out.size 3 1, HB1.out.alloc HB1.out.size _⟩
  have hq : n1 = n2 := by omega
  have q1 : ((n1 : Int) != (n2 : Int)) = false := by simp [bne]; omega
  have q2 : ((n1 : Int) == (n2 : Int)) = true := by simp; omega
  have q3 : decide ((n1 : Int) = (n2 : Int)) = true := by simp; omega
  have q4 : decide (n1 = n2) = true := by simp; omega
  have q5 : (n1 == n2) = true := by simp; omega
  have q6 : (n1 != n2) = false := by simp; omega
  have r1 : decide ((20 : Int) < (n1 : Int)) = false := by simp; omega
  have r2 : decide (20 < n1) = false := by simp; omega
  have HGD := Lib.hid (crGood_yes (ts := ts) (ds := ds) (ms := ms) HG.out (by rw [HL1.out, HL2.out]; exact hq) (show ds.length ≤ 20 by rw [HL1.out]; omega))
  go_enter Try.func22, Try.ntmps22
  go_wp2_with fail
  refine (arePoints_is A n cap ts _ HG _ hn hts).mono ?_
  rintro e w1 ⟨rfl, b1⟩
  have HB1 := Lib.hid b1
  clear b1
  have HC1 := Lib.hid (show CR w (some ⟨w1.heap.size, 0, none⟩) 0 0 [] (w1.alloc (.cells #[] 3)) from ⟨HB1.out.alloc HB1.out.size _, made0 w w1 HB1.out.size 3 1⟩)
  go_wp2_with fail
  clear q1 q2 q3 q4 q5 q6 r1 r2
  go_loopw [8, 32] (fun v i wr => ∃ (k c3 : Nat) (A3 : Option Addr) (xs : List Int), k ≤ n1 ∧ i = .int .i64 (k : Nat) ∧ v = .slice A3 k c3 ∧ Hid (crK ts ds ms k = xs) ∧ Hid (crOk ds ms k = true) ∧ CR w A3 k c3 xs wr) (fun _ i _ => n1 - (intOf i).toNat)
  case atStart => exact ⟨0, 0, _, [], Nat.zero_le _, rfl, rfl, Lib.hid rfl, Lib.hid rfl, HC1.out⟩
  case round =>
    clear HC1
    obtain ⟨k, c3, A3, xs, hk, rfl, rfl, HXS, HOK, hC⟩ := hrel
    have HC := Lib.hid hC
    clear hC
    have hk0 : (0 : Int) ≤ (k : Int) := by omega
    by_cases hlt : k < n1
    · have hki : (k : Int) < (n1 : Int) := by omega
      have hki2 : (k : Int) < (n2 : Int) := by omega
      have hkd : decide (k < n1) = true := by simpa using hlt
      obtain ⟨d, hd⟩ := at_lt HL1.out hlt
      obtain ⟨m, hm⟩ := at_lt HL2.out (show k < n2 by omega)
      obtain ⟨g1, rfl, hg1, e1⟩ := h1.out.2 k d hd
      obtain ⟨g2, rfl, hg2, e2⟩ := h2.out.2 k m hm
      have HE1 := Lib.hid (show w.cell? ⟨g1, k, none⟩ = some (.int .i64 d) ∧ g1 < w.heap.size from ⟨e1, hg1⟩)
      have HE2 := Lib.hid (show w.cell? ⟨g2, k, none⟩ = some (.int .i64 m) ∧ g2 < w.heap.size from ⟨e2, hg2⟩)
      have HD := Lib.hid hd
      have HM := Lib.hid hm
      obtain ⟨p, HP⟩ : ∃ p, Hid ((dayOk d && fineOk m) = p) := ⟨_, Lib.hid rfl⟩
      obtain ⟨r, HR⟩ : ∃ r, Hid ((if p = true then tru ts d m else 0) = r) := ⟨_, Lib.hid rfl⟩
      have HTB := Lib.hid (show ansTb ts d m = .tuple #[.int .i64 r, .bool p] by rw [ansTb_form HG.out d m p HP.out, HR.out])
      clear hd hm e1 e2 hg1 hg2
      have e1 := (HC.out.1.cell (p := ⟨g1, k, none⟩) HE1.out.2).trans HE1.out.1
      have e2 := (HC.out.1.cell (p := ⟨g2, k, none⟩) HE2.out.2).trans HE2.out.1
      go_wp2_with fail
      refine (trueBearing_is A n cap ts d m r p HTB _ hn (Lib.hid (hts.out.step HC.out.1))).mono ?_
      rintro e w8 ⟨rfl, b8⟩
      have HC8 := Lib.hid (HC.out.step b8)
      clear b8 HC e1 e2
      cases p
      · have HNO := Lib.hid (show crGood ts ds ms = false by rw [HGD.out]; exact crOk_no (by rw [HL1.out]; exact hlt) HD.out HM.out HP.out)
        go_wp2_with fail
        go_ret2
        exact ⟨_, by rw [HNO.out]; rfl, by rw [crV_no HNO.out]; exact made0 w _ HC8.out.1.size 3 1, HC8.out.1.alloc HC8.out.1.size _⟩
      · have HN := Lib.hid (show crK ts ds ms (k + 1) = xs ++ [r] by rw [crK_succ HD.out HM.out, HXS.out, ← HR.out]; rfl)
        have HN2 := Lib.hid (show crOk ds ms (k + 1) = true by rw [crOk_succ HD.out HM.out, HOK.out, HP.out]; rfl)
        have hsz := HC8.out.1.size
        go_wp2_with (at_builtin; refine wpList_append_own _ rfl _ _ 32 rfl w.heap.size 3 i0 (.int .i64 0) 1 8 Try.underlying32 hi hz0 hz1 hz2 rfl (by decide) _ _ _ rfl (HC8.out.2.alloc _) ⟨_, 0, none⟩ 1 1 [.int .i64 r] rfl rfl (World.news_of_block (alloc_at rfl)) (by simp [Value.oneCell']) (by unfold maxLen; omega) (by omega) (by simp; omega) ?_; intro v' w9 hown' hgrow _; obtain ⟨A9, c9, rfl⟩ := row_slice hown')
        go_roundw
        case rel => exact ⟨k + 1, c9, A9, xs ++ [r], by omega, by go_num, rfl, HN, HN2, (HC8.out.1.alloc hsz _).grown hgrow (by simp; omega) (fun q eq => (HC8.out.2.lt q eq).1), by rw [intsV_app]; exact hown'⟩
        case measure => simp [intOf]; omega
    · have hkd : decide (k < n1) = false := by simpa using hlt
      obtain rfl : k = n1 := by omega
      have HFG := Lib.hid (show crGood ts ds ms = true by rw [HGD.out, HL1.out]; exact HOK.out)
      have HFV := Lib.hid (show crV ts ds ms = xs by unfold crV; rw [HFG.out, HL1.out]; exact HXS.out)
      have HLX := Lib.hid (show xs.length = k by rw [← HXS.out, crK_len])
      go_wp2_with fail
      go_ret2
      exact ⟨_, by rw [HFG.out]; rfl, by rw [HFV.out, HLX.out]; exact HC.out.2, HC.out.1⟩
end Go.Proofs.Ytiimegmaokfpgaa.va
