/-
  Whether legs place a station, closing legs, by the model.
  Conditions: the legs lie in one block; at most 2000000 of them.
-/
import Derived.Test.YtkeepfkjhcmhlaaDoorNtC
import Derived.Test.YtkeepfkjhcmhlaaDoorNtZ
namespace Go.Proofs.YtkeepfkjhcmhlaaDoor.nt
open Go.RowKit
open reads base ty lg rowi hs
set_option linter.unusedVariables false
set_option linter.unusedSimpArgs false

set_option maxHeartbeats 4000000 in
set_option maxRecDepth 100000 in
theorem has6_any (A : Option Addr) (n cap : Nat) (ts : List Lg) (q : Int) (t : Bool) (w : World) (ht : Hid (has6 ts q = t)) (hn : n ≤ 2000000) (hts : Hid (LgAt w w.heap.size A n ts)) :
    Calls Tryd.prog 69 #[.slice A n cap, .int .i64 q] w (BPost t w) := by
  cases hg : goodLg ts
  · have HG := Lib.hid hg
    have HF := Lib.hid (show t = false by rw [← ht.out]; unfold has6; rw [hg]; rfl)
    clear hg
    go_enter Tryd.func69, Tryd.ntmps69
    go_wp2_with fail
    refine (legs_is A n cap ts false _ hn hts HG).mono ?_
    rintro e w1 ⟨rfl, b1⟩
    have HB := Lib.hid b1
    clear b1
    go_wp2_with fail
    go_ret
    exact ⟨ret_bool HF.out.symm, HB.out⟩
  · have HG := Lib.hid hg
    have HM := Lib.hid (show mem (net ts).ps q = t by rw [← ht.out]; unfold has6; rw [hg]; rfl)
    clear hg
    go_enter Tryd.func69, Tryd.ntmps69
    go_wp2_with fail
    refine (legs_is A n cap ts true _ hn hts HG).mono ?_
    rintro e w1 ⟨rfl, b1⟩
    have HB := Lib.hid b1
    clear b1
    go_wp2_with fail
    refine (place_any A n cap ts _ HG (Lib.hid (hts.out.step HB.out))).mono ?_
    rintro e w2 ⟨g1, g2, c2, g3, c3, rfl, hN⟩
    have HN := Lib.hid hN
    have hpl := (ok_net HG.out).ps_len
    clear hN
    obtain ⟨m2, HM2⟩ : ∃ m, Hid ((net ts).ps.length = m) := ⟨_, Lib.hid rfl⟩
    have HR := Lib.hid (show w2.ownsRow w1.heap.size 3 1 (.slice (some ⟨g2, 0, none⟩) m2 c2) m2 (ints.intsV (net ts).ps) by have h := HN.out.2.2.1; rw [HM2.out] at h; exact h)
    rw [HM2.out] at hpl ⊢
    go_wp2_with fail
    refine (has_is (some ⟨g2, 0, none⟩) m2 c2 (net ts).ps q t HM _ (by omega) (Lib.hid (ints.IL.of_own HR.out))).mono ?_
    rintro e w3 ⟨rfl, rfl⟩
    go_wp2_with fail
    go_ret
    exact ⟨rfl, HB.out.trans (HN.out.1.mono HB.out.size)⟩
/-- a list of its own -/
def IPo (xs : List Int) (w : World) (e : Ending) (w' : World) : Prop :=
  ∃ v, e = .returned v ∧ w'.ownsRow w.heap.size 3 1 v xs.length (ints.intsV xs) ∧ Below w.heap.size w w'
set_option maxHeartbeats 8000000 in
set_option maxRecDepth 100000 in
theorem closing_any (A : Option Addr) (n cap : Nat) (ts : List Lg) (N : Net) (HNN : Hid (net ts = N)) (w : World) (hg : Hid (goodLg ts = true)) (hts : Hid (LgAt w w.heap.size A n ts)) :
    Calls Tryd.prog 62 #[.slice A n cap] w (IPo (clN ts N ts.length) w) := by
  obtain ⟨i0, hi, hz0, hz1, hz2⟩ := info_parts infoI
  have HL := Lib.hid hts.out.1
  have hn12 := len12 HL.out hg.out
  have HON := Lib.hid (ok_net hg.out)
  have hp8 := HON.out.ps_len
  have ht12 := HON.out.tr_len
  have HA := Lib.hid (hts.out.alloc (.cells #[] 3))
  have HR0 := Lib.hid (show (w.alloc (.cells #[] 3)).ownsRow w.heap.size 3 1 (.slice (some ⟨w.heap.size, 0, none⟩) 0 0) 0 [] from World.ownsRow_made w #[] 0 (Nat.le_refl _) (by decide) (by simp))
  have HB0 := Lib.hid ((Below.refl w.heap.size w).alloc (Nat.le_refl _) (.cells #[] 3))
  go_enter Tryd.func62, Tryd.ntmps62
  go_wp2_with fail
  refine (place_any A n cap ts _ hg HA).mono ?_
  rintro e w1 ⟨g1, g2, c2, g3, c3, rfl, hN⟩
  rw [HNN.out] at hN hp8 ht12 ⊢
  obtain ⟨m2, HM2⟩ : ∃ m, Hid (N.ps.length = m) := ⟨_, Lib.hid rfl⟩
  obtain ⟨m3, HM3⟩ : ∃ m, Hid (N.tr.length = m) := ⟨_, Lib.hid rfl⟩
  rw [HM2.out] at hN hp8 ⊢
  rw [HM3.out] at hN ht12 ⊢
  have HB1 := Lib.hid (HB0.out.trans (hN.1.mono HB0.out.size))
  have HR1 := Lib.hid (row_below HR0.out hN.1)
  have HP1 := Lib.hid hN.2.2.1
  have HT1 := Lib.hid hN.2.2.2
  have hgs : w.heap.size < (w.alloc (.cells #[] 3)).heap.size := by simp
  have HUP := Lib.hid (show w.heap.size + 1 ≤ g2 ∧ w.heap.size + 1 ≤ g3 by have h1 := (hN.2.2.1.lt g2 rfl).1; have h2 := (hN.2.2.2.lt g3 rfl).1; simp at h1 h2; omega)
  obtain ⟨sb, HSB⟩ : ∃ s, Hid ((w.alloc (.cells #[] 3)).heap.size = s) := ⟨_, Lib.hid rfl⟩
  rw [HSB.out] at HP1 HT1
  have HNE0 := Lib.hid (show ∀ g, (Value.slice (some ⟨w.heap.size, 0, none⟩) 0 0).ownBlock = some g → ¬ g = g2 ∧ ¬ g = g3 from fun g e => by
    have h1 := HUP.out
    have e2 : w.heap.size = g := by simpa [Value.ownBlock] using e
    omega)
  clear hN HB0 HR0 HA hgs
  go_wp2_with fail
  go_loopw [3, 7] (fun v i wr => ∃ (k m c : Nat) (A2 : Option Addr), k ≤ n ∧ i = .int .i64 (k : Nat) ∧ m ≤ k ∧ v = .slice A2 m c ∧ Hid ((clN ts N k).length = m) ∧ (∀ g, (Value.slice A2 m c).ownBlock = some g → ¬ g = g2 ∧ ¬ g = g3) ∧ wr.ownsRow w.heap.size 3 1 (.slice A2 m c) m (ints.intsV (clN ts N k)) ∧ wr.ownsRow sb 3 1 (.slice (some ⟨g2, 0, none⟩) m2 c2) m2 (ints.intsV N.ps) ∧ wr.ownsRow sb 3 1 (.slice (some ⟨g3, 0, none⟩) m3 c3) m3 (ints.intsV N.tr) ∧ Below w.heap.size w wr) (fun _ i _ => n - (intOf i).toNat)
  case atStart => exact ⟨0, 0, 0, _, Nat.zero_le _, rfl, Nat.le_refl _, rfl, Lib.hid rfl, HNE0.out, HR1.out, HP1.out, HT1.out, HB1.out⟩
  case round =>
    obtain ⟨k, m, c, A2, hk, rfl, hmk, rfl, HM, hne, hO, hP, hT, hB⟩ := hrel
    have HO := Lib.hid hO
    have HP := Lib.hid hP
    have HT := Lib.hid hT
    have HB := Lib.hid hB
    have HNE := Lib.hid hne
    have hBs := hB.size
    clear hO hP hT hB hne HR1 HP1 HT1 HB1
    have hk0 : (0 : Int) ≤ (k : Int) := by omega
    by_cases hlt : k < n
    · obtain ⟨x, hx⟩ := at_lt HL.out hlt
      obtain ⟨gL, rfl, hgL, e0, e1, e2, e3, e4⟩ := (hts.out.below HB.out).2 k x hx
      have HX := Lib.hid hx
      clear hx e1 e2 e3 e4
      have hki : (k : Int) < (n : Int) := by omega
      have hkd : decide (k < n) = true := by simpa using hlt
      cases hfa : mem N.ps x.frm
      · have HFA := Lib.hid hfa
        have HC := Lib.hid (clN_no (s := N) HX.out (by rw [hfa]; rfl))
        clear hfa
        go_wp2_with fail
        refine (has_is (some ⟨g2, 0, none⟩) m2 c2 N.ps x.frm false HFA _ (by omega) (Lib.hid (ints.IL.of_own HP.out))).mono ?_
        rintro e w9 ⟨rfl, rfl⟩
        go_wp2_with fail
        go_roundw
        case rel => exact ⟨k + 1, m, c, A2, by omega, by go_num, by omega, rfl, Lib.hid (by rw [HC.out]; exact HM.out), HNE.out, by rw [HC.out]; exact HO.out, HP.out, HT.out, HB.out⟩
        case measure => simp [intOf]; omega
      · have HFA := Lib.hid hfa
        cases hfb : mem N.tr (k : Int)
        · have HFB := Lib.hid hfb
          have HC := Lib.hid (clN_yes (s := N) HX.out hfa hfb)
          clear hfa hfb
          go_wp2_with fail
          refine (has_is (some ⟨g2, 0, none⟩) m2 c2 N.ps x.frm true HFA _ (by omega) (Lib.hid (ints.IL.of_own HP.out))).mono ?_
          rintro e w9 ⟨rfl, rfl⟩
          go_wp2_with fail
          refine (has_is (some ⟨g3, 0, none⟩) m3 c3 N.tr (k : Int) false HFB _ (by omega) (Lib.hid (ints.IL.of_own HT.out))).mono ?_
          rintro e w9 ⟨rfl, rfl⟩
          go_wp2_with (at_builtin; refine wpList_append_lies _ rfl _ _ 24 rfl w.heap.size 3 i0 (.int .i64 0) 1 8 Tryd.underlying24 hi hz0 hz1 hz2 rfl (by decide) _ _ _ rfl (HO.out.alloc _) ⟨wr.heap.size, 0, none⟩ 1 1 [.int .i64 (k : Int)] rfl rfl (cell_one_new _ _ _) (by simp [Value.oneCell']) (by decide) (by unfold maxLen; omega) (by omega) (by simp; omega) _ rfl ?_; intro g9 c9 w3 hown' hgrow hat hlt9)
          have hg2 := (HP.out.lt g2 rfl).2
          have hg3 := (HT.out.lt g3 rfl).2
          have HNE9 := Lib.hid (show ¬ g9 = g2 ∧ ¬ g9 = g3 by
            rcases hat with q | q
            · exact HNE.out g9 q
            · simp at q; omega)
          have HAL := Lib.hid ((Below.refl wr.heap.size wr).alloc (Nat.le_refl _) (.cells #[.int .i64 (k : Int)] 3))
          have HP9 := Lib.hid ((row_below HP.out HAL.out).kept hgrow (.inr (fun e => by have := (HNE.out g2 e.symm).1; exact this rfl)))
          have HT9 := Lib.hid ((row_below HT.out HAL.out).kept hgrow (.inr (fun e => by have := (HNE.out g3 e.symm).2; exact this rfl)))
          have HB9 := Lib.hid ((HB.out.trans (HAL.out.mono hBs)).grown hgrow (by simp; omega) (fun g e => (HO.out.lt g e).1))
          have HO9 := Lib.hid (show w3.ownsRow w.heap.size 3 1 (.slice (some ⟨g9, 0, none⟩) (m + 1) c9) (m + 1) (ints.intsV (clN ts N (k + 1))) by rw [HC.out, intsV_app]; exact hown')
          clear hown' hgrow hat
          go_wp2_with fail
          go_roundw
          case rel => exact ⟨k + 1, m + 1, c9, some ⟨g9, 0, none⟩, by omega, by go_num, by omega, rfl, Lib.hid (by rw [HC.out, List.length_append, HM.out]; rfl), fun g e => by
            have e2 : g9 = g := by simpa [Value.ownBlock] using e
            subst e2; exact HNE9.out, HO9.out, HP9.out, HT9.out, HB9.out⟩
          case measure => simp [intOf]; omega
        · have HFB := Lib.hid hfb
          have HC := Lib.hid (clN_no (s := N) HX.out (by rw [hfa, hfb]; rfl))
          clear hfa hfb
          go_wp2_with fail
          refine (has_is (some ⟨g2, 0, none⟩) m2 c2 N.ps x.frm true HFA _ (by omega) (Lib.hid (ints.IL.of_own HP.out))).mono ?_
          rintro e w9 ⟨rfl, rfl⟩
          go_wp2_with fail
          refine (has_is (some ⟨g3, 0, none⟩) m3 c3 N.tr (k : Int) true HFB _ (by omega) (Lib.hid (ints.IL.of_own HT.out))).mono ?_
          rintro e w9 ⟨rfl, rfl⟩
          go_wp2_with fail
          go_roundw
          case rel => exact ⟨k + 1, m, c, A2, by omega, by go_num, by omega, rfl, Lib.hid (by rw [HC.out]; exact HM.out), HNE.out, by rw [HC.out]; exact HO.out, HP.out, HT.out, HB.out⟩
          case measure => simp [intOf]; omega
    · have hkd : decide (k < n) = false := by simpa using hlt
      obtain rfl : n = k := by omega
      have HFIN := Lib.hid (show wr.ownsRow w.heap.size 3 1 (.slice A2 m c) (clN ts N ts.length).length (ints.intsV (clN ts N ts.length)) by rw [HL.out, HM.out]; exact HO.out)
      clear hlt
      go_wp2_with fail
      go_ret
      exact ⟨_, rfl, HFIN.out, HB.out⟩
#print axioms has6_any
#print axioms closing_any
end Go.Proofs.YtkeepfkjhcmhlaaDoor.nt
