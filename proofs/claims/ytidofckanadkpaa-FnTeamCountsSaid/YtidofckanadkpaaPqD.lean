/-
  SmallestTeam, by the model.
  Conditions: the list has at most 2000000 elements and lies in one block; names have at most 1048576 bytes.
-/
import Derived.Test.YtidofckanadkpaaPqC
namespace Go.Proofs.Ytidofckanadkpaa.pq
open Go.RowKit
open reads base inn ty rowi psk psl psm psn pso psp
set_option linter.unusedVariables false
set_option linter.unusedSimpArgs false

theorem own_base {w : World} {b b' size n : Nat} {e : TypeId} {v : Value} {xs : List Value} (h : w.ownsRow b e size v n xs) (hb : b' ≤ b) : w.ownsRow b' e size v n xs := by
  refine ⟨h.1, ?_⟩
  rcases h.2 with q | ⟨g, cap, cur, h1, h2, h3⟩
  · exact .inl q
  · exact .inr ⟨g, cap, cur, h1, Nat.le_trans hb h2, h3⟩
/-- experienced people who have these skills -/
def cS (q : Int) (s : List Ps) : Bool := decide (andI (pt.orS s) q = q) && decide (20 ≤ pt.trS s)
def smSel (ts : List Ps) (q : Int) (k : Nat) : Option Nat := pt.selI pt.bet (fun j => pt.teamS (pt.pick j ts) && cS q (pt.pick j ts)) (fun j => pt.ids (pt.pick j ts)) k
/-- the best ones among the first sets -/
def smB (ts : List Ps) (q : Int) (k : Nat) : List Int := ((smSel ts q k).map fun j => pt.ids (pt.pick j ts)).getD []
theorem smSel_some {ts : List Ps} {q : Int} {k i : Nat} (h : smSel ts q k = some i) : smB ts q k = pt.ids (pt.pick i ts) ∧ 2 ≤ (smB ts q k).length := by
  have e : smB ts q k = pt.ids (pt.pick i ts) := by unfold smB; rw [h]; rfl
  refine ⟨e, ?_⟩
  have h2 := (pt.selI_some pt.bet_irr pt.bet_trans h).2.1
  rw [Bool.and_eq_true] at h2
  have := pt.teamS_len h2.1
  rw [e, pt.ids_len]; omega
theorem smB_no {ts s : List Ps} {q : Int} {k : Nat} (hs : pt.pick k ts = s) (h : (pt.teamS s && cS q s) = false) : smB ts q (k + 1) = smB ts q k := by
  have e : smSel ts q (k + 1) = smSel ts q k := by
    unfold smSel
    rw [pt.selI]
    cases pt.selI pt.bet (fun j => pt.teamS (pt.pick j ts) && cS q (pt.pick j ts)) (fun j => pt.ids (pt.pick j ts)) k <;> simp [hs, h]
  unfold smB; rw [e]
theorem smB_yes {ts s : List Ps} {q : Int} {k : Nat} (hs : pt.pick k ts = s) (h : (pt.teamS s && cS q s) = true) : smB ts q (k + 1) = if (smB ts q k).length = 0 ∨ pt.bet (pt.ids s) (smB ts q k) = true then pt.ids s else smB ts q k := by
  cases e : smSel ts q k with
  | none =>
    have e0 : smB ts q k = [] := by unfold smB; rw [e]; rfl
    have e1 : smSel ts q (k + 1) = some k := by
      unfold smSel at e ⊢
      rw [pt.selI, e]; simp only [hs, h, if_true]
    rw [e0, if_pos (.inl rfl)]
    unfold smB; rw [e1]; simp [hs]
  | some i =>
    obtain ⟨e0, e00⟩ := smSel_some e
    have e1 : smSel ts q (k + 1) = if pt.bet (pt.ids s) (smB ts q k) = true then some k else some i := by
      unfold smSel at e ⊢
      rw [pt.selI, e]; simp only [hs, h, Bool.true_and]; rw [e0]
    by_cases hb : pt.bet (pt.ids s) (smB ts q k) = true
    · rw [if_pos (.inr hb)]
      rw [if_pos hb] at e1
      show ((smSel ts q (k + 1)).map fun j => pt.ids (pt.pick j ts)).getD [] = _
      rw [e1]; simp [hs]
    · rw [if_neg (fun q1 => q1.elim (fun q2 => by omega) hb)]
      rw [if_neg hb] at e1
      rw [e0]
      show ((smSel ts q (k + 1)).map fun j => pt.ids (pt.pick j ts)).getD [] = _
      rw [e1]; rfl
def smOk (ts : List Ps) (q : Int) : Bool := psg.good ts && btw 0 q 15
/-- SmallestTeam's Ids -/
def smIds (ts : List Ps) (q : Int) : List Int := if smOk ts q then smB ts q (2 ^ ts.length) else []
theorem bet_len {a b : List Int} {m k : Nat} (ha : a.length = m) (hb : b.length = k) : pt.bet a b = (decide (m < k) || (decide (m = k) && pt.less a b)) := by unfold pt.bet; rw [ha, hb]
theorem smB_len {ts : List Ps} {q : Int} {k : Nat} : (smB ts q k).length = 0 ∨ 2 ≤ (smB ts q k).length := by
  cases e : smSel ts q k with
  | none => left; unfold smB; rw [e]; rfl
  | some i => right; exact (smSel_some e).2
theorem smB_le {ts : List Ps} {q : Int} {k : Nat} : (smB ts q k).length ≤ ts.length := by
  cases e : smSel ts q k with
  | none => unfold smB; rw [e]; simp
  | some i => rw [(smSel_some e).1, pt.ids_len]; exact pick_len i ts
set_option maxHeartbeats 8000000 in
set_option maxRecDepth 100000 in
theorem smallest_model (A : Option Addr) (n cap : Nat) (ts : List Ps) (q : Int) (w : World) (hn : n ≤ 2000000) (hs : Hid (∀ t ∈ ts, t.name.size ≤ 1048576)) (hts : Hid (PsAt w w.heap.size A n ts)) :
    Calls Try.prog 17 #[.slice A n cap, .int .i64 q] w (LPost (smIds ts q) (decide (0 < (smIds ts q).length)) w) := by
  have hrow0 : (w.alloc (.cells #[] 3)).ownsRow w.heap.size 3 1 (.slice (some ⟨w.heap.size, 0, none⟩) 0 0) 0 [] := World.ownsRow_made w #[] 0 (Nat.le_refl _) (by decide) (by simp)
  have HRow := Lib.hid hrow0
  have HT := Lib.hid (hts.out.alloc (.cells #[] 3))
  have HB0 := Lib.hid ((Below.refl w.heap.size w).alloc (Nat.le_refl _) (.cells #[] 3))
  have hL : Hid (ts.length = n) := Lib.hid hts.out.1
  clear hrow0
  cases hg : psg.good ts
  · have HG := Lib.hid hg
    have HI := Lib.hid (show smIds ts q = [] by unfold smIds smOk; rw [hg]; rfl)
    clear hg
    rw [HI.out]
    go_enter Try.func17, Try.ntmps17
    go_wp2_with fail
    refine (psg.good_is A n cap ts false _ hn hs HT HG).mono ?_
    rintro e w1 ⟨rfl, b1⟩
    have HE := Lib.hid (HB0.out.trans (b1.mono HB0.out.size))
    have HR := Lib.hid (row_below HRow.out b1)
    clear b1
    go_wp2_with fail
    go_ret2
    exact ⟨_, rfl, HR.out, HE.out⟩
  cases hq : btw 0 q 15
  · have HG := Lib.hid hg
    have HQ := Lib.hid hq
    have HI := Lib.hid (show smIds ts q = [] by unfold smIds smOk; rw [hg, hq]; rfl)
    clear hg hq
    rw [HI.out]
    go_enter Try.func17, Try.ntmps17
    go_wp2_with fail
    refine (psg.good_is A n cap ts true _ hn hs HT HG).mono ?_
    rintro e w1 ⟨rfl, b1⟩
    have HE := Lib.hid (HB0.out.trans (b1.mono HB0.out.size))
    have HR := Lib.hid (row_below HRow.out b1)
    clear b1
    go_wp2_with fail
    refine (psg.skills_is q false HQ _).mono ?_
    rintro e w' ⟨rfl, rfl⟩
    go_wp2_with fail
    go_ret2
    exact ⟨_, rfl, HR.out, HE.out⟩
  have HG := Lib.hid hg
  have HQ := Lib.hid hq
  have hn10 : n ≤ 10 := by rw [← hL.out]; exact good_len hg
  have hqb := btw_yes hq
  have HI := Lib.hid (show smIds ts q = smB ts q (2 ^ n) by unfold smIds smOk; rw [hg, hq, hL.out]; rfl)
  obtain ⟨N, HN⟩ : ∃ N, Hid (2 ^ n = N) := ⟨_, Lib.hid rfl⟩
  obtain ⟨hN1, hN2⟩ : 1 ≤ N ∧ N ≤ 1024 := by rw [← HN.out]; exact pow_le hn10
  have hsh := pow_wrap HN.out hn10
  clear hg hq
  rw [HI.out, HN.out]
  go_enter Try.func17, Try.ntmps17
  go_wp2_with fail
  refine (psg.good_is A n cap ts true _ hn hs HT HG).mono ?_
  rintro e w1 ⟨rfl, b1⟩
  have HE := Lib.hid (HB0.out.trans (b1.mono HB0.out.size))
  have HR := Lib.hid (row_below HRow.out b1)
  clear b1
  go_wp2_with fail
  refine (psg.skills_is q true HQ _).mono ?_
  rintro e w' ⟨rfl, rfl⟩
  go_wp2_with fail
  go_loopw [6, 7] (fun b i wr => ∃ (k mb cb : Nat) (Ab : Option Addr), k ≤ N ∧ i = .int .i64 k ∧ b = .slice Ab mb cb ∧ Hid ((smB ts q k).length = mb) ∧ Hid (wr.ownsRow w.heap.size 3 1 (.slice Ab mb cb) mb (ints.intsV (smB ts q k))) ∧ Below w.heap.size w wr) (fun _ i _ => N - (intOf i).toNat)
  case atStart => exact ⟨0, 0, _, _, Nat.zero_le _, rfl, rfl, Lib.hid rfl, HR, HE.out⟩
  case round =>
    obtain ⟨k, mb, cb, Ab, hk, rfl, rfl, HMB, HO, hB⟩ := hrel
    have HB1 := Lib.hid hB
    have hBs := hB.size
    clear hB HR HE
    have hmb10 : mb ≤ 10 := by rw [← HMB.out]; have := smB_le (ts := ts) (q := q) (k := k); rw [hL.out] at this; omega
    by_cases hlt : k < N
    · have hki : (k : Int) < (N : Int) := by omega
      have hk0 : 0 ≤ (k : Int) := by omega
      have hkd : decide (k < N) = true := by simpa using hlt
      obtain ⟨s, HS⟩ : ∃ s, Hid (pt.pick k ts = s) := ⟨_, Lib.hid rfl⟩
      have HM := Lib.hid (pick_mem HS.out)
      have HIS := Lib.hid (show pt.ids (pt.pick k ts) = pt.ids s by rw [HS.out])
      have HT1 := Lib.hid (hts.out.step HB1.out)
      have hsl : s.length ≤ 10 := by rw [← HS.out]; have := pick_len k ts; rw [hL.out] at this; omega
      obtain ⟨sk, HSK⟩ : ∃ z, Hid (pt.orS s = z) := ⟨_, Lib.hid rfl⟩
      obtain ⟨tr, HTR⟩ : ∃ z, Hid (pt.trS s = z) := ⟨_, Lib.hid rfl⟩
      have hskb : 0 ≤ sk ∧ sk ≤ 15 := by rw [← HSK.out]; exact pt.orS_bd (fun t ht => good_okS HG.out t (HM.out t ht))
      have htr : 0 ≤ tr ∧ tr ≤ 5000 := by rw [← HTR.out]; have := trS_bd (s := s) (fun t ht => (good_bd HG.out t (HM.out t ht)).2); omega
      have HCS := Lib.hid (show cS q s = (decide (andI sk q = q) && decide (20 ≤ tr)) by unfold cS; rw [HSK.out, HTR.out])
      have hand : bits .and .i64 sk q = andI sk q := and_wrap2 hskb hqb
      obtain ⟨t, HTM⟩ : ∃ t, Hid (pt.teamS s = t) := ⟨_, Lib.hid rfl⟩
      go_wp2_with fail
      refine (members_is A n cap ts k _ HIS _ (by omega) (by omega) HT1).mono ?_
      rintro e w2 ⟨v, rfl, ho, b2⟩
      obtain ⟨A', c', m, rfl, hm, hx, ho2⟩ := ipost_at ho
      have HXL := Lib.hid hm
      have hm10 : m ≤ 10 := by rw [← hm, pt.ids_len]; exact hsl
      have HX := Lib.hid hx
      have HT2 := Lib.hid (HT1.out.step b2)
      have HB2 := Lib.hid (HB1.out.trans (b2.mono hBs))
      have HO2 := Lib.hid (row_below HO.out b2)
      have HS2 := Lib.hid (show w2.ownsRow w.heap.size 3 1 (.slice A' m c') m (ints.intsV (pt.ids s)) from own_base ho2 hBs)
      clear ho hm hx b2 ho2
      go_wp2_with fail
      refine (team_s t _ HG HM HTM hn (by omega) HT2 HX).mono ?_
      rintro e w3 ⟨rfl, b3⟩
      have HB3 := Lib.hid (HB2.out.trans (b3.mono HB2.out.size))
      have HT3 := Lib.hid (HT2.out.step b3)
      have HX3 := Lib.hid (HX.out.step b3)
      have HO3 := Lib.hid (row_below HO2.out b3)
      have HS3 := Lib.hid (row_below HS2.out b3)
      clear b3
      cases t
      · have HN1 := Lib.hid (show smB ts q (k + 1) = smB ts q k from smB_no HS.out (by rw [HTM.out]; rfl))
        go_wp2_with fail
        go_roundw
        case rel => exact ⟨k + 1, mb, cb, Ab, by omega, by go_num, rfl, Lib.hid (by rw [HN1.out]; exact HMB.out), Lib.hid (by rw [HN1.out]; exact HO3.out), HB3.out⟩
        case measure => simp [intOf]; omega
      go_wp2_with fail
      refine (all_s sk tr _ HG HM HSK HTR hn (by omega) HT3 HX3).mono ?_
      rintro e w4 ⟨rfl, b4⟩
      have HB4 := Lib.hid (HB3.out.trans (b4.mono HB3.out.size))
      have HO4 := Lib.hid (row_below HO3.out b4)
      have HS4 := Lib.hid (row_below HS3.out b4)
      clear b4
      by_cases hz : andI sk q = q
      · rw [hz] at hand
        by_cases h20 : 20 ≤ tr
        · have hd20 : decide (tr < 20) = false := by simpa using h20
          have HC := Lib.hid (show (pt.teamS s && cS q s) = true by rw [HTM.out, HCS.out]; simp [hz, h20])
          have HY := Lib.hid (smB_yes HS.out HC.out)
          clear hz
          by_cases hm0 : mb = 0
          · subst hm0
            have HN1 := Lib.hid (show smB ts q (k + 1) = pt.ids s by rw [HY.out, if_pos (.inl HMB.out)])
            go_wp2_with fail
            go_roundw
            case rel => exact ⟨k + 1, m, c', A', by omega, by go_num, rfl, Lib.hid (by rw [HN1.out]; exact HXL.out), Lib.hid (by rw [HN1.out]; exact HS4.out), HB4.out⟩
            case measure => simp [intOf]; omega
          have hb0 : ((mb : Int) == 0) = false := by simp; omega
          have hb0' : (mb == 0) = false := by simpa using hm0
          have hb0'' : decide (mb = 0) = false := by simpa using hm0
          obtain ⟨r, HR⟩ : ∃ r, Hid (pt.less (pt.ids s) (smB ts q k) = r) := ⟨_, Lib.hid rfl⟩
          have HBT := Lib.hid (show pt.bet (pt.ids s) (smB ts q k) = (decide (m < mb) || (decide (m = mb) && r)) by rw [bet_len HXL.out HMB.out, HR.out])
          by_cases hl : m < mb
          · have hld : decide (m < mb) = true := by simpa using hl
            have hld' : decide ((m : Int) < (mb : Int)) = true := by simpa using hl
            have HN1 := Lib.hid (show smB ts q (k + 1) = pt.ids s by rw [HY.out, if_pos (.inr (by rw [HBT.out, hld]; rfl))])
            go_wp2_with fail
            go_roundw
            case rel => exact ⟨k + 1, m, c', A', by omega, by go_num, rfl, Lib.hid (by rw [HN1.out]; exact HXL.out), Lib.hid (by rw [HN1.out]; exact HS4.out), HB4.out⟩
            case measure => simp [intOf]; omega
          have hld : decide (m < mb) = false := by simpa using hl
          have hld' : decide ((m : Int) < (mb : Int)) = false := by simpa using hl
          by_cases he : m = mb
          · subst he
            have HX4 := Lib.hid (ints.IL.of_own HS4.out)
            have HO5 := Lib.hid (ints.IL.of_own HO4.out)
            go_wp2_with fail
            refine (less_is A' Ab m m c' cb _ _ r HR _ (by omega) (by omega) HX4 HO5).mono ?_
            rintro e w5 ⟨rfl, b5⟩
            have HB5 := Lib.hid (HB4.out.trans (b5.mono HB4.out.size))
            have HO6 := Lib.hid (row_below HO4.out b5)
            have HS6 := Lib.hid (row_below HS4.out b5)
            clear b5
            cases r
            · have HN1 := Lib.hid (show smB ts q (k + 1) = smB ts q k by rw [HY.out, if_neg (by rw [HMB.out, HBT.out]; simp; exact hm0)])
              go_wp2_with fail
              go_roundw
              case rel => exact ⟨k + 1, m, cb, Ab, by omega, by go_num, rfl, Lib.hid (by rw [HN1.out]; exact HMB.out), Lib.hid (by rw [HN1.out]; exact HO6.out), HB5.out⟩
              case measure => simp [intOf]; omega
            · have HN1 := Lib.hid (show smB ts q (k + 1) = pt.ids s by rw [HY.out, if_pos (.inr (by rw [HBT.out]; simp))])
              go_wp2_with fail
              go_roundw
              case rel => exact ⟨k + 1, m, c', A', by omega, by go_num, rfl, Lib.hid (by rw [HN1.out]; exact HXL.out), Lib.hid (by rw [HN1.out]; exact HS6.out), HB5.out⟩
              case measure => simp [intOf]; omega
          · have hed : ((m : Int) == (mb : Int)) = false := by simp; omega
            have hed' : (m == mb) = false := by simpa using he
            have hed'' : decide (m = mb) = false := by simpa using he
            have HN1 := Lib.hid (show smB ts q (k + 1) = smB ts q k by rw [HY.out, if_neg (by rw [HMB.out, HBT.out, hld, hed'']; simp; exact hm0)])
            go_wp2_with fail
            go_roundw
            case rel => exact ⟨k + 1, mb, cb, Ab, by omega, by go_num, rfl, Lib.hid (by rw [HN1.out]; exact HMB.out), Lib.hid (by rw [HN1.out]; exact HO4.out), HB4.out⟩
            case measure => simp [intOf]; omega
        · have hd20 : decide (tr < 20) = true := by simpa using h20
          have HN1 := Lib.hid (show smB ts q (k + 1) = smB ts q k from smB_no HS.out (by rw [HTM.out, HCS.out]; simp [h20]))
          clear hz
          go_wp2_with fail
          go_roundw
          case rel => exact ⟨k + 1, mb, cb, Ab, by omega, by go_num, rfl, Lib.hid (by rw [HN1.out]; exact HMB.out), Lib.hid (by rw [HN1.out]; exact HO4.out), HB4.out⟩
          case measure => simp [intOf]; omega
      · have hd : decide (andI sk q = q) = false := by simpa using hz
        have hd' : (andI sk q == q) = false := by simpa using hz
        have hd2 : (andI sk q != q) = true := by simpa using hz
        have HN1 := Lib.hid (show smB ts q (k + 1) = smB ts q k from smB_no HS.out (by rw [HTM.out, HCS.out, hd]; rfl))
        go_wp2_with fail
        go_roundw
        case rel => exact ⟨k + 1, mb, cb, Ab, by omega, by go_num, rfl, Lib.hid (by rw [HN1.out]; exact HMB.out), Lib.hid (by rw [HN1.out]; exact HO4.out), HB4.out⟩
        case measure => simp [intOf]; omega
    · have hkd : decide (k < N) = false := by simpa using hlt
      obtain rfl : k = N := by omega
      clear hlt
      go_wp2_with fail
      go_ret2
      refine ⟨_, ?_, by rw [HMB.out]; exact HO.out, HB1.out⟩
      rw [HMB.out]
      simp
#print axioms smallest_model
end Go.Proofs.Ytidofckanadkpaa.pq
