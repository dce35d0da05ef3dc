/-
  SmallestTeam, by the program.
  Conditions: the list has at most 2000000 elements and lies in one block; names have at most 1048576 bytes.
-/
import Derived.Test.YtidofckanadkpaaPiJ
namespace Go.Proofs.Ytidofckanadkpaa.pi5
open Go.RowKit
open reads base inn ty rowi psk psl psm psn pso psp pq tab
set_option linter.unusedVariables false
set_option linter.unusedSimpArgs false
set_option maxRecDepth 100000

/-- the best ones so far, and whether there are any -/
def bestS (o : Option (List Ps)) : List Ps := o.getD []
theorem spN_at' {c : List Ps → Bool} {L : List (List Ps)} {k : Nat} {s : List Ps} (h : L[k]? = some s) : pt.spN c L (k + 1) = match pt.spN c L k with
      | some b => if b.length ≤ s.length then some b else if c s then some s else some b
      | none => if c s then some s else none := pt.spN_at h
theorem smIds_is {ts : List Ps} {q : Int} (hg : psg.good ts = true) (hq : btw 0 q 15 = true) : smIds ts q = pt.ids (bestS (pt.spN (cS q) (pt.teams ts) (pt.teams ts).length)) ∧ decide (0 < (smIds ts q).length) = (pt.spN (cS q) (pt.teams ts) (pt.teams ts).length).isSome := by
  have e := pt.small_is (good_asc hg) (cS q)
  have e1 : smIds ts q = ((pt.spN (cS q) (pt.teams ts) (pt.teams ts).length).map pt.ids).getD [] := by
    unfold smIds smOk; rw [hg, hq]
    show smB ts q (2 ^ ts.length) = _
    rw [← e]; rfl
  cases h : pt.spN (cS q) (pt.teams ts) (pt.teams ts).length with
  | none => rw [h] at e1; rw [e1]; exact ⟨rfl, rfl⟩
  | some b =>
    rw [h] at e1
    have hm := (pt.mem_teams.1 (pt.spN_some (pt.teams_asc (good_asc hg)) h).1).2
    have := pt.teamS_len hm
    rw [e1]
    refine ⟨rfl, ?_⟩
    simp [pt.ids_len]; omega
/-- without any there is no best one -/
def FN (f : Bool) (bs : List Ps) : Prop := f = false → bs = []
set_option maxHeartbeats 16000000 in
theorem smallest_is (A : Option Addr) (n cap : Nat) (ts : List Ps) (q : Int) (I : List Int) (b : Bool) (w : World) (hI : Hid (smIds ts q = I)) (hb : Hid (decide (0 < I.length) = b)) (hn : n ≤ 2000000) (hc : n ≤ cap) (hs : Hid (∀ t ∈ ts, t.name.size ≤ 1048576)) (hts : Hid (PsAt w w.heap.size A n ts)) :
    Calls Try.prog 16 #[.slice A n cap, .int .i64 q] w (LPost I b w) := by
  have hL : Hid (ts.length = n) := Lib.hid hts.out.1
  cases hg : psg.good ts
  · have HG := Lib.hid hg
    obtain rfl : I = [] := by rw [← hI.out]; unfold smIds smOk; rw [hg]; rfl
    obtain rfl : b = false := by rw [← hb.out]; rfl
    clear hg
    go_enter Try.func16, Try.ntmps16
    go_wp2_with fail
    refine (people_is A n cap ts false _ hn hs hts HG).mono ?_
    rintro e w1 ⟨rfl, b1⟩
    have HB := Lib.hid b1
    have hBs := b1.size
    clear b1
    have HR := Lib.hid (show (w1.alloc (.cells #[] 3)).ownsRow w.heap.size 3 1 (.slice (some ⟨w1.heap.size, 0, none⟩) 0 0) 0 [] from World.ownsRow_made w1 #[] 0 hBs (by decide) (by simp))
    go_wp2_with fail
    go_ret2
    exact ⟨.slice (some ⟨w1.heap.size, 0, none⟩) 0 0, rfl, HR.out, HB.out.alloc hBs _⟩
  cases hq : btw 0 q 15
  · have HG := Lib.hid hg
    have HQ := Lib.hid hq
    obtain rfl : I = [] := by rw [← hI.out]; unfold smIds smOk; rw [hg, hq]; rfl
    obtain rfl : b = false := by rw [← hb.out]; rfl
    clear hg hq
    go_enter Try.func16, Try.ntmps16
    go_wp2_with fail
    refine (people_is A n cap ts true _ hn hs hts HG).mono ?_
    rintro e w1 ⟨rfl, b1⟩
    have HB := Lib.hid b1
    clear b1
    go_wp2_with fail
    refine (areSkills_is q false HQ _).mono ?_
    rintro e w2 ⟨rfl, b2⟩
    have HB2 := Lib.hid (HB.out.trans (b2.mono HB.out.size))
    have hBs := HB2.out.size
    clear b2
    have HR := Lib.hid (show (w2.alloc (.cells #[] 3)).ownsRow w.heap.size 3 1 (.slice (some ⟨w2.heap.size, 0, none⟩) 0 0) 0 [] from World.ownsRow_made w2 #[] 0 hBs (by decide) (by simp))
    go_wp2_with fail
    go_ret2
    exact ⟨.slice (some ⟨w2.heap.size, 0, none⟩) 0 0, rfl, HR.out, HB2.out.alloc hBs _⟩
  have HG := Lib.hid hg
  have HQ := Lib.hid hq
  have hqb := btw_yes hq
  have hn10 : n ≤ 10 := by rw [← hL.out]; exact good_len hg
  have HOK := Lib.hid (good_okS hg)
  have HTR := Lib.hid (show ∀ t ∈ ts, 0 ≤ t.trips ∧ t.trips ≤ 500 from fun t ht => (good_bd hg t ht).2)
  obtain ⟨L, HL⟩ : ∃ L, Hid (pt.teams ts = L) := ⟨_, Lib.hid rfl⟩
  obtain ⟨N, HN⟩ : ∃ N, Hid (L.length = N) := ⟨_, Lib.hid rfl⟩
  have hN : N ≤ 1024 := by rw [← HN.out, ← HL.out]; exact teams_le (by rw [hL.out]; exact hn10)
  have HSM := Lib.hid (smIds_is hg hq)
  rw [HL.out, HN.out, hI.out] at HSM
  clear hg hq
  go_enter Try.func16, Try.ntmps16
  go_wp2_with fail
  refine (people_is A n cap ts true _ hn hs hts HG).mono ?_
  rintro e w1 ⟨rfl, b1⟩
  have HB := Lib.hid b1
  clear b1
  go_wp2_with fail
  refine (areSkills_is q true HQ _).mono ?_
  rintro e w2 ⟨rfl, b2⟩
  have HB2 := Lib.hid (HB.out.trans (b2.mono HB.out.size))
  have hBs := HB2.out.size
  have HR := Lib.hid (show (w2.alloc (.cells #[] 41)).ownsRow w.heap.size 41 4 (.slice (some ⟨w2.heap.size, 0, none⟩) 0 0) 0 [] from World.ownsRow_made w2 #[] 0 hBs (by decide) (by simp))
  have HE := Lib.hid (HB2.out.alloc hBs (.cells #[] 41))
  have HT1 := Lib.hid (hts.out.step HE.out)
  clear b2 hBs
  go_wp2_with fail
  refine (teamsAmong_is A n cap ts L _ hn10 hc HOK HT1 HL).mono ?_
  rintro e w3 ⟨v2, vs, rfl, ho2, ht2, b3⟩
  rw [HN.out] at ho2
  obtain ⟨A2, c2, rfl⟩ := row_slice ho2
  have HB3 := Lib.hid (HE.out.trans (b3.mono HE.out.size))
  have HO2 := Lib.hid (own_mono ho2 HE.out.size)
  have HTT := Lib.hid (ht2.mono HE.out.size)
  have HR3 := Lib.hid (row_below HR.out b3)
  clear ho2 ht2 b3
  go_wp2_with fail
  go_loopw [6, 7, 23] (fun u6 u7 i wr => ∃ (k m6 c6 : Nat) (A6 : Option Addr) (bs : List Ps) (f : Bool), k ≤ N ∧ m6 ≤ 5 ∧ i = .int .i64 k ∧ u6 = .slice A6 m6 c6 ∧ u7 = .bool f ∧ Hid (bs.length = m6) ∧ Hid (pt.spN (cS q) L k = if f then some bs else none) ∧ Hid (FN f bs) ∧ Hid (wr.ownsRow w.heap.size 41 4 (.slice A6 m6 c6) m6 (flatPs bs)) ∧ Hid (wr.ownsRow w.heap.size 24 1 (.slice A2 N c2) N vs) ∧ Hid (TabV 41 4 flatPs wr w.heap.size vs L) ∧ Below w.heap.size w wr) (fun _ _ i _ => N - (intOf i).toNat)
  case atStart => exact ⟨0, 0, 0, _, [], false, Nat.zero_le _, by omega, rfl, rfl, rfl, Lib.hid rfl, Lib.hid rfl, Lib.hid (fun _ => rfl), HR3, HO2, HTT, HB3.out⟩
  case round =>
    obtain ⟨k, m6, c6, A6, bs, f, hk, hm6, rfl, rfl, rfl, HBL, HSP, HFN, HO6, HO, HTB, hB⟩ := hrel
    have HBr := Lib.hid hB
    have hBs := hB.size
    clear hB HR3 HO2 HTT HB3
    have hk0 : 0 ≤ (k : Int) := by omega
    by_cases hlt : k < N
    · have hki : (k : Int) < (N : Int) := by omega
      have hkd : decide (k < N) = true := by simpa using hlt
      obtain ⟨s, hsk⟩ := at_lt HN.out hlt
      obtain ⟨g, A3, m3, c3, rfl, hg, cg, hm3, ho3⟩ := tab_at HN.out HO.out HTB.out hsk
      have HPS := Lib.hid (own_Ps hm3 ho3)
      have HM3 := Lib.hid hm3
      have HOS := Lib.hid ho3
      have HMM := (team_mem HL.out hsk).1
      have hm5 : m3 ≤ 5 := by rw [← hm3]; exact (pt.teamS_len (team_mem HL.out hsk).2).2
      have HTS := Lib.hid (show ∀ t ∈ s, 0 ≤ t.trips ∧ t.trips ≤ 500 from fun t ht => HTR.out t (HMM t ht))
      have HKS := Lib.hid (show pt.okS s from fun t ht => HOK.out t (HMM t ht))
      have HNX := Lib.hid (spN_at' (c := cS q) hsk)
      obtain ⟨r, HRE⟩ : ∃ r, Hid (decide (20 ≤ pt.trS s) = r) := ⟨_, Lib.hid rfl⟩
      obtain ⟨sk, HSK⟩ : ∃ z, Hid (pt.orS s = z) := ⟨_, Lib.hid rfl⟩
      have hskb : 0 ≤ sk ∧ sk ≤ 15 := by rw [← HSK.out]; exact pt.orS_bd HKS.out
      obtain ⟨r2, HRS⟩ : ∃ r, Hid (hasS sk q = r) := ⟨_, Lib.hid rfl⟩
      have HCS := Lib.hid (show cS q s = (r && r2) by unfold cS; rw [HSK.out, HRE.out, ← HRS.out, Bool.and_comm]; rfl)
      clear HMM hsk hm3 ho3
      by_cases hlong : f = true ∧ m6 ≤ m3
      · obtain ⟨rfl, h63⟩ := hlong
        have hd : decide (m6 ≤ m3) = true := by simpa using h63
        have hd' : decide ((m6 : Int) ≤ (m3 : Int)) = true := by simpa using h63
        have HN2 := Lib.hid (show pt.spN (cS q) L (k + 1) = if true then some bs else none by rw [HNX.out, HSP.out]; simp only [if_true]; rw [if_pos (by rw [HBL.out, HM3.out]; exact h63)])
        go_wp2_with fail
        go_roundw
        case rel => exact ⟨k + 1, m6, c6, A6, bs, true, by omega, hm6, by go_num, rfl, rfl, HBL, HN2, HFN, HO6, HO, HTB, HBr.out⟩
        case measure => simp [intOf]; omega
      · have HN3 := Lib.hid (show pt.spN (cS q) L (k + 1) = if (r && r2) then some s else if f then some bs else none by
          rw [HNX.out, HSP.out, HCS.out]
          cases f
          · simp
          · simp only [if_true]; rw [if_neg (by rw [HBL.out, HM3.out]; intro h; exact hlong ⟨rfl, h⟩)])
        have hcont : f = false ∨ (f = true ∧ m3 < m6) := by
          cases f
          · exact .inl rfl
          · exact .inr ⟨rfl, by
              rcases Nat.lt_or_ge m3 m6 with h | h
              · exact h
              · exact absurd ⟨rfl, h⟩ hlong⟩
        clear hlong
        obtain ⟨hd1, hd2⟩ : (f = true → decide (m6 ≤ m3) = false) ∧ (f = true → decide ((m6 : Int) ≤ (m3 : Int)) = false) := by
          rcases hcont with h | ⟨-, h⟩
          · exact ⟨(fun e => by rw [h] at e; cases e), (fun e => by rw [h] at e; cases e)⟩
          · exact ⟨fun _ => by simp; omega, fun _ => by simp; omega⟩
        have HD1 := Lib.hid hd1
        have HD2 := Lib.hid hd2
        clear hcont hd1 hd2
        cases f
        · go_wp2_with fail
          refine (areExperienced_is A3 m3 c3 s r _ (by omega) HTS HPS HRE).mono ?_
          rintro e w4 ⟨rfl, b4⟩
          have HB4 := Lib.hid (HBr.out.trans (b4.mono hBs))
          have HO4 := Lib.hid (row_below HO.out b4)
          have HT4 := Lib.hid (HTB.out.below b4)
          have HS4 := Lib.hid (row_below HOS.out b4)
          have H64 := Lib.hid (row_below HO6.out b4)
          have HP4 := Lib.hid (HPS.out.step b4)
          clear b4 cg
          cases r
          · have HN4 := Lib.hid (show pt.spN (cS q) L (k + 1) = if false then some bs else none from HN3.out)
            go_wp2_with fail
            go_roundw
            case rel => exact ⟨k + 1, m6, c6, A6, bs, false, by omega, hm6, by go_num, rfl, rfl, HBL, HN4, HFN, H64, HO4, HT4, HB4.out⟩
            case measure => simp [intOf]; omega
          go_wp2_with fail
          refine (skillsTogether_is A3 m3 c3 s sk _ (by omega) HKS HP4 HSK).mono ?_
          rintro e w5 ⟨rfl, b5⟩
          have HB5 := Lib.hid (HB4.out.trans (b5.mono HB4.out.size))
          have HO5 := Lib.hid (row_below HO4.out b5)
          have HT5 := Lib.hid (HT4.out.below b5)
          have HS5 := Lib.hid (row_below HS4.out b5)
          have H65 := Lib.hid (row_below H64.out b5)
          clear b5
          go_wp2_with fail
          refine (hasSkills_is sk q r2 HRS hskb hqb _).mono ?_
          rintro e w6 ⟨rfl, rfl⟩
          cases r2
          · have HN4 := Lib.hid (show pt.spN (cS q) L (k + 1) = if false then some bs else none from HN3.out)
            go_wp2_with fail
            go_roundw
            case rel => exact ⟨k + 1, m6, c6, A6, bs, false, by omega, hm6, by go_num, rfl, rfl, HBL, HN4, HFN, H65, HO5, HT5, HB5.out⟩
            case measure => simp [intOf]; omega
          · have HN4 := Lib.hid (show pt.spN (cS q) L (k + 1) = if true then some s else none from HN3.out)
            go_wp2_with fail
            go_roundw
            case rel => exact ⟨k + 1, m3, c3, A3, s, true, by omega, hm5, by go_num, rfl, rfl, HM3, HN4, Lib.hid (fun e => by cases e), HS5, HO5, HT5, HB5.out⟩
            case measure => simp [intOf]; omega
        · have d1 := HD1.out rfl
          have d2 := HD2.out rfl
          go_wp2_with fail
          refine (areExperienced_is A3 m3 c3 s r _ (by omega) HTS HPS HRE).mono ?_
          rintro e w4 ⟨rfl, b4⟩
          have HB4 := Lib.hid (HBr.out.trans (b4.mono hBs))
          have HO4 := Lib.hid (row_below HO.out b4)
          have HT4 := Lib.hid (HTB.out.below b4)
          have HS4 := Lib.hid (row_below HOS.out b4)
          have H64 := Lib.hid (row_below HO6.out b4)
          have HP4 := Lib.hid (HPS.out.step b4)
          clear b4 cg
          cases r
          · have HN4 := Lib.hid (show pt.spN (cS q) L (k + 1) = if true then some bs else none from HN3.out)
            go_wp2_with fail
            go_roundw
            case rel => exact ⟨k + 1, m6, c6, A6, bs, true, by omega, hm6, by go_num, rfl, rfl, HBL, HN4, HFN, H64, HO4, HT4, HB4.out⟩
            case measure => simp [intOf]; omega
          go_wp2_with fail
          refine (skillsTogether_is A3 m3 c3 s sk _ (by omega) HKS HP4 HSK).mono ?_
          rintro e w5 ⟨rfl, b5⟩
          have HB5 := Lib.hid (HB4.out.trans (b5.mono HB4.out.size))
          have HO5 := Lib.hid (row_below HO4.out b5)
          have HT5 := Lib.hid (HT4.out.below b5)
          have HS5 := Lib.hid (row_below HS4.out b5)
          have H65 := Lib.hid (row_below H64.out b5)
          clear b5
          go_wp2_with fail
          refine (hasSkills_is sk q r2 HRS hskb hqb _).mono ?_
          rintro e w6 ⟨rfl, rfl⟩
          cases r2
          · have HN4 := Lib.hid (show pt.spN (cS q) L (k + 1) = if true then some bs else none from HN3.out)
            go_wp2_with fail
            go_roundw
            case rel => exact ⟨k + 1, m6, c6, A6, bs, true, by omega, hm6, by go_num, rfl, rfl, HBL, HN4, HFN, H65, HO5, HT5, HB5.out⟩
            case measure => simp [intOf]; omega
          · have HN4 := Lib.hid (show pt.spN (cS q) L (k + 1) = if true then some s else none from HN3.out)
            go_wp2_with fail
            go_roundw
            case rel => exact ⟨k + 1, m3, c3, A3, s, true, by omega, hm5, by go_num, rfl, rfl, HM3, HN4, Lib.hid (fun e => by cases e), HS5, HO5, HT5, HB5.out⟩
            case measure => simp [intOf]; omega
    · have hkd : decide (k < N) = false := by simpa using hlt
      have HF1 := Lib.hid (show I = pt.ids bs by
        rw [HSM.out.1, show N = k by omega, HSP.out]
        cases b' : f
        · rw [HFN.out b']; rfl
        · rfl)
      obtain rfl : b = f := by
        rw [← hb.out, HSM.out.2, show N = k by omega, HSP.out]
        cases f <;> rfl
      have HPB := Lib.hid (own_Ps HBL.out HO6.out)
      clear hlt
      go_wp2_with fail
      refine (idsOf_is A6 m6 c6 bs _ (by omega) HPB).mono ?_
      rintro e w4 ⟨v4, rfl, ho4, b4⟩
      have HB4 := Lib.hid (HBr.out.trans (b4.mono hBs))
      have HO4 := Lib.hid (own_mono ho4 hBs)
      clear ho4 b4
      go_wp2_with fail
      go_ret2
      refine ⟨v4, rfl, ?_, HB4.out⟩
      rw [HF1.out]
      exact HO4.out
#print axioms smallest_is
end Go.Proofs.Ytidofckanadkpaa.pi5
