/-
  SplitTeams, by the model.
  Conditions: the list has at most 2000000 elements and lies in one block; names have at most 1048576 bytes.
-/
import Derived.Test.YtidofckanadkpaaPqF
import Derived.Test.YtidofckanadkpaaTab
namespace Go.Proofs.Ytidofckanadkpaa.pq
open Go.RowKit
open reads base inn ty rowi psk psl psm psn pso psp tab
set_option linter.unusedVariables false
set_option linter.unusedSimpArgs false

/-- lists of Ids that the call has made, and a word -/
def TPost (tss : List (List Int)) (t : Bool) (w : World) (e : Ending) (w' : World) : Prop :=
  ∃ v vs, e = .returned (.tuple #[v, .bool t]) ∧ w'.ownsRow w.heap.size 27 1 v vs.length vs ∧ TabV 3 1 ints.intsV w' w.heap.size vs tss ∧ Below w.heap.size w w'
theorem infoII : (Try.prog.info? 27).map (fun i => (i.zero, i.size, i.bytes)) = some (some (.slice none 0 0), 1, 24) := by kernel_rfl
/-- SplitTeams' answer -/
def stTss (ts : List Ps) : List (List Int) := if psg.good ts then pt.msplit ts (pt.mostS ts) (2 ^ ts.length - 1) else []
def spSel (ts : List Ps) (l m k : Nat) : Option Nat := pt.selI pt.less (pt.cnd ts l m) (fun j => pt.ids (pt.pick j ts)) k
def spB (ts : List Ps) (l m k : Nat) : List Int := ((spSel ts l m k).map fun j => pt.ids (pt.pick j ts)).getD []
def spT (ts : List Ps) (l m k : Nat) : Nat := (spSel ts l m k).getD 0
theorem sp_one (ts : List Ps) (l m : Nat) : spSel ts l m 1 = none := by
  unfold spSel
  rw [pt.selI]
  have : pt.cnd ts l m 0 = false := by unfold pt.cnd; rw [pt.pick_zero, pt.teamS_nil]; simp
  simp [pt.selI, this]
theorem sp_no {ts : List Ps} {l m k : Nat} (h : pt.cnd ts l m k = false) : spSel ts l m (k + 1) = spSel ts l m k := by
  unfold spSel
  rw [pt.selI]
  cases pt.selI pt.less (pt.cnd ts l m) (fun j => pt.ids (pt.pick j ts)) k <;> simp [h]
theorem spSel_some {ts : List Ps} {l m k i : Nat} (h : spSel ts l m k = some i) : spB ts l m k = pt.ids (pt.pick i ts) ∧ spT ts l m k = i ∧ 2 ≤ (spB ts l m k).length ∧ i ≤ l := by
  have e : spB ts l m k = pt.ids (pt.pick i ts) := by unfold spB; rw [h]; rfl
  refine ⟨e, by unfold spT; rw [h]; rfl, ?_⟩
  have h2 := (pt.selI_some pt.less_irr pt.less_trans h).2.1
  unfold pt.cnd at h2
  rw [Bool.and_eq_true, Bool.and_eq_true, decide_eq_true_eq] at h2
  have := pt.teamS_len h2.2.1
  rw [e, pt.ids_len]
  exact ⟨by omega, pt.sub_le h2.1⟩
theorem spSel_none {ts : List Ps} {l m k : Nat} (h : spSel ts l m k = none) : spB ts l m k = [] ∧ spT ts l m k = 0 := by
  unfold spB spT; rw [h]; exact ⟨rfl, rfl⟩
theorem spT_le (ts : List Ps) (l m k : Nat) : spT ts l m k ≤ l := by
  cases h : spSel ts l m k with
  | none => rw [(spSel_none h).2]; omega
  | some i => obtain ⟨-, e, -, h4⟩ := spSel_some h; omega
theorem spB_le (ts : List Ps) (l m k : Nat) : (spB ts l m k).length ≤ ts.length := by
  cases h : spSel ts l m k with
  | none => rw [(spSel_none h).1]; simp
  | some i => rw [(spSel_some h).1, pt.ids_len]; exact pick_len i ts
theorem sp_new {ts : List Ps} {l m k : Nat} (hc : pt.cnd ts l m k = true) (h : (spB ts l m k).length = 0 ∨ pt.less (pt.ids (pt.pick k ts)) (spB ts l m k) = true) : spB ts l m (k + 1) = pt.ids (pt.pick k ts) ∧ spT ts l m (k + 1) = k := by
  have e : spSel ts l m (k + 1) = some k := by
    cases e : spSel ts l m k with
    | none => unfold spSel at e ⊢; rw [pt.selI, e]; simp [hc]
    | some i =>
      obtain ⟨e0, -, e2, -⟩ := spSel_some e
      have hl : pt.less (pt.ids (pt.pick k ts)) (spB ts l m k) = true := h.elim (fun q => by omega) id
      rw [e0] at hl
      unfold spSel at e ⊢; rw [pt.selI, e]; simp [hc, hl]
  unfold spB spT; rw [e]; exact ⟨rfl, rfl⟩
theorem sp_old {ts : List Ps} {l m k : Nat} (hc : pt.cnd ts l m k = true) (h0 : (spB ts l m k).length ≠ 0) (h : pt.less (pt.ids (pt.pick k ts)) (spB ts l m k) = false) : spSel ts l m (k + 1) = spSel ts l m k := by
  cases e : spSel ts l m k with
  | none => rw [(spSel_none e).1] at h0; simp at h0
  | some i =>
    obtain ⟨e0, -, -, -⟩ := spSel_some e
    rw [e0] at h
    unfold spSel at e ⊢; rw [pt.selI, e]; simp [h]
theorem sp_same {ts : List Ps} {l m k k' : Nat} (h : spSel ts l m k' = spSel ts l m k) : spB ts l m k' = spB ts l m k ∧ spT ts l m k' = spT ts l m k := by unfold spB spT; rw [h]; exact ⟨rfl, rfl⟩
theorem msplit_next (ts : List Ps) (l m : Nat) : pt.msplit ts (m + 1) l = spB ts l m (l + 1) :: pt.msplit ts m (l - spT ts l m (l + 1)) := by
  rw [pt.msplit]
  show (match spSel ts l m (l + 1) with | none => [] :: pt.msplit ts m l | some j => pt.ids (pt.pick j ts) :: pt.msplit ts m (l - j)) = _
  cases h : spSel ts l m (l + 1) with
  | none => obtain ⟨e1, e2⟩ := spSel_none h; rw [e1, e2]; rfl
  | some i => obtain ⟨e1, e2, -⟩ := spSel_some h; rw [e1, e2]
theorem mostS_le (s : List Ps) : pt.mostS s ≤ 3 := by rw [pt.mostS_is]; omega
set_option maxHeartbeats 16000000 in
set_option maxRecDepth 100000 in
theorem splitTeams_model (A : Option Addr) (n cap : Nat) (ts : List Ps) (w : World) (hn : n ≤ 2000000) (hs : Hid (∀ t ∈ ts, t.name.size ≤ 1048576)) (hts : Hid (PsAt w w.heap.size A n ts)) :
    Calls Try.prog 34 #[.slice A n cap] w (TPost (stTss ts) (psg.good ts) w) := by
  have hrow0 : (w.alloc (.cells #[] 27)).ownsRow w.heap.size 27 1 (.slice (some ⟨w.heap.size, 0, none⟩) 0 0) 0 [] := World.ownsRow_made w #[] 0 (Nat.le_refl _) (by decide) (by simp)
  have HRow := Lib.hid hrow0
  have HT := Lib.hid (hts.out.alloc (.cells #[] 27))
  have HB0 := Lib.hid ((Below.refl w.heap.size w).alloc (Nat.le_refl _) (.cells #[] 27))
  have hL : Hid (ts.length = n) := Lib.hid hts.out.1
  clear hrow0
  cases hg : psg.good ts
  · have HG := Lib.hid hg
    have HI := Lib.hid (show stTss ts = [] by unfold stTss; rw [hg]; rfl)
    clear hg
    rw [HI.out]
    go_enter Try.func34, Try.ntmps34
    go_wp2_with fail
    refine (psg.good_is A n cap ts false _ hn hs HT HG).mono ?_
    rintro e w1 ⟨rfl, b1⟩
    have HE := Lib.hid (HB0.out.trans (b1.mono HB0.out.size))
    have HR := Lib.hid (row_below HRow.out b1)
    clear b1
    go_wp2_with fail
    go_ret2
    exact ⟨_, [], rfl, HR.out, TabV.nil, HE.out⟩
  have HG := Lib.hid hg
  have hn10 : n ≤ 10 := by rw [← hL.out]; exact good_len hg
  have HOK := Lib.hid (good_okS hg)
  obtain ⟨N, HN⟩ : ∃ N, Hid (2 ^ n = N) := ⟨_, Lib.hid rfl⟩
  obtain ⟨hN1, hN2⟩ : 1 ≤ N ∧ N ≤ 1024 := by rw [← HN.out]; exact pow_le hn10
  have hsh := pow_wrap HN.out hn10
  obtain ⟨F, hF⟩ : ∃ F, N = F + 1 := ⟨N - 1, by omega⟩
  have hF1 : (N : Int) - 1 = (F : Int) := by omega
  have HPF := Lib.hid (show pt.pick F ts = ts by have h := pt.pick_full ts; rw [hL.out, HN.out] at h; rw [show N - 1 = F by omega] at h; exact h)
  obtain ⟨M, HM⟩ : ∃ M, Hid (pt.mostS ts = M) := ⟨_, Lib.hid rfl⟩
  have HMF := Lib.hid (show pt.mostS (pt.pick F ts) = M by rw [HPF.out, HM.out])
  have hM3 : M ≤ 3 := by rw [← HM.out]; exact mostS_le _
  obtain ⟨R, HR0⟩ : ∃ R, Hid (stTss ts = R) := ⟨_, Lib.hid rfl⟩
  have HI := Lib.hid (show pt.msplit ts M F = R by rw [← HR0.out]; unfold stTss; rw [hg, if_pos rfl, HM.out, hL.out, HN.out, show N - 1 = F by omega])
  have hFN : F < N := by omega
  have HFN := Lib.hid hF
  clear hg hF
  rw [HR0.out]
  obtain ⟨i0, hi, hz0, hz1, hz2⟩ := info_parts infoII
  go_enter Try.func34, Try.ntmps34
  go_wp2_with fail
  refine (psg.good_is A n cap ts true _ hn hs HT HG).mono ?_
  rintro e w1 ⟨rfl, b1⟩
  have HE := Lib.hid (HB0.out.trans (b1.mono HB0.out.size))
  have HR := Lib.hid (row_below HRow.out b1)
  have HT1 := Lib.hid (hts.out.step HE.out)
  clear b1
  go_wp2_with fail
  refine (most5 A n cap ts F M _ (by omega) (by omega) HOK HMF HT1).mono ?_
  rintro e w2 ⟨rfl, rfl⟩
  go_wp2_with fail
  go_loopw [4, 5, 6] (fun o lf nn wr => ∃ (l m : Nat) (vs : List Value) (tss : List (List Int)) (Ao : Option Addr) (co : Nat), l < N ∧ m ≤ 3 ∧ tss.length + m ≤ 3 ∧ lf = .int .i64 l ∧ nn = .int .i64 m ∧ o = .slice Ao tss.length co ∧ Hid (wr.ownsRow w.heap.size 27 1 (.slice Ao tss.length co) tss.length vs) ∧ Hid (TabV 3 1 ints.intsV wr w.heap.size vs tss) ∧ Hid (tss ++ pt.msplit ts m l = R) ∧ Below w.heap.size w wr) (fun _ _ nn _ => (intOf nn).toNat)
  case atStart => exact ⟨F, M, [], [], _, _, hFN, hM3, by simpa using hM3, rfl, rfl, rfl, HR, Lib.hid TabV.nil, Lib.hid (by simpa using HI.out), HE.out⟩
  case round =>
    obtain ⟨l, m1, vs, tss, Ao, co, hl, hm, htl, rfl, rfl, rfl, HO, HTB, HQ, hB⟩ := hrel
    have HB := Lib.hid hB
    have hBs := hB.size
    clear hB
    by_cases hm0 : m1 = 0
    · subst hm0
      have HF := Lib.hid (show tss = R by have := HQ.out; rwa [pt.msplit, List.append_nil] at this)
      go_wp2_with fail
      go_ret2
      refine ⟨.slice Ao tss.length co, vs, rfl, ?_, by rw [← HF.out]; exact HTB.out, HB.out⟩
      rw [HTB.out.1]; exact HO.out
    obtain ⟨m, hm1⟩ : ∃ m, m1 = m + 1 := ⟨m1 - 1, by omega⟩
    have hmi : (m1 : Int) - 1 = (m : Int) := by omega
    have hmp : decide (0 < m1) = true := by simp; omega
    have hmp' : decide ((0 : Int) < (m1 : Int)) = true := by simp; omega
    have hm2 : m ≤ 2 := by omega
    have hmm : 0 < m1 := by omega
    have HQ2 := Lib.hid (show tss ++ (spB ts l m (l + 1) :: pt.msplit ts m (l - spT ts l m (l + 1))) = R by rw [← msplit_next, ← hm1]; exact HQ.out)
    have HM1 := Lib.hid hm1
    clear hm1 hm0 HQ
    have HRB := Lib.hid (show (wr.alloc (.cells #[] 3)).ownsRow w.heap.size 3 1 (.slice (some ⟨wr.heap.size, 0, none⟩) 0 0) 0 [] from World.ownsRow_made wr #[] 0 hBs (by decide) (by simp))
    have HBA := Lib.hid (HB.out.alloc hBs (.cells #[] 3))
    have HOA := Lib.hid (HO.out.alloc (.cells #[] 3))
    have HTA := Lib.hid (HTB.out.below ((Below.refl _ _).alloc (Nat.le_refl _) (.cells #[] 3)))
    go_wp2_with fail
    go_loopw [7, 8, 9] (fun b tk i ws => ∃ (k mb cb t : Nat) (Ab : Option Addr), 1 ≤ k ∧ k ≤ l + 1 ∧ t ≤ l ∧ i = .int .i64 k ∧ b = .slice Ab mb cb ∧ tk = .int .i64 t ∧ Hid ((spB ts l m k).length = mb) ∧ Hid (spT ts l m k = t) ∧ Hid (ws.ownsRow w.heap.size 3 1 (.slice Ab mb cb) mb (ints.intsV (spB ts l m k))) ∧ Hid (ws.ownsRow w.heap.size 27 1 (.slice Ao tss.length co) tss.length vs) ∧ Hid (TabV 3 1 ints.intsV ws w.heap.size vs tss) ∧ Below w.heap.size w ws) (fun _ _ i _ => l + 1 - (intOf i).toNat)
    case atStart => exact ⟨1, 0, 0, 0, _, Nat.le_refl _, by omega, Nat.zero_le _, rfl, rfl, rfl, Lib.hid (by rw [(spSel_none (sp_one ts l m)).1]; rfl), Lib.hid (spSel_none (sp_one ts l m)).2, Lib.hid (by rw [(spSel_none (sp_one ts l m)).1]; exact HRB.out), HOA, HTA, HBA.out⟩
    case round =>
      obtain ⟨k, mb, cb, t, Ab, hk1, hkl, htl2, rfl, rfl, rfl, HMB, HTK, HRS, HOS, HTS, hB2⟩ := hrel
      have HBW := Lib.hid hB2
      have hBs2 := hB2.size
      clear hB2 HRB HBA HOA HTA
      have hmb10 : mb ≤ 10 := by rw [← HMB.out]; have := spB_le ts l m k; rw [hL.out] at this; omega
      by_cases hlt : k ≤ l
      · have hkd : decide (k ≤ l) = true := by simpa using hlt
        have hki : (k : Int) ≤ (l : Int) := by omega
        have hk0 : 0 ≤ (k : Int) := by omega
        obtain ⟨s, HS⟩ : ∃ s, Hid (pt.pick k ts = s) := ⟨_, Lib.hid rfl⟩
        have HMM := Lib.hid (pick_mem HS.out)
        have HIS := Lib.hid (show pt.ids (pt.pick k ts) = pt.ids s by rw [HS.out])
        have HT2 := Lib.hid (hts.out.step HBW.out)
        have hsl : s.length ≤ 10 := by rw [← HS.out]; have := pick_len k ts; rw [hL.out] at this; omega
        obtain ⟨z, hz⟩ : ∃ z, k &&& l = z := ⟨_, rfl⟩
        have hand : bits .and .i64 (k : Int) (l : Int) = (z : Int) := by rw [← hz]; exact and_small k l (by omega) (by omega)
        have HZ := Lib.hid hz
        clear hz
        obtain ⟨tm, HTM⟩ : ∃ t, Hid (pt.teamS s = t) := ⟨_, Lib.hid rfl⟩
        obtain ⟨v, HV⟩ : ∃ v, Hid (pt.mostS (pt.pick (l - k) ts) = v) := ⟨_, Lib.hid rfl⟩
        have hv3 : v ≤ 3 := by rw [← HV.out]; exact mostS_le _
        have HCD := Lib.hid (show pt.cnd ts l m k = (decide (z = k) && (tm && decide (m ≤ v))) by unfold pt.cnd; rw [HZ.out, HS.out, HTM.out, HV.out])
        go_wp2_with fail
        refine (members_is A n cap ts k _ HIS _ (by omega) (by omega) HT2).mono ?_
        rintro e w3 ⟨v3, rfl, ho, b3⟩
        obtain ⟨A', c', q, rfl, hq, hx, ho2⟩ := ipost_at ho
        have HXL := Lib.hid hq
        have hq10 : q ≤ 10 := by rw [← hq, pt.ids_len]; exact hsl
        have HX := Lib.hid hx
        have HT3 := Lib.hid (HT2.out.step b3)
        have HB3 := Lib.hid (HBW.out.trans (b3.mono hBs2))
        have HR3 := Lib.hid (row_below HRS.out b3)
        have HO3 := Lib.hid (row_below HOS.out b3)
        have HT3' := Lib.hid (HTS.out.below b3)
        have HS3 := Lib.hid (show w3.ownsRow w.heap.size 3 1 (.slice A' q c') q (ints.intsV (pt.ids s)) from own_mono ho2 hBs2)
        clear ho hq hx b3 ho2
        by_cases hzk : z = k
        · subst hzk
          go_wp2_with fail
          refine (team_s tm _ HG HMM HTM hn (by omega) HT3 HX).mono ?_
          rintro e w4 ⟨rfl, b4⟩
          have HB4 := Lib.hid (HB3.out.trans (b4.mono HB3.out.size))
          have HT4 := Lib.hid (HT3.out.step b4)
          have HR4 := Lib.hid (row_below HR3.out b4)
          have HO4 := Lib.hid (row_below HO3.out b4)
          have HT4' := Lib.hid (HT3'.out.below b4)
          have HS4 := Lib.hid (row_below HS3.out b4)
          clear b4
          cases tm
          · have HN := sp_same (sp_no (show pt.cnd ts l m z = false by rw [HCD.out]; simp))
            have HN1 := Lib.hid HN.1
            have HN2 := Lib.hid HN.2
            clear HN
            go_wp2_with fail
            go_roundw
            case rel => exact ⟨z + 1, mb, cb, t, Ab, by omega, by omega, htl2, by go_num, rfl, rfl, Lib.hid (by rw [HN1.out]; exact HMB.out), Lib.hid (by rw [HN2.out]; exact HTK.out), Lib.hid (by rw [HN1.out]; exact HR4.out), HO4, HT4', HB4.out⟩
            case measure => simp [intOf]; omega
          have hlk : (l : Int) - (z : Int) = ((l - z : Nat) : Int) := by omega
          obtain ⟨d, hd⟩ : ∃ d, l - z = d := ⟨_, rfl⟩
          rw [hd] at hlk HV
          have hd2 : d ≤ 1000000 := by omega
          clear hd
          go_wp2_with fail
          refine (most5 A n cap ts d v _ (by omega) hd2 HOK HV HT4).mono ?_
          rintro e w5 ⟨rfl, rfl⟩
          by_cases hvm : v < m
          · have hvd : decide (v < m) = true := by simpa using hvm
            have hvd' : decide ((v : Int) < (m : Int)) = true := by simpa using hvm
            have HN := sp_same (sp_no (show pt.cnd ts l m z = false by rw [HCD.out]; simp; omega))
            have HN1 := Lib.hid HN.1
            have HN2 := Lib.hid HN.2
            clear HN
            go_wp2_with fail
            go_roundw
            case rel => exact ⟨z + 1, mb, cb, t, Ab, by omega, by omega, htl2, by go_num, rfl, rfl, Lib.hid (by rw [HN1.out]; exact HMB.out), Lib.hid (by rw [HN2.out]; exact HTK.out), Lib.hid (by rw [HN1.out]; exact HR4.out), HO4, HT4', HB4.out⟩
            case measure => simp [intOf]; omega
          have hvd : decide (v < m) = false := by simpa using hvm
          have hvd' : decide ((v : Int) < (m : Int)) = false := by simpa using hvm
          have HC := Lib.hid (show pt.cnd ts l m z = true by rw [HCD.out]; simp; omega)
          by_cases hb0 : mb = 0
          · subst hb0
            have HN := sp_new HC.out (.inl HMB.out)
            have HN1 := Lib.hid (show spB ts l m (z + 1) = pt.ids s by rw [HN.1, HS.out])
            have HN2 := Lib.hid HN.2
            clear HN
            go_wp2_with fail
            go_roundw
            case rel => exact ⟨z + 1, q, c', z, A', by omega, by omega, hlt, by go_num, rfl, rfl, Lib.hid (by rw [HN1.out]; exact HXL.out), HN2, Lib.hid (by rw [HN1.out]; exact HS4.out), HO4, HT4', HB4.out⟩
            case measure => simp [intOf]; omega
          have hb1 : ((mb : Int) == 0) = false := by simp; omega
          have hb2 : (mb == 0) = false := by simpa using hb0
          have hb3 : decide (mb = 0) = false := by simpa using hb0
          obtain ⟨r, HRL⟩ : ∃ r, Hid (pt.less (pt.ids s) (spB ts l m z) = r) := ⟨_, Lib.hid rfl⟩
          have HXI := Lib.hid (ints.IL.of_own HS4.out)
          have HYI := Lib.hid (ints.IL.of_own HR4.out)
          go_wp2_with fail
          refine (less_is A' Ab q mb c' cb _ _ r HRL _ (by omega) (by omega) HXI HYI).mono ?_
          rintro e w6 ⟨rfl, b6⟩
          have HB6 := Lib.hid (HB4.out.trans (b6.mono HB4.out.size))
          have HR6 := Lib.hid (row_below HR4.out b6)
          have HO6 := Lib.hid (row_below HO4.out b6)
          have HT6' := Lib.hid (HT4'.out.below b6)
          have HS6 := Lib.hid (row_below HS4.out b6)
          clear b6
          cases r
          · have HN := sp_same (sp_old HC.out (by rw [HMB.out]; exact hb0) (by rw [HS.out]; exact HRL.out))
            have HN1 := Lib.hid HN.1
            have HN2 := Lib.hid HN.2
            clear HN
            go_wp2_with fail
            go_roundw
            case rel => exact ⟨z + 1, mb, cb, t, Ab, by omega, by omega, htl2, by go_num, rfl, rfl, Lib.hid (by rw [HN1.out]; exact HMB.out), Lib.hid (by rw [HN2.out]; exact HTK.out), Lib.hid (by rw [HN1.out]; exact HR6.out), HO6, HT6', HB6.out⟩
            case measure => simp [intOf]; omega
          · have HN := sp_new HC.out (.inr (by rw [HS.out]; exact HRL.out))
            have HN1 := Lib.hid (show spB ts l m (z + 1) = pt.ids s by rw [HN.1, HS.out])
            have HN2 := Lib.hid HN.2
            clear HN
            go_wp2_with fail
            go_roundw
            case rel => exact ⟨z + 1, q, c', z, A', by omega, by omega, hlt, by go_num, rfl, rfl, Lib.hid (by rw [HN1.out]; exact HXL.out), HN2, Lib.hid (by rw [HN1.out]; exact HS6.out), HO6, HT6', HB6.out⟩
            case measure => simp [intOf]; omega
        · have hzd : ((z : Int) == (k : Int)) = false := by simp; omega
          have hzd2 : (z == k) = false := by simpa using hzk
          have hzd3 : (z != k) = true := by simpa using hzk
          have hzd4 : ((z : Int) != (k : Int)) = true := by simp; omega
          have HN := sp_same (sp_no (show pt.cnd ts l m k = false by rw [HCD.out]; simp [hzk]))
          have HN1 := Lib.hid HN.1
          have HN2 := Lib.hid HN.2
          clear HN
          go_wp2_with fail
          go_roundw
          case rel => exact ⟨k + 1, mb, cb, t, Ab, by omega, by omega, htl2, by go_num, rfl, rfl, Lib.hid (by rw [HN1.out]; exact HMB.out), Lib.hid (by rw [HN2.out]; exact HTK.out), Lib.hid (by rw [HN1.out]; exact HR3.out), HO3, HT3', HB3.out⟩
          case measure => simp [intOf]; omega
      · have hkd : decide (k ≤ l) = false := by simpa using hlt
        have hke : k = l + 1 := by omega
        have HKE := Lib.hid hke
        obtain ⟨d, hd⟩ : ∃ d, l - t = d := ⟨_, rfl⟩
        have hlt3 : (l : Int) - (t : Int) = (d : Int) := by omega
        have hltn : d < N := by omega
        have HQ3 := Lib.hid (show (tss ++ [spB ts l m k]) ++ pt.msplit ts m d = R by rw [← HQ2.out, ← hke, HTK.out, hd, List.append_assoc]; rfl)
        clear hlt hke hd
        have HTL := Lib.hid HTS.out.1
        go_wp2_with (at_builtin; refine wpList_append_own _ rfl _ _ 48 rfl w.heap.size 27 i0 (.slice none 0 0) 1 24 Try.underlying48 hi hz0 hz1 hz2 rfl (by decide) _ _ _ rfl (HOS.out.alloc _) ⟨wr.heap.size, 0, none⟩ 1 1 [.slice Ab mb cb] rfl rfl (cell_one_new _ _ _) (by simp [Value.oneCell']) (by unfold maxLen; omega) (by omega) (by simp; omega) ?_; intro v' w9 hown' hgrow _)
        have HB9 := Lib.hid ((HBW.out.alloc hBs2 (.cells #[.slice Ab mb cb] 27)).grown hgrow (by simp; omega) (fun j ej => (HOS.out.lt j ej).1))
        have HTA := HTS.out.below ((Below.refl _ _).alloc (Nat.le_refl _) (.cells #[.slice Ab mb cb] 27))
        have HTG := HTA.grown (HOS.out.alloc (.cells #[.slice Ab mb cb] 27)) hgrow (by decide)
        have HR9 := ((HRS.out.alloc (.cells #[.slice Ab mb cb] 27)).kept hgrow (own_ne (HRS.out.alloc (.cells #[.slice Ab mb cb] 27)) (HOS.out.alloc (.cells #[.slice Ab mb cb] 27)) (by decide)))
        have HT9 := Lib.hid (HTG.snoc (x := spB ts l m k) (by rw [HMB.out]; exact HR9))
        have HO9 := Lib.hid hown'
        obtain ⟨A9, c9, rfl⟩ := row_slice hown'
        have hL9 : (tss ++ [spB ts l m k]).length = tss.length + 1 := by simp
        have HL9 := Lib.hid hL9
        clear hown' hgrow HTA HTG HR9 hL9
        go_wp2_with fail
        go_roundw
        case rel => exact ⟨d, m, vs ++ [.slice Ab mb cb], tss ++ [spB ts l m k], A9, c9, hltn, by omega, by rw [HL9.out]; omega, rfl, rfl, by rw [HL9.out], Lib.hid (by rw [HL9.out]; exact HO9.out), HT9, HQ3, HB9.out⟩
        case measure => simp [intOf]; omega
#print axioms splitTeams_model
end Go.Proofs.Ytidofckanadkpaa.pq
