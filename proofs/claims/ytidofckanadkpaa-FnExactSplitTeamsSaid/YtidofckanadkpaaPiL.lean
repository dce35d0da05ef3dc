/-
  The first team beside which more are possible, SplitTeams, by the program.
  Conditions: the list has at most 2000000 elements and lies in one block; names have at most 1048576 bytes.
-/
import Derived.Test.YtidofckanadkpaaPiK
import Derived.Test.YtidofckanadkpaaPqG
namespace Go.Proofs.Ytidofckanadkpaa.pi5
open Go.RowKit
open reads base inn ty rowi psk psl psm psn pso psp pq tab
set_option linter.unusedVariables false
set_option linter.unusedSimpArgs false
set_option maxRecDepth 100000

theorem find_first {α : Type} {p : α → Bool} : ∀ {L : List α} {k : Nat} {s : α}, L[k]? = some s → p s = true → (L.take k).all (fun s => !p s) = true → L.find? p = some s
  | [], k, s, h, _, _ => by simp at h
  | a :: L, 0, s, h, hp, _ => by
    obtain rfl : a = s := by simpa using h
    simp [hp]
  | a :: L, k + 1, s, h, hp, ha => by
    rw [List.take_succ_cons, List.all_cons, Bool.and_eq_true] at ha
    have h1 : p a = false := by simpa using ha.1
    rw [List.find?_cons, h1]
    exact find_first (by simpa using h) hp ha.2
theorem find_none_of {α : Type} {p : α → Bool} {L : List α} (h : L.all (fun s => !p s) = true) : L.find? p = none := by
  rw [List.find?_eq_none]
  intro x hx
  have := (List.all_eq_true.1 h) x hx
  simpa using this
set_option maxHeartbeats 8000000 in
theorem first_is (A : Option Addr) (n cap : Nat) (r : List Ps) (m : Nat) (F : List Ps) (w : World) (hn : n ≤ 10) (hm : m ≤ 3) (hc : n ≤ cap) (hk : Hid (pt.okS r)) (hts : Hid (PsAt w w.heap.size A n r)) (hF : Hid (pt.first r m = F)) :
    Calls Try.prog 82 #[.slice A n cap, .int .i64 m] w (QPost F w) := by
  have hL : Hid (r.length = n) := Lib.hid hts.out.1
  obtain ⟨L, HL⟩ : ∃ L, Hid (pt.teams r = L) := ⟨_, Lib.hid rfl⟩
  obtain ⟨N, HN⟩ : ∃ N, Hid (L.length = N) := ⟨_, Lib.hid rfl⟩
  have hN : N ≤ 1024 := by rw [← HN.out, ← HL.out]; exact teams_le (by rw [hL.out]; exact hn)
  have HFI := Lib.hid (show (L.find? fun s => decide (m ≤ pt.prs (pt.wo r s))).getD [] = F by rw [← hF.out, ← HL.out]; rfl)
  go_enter Try.func82, Try.ntmps82
  go_wp2_with fail
  refine (teamsAmong_is A n cap r L _ hn hc hk hts HL).mono ?_
  rintro e w3 ⟨v2, vs, rfl, ho2, ht2, b3⟩
  rw [HN.out] at ho2
  obtain ⟨A2, c2, rfl⟩ := row_slice ho2
  have HB3 := Lib.hid b3
  have HO2 := Lib.hid ho2
  have HTT := Lib.hid ht2
  clear ho2 ht2 b3
  go_wp2_with fail
  go_loopw [10] (fun i wr => ∃ k : Nat, k ≤ N ∧ i = .int .i64 k ∧ Hid ((L.take k).all (fun s => !decide (m ≤ pt.prs (pt.wo r s))) = true) ∧ Hid (wr.ownsRow w.heap.size 24 1 (.slice A2 N c2) N vs) ∧ Hid (TabV 41 4 flatPs wr w.heap.size vs L) ∧ Below w.heap.size w wr) (fun i _ => N - (intOf i).toNat)
  case atStart => exact ⟨0, Nat.zero_le _, rfl, Lib.hid (by simp), HO2, HTT, HB3.out⟩
  case round =>
    obtain ⟨k, hkN, rfl, HI, HO, HTB, hB⟩ := hrel
    have HBr := Lib.hid hB
    have hBs := hB.size
    clear hB HO2 HTT HB3
    have hk0 : 0 ≤ (k : Int) := by omega
    by_cases hlt : k < N
    · have hki : (k : Int) < (N : Int) := by omega
      have hkd : decide (k < N) = true := by simpa using hlt
      obtain ⟨s, hsk⟩ := at_lt HN.out hlt
      have HSK := Lib.hid hsk
      obtain ⟨g, A3, m3, c3, rfl, hg, cg, hm3, ho3⟩ := tab_at HN.out HO.out HTB.out hsk
      have HPS := Lib.hid (own_Ps hm3 ho3)
      have HM3 := Lib.hid hm3
      have HOS := Lib.hid ho3
      have hm5 : m3 ≤ 5 := by rw [← hm3]; exact (pt.teamS_len (team_mem HL.out hsk).2).2
      have HTS := Lib.hid (show PsAt wr wr.heap.size A n r from hts.out.step HBr.out)
      obtain ⟨W, HW⟩ : ∃ W, Hid (pt.wo r s = W) := ⟨_, Lib.hid rfl⟩
      obtain ⟨wl, HWL⟩ : ∃ wl, Hid (W.length = wl) := ⟨_, Lib.hid rfl⟩
      have hwl : wl ≤ n := by rw [← HWL.out, ← HW.out, ← hL.out]; exact wo_len r s
      have HKW := Lib.hid (show pt.okS W from fun t ht => hk.out t ((pt.wo_sub r s).subset (by rw [HW.out]; exact ht)))
      obtain ⟨v, HV⟩ : ∃ v, Hid (pt.prs W = v) := ⟨_, Lib.hid rfl⟩
      have HPV := Lib.hid (show decide (m ≤ pt.prs (pt.wo r s)) = decide (m ≤ v) by rw [HW.out, HV.out])
      clear hsk hm3 ho3
      go_wp2_with fail
      refine (without_is A n cap r A3 m3 c3 s W _ HW (by omega) (by omega) HTS HPS).mono ?_
      rintro e w4 ⟨v4, rfl, ho4, b4⟩
      rw [HWL.out] at ho4
      obtain ⟨A4, c4, rfl⟩ := row_slice ho4
      have HB4 := Lib.hid (HBr.out.trans (b4.mono hBs))
      have HO4 := Lib.hid (row_below HO.out b4)
      have HT4 := Lib.hid (HTB.out.below b4)
      have HS4 := Lib.hid (row_below HOS.out b4)
      have HP4 := Lib.hid (own_Ps HWL.out ho4)
      clear b4 ho4 cg
      go_wp2_with fail
      refine (pairs_is A4 wl c4 W v _ (by omega) HKW HP4 HV).mono ?_
      rintro e w5 ⟨rfl, b5⟩
      have HB5 := Lib.hid (HB4.out.trans (b5.mono HB4.out.size))
      have HO5 := Lib.hid (row_below HO4.out b5)
      have HT5 := Lib.hid (HT4.out.below b5)
      have HS5 := Lib.hid (row_below HS4.out b5)
      clear b5
      by_cases hmv : m ≤ v
      · have hd : decide (m ≤ v) = true := by simpa using hmv
        have hd' : decide ((m : Int) ≤ (v : Int)) = true := by simpa using hmv
        obtain rfl : F = s := by
          rw [← HFI.out, find_first HSK.out (by simp only [HPV.out, hd]) HI.out]; rfl
        go_wp2_with fail
        go_ret
        exact ⟨.slice A3 m3 c3, rfl, by rw [HM3.out]; exact HS5.out, HB5.out⟩
      · have hd : decide (m ≤ v) = false := by simpa using hmv
        have hd' : decide ((m : Int) ≤ (v : Int)) = false := by simpa using hmv
        have HN2 := Lib.hid (all_take (p := fun s => !decide (m ≤ pt.prs (pt.wo r s))) HSK.out HI.out (by simp only [HPV.out, hd]; rfl))
        go_wp2_with fail
        go_roundw
        case rel => exact ⟨k + 1, by omega, by go_num, HN2, HO5, HT5, HB5.out⟩
        case measure => simp [intOf]; omega
    · have hkd : decide (k < N) = false := by simpa using hlt
      obtain rfl : F = [] := by
        rw [← HFI.out, find_none_of (by have := HI.out; rwa [List.take_of_length_le (by rw [HN.out]; omega)] at this)]; rfl
      have HR := Lib.hid (show (wr.alloc (.cells #[] 41)).ownsRow w.heap.size 41 4 (.slice (some ⟨wr.heap.size, 0, none⟩) 0 0) 0 [] from World.ownsRow_made wr #[] 0 hBs (by decide) (by simp))
      clear hlt
      go_wp2_with fail
      go_ret
      exact ⟨.slice (some ⟨wr.heap.size, 0, none⟩) 0 0, rfl, HR.out, HBr.out.alloc hBs _⟩
/-- the people who are left: the list that came in, or one of the call's own -/
def RA (w wr : World) (A : Option Addr) (n c : Nat) (r : List Ps) : Prop := r.length = n ∧ (PsAt w w.heap.size A n r ∨ wr.ownsRow w.heap.size 41 4 (.slice A n c) n (flatPs r))
theorem RA.at_ {w wr : World} {A : Option Addr} {n c : Nat} {r : List Ps} (h : RA w wr A n c r) (hb : Below w.heap.size w wr) : PsAt wr wr.heap.size A n r := by
  rcases h.2 with q | q
  · exact q.step hb
  · exact own_Ps h.1 q
theorem RA.step {w wr w' : World} {A : Option Addr} {n c : Nat} {r : List Ps} (h : RA w wr A n c r) (hb : Below wr.heap.size wr w') : RA w w' A n c r := ⟨h.1, h.2.imp id (fun q => row_below q hb)⟩
theorem RA.grown {w wr w' : World} {A : Option Addr} {n c : Nat} {r : List Ps} {b m : Nat} {v : Value} {us : List Value} (h : RA w wr A n c r) (ho : wr.ownsRow b 27 1 v m us) (hg : wr.grownBy w' v.ownBlock) : RA w w' A n c r :=
  ⟨h.1, h.2.imp id (fun q => q.kept hg (own_ne q ho (by decide)))⟩
theorem own_cap5 {w : World} {base size n c : Nat} {e : TypeId} {A : Option Addr} {xs : List Value} (h : w.ownsRow base e size (.slice A n c) n xs) : n ≤ c := by
  rcases h.2 with ⟨e1, e2⟩ | ⟨g, cp, cur, e1, _, _, h2, _⟩
  · injection e1 with _ e1 e3; omega
  · injection e1 with _ e1 e3; subst e3; exact h2
/-- lists of Ids that the call has made, none in another's memory, and a word -/
def TDPost (tss : List (List Int)) (t : Bool) (w : World) (e : Ending) (w' : World) : Prop :=
  ∃ v vs, e = .returned (.tuple #[v, .bool t]) ∧ w'.ownsRow w.heap.size 27 1 v vs.length vs ∧ TabV 3 1 ints.intsV w' w.heap.size vs tss ∧ Disj vs ∧ Below w.heap.size w w'
theorem min_two (b v : Nat) (h : min b 3 = v) (ts : Array TypeId) (t : TypeId) (P : Program) (W : World) : (Builtin.min_ ts t #[.int .i64 (b : Int), .int .i64 3]).run P W = .ok (.int .i64 (v : Int)) W := by
  have e : (if (3 : Int) < (b : Int) then (3 : Int) else (b : Int)) = (v : Int) := by split <;> omega
  simp [Builtin.min_, Builtin.min2]
  exact e
set_option maxHeartbeats 16000000 in
theorem splitTeams_is (A : Option Addr) (n cap : Nat) (ts : List Ps) (R : List (List Int)) (b : Bool) (w : World) (hR : Hid (stTss ts = R)) (hb : Hid (psg.good ts = b)) (hn : n ≤ 2000000) (hc : n ≤ cap) (hs : Hid (∀ t ∈ ts, t.name.size ≤ 1048576)) (hts : Hid (PsAt w w.heap.size A n ts)) :
    Calls Try.prog 33 #[.slice A n cap] w (TDPost R b w) := by
  have hL : Hid (ts.length = n) := Lib.hid hts.out.1
  cases hg : psg.good ts
  · have HG := Lib.hid hg
    obtain rfl : R = [] := by rw [← hR.out]; unfold stTss; rw [hg]; rfl
    obtain rfl : b = false := by rw [← hb.out]; exact hg
    clear hg
    go_enter Try.func33, Try.ntmps33
    go_wp2_with fail
    refine (people_is A n cap ts false _ hn hs hts HG).mono ?_
    rintro e w1 ⟨rfl, b1⟩
    have HB := Lib.hid b1
    have hBs := b1.size
    clear b1
    have HR := Lib.hid (show (w1.alloc (.cells #[] 27)).ownsRow w.heap.size 27 1 (.slice (some ⟨w1.heap.size, 0, none⟩) 0 0) 0 [] from World.ownsRow_made w1 #[] 0 hBs (by decide) (by simp))
    go_wp2_with fail
    go_ret2
    exact ⟨.slice (some ⟨w1.heap.size, 0, none⟩) 0 0, [], rfl, HR.out, TabV.nil, Disj.nil, HB.out.alloc hBs _⟩
  have HG := Lib.hid hg
  obtain rfl : b = true := by rw [← hb.out]; exact hg
  have hn10 : n ≤ 10 := by rw [← hL.out]; exact good_len hg
  have HOK := Lib.hid (good_okS hg)
  obtain ⟨v, HV⟩ : ∃ v, Hid (pt.prs ts = v) := ⟨_, Lib.hid rfl⟩
  obtain ⟨M, HM⟩ : ∃ M, Hid (min v 3 = M) := ⟨_, Lib.hid rfl⟩
  have hM3 : M ≤ 3 := by rw [← HM.out]; omega
  have HRR := Lib.hid (show (pt.psplit M ts).map pt.ids = R by
    have e1 : pt.mostS ts = M := by rw [pt.mostS_is, HV.out, ← HM.out, Nat.min_comm]
    rw [← hR.out]; unfold stTss; rw [hg, if_pos rfl, e1, pt.split_is (good_asc hg) M _ hM3 (by have := Nat.pow_pos (n := ts.length) (show 0 < 2 by omega); omega), pt.pick_full])
  have hmin : ∀ (tys : Array TypeId) (t : TypeId) (W : World), (Builtin.min_ tys t #[.int .i64 (v : Int), .int .i64 3]).run Try.prog W = .ok (.int .i64 (M : Int)) W := fun tys t W => min_two v M HM.out tys t Try.prog W
  obtain ⟨i0, hi, hz0, hz1, hz2⟩ := info_parts infoII
  clear hg
  go_enter Try.func33, Try.ntmps33
  go_wp2_with fail
  refine (people_is A n cap ts true _ hn hs hts HG).mono ?_
  rintro e w1 ⟨rfl, b1⟩
  have HB := Lib.hid b1
  have hBs := b1.size
  have HRo := Lib.hid (show (w1.alloc (.cells #[] 27)).ownsRow w.heap.size 27 1 (.slice (some ⟨w1.heap.size, 0, none⟩) 0 0) 0 [] from World.ownsRow_made w1 #[] 0 hBs (by decide) (by simp))
  have HE := Lib.hid (HB.out.alloc hBs (.cells #[] 27))
  have HT1 := Lib.hid (hts.out.step HE.out)
  clear b1 hBs
  go_wp2_with fail
  refine (pairs_is A n cap ts v _ hn HOK HT1 HV).mono ?_
  rintro e w2 ⟨rfl, b2⟩
  have HB2 := Lib.hid (HE.out.trans (b2.mono HE.out.size))
  have HR2 := Lib.hid (row_below HRo.out b2)
  clear b2
  go_wp2_with fail
  clear hmin
  go_loopw [4, 5, 6] (fun o rr mm wr => ∃ (m nr cr : Nat) (Ao Ar : Option Addr) (co : Nat) (vs : List Value) (tss : List (List Int)) (r : List Ps), m ≤ 3 ∧ tss.length + m ≤ 3 ∧ nr ≤ 10 ∧ nr ≤ cr ∧ mm = .int .i64 m ∧ o = .slice Ao tss.length co ∧ rr = .slice Ar nr cr ∧ Hid (pt.okS r) ∧ Hid (tss ++ (pt.psplit m r).map pt.ids = R) ∧ Hid (wr.ownsRow w.heap.size 27 1 (.slice Ao tss.length co) tss.length vs) ∧ Hid (TabV 3 1 ints.intsV wr w.heap.size vs tss) ∧ Hid (Disj vs) ∧ Hid (RA w wr Ar nr cr r) ∧ Below w.heap.size w wr) (fun _ _ mm _ => (intOf mm).toNat)
  case atStart => exact ⟨M, n, cap, _, A, 0, [], [], ts, hM3, by simpa using hM3, hn10, hc, rfl, rfl, rfl, HOK, Lib.hid (by rw [List.nil_append]; exact HRR.out), HR2, Lib.hid TabV.nil, Lib.hid Disj.nil, Lib.hid ⟨hL.out, .inl hts.out⟩, HB2.out⟩
  case round =>
    obtain ⟨m1, nr, cr, Ao, Ar, co, vs, tss, r, hm, htl, hnr, hcr, rfl, rfl, rfl, HOR, HQ, HO, HTB, HDJ, HRA, hB⟩ := hrel
    have HBr := Lib.hid hB
    have hBs := hB.size
    clear hB
    by_cases hm0 : m1 = 0
    · subst hm0
      have HF := Lib.hid (show tss = R by have := HQ.out; rwa [pt.psplit, List.map_nil, List.append_nil] at this)
      go_wp2_with fail
      go_ret2
      refine ⟨.slice Ao tss.length co, vs, rfl, ?_, by rw [← HF.out]; exact HTB.out, HDJ.out, HBr.out⟩
      rw [HTB.out.1]; exact HO.out
    obtain ⟨m, hm1⟩ : ∃ m, m1 = m + 1 := ⟨m1 - 1, by omega⟩
    have hmi : (m1 : Int) - 1 = (m : Int) := by omega
    have hmp : decide (0 < m1) = true := by simp; omega
    have hmp' : decide ((0 : Int) < (m1 : Int)) = true := by simp; omega
    have hm2 : m ≤ 2 := by omega
    have hmm : 0 < m1 := by omega
    obtain ⟨F, HF⟩ : ∃ F, Hid (pt.first r m = F) := ⟨_, Lib.hid rfl⟩
    obtain ⟨r2, HR3⟩ : ∃ r2, Hid (pt.wo r F = r2) := ⟨_, Lib.hid rfl⟩
    have HQ2 := Lib.hid (show (tss ++ [pt.ids F]) ++ (pt.psplit m r2).map pt.ids = R by
      have e := HQ.out
      rw [hm1, pt.psplit, List.map_cons, HF.out, HR3.out] at e
      rw [List.append_assoc]; exact e)
    have HRL := Lib.hid HRA.out.1
    have HPR := Lib.hid (HRA.out.at_ HBr.out)
    have HM1 := Lib.hid hm1
    clear hm1 hm0 HQ
    obtain ⟨fl, HFL⟩ : ∃ fl, Hid (F.length = fl) := ⟨_, Lib.hid rfl⟩
    obtain ⟨rl, HRL2⟩ : ∃ rl, Hid (r2.length = rl) := ⟨_, Lib.hid rfl⟩
    have hfl : fl ≤ 5 := by
      rw [← HFL.out, ← HF.out]
      unfold pt.first
      cases e : (pt.teams r).find? (fun s => decide (m ≤ pt.prs (pt.wo r s))) with
      | none => simp
      | some s => exact (pt.teamS_len (pt.mem_teams.1 (List.mem_of_find?_eq_some e)).2).2
    have hrl : rl ≤ nr := by rw [← HRL2.out, ← HR3.out, ← HRL.out]; exact wo_len r F
    have HOR2 := Lib.hid (show pt.okS r2 from fun t ht => HOR.out t ((pt.wo_sub r F).subset (by rw [HR3.out]; exact ht)))
    go_wp2_with fail
    refine (first_is Ar nr cr r m F _ hnr (by omega) hcr HOR HPR HF).mono ?_
    rintro e w3 ⟨v3, rfl, ho3, b3⟩
    rw [HFL.out] at ho3
    obtain ⟨A3, c3, rfl⟩ := row_slice ho3
    have HB3 := Lib.hid (HBr.out.trans (b3.mono hBs))
    have HO3 := Lib.hid (row_below HO.out b3)
    have HT3 := Lib.hid (HTB.out.below b3)
    have HR4 := Lib.hid (HRA.out.step b3)
    have HF3 := Lib.hid (own_mono ho3 hBs)
    have HP3 := Lib.hid (own_Ps HFL.out ho3)
    clear b3 ho3 HO HTB HRA
    go_wp2_with fail
    refine (idsOf_is A3 fl c3 F _ (by omega) HP3).mono ?_
    rintro e w4 ⟨v4, rfl, ho4, b4⟩
    obtain ⟨il, HIL⟩ : ∃ il, Hid ((pt.ids F).length = il) := ⟨_, Lib.hid rfl⟩
    rw [HIL.out] at ho4
    obtain ⟨A4, c4, rfl⟩ := row_slice ho4
    have HB4 := Lib.hid (HB3.out.trans (b4.mono HB3.out.size))
    have HO4 := Lib.hid (row_below HO3.out b4)
    have HT4 := Lib.hid (HT3.out.below b4)
    have HR5 := Lib.hid (HR4.out.step b4)
    have HF4 := Lib.hid (row_below HF3.out b4)
    have HI4 := Lib.hid (own_mono ho4 HB3.out.size)
    have HDN := Lib.hid (HDJ.out.snoc (HT3.out.later ho4 (Nat.le_refl _)))
    have hBs4 := HB4.out.size
    clear b4 ho4 HO3 HT3 HR4 HF3 HP3 HB3
    have HTL := Lib.hid HT4.out.1
    go_wp2_with (at_builtin; refine wpList_append_own _ rfl _ _ 48 rfl w.heap.size 27 i0 (.slice none 0 0) 1 24 Try.underlying48 hi hz0 hz1 hz2 rfl (by decide) _ _ _ rfl (HO4.out.alloc _) ⟨w4.heap.size, 0, none⟩ 1 1 [.slice A4 il c4] rfl rfl (cell_one_new _ _ _) (by simp [Value.oneCell']) (by unfold maxLen; omega) (by omega) (by simp; omega) ?_; intro v' w9 hown' hgrow _)
    have HB9 := Lib.hid ((HB4.out.alloc hBs4 (.cells #[.slice A4 il c4] 27)).grown hgrow (by simp; omega) (fun j ej => (HO4.out.lt j ej).1))
    have HAL := (Below.refl w4.heap.size w4).alloc (Nat.le_refl _) (.cells #[.slice A4 il c4] 27)
    have HTG := (HT4.out.below HAL).grown (HO4.out.alloc (.cells #[.slice A4 il c4] 27)) hgrow (by decide)
    have HIG := (HI4.out.alloc (.cells #[.slice A4 il c4] 27)).kept hgrow (own_ne (HI4.out.alloc (.cells #[.slice A4 il c4] 27)) (HO4.out.alloc (.cells #[.slice A4 il c4] 27)) (by decide))
    have HFG := Lib.hid ((HF4.out.alloc (.cells #[.slice A4 il c4] 27)).kept hgrow (own_ne (HF4.out.alloc (.cells #[.slice A4 il c4] 27)) (HO4.out.alloc (.cells #[.slice A4 il c4] 27)) (by decide)))
    have HT9 := Lib.hid (HTG.snoc (x := pt.ids F) (by rw [HIL.out]; exact HIG))
    have HRG := Lib.hid ((HR5.out.step HAL).grown (HO4.out.alloc (.cells #[.slice A4 il c4] 27)) hgrow)
    have HO9 := Lib.hid hown'
    obtain ⟨A9, c9, rfl⟩ := row_slice hown'
    have HL9 := Lib.hid (show (tss ++ [pt.ids F]).length = tss.length + 1 by simp)
    have HP9 := Lib.hid (own_Ps HFL.out HFG.out)
    have HPR9 := Lib.hid (HRG.out.at_ HB9.out)
    clear hown' hgrow HTG HIG HAL
    go_wp2_with fail
    refine (without_is Ar nr cr r A3 fl c3 F r2 _ HR3 (by omega) (by omega) HPR9 HP9).mono ?_
    rintro e w5 ⟨v5, rfl, ho5, b5⟩
    rw [HRL2.out] at ho5
    obtain ⟨A5, c5, rfl⟩ := row_slice ho5
    have HB5 := Lib.hid (HB9.out.trans (b5.mono HB9.out.size))
    have HO5 := Lib.hid (row_below HO9.out b5)
    have HT5 := Lib.hid (HT9.out.below b5)
    have HRA5 := Lib.hid (show RA w w5 A5 rl c5 r2 from ⟨HRL2.out, .inr (own_mono ho5 HB9.out.size)⟩)
    have hc5 := own_cap5 ho5
    clear b5 ho5
    go_wp2_with fail
    go_roundw
    case rel => exact ⟨m, rl, c5, A9, A5, c9, vs ++ [.slice A4 il c4], tss ++ [pt.ids F], r2, by omega, by rw [HL9.out]; omega, by omega, hc5, rfl, by rw [HL9.out], rfl, HOR2, HQ2, Lib.hid (by rw [HL9.out]; exact HO5.out), HT5, HDN, HRA5, HB5.out⟩
    case measure => simp [intOf]; omega
#print axioms first_is
#print axioms splitTeams_is
end Go.Proofs.Ytidofckanadkpaa.pi5
