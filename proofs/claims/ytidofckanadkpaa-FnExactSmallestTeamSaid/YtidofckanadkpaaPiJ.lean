/-
  All teams, CountTeams, SmallestTeam, by the program.
  Conditions: the list has at most 2000000 elements and lies in one block; names have at most 1048576 bytes.
-/
import Derived.Test.YtidofckanadkpaaPiI
namespace Go.Proofs.Ytidofckanadkpaa.pi5
open Go.RowKit
open reads base inn ty rowi psk psl psm psn pso psp pq tab
set_option linter.unusedVariables false
set_option linter.unusedSimpArgs false
set_option maxRecDepth 100000

/-- lists of people that the call has made -/
def TAPost (L : List (List Ps)) (w : World) (e : Ending) (w' : World) : Prop :=
  ∃ v vs, e = .returned v ∧ w'.ownsRow w.heap.size 24 1 v L.length vs ∧ TabV 41 4 flatPs w' w.heap.size vs L ∧ Below w.heap.size w w'
theorem teams_le {ts : List Ps} (h : ts.length ≤ 10) : (pt.teams ts).length ≤ 1024 := by
  rw [← pt.count_teams]
  exact Nat.le_trans (cnt_le _ _) (pow_le h).2
set_option maxHeartbeats 4000000 in
theorem teamsAmong_is (A : Option Addr) (n cap : Nat) (ts : List Ps) (L : List (List Ps)) (w : World) (hn : n ≤ 10) (hc : n ≤ cap) (hk : Hid (pt.okS ts)) (hts : Hid (PsAt w w.heap.size A n ts)) (hL : Hid (pt.teams ts = L)) :
    Calls Try.prog 56 #[.slice A n cap] w (TAPost L w) := by
  have HN : Hid (ts.length = n) := Lib.hid hts.out.1
  have HLE := Lib.hid (show L.length ≤ 100000 by rw [← hL.out]; have := teams_le (ts := ts) (by rw [HN.out]; exact hn); omega)
  obtain ⟨H, HH⟩ : ∃ H, Hid (w.heap.size = H) := ⟨_, Lib.hid rfl⟩
  obtain ⟨W2, HW2, HB2, HR1, HR2⟩ : ∃ W2, Hid ((w.alloc (.cells #[] 24)).alloc (.cells #[] 41) = W2) ∧ Hid (Below w.heap.size w W2) ∧ Hid (W2.ownsRow w.heap.size 24 1 (.slice (some ⟨w.heap.size, 0, none⟩) 0 0) 0 []) ∧ Hid (W2.ownsRow w.heap.size 41 4 (.slice (some ⟨w.heap.size + 1, 0, none⟩) 0 0) 0 []) := by
    refine ⟨_, Lib.hid rfl, Lib.hid (((Below.refl _ _).alloc (Nat.le_refl _) _).alloc (by simp) _), Lib.hid ?_, Lib.hid ?_⟩
    · exact World.ownsRow.alloc (World.ownsRow_made w #[] 0 (Nat.le_refl _) (by decide) (by simp)) _
    · have := World.ownsRow_made (base := w.heap.size) (size := 4) (e := 41) (w.alloc (.cells #[] 24)) #[] 0 (by simp) (by decide) (by simp)
      simpa using this
  have HA := Lib.hid (show AT W2 w.heap.size W2 (.slice (some ⟨w.heap.size, 0, none⟩) ([] : List (List Ps)).length 0) [] [] (.slice (some ⟨w.heap.size + 1, 0, none⟩) 0 0) 0 [] from ⟨HR1.out, TabV.nil, HR2.out, Keeps.refl _ _, Below.refl _ _, HB2.out.size⟩)
  have HO := Lib.hid (show PsO W2 w.heap.size A n ts from (PsO.of_at hts.out).below HB2.out)
  have hcall := app_any n ts [] [] L [] (some ⟨w.heap.size, 0, none⟩) 0 (some ⟨w.heap.size + 1, 0, none⟩) 0 0 A cap w.heap.size W2 HN hn hc (Lib.hid rfl) (by omega) (Lib.hid (fun u hu => by simp at hu)) hk (Lib.hid (by rw [List.nil_append, pt.dfs_is]; exact hL.out)) HLE.out HA HO
  have HC := Lib.hid hcall
  clear hcall
  go_enter Try.func56, Try.ntmps56
  go_wp2_with fail
  rw [HW2.out]
  refine HC.out.mono ?_
  rintro e w5 ⟨v5, vs5, rfl, ho5, ht5, hk5, hb5⟩
  have HO5 := Lib.hid ho5
  have HT5 := Lib.hid ht5
  have HB5 := Lib.hid (HB2.out.trans hb5)
  clear ho5 ht5 hk5 hb5
  go_wp2_with fail
  go_ret
  exact ⟨v5, vs5, rfl, HO5.out, HT5.out, HB5.out⟩
/-- an element of a list of lists -/
theorem tab_at {w : World} {b n k : Nat} {A : Option Addr} {c : Nat} {vs : List Value} {L : List (List Ps)} {s : List Ps} (hl : L.length = n) (ho : w.ownsRow b 24 1 (.slice A n c) n vs) (ht : TabV 41 4 flatPs w b vs L) (hs : L[k]? = some s) :
    ∃ g A1 m1 c1, A = some ⟨g, 0, none⟩ ∧ g < w.heap.size ∧ w.cell? ⟨g, k, none⟩ = some (.slice A1 m1 c1) ∧ s.length = m1 ∧ w.ownsRow b 41 4 (.slice A1 m1 c1) m1 (flatPs s) := by
  have hk : k < n := by rw [← hl]; exact (List.getElem?_eq_some_iff.1 hs).1
  obtain ⟨g, cap, hv, -, hg⟩ := ho.form (by omega)
  injection hv with hA _ hc
  subst hA hc
  obtain ⟨v, hv, hov⟩ := ht.at_ hs
  obtain ⟨A1, c1, rfl⟩ := row_slice hov
  exact ⟨g, A1, s.length, c1, rfl, hg, by rw [ho.cellAt k (by omega)]; exact hv, rfl, hov⟩
theorem team_mem {ts s : List Ps} {k : Nat} {L : List (List Ps)} (hL : pt.teams ts = L) (hs : L[k]? = some s) : (∀ x ∈ s, x ∈ ts) ∧ pt.teamS s = true := by
  have := pt.mem_teams.1 (show s ∈ pt.teams ts by rw [hL]; exact List.mem_of_getElem? hs)
  exact ⟨fun x hx => this.1.subset hx, this.2⟩
set_option maxHeartbeats 8000000 in
theorem countTeams_is (A : Option Addr) (n cap : Nat) (ts : List Ps) (v : Value) (w : World) (hv : Hid (ansCt ts = v)) (hn : n ≤ 2000000) (hc : n ≤ cap) (hs : Hid (∀ t ∈ ts, t.name.size ≤ 1048576)) (hts : Hid (PsAt w w.heap.size A n ts)) :
    Calls Try.prog 36 #[.slice A n cap] w (APost v w) := by
  have hL : Hid (ts.length = n) := Lib.hid hts.out.1
  cases hg : psg.good ts
  · have HG := Lib.hid hg
    have HF := Lib.hid (show v = .tuple #[.int .i64 0, .int .i64 0, .bool false] by rw [← hv.out]; unfold ansCt; rw [hg]; rfl)
    clear hg
    go_enter Try.func36, Try.ntmps36
    go_wp2_with fail
    refine (people_is A n cap ts false _ hn hs hts HG).mono ?_
    rintro e w1 ⟨rfl, b1⟩
    have HB := Lib.hid b1
    clear b1
    go_wp2_with fail
    exact bodyPost_ret (v := .tuple #[.int .i64 0, .int .i64 0, .bool false]) (by simp [results, Try.results36, go_sem]) rfl ⟨by rw [HF.out], HB.out⟩
  have HG := Lib.hid hg
  have hn10 : n ≤ 10 := by rw [← hL.out]; exact good_len hg
  have HOK := Lib.hid (good_okS hg)
  have HTR := Lib.hid (show ∀ t ∈ ts, 0 ≤ t.trips ∧ t.trips ≤ 500 from fun t ht => (good_bd hg t ht).2)
  obtain ⟨L, HL⟩ : ∃ L, Hid (pt.teams ts = L) := ⟨_, Lib.hid rfl⟩
  obtain ⟨N, HN⟩ : ∃ N, Hid (L.length = N) := ⟨_, Lib.hid rfl⟩
  have hN : N ≤ 1024 := by rw [← HN.out, ← HL.out]; exact teams_le (by rw [hL.out]; exact hn10)
  obtain ⟨d, HD⟩ : ∃ d, Hid (L.countP (fun s => decide (20 ≤ pt.trS s)) = d) := ⟨_, Lib.hid rfl⟩
  have HF := Lib.hid (show v = .tuple #[.int .i64 (N : Nat), .int .i64 (d : Nat), .bool true] by rw [← hv.out]; unfold ansCt; rw [hg, if_pos rfl, HL.out, HN.out, HD.out])
  clear hg
  go_enter Try.func36, Try.ntmps36
  go_wp2_with fail
  refine (people_is A n cap ts true _ hn hs hts HG).mono ?_
  rintro e w1 ⟨rfl, b1⟩
  have HB := Lib.hid b1
  have HT1 := Lib.hid (hts.out.step b1)
  clear b1
  go_wp2_with fail
  refine (teamsAmong_is A n cap ts L _ hn10 hc HOK HT1 HL).mono ?_
  rintro e w2 ⟨v2, vs, rfl, ho2, ht2, b2⟩
  rw [HN.out] at ho2
  obtain ⟨A2, c2, rfl⟩ := row_slice ho2
  have HB2 := Lib.hid (HB.out.trans (b2.mono HB.out.size))
  have HO2 := Lib.hid (own_mono ho2 HB.out.size)
  have HTT := Lib.hid (ht2.mono HB.out.size)
  clear ho2 ht2 b2
  go_wp2_with fail
  go_loopw [6, 16] (fun a i wr => ∃ (k c : Nat), k ≤ N ∧ i = .int .i64 k ∧ a = .int .i64 c ∧ c ≤ k ∧ Hid ((L.take k).countP (fun s => decide (20 ≤ pt.trS s)) = c) ∧ Hid (wr.ownsRow w.heap.size 24 1 (.slice A2 N c2) N vs) ∧ Hid (TabV 41 4 flatPs wr w.heap.size vs L) ∧ Below w.heap.size w wr) (fun _ i _ => N - (intOf i).toNat)
  case atStart => exact ⟨0, 0, Nat.zero_le _, rfl, rfl, Nat.le_refl _, Lib.hid (by simp), HO2, HTT, HB2.out⟩
  case round =>
    obtain ⟨k, c, hk, rfl, rfl, hck, HC, HO, HTB, hB⟩ := hrel
    have HBr := Lib.hid hB
    have hBs := hB.size
    clear hB
    have hk0 : 0 ≤ (k : Int) := by omega
    by_cases hlt : k < N
    · have hki : (k : Int) < (N : Int) := by omega
      have hkd : decide (k < N) = true := by simpa using hlt
      obtain ⟨s, hsk⟩ := at_lt HN.out hlt
      obtain ⟨g, A3, m3, c3, rfl, hg, cg, hm3, ho3⟩ := tab_at HN.out HO.out HTB.out hsk
      have HPS := Lib.hid (own_Ps hm3 ho3)
      have HMM := (team_mem HL.out hsk).1
      have hm5 : m3 ≤ 5 := by rw [← hm3]; exact (pt.teamS_len (team_mem HL.out hsk).2).2
      have HTS := Lib.hid (show ∀ t ∈ s, 0 ≤ t.trips ∧ t.trips ≤ 500 from fun t ht => HTR.out t (HMM t ht))
      have HCN := Lib.hid (cnt_snoc (fun s => decide (20 ≤ pt.trS s)) hsk)
      obtain ⟨r, HR⟩ : ∃ r, Hid (decide (20 ≤ pt.trS s) = r) := ⟨_, Lib.hid rfl⟩
      clear HMM hsk hm3 ho3
      go_wp2_with fail
      refine (areExperienced_is A3 m3 c3 s r _ (by omega) HTS HPS HR).mono ?_
      rintro e w3 ⟨rfl, b3⟩
      have HB3 := Lib.hid (HBr.out.trans (b3.mono hBs))
      have HO3 := Lib.hid (row_below HO.out b3)
      have HT3 := Lib.hid (HTB.out.below b3)
      clear b3 cg
      cases r
      · have HC2 := Lib.hid (show (L.take (k + 1)).countP (fun s => decide (20 ≤ pt.trS s)) = c by rw [HCN.out, HC.out, HR.out]; rfl)
        go_wp2_with fail
        go_roundw
        case rel => exact ⟨k + 1, c, by omega, by go_num, rfl, by omega, HC2, HO3, HT3, HB3.out⟩
        case measure => simp [intOf]; omega
      · have HC2 := Lib.hid (show (L.take (k + 1)).countP (fun s => decide (20 ≤ pt.trS s)) = c + 1 by rw [HCN.out, HC.out, HR.out]; rfl)
        go_wp2_with fail
        go_roundw
        case rel => exact ⟨k + 1, c + 1, by omega, by go_num, by go_num, by omega, HC2, HO3, HT3, HB3.out⟩
        case measure => simp [intOf]; omega
    · have hkd : decide (k < N) = false := by simpa using hlt
      obtain rfl : c = d := by rw [← HC.out, List.take_of_length_le (by rw [HN.out]; omega)]; exact HD.out
      clear hlt
      go_wp2_with fail
      exact bodyPost_ret (v := .tuple #[.int .i64 (N : Nat), .int .i64 (c : Nat), .bool true]) (by simp [results, Try.results36, go_sem]) rfl ⟨by rw [HF.out], HBr.out⟩
#print axioms teamsAmong_is
#print axioms countTeams_is
end Go.Proofs.Ytidofckanadkpaa.pi5
