/-
  Teams among valid people, by the model: a team, all skills and trips of its members, CountTeams.
  Conditions: the list has at most 2000000 elements and lies in one block; names have at most 1048576 bytes.
-/
import Derived.Test.YtidofckanadkpaaPqB
namespace Go.Proofs.Ytidofckanadkpaa.pq
open Go.RowKit
open reads base inn ty rowi psk psl psm psn pso psp
set_option linter.unusedVariables false
set_option linter.unusedSimpArgs false

theorem good_asc {ts : List Ps} (h : psg.good ts = true) : pt.Asc ts := by
  have hA : psg.gAll ts ts.length = true := by unfold psg.good at h; rw [Bool.and_eq_true] at h; exact h.1
  have one : ∀ i a b, ts[i]? = some a → ts[i + 1]? = some b → a.id < b.id := by
    intro i a b ha hb
    have e := gAll_at hA (i + 1) (List.getElem?_eq_some_iff.1 hb).1
    rw [psg.gAt_is hb, Bool.and_eq_true, Bool.and_eq_true, psg.foll_succ rfl ha] at e
    simpa using e.1.2
  have step : ∀ (i d : Nat) (a b : Ps), ts[i]? = some a → ts[i + d + 1]? = some b → a.id < b.id := by
    intro i d
    induction d with
    | zero => intro a b ha hb; exact one i a b ha hb
    | succ d ih =>
      intro a b ha hb
      have hl := (List.getElem?_eq_some_iff.1 hb).1
      obtain ⟨c, hc⟩ : ∃ c, ts[i + d + 1]? = some c := ⟨_, List.getElem?_eq_getElem (by omega)⟩
      have h1 := ih a c ha hc
      have h2 := one (i + d + 1) c b hc hb
      omega
  unfold pt.Asc
  rw [List.pairwise_iff_getElem]
  intro i j hi hj hij
  exact step i (j - i - 1) _ _ (List.getElem?_eq_getElem hi) (by rw [show i + (j - i - 1) + 1 = j by omega]; exact List.getElem?_eq_getElem hj)
theorem good_okS {ts : List Ps} (h : psg.good ts = true) : pt.okS ts := fun t ht => (ok_bd (good_ok h t ht)).1
theorem good_bd {ts : List Ps} (h : psg.good ts = true) : ∀ t ∈ ts, (0 ≤ t.skills ∧ t.skills ≤ 15) ∧ 0 ≤ t.trips ∧ t.trips ≤ 500 := fun t ht => ok_bd (good_ok h t ht)
theorem good_id {ts : List Ps} (h : psg.good ts = true) : ∀ t ∈ ts, 1 ≤ t.id ∧ t.id ≤ 99 := fun t ht => by
  have e := good_ok h t ht
  simp only [psg.okP, Bool.and_eq_true] at e
  exact btw_yes e.1.1.1
theorem trS_bd {s : List Ps} (h : ∀ t ∈ s, 0 ≤ t.trips ∧ t.trips ≤ 500) : 0 ≤ pt.trS s ∧ pt.trS s ≤ 500 * s.length := by
  have gen : ∀ (s : List Ps) (z : Int), (∀ t ∈ s, 0 ≤ t.trips ∧ t.trips ≤ 500) → z ≤ s.foldl (fun z t => z + t.trips) z ∧ s.foldl (fun z t => z + t.trips) z ≤ z + 500 * s.length := by
    intro s
    induction s with
    | nil => intro z _; simp
    | cons t s ih =>
      intro z h
      have h0 := h t (by simp)
      have h1 := ih (z + t.trips) (fun x hx => h x (by simp [hx]))
      rw [List.foldl_cons, List.length_cons]
      omega
  have := gen s 0 h
  unfold pt.trS
  omega
section
variable {A A' : Option Addr} {n m cap cap' : Nat} {ts s : List Ps}
theorem mem_hh (hg : psg.good ts = true) (hs : ∀ x ∈ s, x ∈ ts) : ∀ x ∈ pt.ids s, has ts x = true := fun x hx => by
  obtain ⟨t, ht, rfl⟩ := List.mem_map.1 hx
  exact (pt.find_mem (good_asc hg) (hs t ht)).1
theorem team_s (t : Bool) (w : World) (hg : Hid (psg.good ts = true)) (hs : Hid (∀ x ∈ s, x ∈ ts)) (ht : Hid (pt.teamS s = t)) (hn : n ≤ 2000000) (hm : m ≤ 2000000) (hts : Hid (PsAt w w.heap.size A n ts)) (hxs : Hid (InAt w w.heap.size A' m (pt.ids s))) :
    Calls Try.prog 64 #[.slice A n cap, .slice A' m cap'] w (BPost t w) := by
  rw [← ht.out, ← pt.team_is (good_asc hg.out) hs.out]
  exact team_any A n cap ts A' m cap' (pt.ids s) w hn hm (Lib.hid (mem_hh hg.out hs.out)) (Lib.hid (good_bd hg.out)) hts hxs
theorem all_s (sk tr : Int) (w : World) (hg : Hid (psg.good ts = true)) (hs : Hid (∀ x ∈ s, x ∈ ts)) (hsk : Hid (pt.orS s = sk)) (htr : Hid (pt.trS s = tr)) (hn : n ≤ 2000000) (hm : m ≤ 2000000) (hts : Hid (PsAt w w.heap.size A n ts)) (hxs : Hid (InAt w w.heap.size A' m (pt.ids s))) :
    Calls Try.prog 65 #[.slice A n cap, .slice A' m cap'] w (APost (.tuple #[.int .i64 sk, .int .i64 tr]) w) := by
  have h := all_model A n cap ts A' m cap' (pt.ids s) w hn hm (Lib.hid (mem_hh hg.out hs.out)) (Lib.hid (good_bd hg.out)) hts hxs
  unfold ansAll at h
  rw [pt.skN_all (good_asc hg.out) hs.out, pt.trN_all (good_asc hg.out) hs.out, hsk.out, htr.out] at h
  exact h
end
theorem own_IPost {w : World} {base : Nat} {v : Value} {xs : List Int} (h : w.ownsRow base 3 1 v xs.length (ints.intsV xs)) : ∃ A c, v = .slice A xs.length c ∧ InAt w w.heap.size A xs.length xs := by
  obtain ⟨A, c, rfl⟩ := ints.own_slice h
  exact ⟨A, c, rfl, own_In rfl h⟩
/-- CountTeams' answer -/
def ansCt (ts : List Ps) : Value := if psg.good ts then .tuple #[.int .i64 ((pt.teams ts).length : Nat), .int .i64 ((pt.teams ts).countP (fun s => decide (20 ≤ pt.trS s)) : Nat), .bool true] else .tuple #[.int .i64 0, .int .i64 0, .bool false]
theorem cnt_next (p : Nat → Bool) (j : Nat) : (List.range (j + 1)).countP p = (List.range j).countP p + if p j then 1 else 0 := by
  rw [List.range_succ, List.countP_append]; simp [List.countP_cons]
theorem cnt_le (p : Nat → Bool) (j : Nat) : (List.range j).countP p ≤ j := by
  have := List.countP_le_length (p := p) (l := List.range j)
  simpa using this
theorem pow_le {n : Nat} (h : n ≤ 10) : 1 ≤ 2 ^ n ∧ 2 ^ n ≤ 1024 := ⟨Nat.pow_pos (by omega), Nat.pow_le_pow_right (n := 2) (by omega) h⟩
theorem pow_wrap {n N : Nat} (h : 2 ^ n = N) (hn : n ≤ 10) : IntKind.i64.wrap (2 ^ n) = (N : Int) := by
  have e : ((2 : Int) ^ n) = ((2 ^ n : Nat) : Int) := by push_cast; rfl
  have := pow_le hn
  rw [e, h]
  exact IntWalk.i64_in _ (by omega)
/-- a list of Ids that was made, as a list in memory -/
theorem ipost_at {base : Nat} {v : Value} {xs : List Int} {w : World} (h : w.ownsRow base 3 1 v xs.length (ints.intsV xs)) : ∃ A c m, v = .slice A m c ∧ xs.length = m ∧ InAt w w.heap.size A m xs ∧ w.ownsRow base 3 1 (.slice A m c) m (ints.intsV xs) := by
  obtain ⟨A, c, rfl⟩ := ints.own_slice h
  exact ⟨A, c, xs.length, rfl, rfl, own_In rfl h, h⟩
theorem pick_mem {ts s : List Ps} {j : Nat} (h : pt.pick j ts = s) : ∀ x ∈ s, x ∈ ts := by rw [← h]; exact fun x hx => pt.mem_of_pick hx
set_option maxHeartbeats 4000000 in
set_option maxRecDepth 100000 in
theorem countTeams_model (A : Option Addr) (n cap : Nat) (ts : List Ps) (w : World) (hn : n ≤ 2000000) (hs : Hid (∀ t ∈ ts, t.name.size ≤ 1048576)) (hts : Hid (PsAt w w.heap.size A n ts)) :
    Calls Try.prog 37 #[.slice A n cap] w (APost (ansCt ts) w) := by
  have hL : Hid (ts.length = n) := Lib.hid hts.out.1
  cases hg : psg.good ts
  · have HG := Lib.hid hg
    have HF := Lib.hid (show ansCt ts = .tuple #[.int .i64 0, .int .i64 0, .bool false] by unfold ansCt; rw [hg]; rfl)
    clear hg
    go_enter Try.func37, Try.ntmps37
    go_wp2_with fail
    refine (psg.good_is A n cap ts false _ hn hs hts HG).mono ?_
    rintro e w1 ⟨rfl, b1⟩
    have HB := Lib.hid b1
    clear b1
    go_wp2_with fail
    exact bodyPost_ret (v := .tuple #[.int .i64 0, .int .i64 0, .bool false]) (by simp [results, Try.results37, go_sem]) rfl ⟨by rw [HF.out], HB.out⟩
  · have HG := Lib.hid hg
    have hn10 : n ≤ 10 := by rw [← hL.out]; exact good_len hg
    obtain ⟨N, HN⟩ : ∃ N, Hid (2 ^ n = N) := ⟨_, Lib.hid rfl⟩
    obtain ⟨hN1, hN2⟩ : 1 ≤ N ∧ N ≤ 1024 := by rw [← HN.out]; exact pow_le hn10
    have hsh := pow_wrap HN.out hn10
    clear hg
    go_enter Try.func37, Try.ntmps37
    go_wp2_with fail
    refine (psg.good_is A n cap ts true _ hn hs hts HG).mono ?_
    rintro e w1 ⟨rfl, b1⟩
    have HB := Lib.hid b1
    clear b1
    go_wp2_with fail
    go_loopw [5, 6, 7] (fun a b i wr => ∃ (k c d : Nat), k ≤ N ∧ i = .int .i64 k ∧ a = .int .i64 c ∧ b = .int .i64 d ∧ c ≤ k ∧ d ≤ k ∧ Hid ((List.range k).countP (fun j => pt.teamS (pt.pick j ts)) = c) ∧ Hid ((List.range k).countP (fun j => pt.teamS (pt.pick j ts) && decide (20 ≤ pt.trS (pt.pick j ts))) = d) ∧ Below w.heap.size w wr) (fun _ _ i _ => N - (intOf i).toNat)
    case atStart => exact ⟨0, 0, 0, Nat.zero_le _, rfl, rfl, rfl, Nat.le_refl _, Nat.le_refl _, Lib.hid rfl, Lib.hid rfl, HB.out⟩
    case round =>
      obtain ⟨k, c, d, hk, rfl, rfl, rfl, hc, hd, HC, HD, hB⟩ := hrel
      have HB1 := Lib.hid hB
      have hBs := hB.size
      clear hB
      by_cases hlt : k < N
      · have hki : (k : Int) < (N : Int) := by omega
        have hk0 : 0 ≤ (k : Int) := by omega
        have hkd : decide (k < N) = true := by simpa using hlt
        obtain ⟨s, HS⟩ : ∃ s, Hid (pt.pick k ts = s) := ⟨_, Lib.hid rfl⟩
        have HM := Lib.hid (pick_mem HS.out)
        have HIS := Lib.hid (show pt.ids (pt.pick k ts) = pt.ids s by rw [HS.out])
        have HT1 := Lib.hid (hts.out.step HB1.out)
        have hsl : s.length ≤ 10 := by rw [← HS.out]; have := pick_len k ts; rw [hL.out] at this; omega
        obtain ⟨sk, HSK⟩ : ∃ z, Hid (pt.orS s = z) := ⟨_, Lib.hid rfl⟩
        obtain ⟨tr, HTR⟩ : ∃ z, Hid (pt.trS s = z) := ⟨_, Lib.hid rfl⟩
        have htr : 0 ≤ tr ∧ tr ≤ 5000 := by rw [← HTR.out]; have := trS_bd (s := s) (fun t ht => (good_bd HG.out t (HM.out t ht)).2); omega
        cases ht : pt.teamS s
        · have HT := Lib.hid ht
          have HC2 := Lib.hid (show (List.range (k + 1)).countP (fun j => pt.teamS (pt.pick j ts)) = c by rw [cnt_next, HC.out, HS.out, ht]; rfl)
          have HD2 := Lib.hid (show (List.range (k + 1)).countP (fun j => pt.teamS (pt.pick j ts) && decide (20 ≤ pt.trS (pt.pick j ts))) = d by rw [cnt_next, HD.out, HS.out, ht]; rfl)
          clear ht
          go_wp2_with fail
          refine (members_is A n cap ts k _ HIS _ (by omega) (by omega) HT1).mono ?_
          rintro e w2 ⟨v, rfl, ho, b2⟩
          obtain ⟨A', c', m, rfl, hm, hx, -⟩ := ipost_at ho
          have hm10 : m ≤ 10 := by rw [← hm, pt.ids_len]; exact hsl
          have HX := Lib.hid hx
          have HT2 := Lib.hid (HT1.out.step b2)
          have HB2 := Lib.hid (HB1.out.trans (b2.mono hBs))
          clear ho hm hx b2
          go_wp2_with fail
          refine (team_s false _ HG HM HT hn (by omega) HT2 HX).mono ?_
          rintro e w3 ⟨rfl, b3⟩
          have HB3 := Lib.hid (HB2.out.trans (b3.mono HB2.out.size))
          clear b3
          go_wp2_with fail
          go_roundw
          case rel => exact ⟨k + 1, c, d, by omega, by go_num, rfl, rfl, by omega, by omega, HC2, HD2, HB3.out⟩
          case measure => simp [intOf]; omega
        · have HT := Lib.hid ht
          have HC2 := Lib.hid (show (List.range (k + 1)).countP (fun j => pt.teamS (pt.pick j ts)) = c + 1 by rw [cnt_next, HC.out, HS.out, ht]; rfl)
          have HD2 := Lib.hid (show (List.range (k + 1)).countP (fun j => pt.teamS (pt.pick j ts) && decide (20 ≤ pt.trS (pt.pick j ts))) = d + if 20 ≤ tr then 1 else 0 by rw [cnt_next, HD.out, HS.out, ht, HTR.out]; simp)
          clear ht
          go_wp2_with fail
          refine (members_is A n cap ts k _ HIS _ (by omega) (by omega) HT1).mono ?_
          rintro e w2 ⟨v, rfl, ho, b2⟩
          obtain ⟨A', c', m, rfl, hm, hx, -⟩ := ipost_at ho
          have hm10 : m ≤ 10 := by rw [← hm, pt.ids_len]; exact hsl
          have HX := Lib.hid hx
          have HT2 := Lib.hid (HT1.out.step b2)
          have HB2 := Lib.hid (HB1.out.trans (b2.mono hBs))
          clear ho hm hx b2
          go_wp2_with fail
          refine (team_s true _ HG HM HT hn (by omega) HT2 HX).mono ?_
          rintro e w3 ⟨rfl, b3⟩
          have HB3 := Lib.hid (HB2.out.trans (b3.mono HB2.out.size))
          have HT3 := Lib.hid (HT2.out.step b3)
          have HX3 := Lib.hid (HX.out.step b3)
          clear b3
          go_wp2_with fail
          refine (all_s sk tr _ HG HM HSK HTR hn (by omega) HT3 HX3).mono ?_
          rintro e w4 ⟨rfl, b4⟩
          have HB4 := Lib.hid (HB3.out.trans (b4.mono HB3.out.size))
          clear b4
          by_cases h20 : 20 ≤ tr
          · have hd20 : decide (20 ≤ tr) = true := by simpa using h20
            rw [if_pos h20] at HD2
            go_wp2_with fail
            go_roundw
            case rel => exact ⟨k + 1, c + 1, d + 1, by omega, by go_num, by go_num, by go_num, by omega, by omega, HC2, HD2, HB4.out⟩
            case measure => simp [intOf]; omega
          · have hd20 : decide (20 ≤ tr) = false := by simpa using h20
            rw [if_neg h20] at HD2
            go_wp2_with fail
            go_roundw
            case rel => exact ⟨k + 1, c + 1, d, by omega, by go_num, by go_num, rfl, by omega, by omega, HC2, HD2, HB4.out⟩
            case measure => simp [intOf]; omega
      · have hkd : decide (k < N) = false := by simpa using hlt
        obtain rfl : k = N := by omega
        have HF := Lib.hid (show ansCt ts = .tuple #[.int .i64 (c : Nat), .int .i64 (d : Nat), .bool true] by
          unfold ansCt
          rw [HG.out, if_pos rfl, ← pt.count_teams, ← pt.count_able (fun s => decide (20 ≤ pt.trS s)), hL.out, HN.out, HC.out, HD.out])
        clear hlt
        go_wp2_with fail
        exact bodyPost_ret (v := .tuple #[.int .i64 (c : Nat), .int .i64 (d : Nat), .bool true]) (by simp [results, Try.results37, go_sem]) rfl ⟨by rw [HF.out], HB1.out⟩
#print axioms countTeams_model
end Go.Proofs.Ytidofckanadkpaa.pq
