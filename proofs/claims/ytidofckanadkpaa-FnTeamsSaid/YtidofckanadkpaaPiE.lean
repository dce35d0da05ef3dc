/-
  IsTeam, SkillsOf, MissingSkills, WithSkills, by the program.
  Conditions: the lists have at most 2000000 elements and lie in one block each; names have at most 1048576 bytes.
-/
import Derived.Test.YtidofckanadkpaaPiD
namespace Go.Proofs.Ytidofckanadkpaa.pi5
open Go.RowKit
open reads base inn ty rowi psk psl psm psn pso psp pq
set_option linter.unusedVariables false
set_option linter.unusedSimpArgs false

/-- the people whose Ids a list has -/
def mb (ts : List Ps) (xs : List Int) : List Ps := if psg.good ts then pt.gre ts xs else []
theorem mb_sub (ts : List Ps) (xs : List Int) : (mb ts xs).Sublist ts := by
  unfold mb; split
  · exact pt.gre_sub ts xs
  · exact List.nil_sublist _
theorem mb_ids {ts : List Ps} {xs : List Int} (h : asked ts xs = true) : pt.ids (mb ts xs) = xs := by
  have hg := (asked_parts h).2.1
  have e := pt.gre_asked (xs := xs) (good_asc hg) (good_id hg)
  unfold asked at h
  rw [hg, Bool.and_true] at h
  rw [h, decide_eq_true_eq] at e
  unfold mb; rw [hg, if_pos rfl]
  exact pt.gre_all e
theorem mb_team {ts : List Ps} {xs : List Int} (h : asked ts xs = true) : team ts xs = pt.teamS (mb ts xs) := by
  have e := pt.team_is (good_asc (asked_parts h).2.1) (s := mb ts xs) (fun x hx => (mb_sub ts xs).subset hx)
  rwa [mb_ids h] at e
theorem mb_skills {ts : List Ps} {xs : List Int} (h : asked ts xs = true) : skN ts xs xs.length = pt.orS (mb ts xs) := by
  have e := pt.skN_all (good_asc (asked_parts h).2.1) (s := mb ts xs) (fun x hx => (mb_sub ts xs).subset hx)
  rwa [mb_ids h] at e
theorem mb_okS {ts : List Ps} (xs : List Int) (h : psg.good ts = true) : pt.okS (mb ts xs) := fun t ht => good_okS h t ((mb_sub ts xs).subset ht)
theorem mb_len {ts : List Ps} (xs : List Int) : (mb ts xs).length ≤ ts.length := (mb_sub ts xs).length_le
set_option maxHeartbeats 4000000 in
set_option maxRecDepth 100000 in
theorem membersOf_is (A : Option Addr) (n cap : Nat) (ts : List Ps) (A' : Option Addr) (m cap' : Nat) (xs : List Int) (P : List Ps) (q : Bool) (w : World) (hn : n ≤ 2000000) (hm : m ≤ 2000000) (hs : Hid (∀ t ∈ ts, t.name.size ≤ 1048576)) (hts : Hid (PsAt w w.heap.size A n ts)) (hxs : Hid (InAt w w.heap.size A' m xs)) (hP : Hid (mb ts xs = P)) (hq : Hid ((asked ts xs && team ts xs) = q)) :
    Calls Try.prog 69 #[.slice A n cap, .slice A' m cap'] w (PPost P q w) := by
  have hL : Hid (ts.length = n) := Lib.hid hts.out.1
  have HPI := Lib.hid (show (if psg.good ts then pt.gre ts xs else []) = P from hP.out)
  obtain ⟨p, HPL⟩ : ∃ p, Hid (P.length = p) := ⟨_, Lib.hid rfl⟩
  have hpn : p ≤ n := by rw [← HPL.out, ← hP.out, ← hL.out]; exact mb_len xs
  cases ha : asked ts xs
  · have HA := Lib.hid ha
    obtain rfl : q = false := by rw [← hq.out, ha]; rfl
    clear ha
    go_enter Try.func69, Try.ntmps69
    go_wp2_with fail
    refine (withIds_is A n cap ts A' m cap' xs _ hn hm hs hts hxs).mono ?_
    rintro e w1 ⟨v, rfl, ho, b1⟩
    rw [HPI.out, HPL.out] at ho
    have HO := Lib.hid ho
    obtain ⟨A3, c3, rfl⟩ := row_slice ho
    have HB := Lib.hid b1
    rw [HA.out]
    clear b1 ho
    go_wp2_with fail
    go_ret2
    exact ⟨.slice A3 p c3, rfl, by rw [HPL.out]; exact HO.out, HB.out⟩
  · have HA := Lib.hid ha
    have HOK := Lib.hid (show pt.okS P by rw [← hP.out]; exact mb_okS xs (asked_parts ha).2.1)
    have HT := Lib.hid (show pt.teamS P = q by rw [← hq.out, ha, ← hP.out, mb_team ha]; rfl)
    clear ha
    go_enter Try.func69, Try.ntmps69
    go_wp2_with fail
    refine (withIds_is A n cap ts A' m cap' xs _ hn hm hs hts hxs).mono ?_
    rintro e w1 ⟨v, rfl, ho, b1⟩
    rw [HPI.out, HPL.out] at ho
    have HO := Lib.hid ho
    obtain ⟨A3, c3, rfl⟩ := row_slice ho
    have HB := Lib.hid b1
    have HPA := Lib.hid (own_Ps HPL.out ho)
    rw [HA.out]
    clear b1 ho
    go_wp2_with fail
    refine (areTeam_is A3 p c3 P q _ (by omega) HOK HPA HT).mono ?_
    rintro e w2 ⟨rfl, b2⟩
    have HB2 := Lib.hid (HB.out.trans (b2.mono HB.out.size))
    have HO2 := Lib.hid (row_below HO.out b2)
    clear b2
    go_wp2_with fail
    go_ret2
    exact ⟨.slice A3 p c3, rfl, by rw [HPL.out]; exact HO2.out, HB2.out⟩
set_option maxHeartbeats 4000000 in
set_option maxRecDepth 100000 in
theorem isTeam_is (A : Option Addr) (n cap : Nat) (ts : List Ps) (A' : Option Addr) (m cap' : Nat) (xs : List Int) (v : Value) (w : World) (hv : Hid (ansIs ts xs = v)) (hn : n ≤ 2000000) (hm : m ≤ 2000000) (hs : Hid (∀ t ∈ ts, t.name.size ≤ 1048576)) (hts : Hid (PsAt w w.heap.size A n ts)) (hxs : Hid (InAt w w.heap.size A' m xs)) :
    Calls Try.prog 19 #[.slice A n cap, .slice A' m cap'] w (APost v w) := by
  have hL : Hid (ts.length = n) := Lib.hid hts.out.1
  obtain ⟨P, HP⟩ : ∃ P, Hid (mb ts xs = P) := ⟨_, Lib.hid rfl⟩
  have HPI := Lib.hid (show (if psg.good ts then pt.gre ts xs else []) = P from HP.out)
  obtain ⟨p, HPL⟩ : ∃ p, Hid (P.length = p) := ⟨_, Lib.hid rfl⟩
  have hpn : p ≤ n := by rw [← HPL.out, ← HP.out, ← hL.out]; exact mb_len xs
  cases ha : asked ts xs
  · have HA := Lib.hid ha
    have HF := Lib.hid (show v = .tuple #[.bool false, .bool false] by rw [← hv.out]; unfold ansIs; rw [ha]; rfl)
    clear ha
    go_enter Try.func19, Try.ntmps19
    go_wp2_with fail
    refine (withIds_is A n cap ts A' m cap' xs _ hn hm hs hts hxs).mono ?_
    rintro e w1 ⟨v, rfl, ho, b1⟩
    rw [HPI.out, HPL.out] at ho
    obtain ⟨A3, c3, rfl⟩ := row_slice ho
    have HB := Lib.hid b1
    rw [HA.out]
    clear b1 ho
    go_wp2_with fail
    go_ret2
    exact ⟨by rw [HF.out]; rfl, HB.out⟩
  · have HA := Lib.hid ha
    have HOK := Lib.hid (show pt.okS P by rw [← HP.out]; exact mb_okS xs (asked_parts ha).2.1)
    obtain ⟨q, HT⟩ : ∃ q, Hid (pt.teamS P = q) := ⟨_, Lib.hid rfl⟩
    have HF := Lib.hid (show v = .tuple #[.bool q, .bool true] by rw [← hv.out]; unfold ansIs; rw [ha, if_pos rfl, mb_team ha, HP.out, HT.out])
    clear ha
    go_enter Try.func19, Try.ntmps19
    go_wp2_with fail
    refine (withIds_is A n cap ts A' m cap' xs _ hn hm hs hts hxs).mono ?_
    rintro e w1 ⟨v, rfl, ho, b1⟩
    rw [HPI.out, HPL.out] at ho
    obtain ⟨A3, c3, rfl⟩ := row_slice ho
    have HB := Lib.hid b1
    have HPA := Lib.hid (own_Ps HPL.out ho)
    rw [HA.out]
    clear b1 ho
    go_wp2_with fail
    refine (areTeam_is A3 p c3 P q _ (by omega) HOK HPA HT).mono ?_
    rintro e w2 ⟨rfl, b2⟩
    have HB2 := Lib.hid (HB.out.trans (b2.mono HB.out.size))
    clear b2
    go_wp2_with fail
    go_ret2
    exact ⟨by rw [HF.out]; rfl, HB2.out⟩
set_option maxHeartbeats 4000000 in
set_option maxRecDepth 100000 in
theorem skillsOf_is (A : Option Addr) (n cap : Nat) (ts : List Ps) (A' : Option Addr) (m cap' : Nat) (xs : List Int) (v : Value) (w : World) (hv : Hid (ansSk ts xs = v)) (hn : n ≤ 2000000) (hm : m ≤ 2000000) (hs : Hid (∀ t ∈ ts, t.name.size ≤ 1048576)) (hts : Hid (PsAt w w.heap.size A n ts)) (hxs : Hid (InAt w w.heap.size A' m xs)) :
    Calls Try.prog 29 #[.slice A n cap, .slice A' m cap'] w (APost v w) := by
  have hL : Hid (ts.length = n) := Lib.hid hts.out.1
  obtain ⟨P, HP⟩ : ∃ P, Hid (mb ts xs = P) := ⟨_, Lib.hid rfl⟩
  obtain ⟨p, HPL⟩ : ∃ p, Hid (P.length = p) := ⟨_, Lib.hid rfl⟩
  have hpn : p ≤ n := by rw [← HPL.out, ← HP.out, ← hL.out]; exact mb_len xs
  cases hq : (asked ts xs && team ts xs)
  · have HQ := Lib.hid hq
    have HF := Lib.hid (show v = .tuple #[.int .i64 0, .bool false] by rw [← hv.out]; unfold ansSk; rw [hq]; rfl)
    clear hq
    go_enter Try.func29, Try.ntmps29
    go_wp2_with fail
    refine (membersOf_is A n cap ts A' m cap' xs P false _ hn hm hs hts hxs HP HQ).mono ?_
    rintro e w1 ⟨v, rfl, ho, b1⟩
    rw [HPL.out] at ho
    obtain ⟨A3, c3, rfl⟩ := row_slice ho
    have HB := Lib.hid b1
    clear b1 ho
    go_wp2_with fail
    go_ret2
    exact ⟨by rw [HF.out]; rfl, HB.out⟩
  · have HQ := Lib.hid hq
    have ha : asked ts xs = true := by rw [Bool.and_eq_true] at hq; exact hq.1
    have HOK := Lib.hid (show pt.okS P by rw [← HP.out]; exact mb_okS xs (asked_parts ha).2.1)
    obtain ⟨sk, HSK⟩ : ∃ q, Hid (pt.orS P = q) := ⟨_, Lib.hid rfl⟩
    have HF := Lib.hid (show v = .tuple #[.int .i64 sk, .bool true] by rw [← hv.out]; unfold ansSk; rw [hq, if_pos rfl, mb_skills ha, HP.out, HSK.out])
    clear ha hq
    go_enter Try.func29, Try.ntmps29
    go_wp2_with fail
    refine (membersOf_is A n cap ts A' m cap' xs P true _ hn hm hs hts hxs HP HQ).mono ?_
    rintro e w1 ⟨v, rfl, ho, b1⟩
    rw [HPL.out] at ho
    obtain ⟨A3, c3, rfl⟩ := row_slice ho
    have HB := Lib.hid b1
    have HPA := Lib.hid (own_Ps HPL.out ho)
    clear b1 ho
    go_wp2_with fail
    refine (skillsTogether_is A3 p c3 P sk _ (by omega) HOK HPA HSK).mono ?_
    rintro e w2 ⟨rfl, b2⟩
    have HB2 := Lib.hid (HB.out.trans (b2.mono HB.out.size))
    clear b2
    go_wp2_with fail
    go_ret2
    exact ⟨by rw [HF.out]; rfl, HB2.out⟩
theorem not_nat : ∀ a b : Fin 16, (BitVec.ofNat 64 a.val &&& ~~~BitVec.ofNat 64 b.val).toNat = a.val - (a.val &&& b.val) := by decide
theorem not_wrap {x y : Int} (hx : 0 ≤ x ∧ x ≤ 15) (hy : 0 ≤ y ∧ y ≤ 15) : IntKind.i64.wrap (((BitVec.ofInt 64 x &&& ~~~BitVec.ofInt 64 y).toNat : Nat) : Int) = x - andI x y := by
  obtain ⟨a, rfl⟩ := pt.nat_of hx
  obtain ⟨b, rfl⟩ := pt.nat_of hy
  have h : a.val &&& b.val ≤ a.val := Nat.and_le_left
  rw [BitVec.ofInt_natCast, BitVec.ofInt_natCast, not_nat a b, pt.andI_nat, IntWalk.i64_in _ (by omega)]
  omega
set_option maxHeartbeats 4000000 in
set_option maxRecDepth 100000 in
theorem missing_is (A : Option Addr) (n cap : Nat) (ts : List Ps) (A' : Option Addr) (m cap' : Nat) (xs : List Int) (q : Int) (v : Value) (w : World) (hv : Hid (ansMs ts xs q = v)) (hn : n ≤ 2000000) (hm : m ≤ 2000000) (hs : Hid (∀ t ∈ ts, t.name.size ≤ 1048576)) (hts : Hid (PsAt w w.heap.size A n ts)) (hxs : Hid (InAt w w.heap.size A' m xs)) :
    Calls Try.prog 20 #[.slice A n cap, .slice A' m cap', .int .i64 q] w (APost v w) := by
  have hL : Hid (ts.length = n) := Lib.hid hts.out.1
  obtain ⟨P, HP⟩ : ∃ P, Hid (mb ts xs = P) := ⟨_, Lib.hid rfl⟩
  obtain ⟨p, HPL⟩ : ∃ p, Hid (P.length = p) := ⟨_, Lib.hid rfl⟩
  have hpn : p ≤ n := by rw [← HPL.out, ← HP.out, ← hL.out]; exact mb_len xs
  cases hq : (asked ts xs && team ts xs)
  · have HQ := Lib.hid hq
    have HF := Lib.hid (show v = .tuple #[.int .i64 0, .bool false] by rw [← hv.out]; unfold ansMs; rw [← Bool.and_assoc, hq]; rfl)
    clear hq
    go_enter Try.func20, Try.ntmps20
    go_wp2_with fail
    refine (membersOf_is A n cap ts A' m cap' xs P false _ hn hm hs hts hxs HP HQ).mono ?_
    rintro e w1 ⟨v, rfl, ho, b1⟩
    rw [HPL.out] at ho
    obtain ⟨A3, c3, rfl⟩ := row_slice ho
    have HB := Lib.hid b1
    clear b1 ho
    go_wp2_with fail
    go_ret2
    exact ⟨by rw [HF.out]; rfl, HB.out⟩
  · have HQ := Lib.hid hq
    have ha : asked ts xs = true := by rw [Bool.and_eq_true] at hq; exact hq.1
    have HOK := Lib.hid (show pt.okS P by rw [← HP.out]; exact mb_okS xs (asked_parts ha).2.1)
    obtain ⟨sk, HSK⟩ : ∃ q, Hid (pt.orS P = q) := ⟨_, Lib.hid rfl⟩
    obtain ⟨r, HR⟩ : ∃ r, Hid (btw 0 q 15 = r) := ⟨_, Lib.hid rfl⟩
    have HF := Lib.hid (show v = if r then .tuple #[.int .i64 (q - andI q sk), .bool true] else .tuple #[.int .i64 0, .bool false] by rw [← hv.out]; unfold ansMs; rw [← Bool.and_assoc, hq, mb_skills ha, HP.out, HSK.out, HR.out]; rfl)
    clear ha hq
    go_enter Try.func20, Try.ntmps20
    go_wp2_with fail
    refine (membersOf_is A n cap ts A' m cap' xs P true _ hn hm hs hts hxs HP HQ).mono ?_
    rintro e w1 ⟨v, rfl, ho, b1⟩
    rw [HPL.out] at ho
    obtain ⟨A3, c3, rfl⟩ := row_slice ho
    have HB := Lib.hid b1
    have HPA := Lib.hid (own_Ps HPL.out ho)
    clear b1 ho
    go_wp2_with fail
    refine (areSkills_is q r HR _).mono ?_
    rintro e w2 ⟨rfl, b2⟩
    have HB2 := Lib.hid (HB.out.trans (b2.mono HB.out.size))
    have HPA2 := Lib.hid (HPA.out.step b2)
    clear b2
    cases r
    · go_wp2_with fail
      go_ret2
      exact ⟨by rw [HF.out]; rfl, HB2.out⟩
    have hqb := btw_yes HR.out
    have hskb := pt.orS_bd HOK.out
    rw [HSK.out] at hskb
    have hnot : bits .andNot .i64 q sk = q - andI q sk := not_wrap hqb hskb
    obtain ⟨z, hz⟩ : ∃ z, q - andI q sk = z := ⟨_, rfl⟩
    rw [hz] at hnot HF
    clear hz
    go_wp2_with fail
    refine (skillsTogether_is A3 p c3 P sk _ (by omega) HOK HPA2 HSK).mono ?_
    rintro e w3 ⟨rfl, b3⟩
    have HB3 := Lib.hid (HB2.out.trans (b3.mono HB2.out.size))
    clear b3
    go_wp2_with fail
    go_ret2
    exact ⟨by rw [HF.out]; rfl, HB3.out⟩
set_option maxHeartbeats 4000000 in
set_option maxRecDepth 100000 in
theorem withSkills_is (A : Option Addr) (n cap : Nat) (ts : List Ps) (q : Int) (I : List Int) (b : Bool) (w : World) (hI : Hid (wsIds ts q = I)) (hb : Hid (wsOk ts q = b)) (hn : n ≤ 2000000) (hs : Hid (∀ t ∈ ts, t.name.size ≤ 1048576)) (hts : Hid (PsAt w w.heap.size A n ts)) :
    Calls Try.prog 39 #[.slice A n cap, .int .i64 q] w (LPost I b w) := by
  obtain ⟨i0, hi, hz0, hz1, hz2⟩ := info_parts infoI
  have hL : Hid (ts.length = n) := Lib.hid hts.out.1
  cases hg : psg.good ts
  · have HG := Lib.hid hg
    obtain rfl : b = false := by rw [← hb.out]; unfold wsOk; rw [hg]; rfl
    obtain rfl : I = [] := by rw [← hI.out]; unfold wsIds; rw [hb.out]; rfl
    clear hg
    go_enter Try.func39, Try.ntmps39
    go_wp2_with fail
    refine (people_is A n cap ts false _ hn hs hts HG).mono ?_
    rintro e w1 ⟨rfl, b1⟩
    have HB := Lib.hid b1
    have hBs := b1.size
    clear b1
    have HR := Lib.hid (show (w1.alloc (.cells #[] 3)).ownsRow w.heap.size 3 1 (.slice (some ⟨w1.heap.size, 0, none⟩) 0 0) 0 [] from World.ownsRow_made w1 #[] 0 hBs (by decide) (by simp))
    go_wp2_with fail
    go_ret2
    exact ⟨.slice (some ⟨w1.heap.size, 0, none⟩) 0 0, rfl, HR.out, HB.out.alloc hBs _⟩
  cases hq : btw 0 q 15
  · have HG := Lib.hid hg
    have HQ := Lib.hid hq
    obtain rfl : b = false := by rw [← hb.out]; unfold wsOk; rw [hg, hq]; rfl
    obtain rfl : I = [] := by rw [← hI.out]; unfold wsIds; rw [hb.out]; rfl
    clear hg hq
    go_enter Try.func39, Try.ntmps39
    go_wp2_with fail
    refine (people_is A n cap ts true _ hn hs hts HG).mono ?_
    rintro e w1 ⟨rfl, b1⟩
    have HB := Lib.hid b1
    clear b1
    go_wp2_with fail
    refine (areSkills_is q false HQ _).mono ?_
    rintro e w2 ⟨rfl, b2⟩
    have HB2 := Lib.hid (HB.out.trans (b2.mono HB.out.size))
    have hBs := HB2.out.size
    clear b2
    have HR := Lib.hid (show (w2.alloc (.cells #[] 3)).ownsRow w.heap.size 3 1 (.slice (some ⟨w2.heap.size, 0, none⟩) 0 0) 0 [] from World.ownsRow_made w2 #[] 0 hBs (by decide) (by simp))
    go_wp2_with fail
    go_ret2
    exact ⟨.slice (some ⟨w2.heap.size, 0, none⟩) 0 0, rfl, HR.out, HB2.out.alloc hBs _⟩
  have HG := Lib.hid hg
  have HQ := Lib.hid hq
  have HK0 := Lib.hid (good_ok hg)
  have hqb := btw_yes hq
  have hn10 : n ≤ 10 := by rw [← hL.out]; exact good_len hg
  obtain rfl : b = true := by rw [← hb.out]; unfold wsOk; rw [hg, hq]; rfl
  have HI := Lib.hid (show wsN q ts n = I by rw [← hI.out]; unfold wsIds; rw [hb.out, hL.out]; rfl)
  clear hg hq
  go_enter Try.func39, Try.ntmps39
  go_wp2_with fail
  refine (people_is A n cap ts true _ hn hs hts HG).mono ?_
  rintro e w1 ⟨rfl, b1⟩
  have HB := Lib.hid b1
  clear b1
  go_wp2_with fail
  refine (areSkills_is q true HQ _).mono ?_
  rintro e w2 ⟨rfl, b2⟩
  have HB2 := Lib.hid (HB.out.trans (b2.mono HB.out.size))
  have hBs := HB2.out.size
  have HR := Lib.hid (show (w2.alloc (.cells #[] 3)).ownsRow w.heap.size 3 1 (.slice (some ⟨w2.heap.size, 0, none⟩) 0 0) 0 [] from World.ownsRow_made w2 #[] 0 hBs (by decide) (by simp))
  have HE := Lib.hid (HB2.out.alloc hBs (.cells #[] 3))
  clear b2 hBs
  go_wp2_with fail
  go_loopw [6, 21] (fun v i wr => ∃ (k m c : Nat) (A3 : Option Addr) (ids : List Int), k ≤ n ∧ i = .int .i64 k ∧ v = .slice A3 m c ∧ Hid (ids.length = m) ∧ Hid (wsN q ts k = ids) ∧ Hid (wr.ownsRow w.heap.size 3 1 (.slice A3 m c) m (ints.intsV ids)) ∧ Below w.heap.size w wr) (fun _ i _ => n - (intOf i).toNat)
  case atStart => exact ⟨0, 0, _, _, [], Nat.zero_le _, rfl, rfl, Lib.hid rfl, Lib.hid rfl, HR, HE.out⟩
  case round =>
    obtain ⟨k, m, c, A3, ids, hk, rfl, rfl, HM, HD, HO, hB⟩ := hrel
    have hlen : m ≤ 10 := by rw [← HM.out, ← HD.out]; have := wsN_len q ts k; omega
    have hBs := hB.size
    have HBr := Lib.hid hB
    clear hB HE HR
    by_cases hlt : k < n
    · obtain ⟨t, htk⟩ := at_lt hL.out hlt
      obtain ⟨g, rfl, hgB, h0, h1, h2, h3⟩ := (hts.out.below HBr.out).2 k t htk
      have hsk := (ok_bd (HK0.out t (List.mem_of_getElem? htk))).1
      have HK := Lib.hid htk
      clear htk
      have hki : (k : Int) < (n : Int) := by omega
      have hk0 : 0 ≤ (k : Int) := by omega
      have hkd : decide (k < n) = true := by simpa using hlt
      obtain ⟨r, HHS⟩ : ∃ r, Hid (hasS t.skills q = r) := ⟨_, Lib.hid rfl⟩
      obtain ⟨X, HX⟩ : ∃ X, Hid (wr.heap.size = X) := ⟨_, Lib.hid rfl⟩
      obtain ⟨W, HW, HWO, HWB, HWC⟩ : ∃ W, Hid (wr.alloc (.cells #[.int .i64 t.id, .string t.name, .int .i64 t.skills, .int .i64 t.trips] 41) = W) ∧ Hid (W.ownsRow w.heap.size 3 1 (.slice A3 m c) m (ints.intsV ids)) ∧ Hid (Below w.heap.size w W) ∧ Hid (Blk W wr.heap.size 41 #[.int .i64 t.id, .string t.name, .int .i64 t.skills, .int .i64 t.trips]) := ⟨_, Lib.hid rfl, Lib.hid (HO.out.alloc _), Lib.hid (HBr.out.alloc hBs _), Lib.hid (Blk.new _ _ _)⟩
      rw [HX.out] at HWC
      have hWs := HWB.out.size
      go_wp2_with fail
      refine (hasSkills_is t.skills q r HHS hsk hqb _).mono ?_
      rintro e w3 ⟨rfl, rfl⟩
      rw [HW.out, HX.out]
      have cX := HWC.out.cell 0
      clear h0 h1 h2 h3 HW
      cases r
      · have HN := Lib.hid (show wsN q ts (k + 1) = ids by rw [wsN_no HK.out (by have := HHS.out; simpa [hasS] using this)]; exact HD.out)
        go_wp2_with fail
        go_roundw
        case rel => exact ⟨k + 1, m, c, A3, ids, by omega, by go_num, rfl, HM, HN, HWO, HWB.out⟩
        case measure => simp [intOf]; omega
      · have HN := Lib.hid (show wsN q ts (k + 1) = ids ++ [t.id] by rw [wsN_yes HK.out (by have := HHS.out; simpa [hasS] using this), HD.out])
        go_wp2_with (at_builtin; refine wpList_append_own _ rfl _ _ 27 rfl w.heap.size 3 i0 (.int .i64 0) 1 8 Try.underlying27 hi hz0 hz1 hz2 rfl (by decide) _ _ _ rfl (HWO.out.alloc _) ⟨W.heap.size, 0, none⟩ 1 1 [.int .i64 t.id] rfl rfl (cell_one_new _ _ _) (by simp [Value.oneCell']) (by unfold maxLen; omega) (by omega) (by simp; omega) ?_; intro v' w2 hown' hgrow _)
        obtain ⟨A9, c9, rfl⟩ := row_slice hown'
        go_roundw
        case rel =>
          refine ⟨k + 1, m + 1, c9, A9, ids ++ [t.id], by omega, by go_num, rfl, Lib.hid (by simp [HM.out]), HN, Lib.hid (by rw [intsV_app]; exact hown'), ?_⟩
          exact (HWB.out.alloc hWs _).grown hgrow (by simp; omega) (fun j ej => (HWO.out.lt j ej).1)
        case measure => simp [intOf]; omega
    · have hkd : decide (k < n) = false := by simpa using hlt
      obtain rfl : k = n := by omega
      obtain rfl : ids = I := by rw [← HD.out]; exact HI.out
      clear hlt
      go_wp2_with fail
      go_ret2
      exact ⟨.slice A3 m c, rfl, by rw [HM.out]; exact HO.out, HBr.out⟩
#print axioms membersOf_is
#print axioms isTeam_is
#print axioms skillsOf_is
#print axioms missing_is
#print axioms withSkills_is
end Go.Proofs.Ytidofckanadkpaa.pi5
