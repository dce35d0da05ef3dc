/-
  How many teams without a common member are possible in a set of people, by the model.
  Conditions: the people are valid; the list lies in one block.
-/
import Derived.Test.YtidofckanadkpaaPqE
import Derived.Test.YtidofckanadkpaaMost
namespace Go.Proofs.Ytidofckanadkpaa.pq
open Go.RowKit
open reads base inn ty rowi psk psl psm psn pso psp
set_option linter.unusedVariables false
set_option linter.unusedSimpArgs false

def mn (a b : Int) : Int := if a < b then a else b
theorem least_is (a b v : Int) (h : Hid (mn a b = v)) (w : World) : Calls Try.prog 105 #[.int .i64 a, .int .i64 b] w fun e w' => e = .returned (.int .i64 v) ∧ w = w' := by
  have hh := h.out
  clear h
  by_cases c : a < b
  · obtain rfl : v = a := by rw [← hh]; exact if_pos c
    clear hh
    go_enter Try.func105, Try.ntmps105
    go_wp2_with fail
    go_ret
    exact ⟨rfl, rfl⟩
  · obtain rfl : v = b := by rw [← hh]; exact if_neg c
    have hd : decide (a < v) = false := by simpa using c
    clear hh c
    go_enter Try.func105, Try.ntmps105
    go_wp2_with fail
    go_ret
    exact ⟨rfl, rfl⟩
theorem class_of {t : Ps} (h : 0 ≤ t.skills ∧ t.skills ≤ 15) :
    (and3 t.skills = 0 ∧ pt.ob t = false ∧ pt.ot t = false ∧ pt.bo t = false) ∨ (and3 t.skills = 1 ∧ pt.ob t = true ∧ pt.ot t = false ∧ pt.bo t = false) ∨
    (and3 t.skills = 2 ∧ pt.ob t = false ∧ pt.ot t = true ∧ pt.bo t = false) ∨ (and3 t.skills = 3 ∧ pt.ob t = false ∧ pt.ot t = false ∧ pt.bo t = true) := by
  obtain ⟨a, ha⟩ := pt.nat_of h
  have e1 : andI t.skills 1 = ((a.val &&& 1 : Nat) : Int) := by rw [ha]; exact pt.andI_nat a.val 1
  have e2 : andI t.skills 2 = ((a.val &&& 2 : Nat) : Int) := by rw [ha]; exact pt.andI_nat a.val 2
  have e3 : and3 t.skills = ((a.val &&& 3 : Nat) : Int) := by rw [ha]; simp [and3]
  unfold pt.ob pt.ot pt.bo pt.bk pt.tp
  rw [e1, e2, e3]
  revert a
  intro a _ _ _ _
  have := cls a
  rcases this with ⟨q1, q2, q3⟩ | ⟨q1, q2, q3⟩ | ⟨q1, q2, q3⟩ | ⟨q1, q2, q3⟩ <;> simp [q1, q2, q3]
where
  cls : ∀ a : Fin 16, (a.val &&& 3 = 0 ∧ a.val &&& 1 = 0 ∧ a.val &&& 2 = 0) ∨ (a.val &&& 3 = 1 ∧ a.val &&& 1 = 1 ∧ a.val &&& 2 = 0) ∨ (a.val &&& 3 = 2 ∧ a.val &&& 1 = 0 ∧ a.val &&& 2 = 2) ∨ (a.val &&& 3 = 3 ∧ a.val &&& 1 = 1 ∧ a.val &&& 2 = 2) := by decide
/-- one person more or not -/
theorem cnt_take (p : Ps → Bool) {ts : List Ps} {k : Nat} {t : Ps} (j : Nat) (h : ts[k]? = some t) : (pt.pick j (ts.take (k + 1))).countP p = (pt.pick j (ts.take k)).countP p + (if j / 2 ^ k % 2 = 1 then (if p t then 1 else 0) else 0) := by
  rw [pt.pick_take j h, List.countP_append]
  split <;> simp [List.countP_cons]
set_option maxHeartbeats 8000000 in
set_option maxRecDepth 100000 in
theorem pairs_any (A : Option Addr) (n cap : Nat) (ts : List Ps) (j b y o : Nat) (w : World) (hn : n ≤ 60) (hj : j ≤ 1000000) (hk : Hid (pt.okS ts)) (hb : Hid ((pt.pick j ts).countP pt.ob = b)) (hy : Hid ((pt.pick j ts).countP pt.ot = y)) (ho : Hid ((pt.pick j ts).countP pt.bo = o)) (hts : Hid (PsAt w w.heap.size A n ts)) :
    Calls Try.prog 104 #[.slice A n cap, .int .i64 j] w fun e w' => e = .returned (.tuple #[.int .i64 b, .int .i64 y, .int .i64 o]) ∧ w = w' := by
  have hL : Hid (ts.length = n) := Lib.hid hts.out.1
  go_enter Try.func104, Try.ntmps104
  go_wp2_with fail
  go_loop [7, 8, 9, 10] (fun u7 u8 u9 i => ∃ k b1 y1 o1 : Nat, k ≤ n ∧ i = .int .i64 k ∧ u7 = .int .i64 b1 ∧ u8 = .int .i64 y1 ∧ u9 = .int .i64 o1 ∧ b1 ≤ k ∧ y1 ≤ k ∧ o1 ≤ k ∧ Hid ((pt.pick j (ts.take k)).countP pt.ob = b1) ∧ Hid ((pt.pick j (ts.take k)).countP pt.ot = y1) ∧ Hid ((pt.pick j (ts.take k)).countP pt.bo = o1)) (fun _ _ _ i => n - (intOf i).toNat)
  case atStart => exact ⟨0, 0, 0, 0, Nat.zero_le _, rfl, rfl, rfl, rfl, Nat.le_refl _, Nat.le_refl _, Nat.le_refl _, Lib.hid (by simp [pt.pick]), Lib.hid (by simp [pt.pick]), Lib.hid (by simp [pt.pick])⟩
  case round =>
    obtain ⟨k, b1, y1, o1, hkn, rfl, rfl, rfl, rfl, l1, l2, l3, HB, HY, HO⟩ := hrel
    have hk0 : 0 ≤ (k : Int) := by omega
    by_cases hlt : k < n
    · have hki : (k : Int) < (n : Int) := by omega
      have hkd : decide (k < n) = true := by simpa using hlt
      obtain ⟨t, htk⟩ := at_lt hL.out hlt
      obtain ⟨g, rfl, hg, h0, h1, h2, h3⟩ := hts.out.2 k t htk
      have c1 := cnt_take pt.ob j htk
      have c2 := cnt_take pt.ot j htk
      have c3 := cnt_take pt.bo j htk
      have hsk := hk.out t (List.mem_of_getElem? htk)
      have hbit := bit_is j k hj
      have hand : bits .and .i64 t.skills 3 = and3 t.skills := and_wrap hsk
      by_cases hz : j / 2 ^ k % 2 = 1
      · rw [hz] at hbit
        rw [if_pos hz] at c1 c2 c3
        rcases class_of hsk with ⟨q1, q2, q3, q4⟩ | ⟨q1, q2, q3, q4⟩ | ⟨q1, q2, q3, q4⟩ | ⟨q1, q2, q3, q4⟩
        · have HB2 := Lib.hid (show (pt.pick j (ts.take (k + 1))).countP pt.ob = b1 by rw [c1, HB.out, q2]; rfl)
          have HY2 := Lib.hid (show (pt.pick j (ts.take (k + 1))).countP pt.ot = y1 by rw [c2, HY.out, q3]; rfl)
          have HO2 := Lib.hid (show (pt.pick j (ts.take (k + 1))).countP pt.bo = o1 by rw [c3, HO.out, q4]; rfl)
          rw [q1] at hand
          clear c1 c2 c3 q1 q2 q3 q4 hz htk
          go_wp2_with fail
          go_round
          case rel => exact ⟨k + 1, b1, y1, o1, by omega, by go_num, rfl, rfl, rfl, by omega, by omega, by omega, HB2, HY2, HO2⟩
          case measure => simp [intOf]; omega
        · have HB2 := Lib.hid (show (pt.pick j (ts.take (k + 1))).countP pt.ob = b1 + 1 by rw [c1, HB.out, q2]; rfl)
          have HY2 := Lib.hid (show (pt.pick j (ts.take (k + 1))).countP pt.ot = y1 by rw [c2, HY.out, q3]; rfl)
          have HO2 := Lib.hid (show (pt.pick j (ts.take (k + 1))).countP pt.bo = o1 by rw [c3, HO.out, q4]; rfl)
          rw [q1] at hand
          clear c1 c2 c3 q1 q2 q3 q4 hz htk
          go_wp2_with fail
          go_round
          case rel => exact ⟨k + 1, b1 + 1, y1, o1, by omega, by go_num, by go_num, rfl, rfl, by omega, by omega, by omega, HB2, HY2, HO2⟩
          case measure => simp [intOf]; omega
        · have HB2 := Lib.hid (show (pt.pick j (ts.take (k + 1))).countP pt.ob = b1 by rw [c1, HB.out, q2]; rfl)
          have HY2 := Lib.hid (show (pt.pick j (ts.take (k + 1))).countP pt.ot = y1 + 1 by rw [c2, HY.out, q3]; rfl)
          have HO2 := Lib.hid (show (pt.pick j (ts.take (k + 1))).countP pt.bo = o1 by rw [c3, HO.out, q4]; rfl)
          rw [q1] at hand
          clear c1 c2 c3 q1 q2 q3 q4 hz htk
          go_wp2_with fail
          go_round
          case rel => exact ⟨k + 1, b1, y1 + 1, o1, by omega, by go_num, rfl, by go_num, rfl, by omega, by omega, by omega, HB2, HY2, HO2⟩
          case measure => simp [intOf]; omega
        · have HB2 := Lib.hid (show (pt.pick j (ts.take (k + 1))).countP pt.ob = b1 by rw [c1, HB.out, q2]; rfl)
          have HY2 := Lib.hid (show (pt.pick j (ts.take (k + 1))).countP pt.ot = y1 by rw [c2, HY.out, q3]; rfl)
          have HO2 := Lib.hid (show (pt.pick j (ts.take (k + 1))).countP pt.bo = o1 + 1 by rw [c3, HO.out, q4]; rfl)
          rw [q1] at hand
          clear c1 c2 c3 q1 q2 q3 q4 hz htk
          go_wp2_with fail
          go_round
          case rel => exact ⟨k + 1, b1, y1, o1 + 1, by omega, by go_num, rfl, rfl, by go_num, by omega, by omega, by omega, HB2, HY2, HO2⟩
          case measure => simp [intOf]; omega
      · rw [show j / 2 ^ k % 2 = 0 by omega] at hbit
        rw [if_neg hz] at c1 c2 c3
        have HB2 := Lib.hid (show (pt.pick j (ts.take (k + 1))).countP pt.ob = b1 by rw [c1, HB.out, Nat.add_zero])
        have HY2 := Lib.hid (show (pt.pick j (ts.take (k + 1))).countP pt.ot = y1 by rw [c2, HY.out, Nat.add_zero])
        have HO2 := Lib.hid (show (pt.pick j (ts.take (k + 1))).countP pt.bo = o1 by rw [c3, HO.out, Nat.add_zero])
        clear c1 c2 c3 hz htk
        go_wp2_with fail
        go_round
        case rel => exact ⟨k + 1, b1, y1, o1, by omega, by go_num, rfl, rfl, rfl, by omega, by omega, by omega, HB2, HY2, HO2⟩
        case measure => simp [intOf]; omega
    · have hkd : decide (k < n) = false := by simpa using hlt
      have ht : ts.take k = ts := List.take_of_length_le (by rw [hL.out]; omega)
      obtain rfl : b1 = b := by rw [← HB.out, ht, hb.out]
      obtain rfl : y1 = y := by rw [← HY.out, ht, hy.out]
      obtain rfl : o1 = o := by rw [← HO.out, ht, ho.out]
      clear hlt ht
      go_wp2_with fail
      exact bodyPost_ret (v := .tuple #[.int .i64 (b1 : Nat), .int .i64 (y1 : Nat), .int .i64 (o1 : Nat)]) (by simp [results, Try.results104, go_sem]) rfl ⟨rfl, rfl⟩
set_option maxHeartbeats 8000000 in
set_option maxRecDepth 100000 in
theorem most5 (A : Option Addr) (n cap : Nat) (ts : List Ps) (j v : Nat) (w : World) (hn : n ≤ 60) (hj : j ≤ 1000000) (hk : Hid (pt.okS ts)) (hv : Hid (pt.mostS (pt.pick j ts) = v)) (hts : Hid (PsAt w w.heap.size A n ts)) :
    Calls Try.prog 84 #[.slice A n cap, .int .i64 j] w fun e w' => e = .returned (.int .i64 v) ∧ w = w' := by
  obtain ⟨b, HB⟩ : ∃ b, Hid ((pt.pick j ts).countP pt.ob = b) := ⟨_, Lib.hid rfl⟩
  obtain ⟨y, HY⟩ : ∃ b, Hid ((pt.pick j ts).countP pt.ot = b) := ⟨_, Lib.hid rfl⟩
  obtain ⟨o, HO⟩ : ∃ b, Hid ((pt.pick j ts).countP pt.bo = b) := ⟨_, Lib.hid rfl⟩
  have bd : ∀ p, (pt.pick j ts).countP p ≤ 60 := fun p => by
    have h1 := List.countP_le_length (p := p) (l := pt.pick j ts)
    have h2 := pick_len j ts
    have h3 := hts.out.1
    omega
  have hb : b ≤ 60 := by rw [← HB.out]; exact bd _
  have hy : y ≤ 60 := by rw [← HY.out]; exact bd _
  have ho : o ≤ 60 := by rw [← HO.out]; exact bd _
  have HV := Lib.hid (show pt.most b y o = v by rw [← hv.out]; unfold pt.mostS; rw [HB.out, HY.out, HO.out])
  clear bd
  obtain ⟨c, HC⟩ : ∃ c : Nat, Hid (mn b y = (c : Int)) := ⟨min b y, Lib.hid (by unfold mn; split <;> omega)⟩
  obtain ⟨d, HD⟩ : ∃ d : Nat, Hid (mst.mx b y = (d : Int)) := ⟨max b y, Lib.hid (by unfold mst.mx; split <;> omega)⟩
  have hcd : c ≤ d ∧ d ≤ 60 := by
    have h1 := HC.out
    have h2 := HD.out
    unfold mn at h1
    unfold mst.mx at h2
    split at h1 <;> split at h2 <;> omega
  obtain ⟨hcd1, hd60⟩ := hcd
  obtain ⟨f, HF⟩ : ∃ f : Nat, Hid (mn ((d : Int) - c) o = (f : Int)) := ⟨min (d - c) o, Lib.hid (by unfold mn; split <;> omega)⟩
  have hfo : f ≤ o := by
    have h1 := HF.out
    unfold mn at h1
    split at h1 <;> omega
  have HV2 := Lib.hid (show mn 3 ((c : Int) + f + ((o : Int) - f) / 2) = (v : Int) by
    have h1 := HC.out
    have h2 := HD.out
    have h3 := HF.out
    have h4 := HV.out
    unfold mn at h1 h3 ⊢
    unfold mst.mx at h2
    unfold pt.most at h4
    split at h1 <;> split at h2 <;> split at h3 <;> split <;> omega)
  go_enter Try.func84, Try.ntmps84
  go_wp2_with fail
  refine (pairs_any A n cap ts j b y o _ hn hj hk HB HY HO hts).mono ?_
  rintro e w1 ⟨rfl, rfl⟩
  go_wp2_with fail
  refine (least_is _ _ c HC _).mono ?_
  rintro e w1 ⟨rfl, rfl⟩
  go_wp2_with fail
  refine (mst.most_is _ _ d HD _).mono ?_
  rintro e w1 ⟨rfl, rfl⟩
  go_wp2_with fail
  refine (least_is _ _ f HF _).mono ?_
  rintro e w1 ⟨rfl, rfl⟩
  go_wp2_with fail
  refine (least_is _ _ v HV2 _).mono ?_
  rintro e w1 ⟨rfl, rfl⟩
  go_wp2_with fail
  go_ret
  exact ⟨rfl, rfl⟩
#print axioms most5
end Go.Proofs.Ytidofckanadkpaa.pq
