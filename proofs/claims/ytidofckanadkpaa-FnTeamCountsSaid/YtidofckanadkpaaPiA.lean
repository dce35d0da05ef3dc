/-
  The program's tests of a person: words, skills, bounds; a name among others.
  Conditions: names have at most 1048576 bytes; at most 2000000 names.
-/
import Derived.Test.YtidofckanadkpaaPqC
import Derived.Test.YtidofckanadkpaaWithin
namespace Go.Proofs.Ytidofckanadkpaa.pi5
open Go.RowKit
open reads base inn ty rowi psk psl psm psn pso psp pq
set_option linter.unusedVariables false
set_option linter.unusedSimpArgs false

set_option maxHeartbeats 4000000 in
set_option maxRecDepth 100000 in
theorem isWord_any (s : ByteArray) (t : Bool) (h : Hid (wrd.okW s = t)) (w : World) (hs : s.size ≤ 1048576) : Calls Try.prog 101 #[.string s] w (BPost t w) := by
  go_enter Try.func101, Try.ntmps101
  go_wp2_with fail
  go_loop [6] (fun i => ∃ k : Nat, k ≤ s.size ∧ i = .int .i64 k ∧ Hid ((s.data.toList.take k).all wrd.okC = true)) (fun i => s.size - (intOf i).toNat)
  case atStart => exact ⟨0, Nat.zero_le _, rfl, Lib.hid (by simp)⟩
  case round =>
    obtain ⟨k, hk, rfl, HI⟩ := hrel
    by_cases hlt : k < s.size
    · have hki : (k : Int) < (s.size : Int) := by omega
      have hk0 : 0 ≤ (k : Int) := by omega
      have hkd : decide (k < s.size) = true := by simpa using hlt
      have HA := Lib.hid (wrd.at_list s k hlt)
      cases hc : wrd.okC s[k]
      · have HF := Lib.hid (show false = t by rw [← h.out]; unfold wrd.okW; rw [all_no HA.out hc]; rfl)
        by_cases h1 : s[k].toNat < 97
        · have d1 : decide (s[k].toNat < 97) = true := by simpa using h1
          have d1' : decide ((s[k].toNat : Int) < 97) = true := by simp; omega
          clear hc
          go_wp2_with fail
          go_ret
          exact ⟨ret_bool HF.out, Below.refl _ _⟩
        · have h2 : 122 < s[k].toNat := by simp [wrd.okC] at hc; omega
          have d1 : decide (s[k].toNat < 97) = false := by simpa using h1
          have d1' : decide ((s[k].toNat : Int) < 97) = false := by simp; omega
          have d2 : decide (122 < s[k].toNat) = true := by simpa using h2
          have d2' : decide ((122 : Int) < (s[k].toNat : Int)) = true := by simp; omega
          clear hc
          go_wp2_with fail
          go_ret
          exact ⟨ret_bool HF.out, Below.refl _ _⟩
      · have HN := Lib.hid (all_take HA.out HI.out hc)
        have h3 : 97 ≤ s[k].toNat ∧ s[k].toNat ≤ 122 := by simpa [wrd.okC] using hc
        obtain ⟨h1, h2⟩ := h3
        have d1 : decide (s[k].toNat < 97) = false := by simp; omega
        have d1' : decide ((s[k].toNat : Int) < 97) = false := by simp; omega
        have d2 : decide (122 < s[k].toNat) = false := by simp; omega
        have d2' : decide ((122 : Int) < (s[k].toNat : Int)) = false := by simp; omega
        clear hc
        go_wp2_with fail
        go_round
        case rel => exact ⟨k + 1, by omega, by go_num, HN⟩
        case measure => simp [intOf]; omega
    · have hkd : decide (k < s.size) = false := by simpa using hlt
      obtain rfl : k = s.size := by omega
      have HF := Lib.hid (show win.allIn 1 10 [(s.size : Int)] = t by
        have q := HI.out
        rw [List.take_of_length_le (show s.data.toList.length ≤ s.size from Nat.le_refl _)] at q
        have h2 := h.out
        unfold wrd.okW at h2
        rw [q, Bool.true_and] at h2
        exact win.one_in h2)
      clear hlt
      go_wp2_with fail
      refine (win.within_new 1 10 _ [(s.size : Int)] 1 3 _ t _ _ rfl rfl (by decide) rfl HF.out).mono ?_
      rintro e w' ⟨rfl, rfl⟩
      go_wp2_with fail
      go_ret
      exact ⟨rfl, (Below.refl _ _).alloc (Nat.le_refl _) _⟩
theorem areSkills_is (x : Int) (t : Bool) (h : Hid (btw 0 x 15 = t)) (w : World) : Calls Try.prog 55 #[.int .i64 x] w (BPost t w) := by
  have HF := Lib.hid (win.one_in h.out)
  go_enter Try.func55, Try.ntmps55
  go_wp2_with fail
  refine (win.within_new 0 15 _ [x] 1 3 _ t _ _ rfl rfl (by decide) rfl HF.out).mono ?_
  rintro e w' ⟨rfl, rfl⟩
  go_wp2_with fail
  go_ret
  exact ⟨rfl, (Below.refl _ _).alloc (Nat.le_refl _) _⟩
/-- all of some skills -/
def hasS (x q : Int) : Bool := decide (andI x q = q)
theorem hasSkills_is (x q : Int) (t : Bool) (h : Hid (hasS x q = t)) (hx : 0 ≤ x ∧ x ≤ 15) (hq : 0 ≤ q ∧ q ≤ 15) (w : World) : Calls Try.prog 58 #[.int .i64 x, .int .i64 q] w fun e w' => e = .returned (.bool t) ∧ w = w' := by
  have hand : bits .and .i64 x q = andI x q := and_wrap2 hx hq
  by_cases hz : andI x q = q
  · have HF := Lib.hid (show true = t by rw [← h.out]; unfold hasS; rw [decide_eq_true hz])
    rw [hz] at hand
    clear hz
    go_enter Try.func58, Try.ntmps58
    go_wp2_with fail
    go_ret
    exact ⟨ret_bool HF.out, rfl⟩
  · have HF := Lib.hid (show false = t by rw [← h.out]; unfold hasS; rw [decide_eq_false hz])
    have hd : decide (andI x q = q) = false := by simpa using hz
    have hd' : (andI x q == q) = false := by simpa using hz
    go_enter Try.func58, Try.ntmps58
    go_wp2_with fail
    go_ret
    exact ⟨ret_bool HF.out, rfl⟩
set_option maxHeartbeats 4000000 in
set_option maxRecDepth 100000 in
theorem isPerson_is (x : Ps) (t : Bool) (h : Hid (psg.okP x = t)) (hs : x.name.size ≤ 1048576) (w : World) : Calls Try.prog 78 #[.agg #[.int .i64 x.id, .string x.name, .int .i64 x.skills, .int .i64 x.trips]] w (BPost t w) := by
  obtain ⟨X, HX⟩ : ∃ X, Hid (w.heap.size = X) := ⟨_, Lib.hid rfl⟩
  obtain ⟨W1, HW1⟩ : ∃ W1, Hid (w.alloc (.cells #[.int .i64 x.id, .string x.name, .int .i64 x.skills, .int .i64 x.trips] 41) = W1) := ⟨_, Lib.hid rfl⟩
  have HB1 := Lib.hid (show Below w.heap.size w W1 by rw [← HW1.out]; exact (Below.refl _ _).alloc (Nat.le_refl _) _)
  have HK1 := Lib.hid (show Blk W1 X 41 #[.int .i64 x.id, .string x.name, .int .i64 x.skills, .int .i64 x.trips] by rw [← HW1.out, ← HX.out]; exact Blk.new _ _ _)
  cases o1 : btw 1 x.id 99
  · have HF := Lib.hid (show false = t by rw [← h.out]; simp [psg.okP, o1])
    have HW := Lib.hid (win.one_in o1)
    clear o1
    go_enter Try.func78, Try.ntmps78
    go_wp2_with fail
    refine (win.within_new 1 99 _ [x.id] 1 3 _ false _ _ (by simp) rfl (by decide) rfl HW.out).mono ?_
    rintro e w' ⟨rfl, rfl⟩
    go_wp2_with fail
    go_ret
    exact ⟨ret_bool HF.out, ((Below.refl _ _).alloc (Nat.le_refl _) _).alloc (by simp) _⟩
  have HW := Lib.hid (win.one_in o1)
  have O1 := Lib.hid o1
  clear o1
  obtain ⟨t2, HO2⟩ : ∃ t2, Hid (wrd.okW x.name = t2) := ⟨_, Lib.hid rfl⟩
  go_enter Try.func78, Try.ntmps78
  go_wp2_with fail
  refine (win.within_new 1 99 _ [x.id] 1 3 _ true _ _ (by simp) rfl (by decide) rfl HW.out).mono ?_
  rintro e w' ⟨rfl, rfl⟩
  go_wp2_with fail
  refine (isWord_any x.name t2 HO2 _ hs).mono ?_
  rintro e w2 ⟨rfl, b2⟩
  rw [HW1.out] at b2
  have HB2 := Lib.hid (HB1.out.trans (((Below.refl _ _).alloc (Nat.le_refl _) _).mono HB1.out.size |>.trans (b2.mono (by simp; exact Nat.le_succ_of_le HB1.out.size))))
  have HK2 := Lib.hid ((HK1.out.alloc (.cells #[.int .i64 x.id] 3)).below b2 (by simp; exact Nat.lt_succ_of_lt HK1.out.lt))
  rw [HX.out]
  have c2 : w2.cell? ⟨X, 2, none⟩ = some (.int .i64 x.skills) := HK2.out.cell 2
  clear b2
  cases t2
  · have HF := Lib.hid (show false = t by rw [← h.out]; simp [psg.okP, HO2.out])
    go_wp2_with fail
    go_ret
    exact ⟨ret_bool HF.out, HB2.out⟩
  obtain ⟨t3, HO3⟩ : ∃ t3, Hid (btw 0 x.skills 15 = t3) := ⟨_, Lib.hid rfl⟩
  go_wp2_with fail
  refine (areSkills_is x.skills t3 HO3 _).mono ?_
  rintro e w3 ⟨rfl, b3⟩
  have HB3 := Lib.hid (HB2.out.trans (b3.mono HB2.out.size))
  have HK3 := Lib.hid (HK2.out.below b3 HK2.out.lt)
  have c3 : w3.cell? ⟨X, 3, none⟩ = some (.int .i64 x.trips) := HK3.out.cell 3
  clear b3 c2
  cases t3
  · have HF := Lib.hid (show false = t by rw [← h.out]; simp [psg.okP, HO3.out])
    go_wp2_with fail
    go_ret
    exact ⟨ret_bool HF.out, HB3.out⟩
  have HW4 := Lib.hid (show win.allIn 0 500 [x.trips] = t by
    refine win.one_in ?_
    rw [← h.out]; unfold psg.okP; rw [O1.out, HO2.out, HO3.out]; rfl)
  go_wp2_with fail
  refine (win.within_new 0 500 _ [x.trips] 1 3 _ t _ _ rfl rfl (by decide) rfl HW4.out).mono ?_
  rintro e w' ⟨rfl, rfl⟩
  go_wp2_with fail
  go_ret
  exact ⟨rfl, HB3.out.alloc HB3.out.size _⟩
/-- whether the element is there, and where -/
def IxPost (t : Bool) (w : World) (e : Ending) (w' : World) : Prop := ∃ r : Int, e = .returned (.int .i64 r) ∧ (-1 ≤ r ∧ r ≤ 2000000) ∧ decide (0 ≤ r) = t ∧ w = w'
/-- a name among others -/
def hasN (ns : List ByteArray) (a : ByteArray) : Bool := ns.any fun b => a.toList == b.toList
theorem hasN_no {ns : List ByteArray} {a : ByteArray} (h : ns.all (fun b => !(a.toList == b.toList)) = true) : hasN ns a = false := by
  rw [List.all_eq_true] at h
  unfold hasN; rw [List.any_eq_false]; intro x hx; have := h x hx; simpa using this
theorem hasN_yes {ns : List ByteArray} {a b : ByteArray} {k : Nat} (h : ns[k]? = some b) (e : (a.toList == b.toList) = true) : hasN ns a = true := by
  unfold hasN; rw [List.any_eq_true]; exact ⟨b, List.mem_of_getElem? h, e⟩
theorem strs_get {ns : List ByteArray} {k : Nat} {b : ByteArray} (h : ns[k]? = some b) : (strs ns)[k]? = some (.string b) := by simp [strs, h]
set_option maxHeartbeats 4000000 in
theorem index_str (A : Option Addr) (n c : Nat) (ns : List ByteArray) (a : ByteArray) (t : Bool) (h : Hid (hasN ns a = t)) (w : World) (hn : n ≤ 2000000) (hx : Hid (Reads w w.heap.size 1 A n (strs ns))) :
    Calls Try.prog 102 #[.slice A n c, .string a] w (IxPost t w) := by
  have hL : Hid (ns.length = n) := Lib.hid (by have := hx.out.1; rw [strs_len] at this; omega)
  go_enter Try.func102, Try.ntmps102
  go_wp2_with fail
  go_loop [8] (fun i => ∃ k : Nat, k ≤ n ∧ i = .int .i64 k ∧ Hid ((ns.take k).all (fun b => !(a.toList == b.toList)) = true)) (fun i => n - (intOf i).toNat)
  case atStart => exact ⟨0, Nat.zero_le _, rfl, Lib.hid (by simp)⟩
  case round =>
    obtain ⟨k, hk, rfl, HI⟩ := hrel
    have hk0 : 0 ≤ (k : Int) := by omega
    by_cases h1 : k < n
    · have hki : (k : Int) < (n : Int) := by omega
      have hkd : decide (k < n) = true := by simpa using h1
      obtain ⟨b, hbk⟩ := at_lt hL.out h1
      obtain ⟨ad, e1, -, hc⟩ := hx.out.2 (by omega)
      subst e1
      have e0 := hc k _ (strs_get hbk)
      have HK := Lib.hid hbk
      clear hbk hc
      cases he : (a.toList == b.toList)
      · have HN := Lib.hid (all_take (p := fun b => !(a.toList == b.toList)) HK.out HI.out (by simp only [he]; rfl))
        go_wp2_with fail
        go_round
        case rel => exact ⟨k + 1, by omega, by go_num, HN⟩
        case measure => simp [intOf]; omega
      · have HF := Lib.hid (show hasN ns a = true from hasN_yes HK.out he)
        go_wp2_with fail
        go_ret
        exact ⟨k, rfl, by omega, by rw [← h.out, HF.out]; simp, rfl⟩
    · have hkd : decide (k < n) = false := by simpa using h1
      obtain rfl : k = n := by omega
      have HF := Lib.hid (show hasN ns a = false from hasN_no (by have := HI.out; rwa [List.take_of_length_le (by rw [hL.out]; exact Nat.le_refl _)] at this))
      clear h1
      go_wp2_with fail
      go_ret
      exact ⟨-1, rfl, by omega, by rw [← h.out, HF.out]; rfl, rfl⟩
theorem contains_str (A : Option Addr) (n c : Nat) (ns : List ByteArray) (a : ByteArray) (t : Bool) (h : Hid (hasN ns a = t)) (w : World) (hn : n ≤ 2000000) (hx : Hid (Reads w w.heap.size 1 A n (strs ns))) :
    Calls Try.prog 79 #[.slice A n c, .string a] w fun e w' => e = .returned (.bool t) ∧ w = w' := by
  go_enter Try.func79, Try.ntmps79
  go_wp2_with fail
  refine (index_str A n c ns a t h _ hn hx).mono ?_
  rintro e w1 ⟨r, rfl, ⟨h1, h2⟩, h3, rfl⟩
  go_wp2_with fail
  go_ret
  exact ⟨rfl, rfl⟩
#print axioms isPerson_is
#print axioms contains_str
end Go.Proofs.Ytidofckanadkpaa.pi5
