/-
  The model's reading of a number: what it answers, at every text.
  Conditions: texts of at most 1048576 bytes.
-/
import Derived.Test.YtiojgmojnnbpiaaDoorNumMath
import Derived.Test.YtiojgmojnnbpiaaDoorFmtB
import Derived.Lib.Strings
namespace Go.Proofs.YtiojgmojnnbpiaaDoor.readc
open Go.RowKit
open nummath fmtb
set_option linter.unusedVariables false

/-- a text is the numeral of a number within the limits -/
def IsNum (s : ByteArray) (n : Int) : Prop := -999999 ≤ n ∧ n ≤ 999999 ∧ s.data.toList = Lib.itoa n

/-- what the reading answers -/
def RPost (s : ByteArray) (w : World) (e : Ending) (w' : World) : Prop :=
  ((∃ n, IsNum s n ∧ e = .returned (.tuple #[.int .i64 n, .bool true])) ∨ ((∀ n, ¬ IsNum s n) ∧ e = .returned (.tuple #[.int .i64 0, .bool false]))) ∧ ∃ m, w' = w.drewN m

/-- a text behind its sign, as the walk has it -/
def IsBody (s t : ByteArray) (sg : Bool) : Prop := neg s.data.toList = sg ∧ body s.data.toList = t.data.toList

theorem no_len {s t : ByteArray} {sg : Bool} (hb : IsBody s t sg) (h : t.size < 1 ∨ 6 < t.size) : ∀ n, ¬ IsNum s n := by
  rintro n ⟨h0, h1, e⟩
  have := num_len e h0 h1
  rw [hb.2] at this
  have hl : t.data.toList.length = t.size := rfl
  omega
theorem no_digit {s t : ByteArray} {sg : Bool} (hb : IsBody s t sg) (k : Nat) (hk : k < t.size) (h : t[k].toNat < 48 ∨ 57 < t[k].toNat) : ∀ n, ¬ IsNum s n := by
  rintro n ⟨h0, h1, e⟩
  have := num_digit e k t[k] (by rw [hb.2]; exact List.getElem?_eq_getElem hk)
  omega
theorem no_text {s t : ByteArray} {sg : Bool} (hb : IsBody s t sg) (v : Nat) (hv : Lib.decFrom 0 t.data.toList = some v) (x : Int) (hx : x = if sg = true then -(v : Int) else v) (h : s.data.toList ≠ Lib.itoa x) : ∀ n, ¬ IsNum s n := by
  rintro n ⟨h0, h1, e⟩
  obtain ⟨e1, e2⟩ := num_value e
  rw [hb.2, hv] at e1
  rw [hb.1] at e2
  have e3 : v = n.natAbs := Option.some.inj e1
  apply h
  rw [e]
  congr 1
  rw [hx]
  by_cases hn : n < 0
  · simp [e2, hn]; omega
  · simp [e2, hn]; omega
theorem pow_le {v k : Nat} (h : v < 10 ^ k) (hk : k < 6) : v < 100000 :=
  Nat.lt_of_lt_of_le h (Nat.pow_le_pow_right (by decide) (by omega : k ≤ 5))
theorem pow_six {v k : Nat} (h : v < 10 ^ k) (hk : k ≤ 6) : v < 1000000 :=
  Nat.lt_of_lt_of_le h (Nat.pow_le_pow_right (by decide) (by omega : k ≤ 6))


set_option maxHeartbeats 1000000 in
set_option maxRecDepth 100000 in
theorem read_short (s : ByteArray) (w : World) (hs : s.size ≤ 1048576) (h1 : s.size ≤ 1) :
    Calls Tryd.prog 58 #[.string s] w (RPost s w) := by
  have HB := Lib.hid (show IsBody s s false from by
    have e : neg s.data.toList = false := by
      have hl : s.data.toList.length = s.size := rfl
      simp [neg]; omega
    exact ⟨e, by simp [body, e]⟩)
  by_cases hlen : s.size < 1 ∨ 6 < s.size
  · have HL := Lib.hid hlen
    have hin : (s.size : Int) < 1 ∨ 6 < (s.size : Int) := by omega
    have HN := Lib.hid hin
    clear hlen hin
    go_enter Tryd.func58, Tryd.ntmps58
    go_wp2_with fail
    refine (in_no _ _ _ _ HN.out).mono ?_
    rintro e w' ⟨rfl, rfl⟩
    go_wp2_with fail
    go_ret2
    exact ⟨.inr ⟨no_len HB.out HL.out, rfl⟩, 0, rfl⟩
  · have hl1 : 1 ≤ (s.size : Int) := by omega
    have hl2 : (s.size : Int) ≤ 6 := by omega
    have hl3 : s.size ≤ 6 := by omega
    clear hlen
    go_enter Tryd.func58, Tryd.ntmps58
    go_wp2_with fail
    refine (in_yes _ _ _ _ hl1 hl2).mono ?_
    rintro e w' ⟨rfl, rfl⟩
    go_wp2_with fail
    go_loop [5, 6] (fun x i => ∃ k : Nat, k ≤ s.size ∧ i = .int .i64 k ∧ ∃ v : Nat, x = .int .i64 v ∧ Hid (v < 10 ^ k ∧ Lib.decFrom 0 (s.data.toList.take k) = some v)) (fun _ i => s.size - (intOf i).toNat)
    case atStart => exact ⟨0, Nat.zero_le _, rfl, 0, rfl, by show _ ∧ _; exact ⟨by decide, rfl⟩⟩
    case round =>
      obtain ⟨k, hk, rfl, v, rfl, HV⟩ := hrel
      by_cases hlt : k < s.size
      · have hv5 : v < 100000 := pow_le HV.out.1 (by omega)
        by_cases hd : s[k].toNat < 48 ∨ 57 < s[k].toNat
        · have HD := Lib.hid (no_digit HB.out k hlt hd)
          by_cases hd1 : s[k].toNat < 48
          · clear hd
            go_wp2_with fail
            go_ret2
            exact ⟨.inr ⟨HD.out, rfl⟩, 0, rfl⟩
          · have hd2 : 57 < s[k].toNat := by omega
            clear hd
            go_wp2_with fail
            go_ret2
            exact ⟨.inr ⟨HD.out, rfl⟩, 0, rfl⟩
        · have hd1 : 48 ≤ s[k].toNat := by omega
          have hd2 : s[k].toNat ≤ 57 := by omega
          have HS := Lib.hid (from_take s.data.toList k v s[k] HV.out.2 (List.getElem?_eq_getElem hlt) hd1 hd2)
          clear hd
          go_wp2_with fail
          go_round
          case rel =>
            refine ⟨k + 1, by omega, by go_num, v * 10 + (s[k].toNat - 48), ?_, ?_⟩
            · congr 1; omega
            · show _ ∧ _
              refine ⟨?_, HS.out⟩
              have := HV.out.1
              rw [Nat.pow_succ]; omega
          case measure => simp [intOf]; omega
      · have hv6 : v < 1000000 := pow_six HV.out.1 (by omega)
        have HF := Lib.hid (show Lib.decFrom 0 s.data.toList = some v by have := HV.out.2; rwa [List.take_of_length_le (by show s.size ≤ _; omega)] at this)
        clear HV
        by_cases hq : s.data.toList = Lib.itoa (v : Int)
        · have b1 : (Lib.itoa (v : Int) == s.toList) = true := by rw [ByteArray.toList_eq, hq]; simp
          have HQ := Lib.hid hq
          clear hq
          have ht : ¬ s.size < s.size := by omega
          go_wp2_with fail
          refine (nums.num_any _ _ (by omega) (by omega)).mono ?_
          rintro e w' ⟨rfl, m, rfl⟩
          go_wp2_with fail
          go_ret2
          exact ⟨.inl ⟨_, ⟨by omega, by omega, HQ.out⟩, rfl⟩, _, rfl⟩
        · have b1 : (Lib.itoa (v : Int) == s.toList) = false := by rw [ByteArray.toList_eq]; simpa using fun e => hq e.symm
          have HQ := Lib.hid (no_text HB.out v HF.out (v : Int) (by simp) hq)
          clear hq
          have ht : ¬ s.size < s.size := by omega
          go_wp2_with fail
          refine (nums.num_any _ _ (by omega) (by omega)).mono ?_
          rintro e w' ⟨rfl, m, rfl⟩
          go_wp2_with fail
          go_ret2
          exact ⟨.inr ⟨HQ.out, rfl⟩, _, rfl⟩

set_option maxHeartbeats 1000000 in
set_option maxRecDepth 100000 in
theorem read_plain (s : ByteArray) (w : World) (hs : s.size ≤ 1048576) (h1 : 1 < s.size) (h2 : s[0].toNat ≠ 45) :
    Calls Tryd.prog 58 #[.string s] w (RPost s w) := by
  have HB := Lib.hid (show IsBody s s false from by
    have e : neg s.data.toList = false := by
      have e0 : s.data.toList.head? = some s[0] := by rw [List.head?_eq_getElem?]; exact List.getElem?_eq_getElem (by show 0 < s.size; omega)
      have e1 : s[0] ≠ 45 := by intro e; apply h2; rw [e]; rfl
      rw [neg, e0]; simp [e1]
    exact ⟨e, by simp [body, e]⟩)
  have b0 : (s[0].toNat == 45) = false := by simpa using h2
  have b00 : ((s[0].toNat : Int) == 45) = false := by simp; omega
  clear h2
  by_cases hlen : s.size < 1 ∨ 6 < s.size
  · have HL := Lib.hid hlen
    have hin : (s.size : Int) < 1 ∨ 6 < (s.size : Int) := by omega
    have HN := Lib.hid hin
    clear hlen hin
    go_enter Tryd.func58, Tryd.ntmps58
    go_wp2_with fail
    refine (in_no _ _ _ _ HN.out).mono ?_
    rintro e w' ⟨rfl, rfl⟩
    go_wp2_with fail
    go_ret2
    exact ⟨.inr ⟨no_len HB.out HL.out, rfl⟩, 0, rfl⟩
  · have hl1 : 1 ≤ (s.size : Int) := by omega
    have hl2 : (s.size : Int) ≤ 6 := by omega
    have hl3 : s.size ≤ 6 := by omega
    clear hlen
    go_enter Tryd.func58, Tryd.ntmps58
    go_wp2_with fail
    refine (in_yes _ _ _ _ hl1 hl2).mono ?_
    rintro e w' ⟨rfl, rfl⟩
    go_wp2_with fail
    go_loop [5, 6] (fun x i => ∃ k : Nat, k ≤ s.size ∧ i = .int .i64 k ∧ ∃ v : Nat, x = .int .i64 v ∧ Hid (v < 10 ^ k ∧ Lib.decFrom 0 (s.data.toList.take k) = some v)) (fun _ i => s.size - (intOf i).toNat)
    case atStart => exact ⟨0, Nat.zero_le _, rfl, 0, rfl, by show _ ∧ _; exact ⟨by decide, rfl⟩⟩
    case round =>
      obtain ⟨k, hk, rfl, v, rfl, HV⟩ := hrel
      by_cases hlt : k < s.size
      · have hv5 : v < 100000 := pow_le HV.out.1 (by omega)
        by_cases hd : s[k].toNat < 48 ∨ 57 < s[k].toNat
        · have HD := Lib.hid (no_digit HB.out k hlt hd)
          by_cases hd1 : s[k].toNat < 48
          · clear hd
            go_wp2_with fail
            go_ret2
            exact ⟨.inr ⟨HD.out, rfl⟩, 0, rfl⟩
          · have hd2 : 57 < s[k].toNat := by omega
            clear hd
            go_wp2_with fail
            go_ret2
            exact ⟨.inr ⟨HD.out, rfl⟩, 0, rfl⟩
        · have hd1 : 48 ≤ s[k].toNat := by omega
          have hd2 : s[k].toNat ≤ 57 := by omega
          have HS := Lib.hid (from_take s.data.toList k v s[k] HV.out.2 (List.getElem?_eq_getElem hlt) hd1 hd2)
          clear hd
          go_wp2_with fail
          go_round
          case rel =>
            refine ⟨k + 1, by omega, by go_num, v * 10 + (s[k].toNat - 48), ?_, ?_⟩
            · congr 1; omega
            · show _ ∧ _
              refine ⟨?_, HS.out⟩
              have := HV.out.1
              rw [Nat.pow_succ]; omega
          case measure => simp [intOf]; omega
      · have hv6 : v < 1000000 := pow_six HV.out.1 (by omega)
        have HF := Lib.hid (show Lib.decFrom 0 s.data.toList = some v by have := HV.out.2; rwa [List.take_of_length_le (by show s.size ≤ _; omega)] at this)
        clear HV
        by_cases hq : s.data.toList = Lib.itoa (v : Int)
        · have b1 : (Lib.itoa (v : Int) == s.toList) = true := by rw [ByteArray.toList_eq, hq]; simp
          have HQ := Lib.hid hq
          clear hq
          have ht : ¬ s.size < s.size := by omega
          go_wp2_with fail
          refine (nums.num_any _ _ (by omega) (by omega)).mono ?_
          rintro e w' ⟨rfl, m, rfl⟩
          go_wp2_with fail
          go_ret2
          exact ⟨.inl ⟨_, ⟨by omega, by omega, HQ.out⟩, rfl⟩, _, rfl⟩
        · have b1 : (Lib.itoa (v : Int) == s.toList) = false := by rw [ByteArray.toList_eq]; simpa using fun e => hq e.symm
          have HQ := Lib.hid (no_text HB.out v HF.out (v : Int) (by simp) hq)
          clear hq
          have ht : ¬ s.size < s.size := by omega
          go_wp2_with fail
          refine (nums.num_any _ _ (by omega) (by omega)).mono ?_
          rintro e w' ⟨rfl, m, rfl⟩
          go_wp2_with fail
          go_ret2
          exact ⟨.inr ⟨HQ.out, rfl⟩, _, rfl⟩

set_option maxHeartbeats 1000000 in
set_option maxRecDepth 100000 in
theorem read_neg (s : ByteArray) (w : World) (hs : s.size ≤ 1048576) (h1 : 1 < s.size) (h2 : s[0].toNat = 45) :
    Calls Tryd.prog 58 #[.string s] w (RPost s w) := by
  obtain ⟨t, ht⟩ : ∃ t, s.extract 1 s.size = t := ⟨_, rfl⟩
  have hts1 : t.size + 1 ≤ s.size := by rw [← ht]; simp [ByteArray.size_extract]; omega
  have hts2 : s.size ≤ t.size + 1 := by rw [← ht]; simp [ByteArray.size_extract]; omega
  have HB := Lib.hid (show IsBody s t true from by
    have e0 : s.data.toList.head? = some s[0] := by rw [List.head?_eq_getElem?]; exact List.getElem?_eq_getElem (by show 0 < s.size; omega)
    have e1 : s[0] = 45 := UInt8.toNat_inj.1 h2
    have e : neg s.data.toList = true := by
      have hl : s.data.toList.length = s.size := rfl
      rw [neg, e0, e1, hl]; simp [h1]
    refine ⟨e, ?_⟩
    rw [body, if_pos e, ← ht, Lib.extract_data, List.take_of_length_le (by rw [List.length_drop]; exact Nat.le_refl _)])
  have b0 : (s[0].toNat == 45) = true := by simpa using h2
  have b00 : ((s[0].toNat : Int) == 45) = true := by simp; omega
  clear h2
  by_cases hlen : t.size < 1 ∨ 6 < t.size
  · have HL := Lib.hid hlen
    have hin : (t.size : Int) < 1 ∨ 6 < (t.size : Int) := by omega
    have HN := Lib.hid hin
    clear hlen hin
    go_enter Tryd.func58, Tryd.ntmps58
    go_wp2_with fail
    refine (in_no _ _ _ _ HN.out).mono ?_
    rintro e w' ⟨rfl, rfl⟩
    go_wp2_with fail
    go_ret2
    exact ⟨.inr ⟨no_len HB.out HL.out, rfl⟩, 0, rfl⟩
  · have hl1 : 1 ≤ (t.size : Int) := by omega
    have hl2 : (t.size : Int) ≤ 6 := by omega
    have hl3 : t.size ≤ 6 := by omega
    clear hlen
    go_enter Tryd.func58, Tryd.ntmps58
    go_wp2_with fail
    refine (in_yes _ _ _ _ hl1 hl2).mono ?_
    rintro e w' ⟨rfl, rfl⟩
    go_wp2_with fail
    go_loop [5, 6] (fun x i => ∃ k : Nat, k ≤ t.size ∧ i = .int .i64 k ∧ ∃ v : Nat, x = .int .i64 v ∧ Hid (v < 10 ^ k ∧ Lib.decFrom 0 (t.data.toList.take k) = some v)) (fun _ i => t.size - (intOf i).toNat)
    case atStart => exact ⟨0, Nat.zero_le _, rfl, 0, rfl, by show _ ∧ _; exact ⟨by decide, rfl⟩⟩
    case round =>
      obtain ⟨k, hk, rfl, v, rfl, HV⟩ := hrel
      by_cases hlt : k < t.size
      · have hv5 : v < 100000 := pow_le HV.out.1 (by omega)
        by_cases hd : t[k].toNat < 48 ∨ 57 < t[k].toNat
        · have HD := Lib.hid (no_digit HB.out k hlt hd)
          by_cases hd1 : t[k].toNat < 48
          · clear hd
            go_wp2_with fail
            go_ret2
            exact ⟨.inr ⟨HD.out, rfl⟩, 0, rfl⟩
          · have hd2 : 57 < t[k].toNat := by omega
            clear hd
            go_wp2_with fail
            go_ret2
            exact ⟨.inr ⟨HD.out, rfl⟩, 0, rfl⟩
        · have hd1 : 48 ≤ t[k].toNat := by omega
          have hd2 : t[k].toNat ≤ 57 := by omega
          have HS := Lib.hid (from_take t.data.toList k v t[k] HV.out.2 (List.getElem?_eq_getElem hlt) hd1 hd2)
          clear hd
          go_wp2_with fail
          go_round
          case rel =>
            refine ⟨k + 1, by omega, by go_num, v * 10 + (t[k].toNat - 48), ?_, ?_⟩
            · congr 1; omega
            · show _ ∧ _
              refine ⟨?_, HS.out⟩
              have := HV.out.1
              rw [Nat.pow_succ]; omega
          case measure => simp [intOf]; omega
      · have hv6 : v < 1000000 := pow_six HV.out.1 (by omega)
        have HF := Lib.hid (show Lib.decFrom 0 t.data.toList = some v by have := HV.out.2; rwa [List.take_of_length_le (by show t.size ≤ _; omega)] at this)
        clear HV
        by_cases hq : s.data.toList = Lib.itoa (-(v : Int))
        · have b1 : (Lib.itoa (-(v : Int)) == s.toList) = true := by rw [ByteArray.toList_eq, hq]; simp
          have HQ := Lib.hid hq
          clear hq
          have htl : t.size < s.size := by omega
          go_wp2_with fail
          refine (nums.num_any _ _ (by omega) (by omega)).mono ?_
          rintro e w' ⟨rfl, m, rfl⟩
          go_wp2_with fail
          go_ret2
          exact ⟨.inl ⟨_, ⟨by omega, by omega, HQ.out⟩, rfl⟩, _, rfl⟩
        · have b1 : (Lib.itoa (-(v : Int)) == s.toList) = false := by rw [ByteArray.toList_eq]; simpa using fun e => hq e.symm
          have HQ := Lib.hid (no_text HB.out v HF.out (-(v : Int)) (by simp) hq)
          clear hq
          have htl : t.size < s.size := by omega
          go_wp2_with fail
          refine (nums.num_any _ _ (by omega) (by omega)).mono ?_
          rintro e w' ⟨rfl, m, rfl⟩
          go_wp2_with fail
          go_ret2
          exact ⟨.inr ⟨HQ.out, rfl⟩, _, rfl⟩

theorem read_any (s : ByteArray) (w : World) (hs : s.size ≤ 1048576) :
    Calls Tryd.prog 58 #[.string s] w (RPost s w) := by
  by_cases h1 : s.size ≤ 1
  · exact read_short s w hs h1
  · by_cases h2 : (s[0]'(by omega)).toNat = 45
    · exact read_neg s w hs (by omega) h2
    · exact read_plain s w hs (by omega) h2
end Go.Proofs.YtiojgmojnnbpiaaDoor.readc
