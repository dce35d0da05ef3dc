/-
  JoinStrings of the program: what it answers, at every list of texts in memory.
  Conditions: the texts lie below the call's own blocks.
-/
import Derived.Test.YtnlljdepcldibaaGreatDoorBuild
import Derived.Test.YtnlljdepcldibaaGreatDoorReads
import Derived.Test.YtnlljdepcldibaaGreatDoorStrMath
import Derived.Test.YtnlljdepcldibaaGreatDoorShelf
namespace Go.Proofs.YtnlljdepcldibaaGreatDoor.joinc
open Go.RowKit
open build reads strmath
set_option linter.unusedVariables false

/-- what holds at a round's head -/
def JInv (c : UInt8) (ps : List ByteArray) (w : World) (k : Nat) (wr : World) : Prop :=
  Lib.IsBuilder 68 5 w.heap.size w.heap.size (Lib.byteCells (joinL c (ps.take k))) wr ∧ Below w.heap.size w wr ∧ clean c (ps.take k) = true ∧ (joinL c (ps.take k)).length ≤ 4000

/-- what it answers -/
def JPost (c : UInt8) (ps : List ByteArray) (w : World) (e : Ending) (w' : World) : Prop :=
  ((clean c ps = true ∧ (joinL c ps).length ≤ 4000 ∧ e = .returned (.tuple #[.string ⟨(joinL c ps).toArray⟩, .bool true])) ∨
    ((clean c ps = false ∨ 4000 < (joinL c ps).length) ∧ e = .returned (.tuple #[.string ⟨#[]⟩, .bool false]))) ∧ Below w.heap.size w w'

theorem contains_yes (s : ByteArray) (c : UInt8) (w : World) (h : has s.data.toList c = true) :
    Calls Tryz.prog 45 #[.string s, .string ⟨#[c]⟩] w fun e w' => e = .returned (.bool true) ∧ w = w' := by
  refine (Tryz.strings_Contains_one s c w).mono ?_
  rintro e w' ⟨rfl, rfl⟩
  exact ⟨by rw [idx_has, h], rfl⟩
theorem contains_no (s : ByteArray) (c : UInt8) (w : World) (h : has s.data.toList c = false) :
    Calls Tryz.prog 45 #[.string s, .string ⟨#[c]⟩] w fun e w' => e = .returned (.bool false) ∧ w = w' := by
  refine (Tryz.strings_Contains_one s c w).mono ?_
  rintro e w' ⟨rfl, rfl⟩
  exact ⟨by rw [idx_has, h], rfl⟩

theorem blen (B b : Nat) (bs : List Value) (w : World) (h : Lib.IsBuilder 68 5 B b bs w) :
    Calls Tryz.prog 44 #[.pointer (some ⟨b, 0, none⟩)] w fun e w' => e = .returned (.int .i64 bs.length) ∧ w = w' :=
  (Tryz.Builder_Len B b bs w h).mono fun _ _ hh => ⟨hh.1, hh.2.symm⟩
theorem bstr (B b : Nat) (l : List UInt8) (w : World) (h : Lib.IsBuilder 68 5 B b (Lib.byteCells l) w) (hBw : B ≤ w.heap.size) :
    Calls Tryz.prog 46 #[.pointer (some ⟨b, 0, none⟩)] w fun e w' => e = .returned (.string ⟨l.toArray⟩) ∧ Below B w w' :=
  Tryz.Builder_String_any B b l w h hBw

/-- a list of cells behind a name -/
theorem bs_name (l : List UInt8) : ∃ bs : List Value, Hid (bs = Lib.byteCells l) ∧ bs.length ≤ l.length ∧ l.length ≤ bs.length :=
  ⟨_, Lib.hid rfl, by rw [Lib.byteCells_length]; omega, by rw [Lib.byteCells_length]; omega⟩

set_option maxHeartbeats 1000000 in
set_option maxRecDepth 100000 in
theorem join_any (A : Option Addr) (n cp : Nat) (c : UInt8) (ps : List ByteArray) (w : World) (hr : Reads w w.heap.size 1 A n (strs ps)) (hn0 : 0 < n) (hn : n ≤ 2000000) (hl : ∀ p ∈ ps, p.size ≤ 2000000) :
    Calls Tryz.prog 23 #[.slice A n cp, .string ⟨#[c]⟩] w (JPost c ps w) := by
  have hz : ((n : Int) == 0) = false := by simp; omega
  have hps : ps.length = n := by have := hr.1; rw [strs_len] at this; omega
  have HP := Lib.hid hps
  have HL := Lib.hid hl
  have HR := Lib.hid hr
  clear hps hl hr
  go_enter Tryz.func23, Tryz.ntmps23
  go_wp2_with fail
  go_loopw [19] (fun i wr => ∃ k : Nat, k ≤ n ∧ i = .int .i64 k ∧ JInv c ps w k wr) (fun i _ => n - (intOf i).toNat)
  case atStart =>
    exact ⟨0, Nat.zero_le _, rfl, by simpa [joinL, Lib.byteCells] using Lib.fresh_isBuilder 68 5 w, (Below.refl _ _).alloc (Nat.le_refl _) _, by simp [clean], by simp [joinL]⟩
  case round =>
    obtain ⟨k, hk, rfl, hJ⟩ := hrel
    obtain ⟨hI, hB, hC, hM⟩ := hJ
    have hsz := hB.size
    by_cases hlt : k < n
    · obtain ⟨ad, u, rfl, hbk, hx, hc⟩ := (HR.out.below hB).at_ hlt
      obtain ⟨p, hp, rfl⟩ := strs_at hx
      have hpl : p.size ≤ 2000000 := HL.out p (List.mem_of_getElem? hp)
      have HX := Lib.hid hp
      have HCl := Lib.hid hC
      have HI := Lib.hid hI
      clear hx hp hC hI
      by_cases hk0 : 0 < k
      · have hkd : decide (0 < k) = true := by simpa using hk0
        have L0 : (Lib.byteCells (joinL c (ps.take k))).length ≤ 4000 := by rw [Lib.byteCells_length]; exact hM
        obtain ⟨bs, HB, hb1, hb2⟩ := bs_name (joinL c (ps.take k) ++ [c])
        have HS := Lib.hid (joinL_take c ps k p HX.out hk0)
        rw [List.length_append, List.length_singleton] at hb1 hb2
        have hq1 : bs.length ≤ 4001 := by omega
        have hq2 : Hid ((joinL c (ps.take (k + 1))).length = bs.length + p.size) := by
          show _ = _
          rw [HS.out, List.length_append, List.length_cons, len_size p]; omega
        clear hb1 hb2
        have HM := Lib.hid hM
        clear hM
        by_cases hlong : 4000 < bs.length + p.size
        · go_wp2_with fail
          refine (writeString _ _ _ _ _ HI.out (by show _ + 1 ≤ _; omega) hsz).mono ?_
          rintro e w1 ⟨rfl, hI1, hb1⟩
          have HI2 := Lib.hid (show Lib.IsBuilder 68 5 w.heap.size w.heap.size bs w1 by rw [HB.out, Lib.byteCells_append]; exact hI1)
          clear hI1
          go_wp2_with fail
          refine (blen _ _ _ _ HI2.out).mono ?_
          rintro e w' ⟨rfl, rfl⟩
          go_wp2_with fail
          go_ret2
          have := joinL_take_le c ps (k + 1)
          exact ⟨.inr ⟨.inr (by have := hq2.out; omega), rfl⟩, hB.trans hb1⟩
        · have hlong' : bs.length + p.size ≤ 4000 := by omega
          clear hlong
          by_cases hh : has p.data.toList c = true
          · go_wp2_with fail
            refine (writeString _ _ _ _ _ HI.out (by show _ + 1 ≤ _; omega) hsz).mono ?_
            rintro e w1 ⟨rfl, hI1, hb1⟩
            have HI2 := Lib.hid (show Lib.IsBuilder 68 5 w.heap.size w.heap.size bs w1 by rw [HB.out, Lib.byteCells_append]; exact hI1)
            clear hI1
            go_wp2_with fail
            refine (blen _ _ _ _ HI2.out).mono ?_
            rintro e w' ⟨rfl, rfl⟩
            go_wp2_with fail
            refine (contains_yes _ _ _ hh).mono ?_
            rintro e w' ⟨rfl, rfl⟩
            go_wp2_with fail
            go_ret2
            exact ⟨.inr ⟨.inl (clean_of_has c ps k p HX.out hh), rfl⟩, hB.trans hb1⟩
          · have hh' : has p.data.toList c = false := by simpa using hh
            have HH := Lib.hid hh'
            clear hh hh'
            go_wp2_with fail
            refine (writeString _ _ _ _ _ HI.out (by show _ + 1 ≤ _; omega) hsz).mono ?_
            rintro e w1 ⟨rfl, hI1, hb1⟩
            have HI2 := Lib.hid (show Lib.IsBuilder 68 5 w.heap.size w.heap.size bs w1 by rw [HB.out, Lib.byteCells_append]; exact hI1)
            clear hI1
            go_wp2_with fail
            refine (blen _ _ _ _ HI2.out).mono ?_
            rintro e w' ⟨rfl, rfl⟩
            go_wp2_with fail
            refine (contains_no _ _ _ HH.out).mono ?_
            rintro e w' ⟨rfl, rfl⟩
            go_wp2_with fail
            have hs1 := hb1.size
            refine (writeString _ _ _ _ _ HI2.out (by omega) (by omega)).mono ?_
            rintro e w2 ⟨rfl, hI3, hb3⟩
            go_wp2_with fail
            go_roundw
            case rel =>
              refine ⟨k + 1, by omega, by go_num, ?_, (hB.trans hb1).trans hb3, ?_, ?_⟩
              · rw [HS.out, show joinL c (ps.take k) ++ (c :: p.data.toList) = (joinL c (ps.take k) ++ [c]) ++ p.data.toList by simp, Lib.byteCells_append, ← HB.out]; exact hI3
              · rw [take_snoc ps k p HX.out, clean_snoc, HCl.out, HH.out]; rfl
              · rw [hq2.out]; exact hlong'
            case measure => simp [intOf]; omega
      · have hkd : decide (0 < k) = false := by simpa using hk0
        have HK := Lib.hid (show k = 0 by omega)
        have e0 : joinL c (ps.take k) = [] := by rw [HK.out]; simp [joinL]
        obtain ⟨bs, HB, hb1, hb2⟩ := bs_name (joinL c (ps.take k))
        have HS := Lib.hid (show joinL c (ps.take (k + 1)) = p.data.toList by have h := HX.out; rw [HK.out] at h ⊢; exact joinL_first c ps p h)
        rw [e0, List.length_nil] at hb1 hb2
        have hq2 : Hid ((joinL c (ps.take (k + 1))).length = bs.length + p.size) := by
          show _ = _
          rw [HS.out, len_size p]; omega
        have HE := Lib.hid e0
        have HM := Lib.hid hM
        have HI2 := Lib.hid (show Lib.IsBuilder 68 5 w.heap.size w.heap.size bs wr by rw [HB.out]; exact HI.out)
        clear hM e0 HI
        by_cases hlong : 4000 < bs.length + p.size
        · go_wp2_with fail
          refine (blen _ _ _ _ HI2.out).mono ?_
          rintro e w' ⟨rfl, rfl⟩
          go_wp2_with fail
          go_ret2
          have := joinL_take_le c ps (k + 1)
          exact ⟨.inr ⟨.inr (by have := hq2.out; omega), rfl⟩, hB⟩
        · have hlong' : bs.length + p.size ≤ 4000 := by omega
          clear hlong
          by_cases hh : has p.data.toList c = true
          · go_wp2_with fail
            refine (blen _ _ _ _ HI2.out).mono ?_
            rintro e w' ⟨rfl, rfl⟩
            go_wp2_with fail
            refine (contains_yes _ _ _ hh).mono ?_
            rintro e w' ⟨rfl, rfl⟩
            go_wp2_with fail
            go_ret2
            exact ⟨.inr ⟨.inl (clean_of_has c ps k p HX.out hh), rfl⟩, hB⟩
          · have hh' : has p.data.toList c = false := by simpa using hh
            have HH := Lib.hid hh'
            clear hh hh'
            go_wp2_with fail
            refine (blen _ _ _ _ HI2.out).mono ?_
            rintro e w' ⟨rfl, rfl⟩
            go_wp2_with fail
            refine (contains_no _ _ _ HH.out).mono ?_
            rintro e w' ⟨rfl, rfl⟩
            go_wp2_with fail
            refine (writeString _ _ _ _ _ HI2.out (by omega) hsz).mono ?_
            rintro e w2 ⟨rfl, hI3, hb3⟩
            go_wp2_with fail
            go_roundw
            case rel =>
              refine ⟨k + 1, by omega, by go_num, ?_, hB.trans hb3, ?_, ?_⟩
              · rw [HS.out]
                have e1 : bs = [] := by rw [HB.out, HE.out]; rfl
                rw [e1] at hI3
                exact hI3
              · rw [take_snoc ps k p HX.out, clean_snoc, HCl.out, HH.out]; rfl
              · rw [hq2.out]; exact hlong'
            case measure => simp [intOf]; omega
    · obtain rfl : k = n := by omega
      have e0 : ps.take k = ps := List.take_of_length_le (by have := HP.out; omega)
      rw [e0] at hI hC hM
      go_wp2_with fail
      refine (bstr _ _ _ _ hI hsz).mono ?_
      rintro e w1 ⟨rfl, hb1⟩
      go_wp2_with fail
      go_ret2
      exact ⟨.inl ⟨hC, hM, rfl⟩, hB.trans hb1⟩

/-- no elements -/
theorem join_none (A : Option Addr) (cp : Nat) (sep : ByteArray) (w : World) (hs : sep.size ≤ 2000000) :
    Calls Tryz.prog 23 #[.slice A 0 cp, .string sep] w fun e w' => e = .returned (.tuple #[.string ⟨#[]⟩, .bool false]) ∧ w = w' := by
  go_enter Tryz.func23, Tryz.ntmps23
  go_wp2_with fail
  go_ret2
  exact ⟨rfl, rfl⟩

/-- a separator that is no single byte -/
theorem join_sep (A : Option Addr) (n cp : Nat) (sep : ByteArray) (w : World) (hn : 0 < n) (hs : sep.size ≠ 1) (hs2 : sep.size ≤ 2000000) :
    Calls Tryz.prog 23 #[.slice A n cp, .string sep] w fun e w' => e = .returned (.tuple #[.string ⟨#[]⟩, .bool false]) ∧ w = w' := by
  have hz : ((n : Int) == 0) = false := by simp; omega
  have h1 : ((sep.size : Int) != 1) = true := by simp; omega
  clear hs
  go_enter Tryz.func23, Tryz.ntmps23
  go_wp2_with fail
  go_ret2
  exact ⟨rfl, rfl⟩
end Go.Proofs.YtnlljdepcldibaaGreatDoor.joinc
