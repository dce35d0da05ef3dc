/-
  The law's own helpers on lists of texts: their size, a copy, the equality of two lists.
  Conditions: the texts lie below the call's own blocks.
-/
import Derived.Test.YthpmgapgjfabgaaProg
import Derived.Test.YthpmgapgjfabgaaChecked
import Derived.Test.YthpmgapgjfabgaaReads
import Derived.Test.YthpmgapgjfabgaaStrMath
import Derived.WalkKit
import Derived.Lib.Hide
import Derived.Deep.QuietTactic
import Derived.BigQuiet
namespace Go.Proofs.Ythpmgapgjfabgaa.listc
open Go.RowKit
open reads strmath
set_option linter.unusedVariables false

/-- the bytes of some texts -/
def tot (ps : List ByteArray) : Nat := (ps.map ByteArray.size).sum
theorem tot_snoc (ps : List ByteArray) (p : ByteArray) : tot (ps ++ [p]) = tot ps + p.size := by simp [tot]
theorem tot_take (ps : List ByteArray) (k : Nat) (p : ByteArray) (h : ps[k]? = some p) : tot (ps.take (k + 1)) = tot (ps.take k) + p.size := by
  rw [take_snoc ps k p h, tot_snoc]
theorem size_le_tot {ps : List ByteArray} {p : ByteArray} (h : p ∈ ps) : p.size ≤ tot ps := by
  induction ps with
  | nil => cases h
  | cons x r ih =>
    simp only [tot, List.map_cons, List.sum_cons]
    cases List.mem_cons.1 h with
    | inl e => subst e; omega
    | inr e => have := ih e; simp only [tot] at this; omega

/-- what the size says -/
def SzPost (n : Nat) (ps : List ByteArray) (w : World) (e : Ending) (w' : World) : Prop :=
  ∃ r : Int, e = .returned (.int .i64 r) ∧ w = w' ∧ (r = -1 ∨ (0 ≤ r ∧ r ≤ 1048576 ∧ n + tot ps ≤ 1048576))

set_option maxHeartbeats 1000000 in
theorem sz_any (A : Option Addr) (n cp : Nat) (ps : List ByteArray) (w : World) (hr : Reads w w.heap.size 1 A n (strs ps)) (hn : n ≤ maxLen) (hl : ∀ p ∈ ps, p.size ≤ maxLen) :
    Calls Try.prog 21 #[.slice A n cp, .int .i64 1048576] w (SzPost n ps w) := by
  have HP := Lib.hid (show ps.length = n by have := hr.1; rw [strs_len] at this; omega)
  have HL := Lib.hid hl
  have HR := Lib.hid hr
  clear hl hr
  unfold maxLen at hn
  by_cases hbig : 1048576 < n
  · go_enter Try.func21, Try.ntmps21
    go_wp2_with fail
    go_ret
    exact ⟨-1, rfl, rfl, .inl rfl⟩
  · have hn' : n ≤ 1048576 := by omega
    clear hbig hn
    go_enter Try.func21, Try.ntmps21
    go_wp2_with fail
    go_loop [1, 5] (fun l i => ∃ k : Nat, k ≤ n ∧ i = .int .i64 k ∧ ∃ r : Int, l = .int .i64 r ∧ 0 ≤ r ∧ r ≤ 1048576 ∧ Hid (r = 1048576 - n - tot (ps.take k))) (fun _ i => n - (intOf i).toNat)
    case atStart => exact ⟨0, Nat.zero_le _, rfl, 1048576 - n, rfl, by omega, by omega, by show _ = _; simp [tot]⟩
    case round =>
      obtain ⟨k, hk, rfl, r, rfl, h0, h1, HQ⟩ := hrel
      by_cases hlt : k < n
      · obtain ⟨ad, u, rfl, hbk, hx, hc⟩ := HR.out.at_ hlt
        obtain ⟨p, hp, rfl⟩ := strs_at hx
        have hpl : p.size ≤ maxLen := HL.out p (List.mem_of_getElem? hp)
        unfold maxLen at hpl
        have HX := Lib.hid hp
        clear hx hp
        by_cases hneg : r < p.size
        · go_wp2_with fail
          go_ret
          exact ⟨-1, rfl, rfl, .inl rfl⟩
        · have hpos : (p.size : Int) ≤ r := by omega
          clear hneg
          go_wp2_with fail
          go_round
          case rel => exact ⟨k + 1, by omega, by go_num, r - p.size, by go_num, by omega, by omega, by show _ = _; have := HQ.out; rw [tot_take ps k p HX.out]; omega⟩
          case measure => simp [intOf]; omega
      · go_wp2_with fail
        go_ret
        refine ⟨r, rfl, rfl, .inr ⟨h0, h1, ?_⟩⟩
        have := HQ.out
        rw [List.take_of_length_le (by have := HP.out; omega)] at this
        omega

/-- the copy's row when k texts have been copied -/
def rowAt (ps : List ByteArray) (n k : Nat) : Array Value := (strs (ps.take k) ++ List.replicate (n - k) (Value.string ⟨#[]⟩)).toArray
theorem rowAt_zero (ps : List ByteArray) (n : Nat) : rowAt ps n 0 = (List.replicate n (Value.string ⟨#[]⟩)).toArray := by simp [rowAt, strs]
theorem rowAt_all (ps : List ByteArray) (n : Nat) (h : ps.length = n) : rowAt ps n n = (strs ps).toArray := by
  unfold rowAt
  rw [List.take_of_length_le (by omega), Nat.sub_self]; simp
theorem rowAt_set (ps : List ByteArray) (n k : Nat) (p : ByteArray) (h : ps[k]? = some p) (hn : ps.length = n) : (rowAt ps n k).setIfInBounds k (.string p) = rowAt ps n (k + 1) := by
  have hk : k < ps.length := (List.getElem?_eq_some_iff.1 h).1
  have hl : (strs (ps.take k)).length = k := by rw [strs_len, List.length_take]; omega
  unfold rowAt
  rw [List.setIfInBounds_toArray, List.set_append_right _ _ (by omega), hl, Nat.sub_self, show n - k = (n - (k + 1)) + 1 by omega, List.replicate_succ, List.set_cons_zero, take_snoc ps k p h]
  simp [strs]
theorem rowAt_at (ps : List ByteArray) (n k : Nat) (hn : ps.length = n) (hk : k < n) : (rowAt ps n k)[k]? = some (Value.string ⟨#[]⟩) := by
  have hl : (strs (ps.take k)).length = k := by rw [strs_len, List.length_take]; omega
  unfold rowAt
  rw [List.getElem?_toArray, List.getElem?_append_right (by omega), hl, Nat.sub_self, List.getElem?_replicate, if_pos (by omega)]

theorem infoString : (Try.prog.info? 9).map (fun i => (i.zero, i.size, i.bytes)) = some (some (.string ⟨#[]⟩), 1, 16) := by kernel_rfl

/-- what the copy is -/
def ToPost (n : Nat) (ps : List ByteArray) (w : World) (e : Ending) (w' : World) : Prop :=
  ∃ g, e = .returned (.slice (some ⟨g, 0, none⟩) n n) ∧ w.heap.size ≤ g ∧ Blk w' g 9 (strs ps).toArray ∧ Below w.heap.size w w'

set_option maxHeartbeats 1000000 in
theorem to_any (A : Option Addr) (n cp : Nat) (ps : List ByteArray) (w : World) (hr : Reads w w.heap.size 1 A n (strs ps)) (hn : n ≤ 1048576) :
    Calls Try.prog 22 #[.slice A n cp] w (ToPost n ps w) := by
  obtain ⟨i0, hi0, hz0, hz1, hz2⟩ := info_parts infoString
  have hps : ps.length = n := by have := hr.1; rw [strs_len] at this; omega
  have hmk : ∀ W : World, (Instr.makeSlice 26 (.int .i64 (n : Int)) (.int .i64 (n : Int))).run Try.prog W = .ok (.slice (some ⟨W.heap.size, 0, none⟩) n n) (W.alloc (.cells (rowAt ps n 0) 9)) := fun W => by
    have h := run_make_rowN (P := Try.prog) 26 9 i0 _ Try.underlying26 hi0 hz0 .i64 .i64 n n (Nat.le_refl _) (by rw [hz2]; omega) (by omega) W
    rw [h, hz1, Nat.mul_one]
    have e : madeCells (Value.string ⟨#[]⟩).cells n = rowAt ps n 0 := by
      rw [rowAt_zero]
      exact Array.toList_inj.1 ((toList_madeCells_one (Value.string ⟨#[]⟩) n).trans (by simp))
    rw [e]
  have HP := Lib.hid hps
  have HR := Lib.hid hr
  clear hps hr
  go_enter Try.func22, Try.ntmps22
  go_wp2_with fail
  clear hmk
  go_loopw [4] (fun i wr => ∃ k : Nat, k ≤ n ∧ i = .int .i64 k ∧ Blk wr w.heap.size 9 (rowAt ps n k) ∧ Below w.heap.size w wr) (fun i _ => n - (intOf i).toNat)
  case atStart => exact ⟨0, Nat.zero_le _, rfl, Blk.new w _ _, (Below.refl _ _).alloc (Nat.le_refl _) _⟩
  case round =>
    obtain ⟨k, hk, rfl, hK, hB⟩ := hrel
    by_cases hlt : k < n
    · obtain ⟨ad, u, rfl, hbk, hx, hc⟩ := (HR.out.below hB).at_ hlt
      obtain ⟨p, hp, rfl⟩ := strs_at hx
      have HX := Lib.hid hp
      have hcell : wr.cell? ⟨w.heap.size, k, none⟩ = some (Value.string ⟨#[]⟩) := (hK.cell k).trans (rowAt_at ps n k HP.out hlt)
      have hfz := hK.frozen k
      have HK := Lib.hid hK
      clear hx hp hK
      go_wp2_with fail
      go_roundw
      case rel =>
        refine ⟨k + 1, by omega, by go_num, ?_, hB.setCell (p := ⟨w.heap.size, k, none⟩) (Nat.le_refl _) _⟩
        rw [← rowAt_set ps n k p HX.out HP.out]
        exact HK.out.set_ k _
      case measure => simp [intOf]; omega
    · obtain rfl : k = n := by omega
      go_wp2_with fail
      go_ret
      rw [rowAt_all ps k HP.out] at hK
      exact ⟨_, rfl, Nat.le_refl _, hK, hB⟩

/-- what the equality says of two lists that are the same -/
def EqPost (w : World) (e : Ending) (w' : World) : Prop := e = .returned (.bool true) ∧ ∃ m, w' = w.drewN m

set_option maxHeartbeats 1000000 in
theorem eq_same (A B : Option Addr) (n c1 c2 : Nat) (ps : List ByteArray) (w : World) (ha : Reads w w.heap.size 1 A n (strs ps)) (hb : Reads w w.heap.size 1 B n (strs ps)) (hn : n ≤ 2000000) :
    Calls Try.prog 18 #[.slice A n c1, .slice B n c2] w (EqPost w) := by
  have HA := Lib.hid ha
  have HB := Lib.hid hb
  clear ha hb
  go_enter Try.func18, Try.ntmps18
  go_wp2_with fail
  go_loopw [5] (fun i wr => ∃ k : Nat, k ≤ n ∧ i = .int .i64 k ∧ ∃ m, wr = w.drewN m) (fun i _ => n - (intOf i).toNat)
  case atStart => exact ⟨0, Nat.zero_le _, rfl, 0, rfl⟩
  case round =>
    obtain ⟨k, hk, rfl, m, rfl⟩ := hrel
    by_cases hlt : k < n
    · obtain ⟨ad, u, rfl, hbk, hx, hc⟩ := HA.out.at_ hlt
      obtain ⟨bd, u', rfl, hbk', hx', hc'⟩ := HB.out.at_ hlt
      obtain ⟨p, hp, rfl⟩ := strs_at hx
      obtain ⟨p', hp', rfl⟩ := strs_at hx'
      obtain rfl : p = p' := by rw [hp] at hp'; exact Option.some.inj hp'
      clear hx hx' hp hp'
      have hki : (k : Int) < (n : Int) := by omega
      have hk0 : 0 ≤ (k : Int) := by omega
      go_wp2_with fail
      go_quiet (fail)
      go_wp2_with fail
      go_roundw
      case rel => exact ⟨k + 1, by omega, by go_num, _, rfl⟩
      case measure => simp [intOf]; omega
    · go_wp2_with fail
      go_ret
      exact ⟨rfl, _, rfl⟩
end Go.Proofs.Ythpmgapgjfabgaa.listc
