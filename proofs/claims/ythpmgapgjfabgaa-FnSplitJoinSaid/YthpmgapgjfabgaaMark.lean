/-
  The law's own marks: the text of a mark, marking a list of texts, and holding the marks against it.
  Conditions: none.
-/
import Derived.Test.YthpmgapgjfabgaaProg
import Derived.Test.YthpmgapgjfabgaaChecked
import Derived.Test.YthpmgapgjfabgaaReads
import Derived.Test.YthpmgapgjfabgaaListC
import Derived.WalkKit
import Derived.Lib.Hide
import Derived.Lib.ItoaNum
import Derived.Laws.IdiomStrings
import Derived.Laws.Concat
import Derived.IntWalk
import Derived.Deep.RegionWith
namespace Go.Proofs.Ythpmgapgjfabgaa.markc
open Go.RowKit
open reads
set_option linter.unusedVariables false

/-- the text of a mark -/
def mk (k : Nat) : ByteArray := ⟨#[109]⟩ ++ ⟨(Lib.decDigits k).toArray⟩

/-- a digit -/
def dgt (n : Nat) : UInt8 := UInt8.ofNat (48 + n)

/-- what has been written when the number has come down to j -/
def Dig (k j : Nat) (o : ByteArray) : Prop := (0 < j → Lib.decDigits k = Lib.decDigits j ++ o.data.toList) ∧ (j = 0 → Lib.decDigits k = o.data.toList)
theorem dig_start (k : Nat) (h : 0 < k) : Dig k k ⟨#[]⟩ := ⟨fun _ => by simp, fun e => by omega⟩
theorem dig_step (k j : Nat) (o : ByteArray) (hj : 0 < j) (h : Dig k j o) : Dig k (j / 10) ((⟨#[dgt (j % 10)]⟩ : ByteArray) ++ o) := by
  have h1 := h.1 hj
  have e : ((⟨#[dgt (j % 10)]⟩ : ByteArray) ++ o).data.toList = dgt (j % 10) :: o.data.toList := by
    rw [ByteArray.data_append]; simp
  by_cases h10 : j < 10
  · have e0 : j / 10 = 0 := by omega
    refine ⟨fun h => by omega, fun _ => ?_⟩
    rw [h1, e, Lib.decDigits_one h10, Nat.mod_eq_of_lt h10, dgt]; rfl
  · refine ⟨fun _ => ?_, fun h => by omega⟩
    rw [h1, e, Lib.decDigits, dif_neg h10, dgt]
    simp only [List.append_assoc, List.singleton_append]
theorem dig_len (k : Nat) : (Lib.decDigits k).length ≤ k + 1 := by
  induction k using Nat.strongRecOn with
  | ind n ih =>
    rw [Lib.decDigits]
    by_cases h : n < 10
    · rw [dif_pos h]; simp
    · rw [dif_neg h]; have := ih (n / 10) (by omega); simp; omega
theorem dig_size (k j : Nat) (o : ByteArray) (h : Dig k j o) : o.size ≤ k + 1 := by
  have hl : o.data.toList.length = o.size := rfl
  have hd := dig_len k
  by_cases hj : 0 < j
  · have := congrArg List.length (h.1 hj)
    rw [List.length_append] at this
    omega
  · have := congrArg List.length (h.2 (by omega))
    omega

theorem conv (j : Nat) (w : World) : (convert 22 9 (.slice (some ⟨w.heap.size, 0, none⟩) 1 1)).run Try.prog (w.alloc (.cells #[.int .u8 (48 + (j : Int) % 10)] 5)) = .ok (.string ⟨#[dgt (j % 10)]⟩) (w.alloc (.cells #[.int .u8 (48 + (j : Int) % 10)] 5)) := by
  have h : j % 10 < 10 := Nat.mod_lt _ (by decide)
  refine run_convert_bytes_back _ 22 9 5 ⟨w.heap.size, 0, none⟩ 1 [dgt (j % 10)] Try.underlying22 Try.underlying5 Try.underlying9 ?_
  intro i hi
  have e : i = 0 := by simpa using hi
  subst e
  have e2 : ((dgt (j % 10)).toNat : Int) = 48 + (j : Int) % 10 := by
    rw [dgt, UInt8.toNat_ofNat_of_lt' (by show 48 + j % 10 < 256; omega)]
    omega
  have e3 : ([dgt (j % 10)] : List UInt8)[0] = dgt (j % 10) := rfl
  rw [e3, e2]
  simp [Addr.add]

set_option maxRecDepth 100000 in
set_option maxHeartbeats 1000000 in
theorem mark_any (k : Nat) (w : World) (h0 : 0 < k) (hk : k ≤ 2000000) :
    Calls Try.prog 37 #[.int .i64 k] w fun e w' => e = .returned (.string (mk k)) ∧ Below w.heap.size w w' := by
  go_enter Try.func37, Try.ntmps37
  go_wp2_with fail
  go_loopw [0, 3] (fun n v wr => ∃ (j : Nat) (o : ByteArray), n = .int .i64 j ∧ v = .string o ∧ j ≤ 2000000 ∧ o.size ≤ 2000001 ∧ Hid (Dig k j o) ∧ Below w.heap.size w wr) (fun n _ _ => (intOf n).toNat)
  case atStart => exact ⟨k, ⟨#[]⟩, rfl, rfl, hk, by decide, Lib.hid (dig_start k h0), Below.refl _ _⟩
  case round =>
    obtain ⟨j, o, rfl, rfl, hj, ho, HD, hB⟩ := hrel
    by_cases hj0 : 0 < j
    · have hconv := conv j wr
      go_wp2_with fail
      go_roundw
      case rel =>
        refine ⟨j / 10, _, by go_num, rfl, by omega, ?_, Lib.hid (dig_step k j o hj0 HD.out), hB.alloc hB.size _⟩
        have := dig_size k _ _ (dig_step k j o hj0 HD.out)
        omega
      case measure => simp [intOf]; omega
    · have HZ := Lib.hid (show j = 0 by omega)
      go_wp2_with fail
      go_ret
      refine ⟨?_, hB⟩
      have h := HD.out.2 HZ.out
      have e : mk k = ⟨#[109]⟩ ++ o := by rw [mk, h]
      rw [e]; rfl

/-- the first n places hold their marks -/
def Marked (k n : Nat) (cur : Array Value) : Prop := ∀ i, i < n → cur[i]? = some (.string (mk (k + i)))

/-- what marking leaves -/
def MPost (g k n : Nat) (w : World) (e : Ending) (w' : World) : Prop := e = .returned (.int .i64 ((k + n : Nat) : Int)) ∧ (∃ cur', Blk w' g 9 cur' ∧ Marked k n cur') ∧ w.grownBy w' (some g)

theorem grown_below {a w w' : World} {g : Nat} (h : a.grownBy w (some g)) (hb : Below w.heap.size w w') : a.grownBy w' (some g) :=
  ⟨hb.os.trans h.os, hb.tape.trans h.tape, hb.output.trans h.output, Nat.le_trans h.size hb.size, fun i hi hn => (hb.block i (Nat.lt_of_lt_of_le hi h.size)).trans (h.block i hi hn)⟩
theorem grown_set {a w : World} {g : Nat} (h : a.grownBy w (some g)) (i : Nat) (u : Value) : a.grownBy (w.setCell ⟨g, i, none⟩ u) (some g) :=
  ⟨h.os, h.tape, h.output, by simpa [World.setCell] using h.size, fun j hj hne => (Below.heap_setCell w ⟨g, i, none⟩ u j (by rintro rfl; exact hne rfl)).trans (h.block j hj hne)⟩

set_option maxRecDepth 100000 in
set_option maxHeartbeats 1000000 in
theorem marks_any (g n cap k : Nat) (cur : Array Value) (w : World) (hb : Blk w g 9 cur) (hn : n ≤ cur.size) (hn2 : n ≤ 1000000) (hk0 : 0 < k) (hk : k ≤ 10) :
    Calls Try.prog 19 #[.slice (some ⟨g, 0, none⟩) n cap, .int .i64 k] w (MPost g k n w) := by
  have HB := Lib.hid hb
  clear hb
  go_enter Try.func19, Try.ntmps19
  go_wp2_with fail
  go_loopw [1, 5] (fun q i wr => ∃ (j m : Nat), i = .int .i64 j ∧ q = .int .i64 m ∧ j ≤ n ∧ m ≤ 1000010 ∧ 0 < m ∧ Hid (m = k + j) ∧ Hid (∃ cur', Blk wr g 9 cur' ∧ cur'.size = cur.size ∧ Marked k j cur') ∧ Hid (w.grownBy wr (some g))) (fun _ i _ => n - (intOf i).toNat)
  case atStart => exact ⟨0, k, rfl, rfl, Nat.zero_le _, by omega, hk0, Lib.hid rfl, Lib.hid ⟨cur, HB.out, rfl, fun i hi => by omega⟩, Lib.hid (World.grownBy.refl w _)⟩
  case round =>
    obtain ⟨j, m, rfl, rfl, hj, hm, hm0, HM, HC, HG⟩ := hrel
    by_cases hlt : j < n
    · go_wp2_with fail
      refine (mark_any m _ hm0 (by omega)).mono ?_
      rintro e w1 ⟨rfl, hb1⟩
      obtain ⟨cur', hc1, hc2, hc3⟩ := HC.out
      have hb2 := hc1.below hb1 hc1.lt
      have hlt2 : j < cur'.size := by omega
      have hcell : w1.cell? ⟨g, j, none⟩ = some cur'[j] := (hb2.cell j).trans (Array.getElem?_eq_getElem hlt2)
      have hfz := hb2.frozen j
      have HB2 := Lib.hid hb2
      have H2 := Lib.hid hc2
      have H3 := Lib.hid hc3
      have HG1 := Lib.hid (grown_below HG.out hb1)
      clear hc1 hc2 hc3 hb2 hb1
      go_wp2_with fail
      go_roundw
      case rel =>
        refine ⟨j + 1, m + 1, by go_num, by go_num, by omega, by have := HM.out; omega, by omega, Lib.hid (by have := HM.out; omega), Lib.hid ⟨_, HB2.out.set_ j _, by simpa using H2.out, ?_⟩, Lib.hid (grown_set HG1.out j _)⟩
        intro i hi
        by_cases e : i = j
        · subst e
          rw [Array.getElem?_setIfInBounds_self_of_lt hlt2, HM.out]
        · rw [Array.getElem?_setIfInBounds_ne (by omega)]
          exact H3.out i (by omega)
      case measure => simp [intOf]; omega
    · have HJ := Lib.hid (show j = n by omega)
      go_wp2_with fail
      go_ret
      refine ⟨?_, ?_, HG.out⟩
      · have := HM.out; rw [HJ.out] at this; rw [← this]; rfl
      · obtain ⟨cur', hc1, hc2, hc3⟩ := HC.out
        rw [HJ.out] at hc3
        exact ⟨cur', hc1, hc3⟩

/-- what holding the marks against it says -/
def HPost (k n : Nat) (w : World) (e : Ending) (w' : World) : Prop := e = .returned (.int .i64 ((k + n : Nat) : Int)) ∧ Below w.heap.size w w'

set_option maxRecDepth 100000 in
set_option maxHeartbeats 1000000 in
theorem held_any (g n cap k : Nat) (cur : Array Value) (w : World) (hb : Blk w g 9 cur) (hn2 : n ≤ 1000000) (hk0 : 0 < k) (hk : k ≤ 10) (hM : Marked k n cur) :
    Calls Try.prog 20 #[.slice (some ⟨g, 0, none⟩) n cap, .int .i64 k] w (HPost k n w) := by
  have HB := Lib.hid hb
  have HMK := Lib.hid hM
  clear hb hM
  go_enter Try.func20, Try.ntmps20
  go_wp2_with fail
  go_loopw [1, 5] (fun q i wr => ∃ (j m : Nat), i = .int .i64 j ∧ q = .int .i64 m ∧ j ≤ n ∧ m ≤ 1000010 ∧ 0 < m ∧ Hid (m = k + j) ∧ Below w.heap.size w wr) (fun _ i _ => n - (intOf i).toNat)
  case atStart => exact ⟨0, k, rfl, rfl, Nat.zero_le _, by omega, hk0, Lib.hid rfl, Below.refl _ _⟩
  case round =>
    obtain ⟨j, m, rfl, rfl, hj, hm, hm0, HM, hB⟩ := hrel
    by_cases hlt : j < n
    · have HBr := Lib.hid (HB.out.below hB HB.out.lt)
      have HX := Lib.hid (show cur[j]? = some (.string (mk m)) by rw [HM.out]; exact HMK.out j hlt)
      have hcell : wr.cell? ⟨g, j, none⟩ = some (.string (mk m)) := (HBr.out.cell j).trans HX.out
      have hji : (j : Int) < (n : Int) := by omega
      have hj0 : 0 ≤ (j : Int) := by omega
      go_wp2_with fail
      go_region_with (go_at_call 37; refine (mark_any m _ hm0 (by omega)).mono ?_; rintro e w1 ⟨rfl, hb1⟩; have hcell1 : w1.cell? ⟨g, j, none⟩ = some (.string (mk m)) := ((HBr.out.drew.below hb1 HBr.out.lt).cell j).trans HX.out)
      all_goals go_wp2_with fail
      all_goals
        go_roundw
        case rel => exact ⟨j + 1, m + 1, by go_num, by go_num, by omega, by have := HM.out; omega, by omega, Lib.hid (by have := HM.out; omega), hB.drew.trans (hb1.mono hB.size)⟩
        case measure => simp [intOf]; omega
    · have HJ := Lib.hid (show j = n by omega)
      go_wp2_with fail
      go_ret
      refine ⟨?_, hB⟩
      have := HM.out; rw [HJ.out] at this; rw [← this]; rfl
end Go.Proofs.Ythpmgapgjfabgaa.markc
