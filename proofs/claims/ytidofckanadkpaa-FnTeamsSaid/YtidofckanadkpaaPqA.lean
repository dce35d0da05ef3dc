/-
  A set of people by the bits of a number, by the model: its Ids.
  Conditions: the list has at most 60 elements and lies in one block.
-/
import Derived.Test.YtidofckanadkpaaPtF
namespace Go.Proofs.Ytidofckanadkpaa.pq
open Go.RowKit
open reads base inn ty rowi psn pso
set_option linter.unusedVariables false
set_option linter.unusedSimpArgs false

/-- Ids that the call has made -/
def IPost (xs : List Int) (w : World) (e : Ending) (w' : World) : Prop :=
  ∃ v, e = .returned v ∧ w'.ownsRow w.heap.size 3 1 v xs.length (ints.intsV xs) ∧ Below w.heap.size w w'
theorem ids_take {ts : List Ps} {k : Nat} {t : Ps} (j : Nat) (h : ts[k]? = some t) : pt.ids (pt.pick j (ts.take (k + 1))) = pt.ids (pt.pick j (ts.take k)) ++ (if j / 2 ^ k % 2 = 1 then [t.id] else []) := by
  rw [pt.pick_take j h, pt.ids, List.map_append]
  split <;> rfl
theorem pick_len (j : Nat) (ts : List Ps) : (pt.pick j ts).length ≤ ts.length := (pt.pick_sub j ts).length_le
theorem and_small (a b : Nat) (ha : a ≤ 1000000) (hb : b ≤ 1000000) : IntKind.i64.wrap (((BitVec.ofInt 64 (a : Int) &&& BitVec.ofInt 64 (b : Int)).toNat : Nat) : Int) = ((a &&& b : Nat) : Int) := by
  have h : a &&& b ≤ a := Nat.and_le_left
  have e : (BitVec.ofInt 64 (a : Int) &&& BitVec.ofInt 64 (b : Int)).toNat = (a &&& b) := by
    rw [BitVec.toNat_and, BitVec.ofInt_natCast, BitVec.ofInt_natCast, BitVec.toNat_ofNat, BitVec.toNat_ofNat, Nat.mod_eq_of_lt (by omega), Nat.mod_eq_of_lt (by omega)]
  rw [e]
  exact IntWalk.i64_in _ (by omega)
theorem bit_is (j k : Nat) (hj : j ≤ 1000000) : bits .and .i64 ((j : Int) / 2 ^ k) 1 = ((j / 2 ^ k % 2 : Nat) : Int) := by
  have e : (j : Int) / 2 ^ k = ((j / 2 ^ k : Nat) : Int) := by rw [Int.natCast_ediv]; congr 1
  have hl : j / 2 ^ k ≤ j := Nat.div_le_self _ _
  rw [e]
  refine (and_small (j / 2 ^ k) 1 (by omega) (by omega)).trans ?_
  rw [Nat.and_one_is_mod]
set_option maxHeartbeats 4000000 in
set_option maxRecDepth 100000 in
theorem members_any (A : Option Addr) (n cap : Nat) (ts : List Ps) (j : Nat) (w : World) (hn : n ≤ 60) (hj : j ≤ 1000000) (hts : Hid (PsAt w w.heap.size A n ts)) :
    Calls Try.prog 63 #[.slice A n cap, .int .i64 j] w (IPost (pt.ids (pt.pick j ts)) w) := by
  obtain ⟨i0, hi, hz0, hz1, hz2⟩ := info_parts infoI
  have hrow0 : (w.alloc (.cells #[] 3)).ownsRow w.heap.size 3 1 (.slice (some ⟨w.heap.size, 0, none⟩) 0 0) 0 [] := World.ownsRow_made w #[] 0 (Nat.le_refl _) (by decide) (by simp)
  have HRow := Lib.hid hrow0
  have HB0 := Lib.hid ((Below.refl w.heap.size w).alloc (Nat.le_refl _) (.cells #[] 3))
  have hL : Hid (ts.length = n) := Lib.hid hts.out.1
  clear hrow0
  go_enter Try.func63, Try.ntmps63
  go_wp2_with fail
  go_loopw [5, 6] (fun v i wr => ∃ (k : Nat) (ids : List Int), k ≤ n ∧ i = .int .i64 k ∧ Hid (pt.ids (pt.pick j (ts.take k)) = ids) ∧ Hid (wr.ownsRow w.heap.size 3 1 v ids.length (ints.intsV ids)) ∧ Below w.heap.size w wr) (fun _ i _ => n - (intOf i).toNat)
  case atStart => exact ⟨0, [], Nat.zero_le _, rfl, Lib.hid rfl, HRow, HB0.out⟩
  case round =>
    obtain ⟨k, ids, hk, rfl, HD, HO, hB⟩ := hrel
    have hlen : ids.length ≤ 60 := by rw [← HD.out, pt.ids_len]; have := pick_len j (ts.take k); rw [List.length_take] at this; omega
    have hBs := hB.size
    have HB := Lib.hid hB
    clear hB
    by_cases hlt : k < n
    · obtain ⟨t, htk⟩ := at_lt hL.out hlt
      obtain ⟨g, rfl, hgB, h0, -, -, -⟩ := (hts.out.below HB.out).2 k t htk
      have HK := Lib.hid htk
      clear htk
      have hki : (k : Int) < (n : Int) := by omega
      have hk0 : 0 ≤ (k : Int) := by omega
      have hkd : decide (k < n) = true := by simpa using hlt
      have hbit := bit_is j k hj
      by_cases hz : j / 2 ^ k % 2 = 1
      · have HN := Lib.hid (show pt.ids (pt.pick j (ts.take (k + 1))) = ids ++ [t.id] by rw [ids_take j HK.out, HD.out, if_pos hz])
        rw [hz] at hbit
        clear hz
        go_wp2_with (at_builtin; refine wpList_append_own _ rfl _ _ 27 rfl w.heap.size 3 i0 (.int .i64 0) 1 8 Try.underlying27 hi hz0 hz1 hz2 rfl (by decide) _ _ _ rfl (HO.out.alloc _) ⟨wr.heap.size, 0, none⟩ 1 1 [.int .i64 t.id] rfl rfl (cell_one_new _ _ _) (by simp [Value.oneCell']) (by unfold maxLen; omega) (by omega) (by simp; omega) ?_; intro v' w2 hown' hgrow _)
        go_roundw
        case rel =>
          refine ⟨k + 1, ids ++ [t.id], by omega, by go_num, HN, Lib.hid ?_, ?_⟩
          · rw [List.length_append, List.length_singleton, intsV_app]; exact hown'
          · exact (HB.out.alloc HB.out.size _).grown hgrow (by simp; omega) (fun j ej => (HO.out.lt j ej).1)
        case measure => simp [intOf]; omega
      · have HN := Lib.hid (show pt.ids (pt.pick j (ts.take (k + 1))) = ids by rw [ids_take j HK.out, HD.out, if_neg hz, List.append_nil])
        rw [show j / 2 ^ k % 2 = 0 by omega] at hbit
        clear hz
        go_wp2_with fail
        go_roundw
        case rel => exact ⟨k + 1, ids, by omega, by go_num, HN, HO, HB.out⟩
        case measure => simp [intOf]; omega
    · have hkd : decide (k < n) = false := by simpa using hlt
      have HF := Lib.hid (show pt.ids (pt.pick j ts) = ids by have := HD.out; rwa [List.take_of_length_le (by rw [hL.out]; omega)] at this)
      clear hlt
      go_wp2_with fail
      go_ret
      rw [HF.out]
      exact ⟨_, rfl, HO.out, HB.out⟩
theorem members_is (A : Option Addr) (n cap : Nat) (ts : List Ps) (j : Nat) (xs : List Int) (h : Hid (pt.ids (pt.pick j ts) = xs)) (w : World) (hn : n ≤ 60) (hj : j ≤ 1000000) (hts : Hid (PsAt w w.heap.size A n ts)) :
    Calls Try.prog 63 #[.slice A n cap, .int .i64 j] w (IPost xs w) := by rw [← h.out]; exact members_any A n cap ts j w hn hj hts
#print axioms members_is
end Go.Proofs.Ytidofckanadkpaa.pq
