/-
  The deepest station, by the model.
  Conditions: the legs lie in one block; at most 2000000 of them.
-/
import Derived.Test.YtnoieboiklmkaaaDoorNtD
import Derived.Deep.QuietTactic
import Derived.BigQuiet
namespace Go.Proofs.YtnoieboiklmkaaaDoor.nt
open Go.RowKit
open reads base ty lg rowi hs
set_option linter.unusedVariables false
set_option linter.unusedSimpArgs false

/-- the deepest one of the first placed stations -/
def deepN (s : Net) : Nat → Int
  | 0 => 0
  | k + 1 => match s.ps[k]? with
    | some q => if (at_ s.pl q).up < (at_ s.pl (deepN s k)).up then q else deepN s k
    | none => deepN s k
theorem deepN_succ {s : Net} {k : Nat} {q : Int} (h : s.ps[k]? = some q) : deepN s (k + 1) = if (at_ s.pl q).up < (at_ s.pl (deepN s k)).up then q else deepN s k := by
  show (match s.ps[k]? with | some q => _ | none => _) = _
  rw [h]
theorem deepN_bd {s : Net} (h : Ok s) : ∀ k, 0 ≤ deepN s k ∧ deepN s k ≤ 7
  | 0 => by simp [deepN]
  | k + 1 => by
    have ih := deepN_bd h k
    cases e : s.ps[k]? with
    | none => have : deepN s (k + 1) = deepN s k := by show (match s.ps[k]? with | some q => _ | none => _) = _; rw [e]
              rw [this]; exact ih
    | some q =>
      rw [deepN_succ e]
      split
      · exact h.2.2.1 q (List.mem_of_getElem? e)
      · exact ih
def ansDp (ts : List Lg) : Value := if goodLg ts then .tuple #[.int .i64 (deepN (net ts) (net ts).ps.length), .bool true] else .tuple #[.int .i64 0, .bool false]
set_option maxHeartbeats 8000000 in
set_option maxRecDepth 100000 in
theorem deepest_model (A : Option Addr) (n cap : Nat) (ts : List Lg) (w : World) (hn : n ≤ 2000000) (hts : Hid (LgAt w w.heap.size A n ts)) :
    Calls Tryd.prog 36 #[.slice A n cap] w (APost (ansDp ts) w) := by
  cases hg : goodLg ts
  · have HG := Lib.hid hg
    have HF := Lib.hid (show ansDp ts = .tuple #[.int .i64 0, .bool false] by unfold ansDp; rw [hg]; rfl)
    clear hg
    go_enter Tryd.func36, Tryd.ntmps36
    go_wp2_with fail
    refine (legs_is A n cap ts false _ hn hts HG).mono ?_
    rintro e w1 ⟨rfl, b1⟩
    have HB := Lib.hid b1
    clear b1
    go_wp2_with fail
    go_ret2
    exact ⟨by rw [HF.out]; rfl, HB.out⟩
  · have HG := Lib.hid hg
    obtain ⟨N, HNN⟩ : ∃ N, Hid (net ts = N) := ⟨_, Lib.hid rfl⟩
    have HON := Lib.hid (show Ok N by rw [← HNN.out]; exact ok_net hg)
    obtain ⟨m2, HM2⟩ : ∃ m, Hid (N.ps.length = m) := ⟨_, Lib.hid rfl⟩
    have hp8 : m2 ≤ 8 := by rw [← HM2.out]; exact HON.out.ps_len
    have HF := Lib.hid (show ansDp ts = .tuple #[.int .i64 (deepN N m2), .bool true] by unfold ansDp; rw [hg, HNN.out, HM2.out]; rfl)
    clear hg
    go_enter Tryd.func36, Tryd.ntmps36
    go_wp2_with fail
    refine (legs_is A n cap ts true _ hn hts HG).mono ?_
    rintro e w1 ⟨rfl, b1⟩
    have HB := Lib.hid b1
    clear b1
    go_wp2_with fail
    refine (place_any A n cap ts _ HG (Lib.hid (hts.out.step HB.out))).mono ?_
    rintro e w2 ⟨g1, g2, c2, g3, c3, rfl, hN⟩
    rw [HNN.out] at hN ⊢
    rw [HM2.out] at hN ⊢
    have HN := Lib.hid hN
    clear hN
    go_wp2_with fail
    go_loopw [7, 8] (fun bst i wr => ∃ (k m bn : Nat), k ≤ m2 ∧ i = .int .i64 (k : Nat) ∧ bn ≤ 7 ∧ Hid (deepN N k = (bn : Int)) ∧ bst = .int .i64 (bn : Nat) ∧ wr = w2.drewN m) (fun _ i _ => m2 - (intOf i).toNat)
    case atStart => exact ⟨0, 0, 0, Nat.zero_le _, rfl, by omega, Lib.hid rfl, rfl, rfl⟩
    case round =>
      obtain ⟨k, m, bn, hk, rfl, hbn, HD, rfl, rfl⟩ := hrel
      have hk0 : (0 : Int) ≤ (k : Int) := by omega
      by_cases hlt : k < m2
      · obtain ⟨q, hq⟩ := at_lt HM2.out hlt
        have hqb := HON.out.2.2.1 q (List.mem_of_getElem? hq)
        obtain ⟨a, rfl⟩ : ∃ a : Nat, q = (a : Int) := ⟨q.toNat, by omega⟩
        have ha7 : a ≤ 7 := by omega
        have e0 : w2.cell? ⟨g2, k, none⟩ = some (.int .i64 (a : Int)) := by
          rw [HN.out.2.2.1.cellAt k (by omega)]
          simp [ints.intsV, hq]
        obtain ⟨-, -, u0⟩ := HN.out.cells HON.out.1 ha7
        obtain ⟨-, -, u1⟩ := HN.out.cells HON.out.1 hbn
        obtain ⟨y, HY⟩ : ∃ y, Hid ((at_ N.pl (a : Int)).up = y) := ⟨_, Lib.hid rfl⟩
        obtain ⟨z, HZ⟩ : ∃ z, Hid ((at_ N.pl (bn : Int)).up = z) := ⟨_, Lib.hid rfl⟩
        rw [HY.out] at u0
        rw [HZ.out] at u1
        have HQ := Lib.hid (show deepN N (k + 1) = if y < z then (a : Int) else (bn : Int) by rw [deepN_succ hq, HD.out, HY.out, HZ.out])
        clear hq hqb
        have hki : (k : Int) < (m2 : Int) := by omega
        have hkd : decide (k < m2) = true := by simpa using hlt
        have ha8 : (a : Int) < 8 := by omega
        have ha0 : (0 : Int) ≤ (a : Int) := by omega
        have hb8 : (bn : Int) < 8 := by omega
        have hb0 : (0 : Int) ≤ (bn : Int) := by omega
        by_cases hyz : y < z
        · have hd : decide (y < z) = true := by simpa using hyz
          have HQ2 := Lib.hid (show deepN N (k + 1) = (a : Int) by rw [HQ.out, if_pos hyz])
          go_wp2_with fail
          go_quiet (fail)
          go_wp2_with fail
          go_roundw
          case rel => exact ⟨k + 1, _, a, by omega, by go_num, ha7, HQ2, rfl, rfl⟩
          case measure => simp [intOf]; omega
        · have hd : decide (y < z) = false := by simpa using hyz
          have HQ2 := Lib.hid (show deepN N (k + 1) = (bn : Int) by rw [HQ.out, if_neg hyz])
          go_wp2_with fail
          go_quiet (fail)
          go_wp2_with fail
          go_roundw
          case rel => exact ⟨k + 1, _, bn, by omega, by go_num, hbn, HQ2, rfl, rfl⟩
          case measure => simp [intOf]; omega
      · have hkd : decide (k < m2) = false := by simpa using hlt
        obtain rfl : m2 = k := by omega
        have HFD := Lib.hid (show ansDp ts = .tuple #[.int .i64 (bn : Int), .bool true] by rw [HF.out, HD.out])
        clear hlt
        go_wp2_with fail
        go_ret2
        exact ⟨by rw [HFD.out]; rfl, (HB.out.trans (HN.out.1.mono HB.out.size)).trans ((drewN_below w2 m).mono (HB.out.trans (HN.out.1.mono HB.out.size)).size)⟩
#print axioms deepest_model
end Go.Proofs.YtnoieboiklmkaaaDoor.nt
