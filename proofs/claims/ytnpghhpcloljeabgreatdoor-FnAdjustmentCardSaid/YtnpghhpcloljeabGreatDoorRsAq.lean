/-
  What FnResiduals asks of the answers (pure): no residual is greater than the largest one, bridges are exact, without loops the adjusted depth is the depth.
  What FnAdjustment asks of the answers (pure): the adjusted coordinates are balanced, coordinates without a place are 0, without closing legs there is one tree, bridges have no residual.
  Conditions: those that each theorem names.
-/
import Derived.Test.YtnpghhpcloljeabGreatDoorPhAq
import Derived.Test.YtnpghhpcloljeabGreatDoorMostq
import Derived.Test.YtnpghhpcloljeabGreatDoorPgU
import Derived.Test.YtnpghhpcloljeabGreatDoorKuMq
import Derived.Test.YtnpghhpcloljeabGreatDoorNqG0q
import Derived.Test.YtnpghhpcloljeabGreatDoorReadsq
import Derived.Deep.QuietTactic
import Derived.BigQuiet
import Derived.Deep.DeepCutAuto
import Derived.Deep.RegionWith
import Derived.StillTailTactics
import Derived.Test.YtnpghhpcloljeabGreatDoorPhB
namespace Go.Proofs.YtnpghhpcloljeabGreatDoor.rs9
open Go.RowKit
open reads base ty lg rowi hs nt dt ml ph lp bl
set_option linter.unusedVariables false
set_option linter.unusedSimpArgs false
theorem redN_mul {x d : Int} (hd : 1 ≤ d) : redN x d * (Nat.gcd x.natAbs d.natAbs : Int) = x := by
  unfold redN
  exact Int.tdiv_mul_cancel (Int.ofNat_dvd_left.2 (Nat.gcd_dvd_left _ _))
theorem redN_zero {x d : Int} (hd : 1 ≤ d) : redN x d = 0 ↔ x = 0 := by
  have h := redN_mul (x := x) hd
  constructor
  · intro e; rw [e, Int.zero_mul] at h; exact h.symm
  · intro e
    unfold redN
    rw [e]; exact Int.zero_tdiv _
theorem rs_form (ts : List Lg) (ax i : Int) : ∃ (a b : Int) (ok : Bool), ansRs ts ax i = .tuple #[.int .i64 a, .int .i64 b, .bool ok] ∧ (ok = true → axOk ts ax = true ∧ i ∈ plIds ts ∧ a = redN (resV ts ax i) (TC ts) ∧ b = redD (resV ts ax i) (TC ts)) := by
  unfold ansRs
  split
  · rename_i h
    rw [Bool.and_eq_true] at h
    exact ⟨_, _, _, rfl, fun _ => ⟨h.1, mem_iff.1 h.2, rfl, rfl⟩⟩
  · exact ⟨_, _, _, rfl, fun h => by cases h⟩
theorem rs_yes {ts : List Lg} {ax i : Int} (h : axOk ts ax = true) (hi : i ∈ plIds ts) : ansRs ts ax i = .tuple #[.int .i64 (redN (resV ts ax i) (TC ts)), .int .i64 (redD (resV ts ax i) (TC ts)), .bool true] := by
  unfold ansRs; rw [h, mem_iff.2 hi]; rfl
theorem brN_mem {ts : List Lg} : ∀ {n : Nat} {i : Int}, i ∈ brN ts n → ∃ k : Nat, i = (k : Int) ∧ k < n ∧ brAt ts (k : Int) = true ∧ brB ts k = true
  | 0, i, h => by simp [brN] at h
  | n + 1, i, h => by
    cases hb : (brAt ts (n : Int) && brB ts n)
    · rw [brN_no hb] at h
      obtain ⟨k, e, hk, h1⟩ := brN_mem h
      exact ⟨k, e, by omega, h1⟩
    · rw [Bool.and_eq_true] at hb
      rw [brN_yes hb.1 hb.2] at h
      rcases List.mem_append.1 h with h | h
      · obtain ⟨k, e, hk, h1⟩ := brN_mem h
        exact ⟨k, e, by omega, h1⟩
      · exact ⟨n, by simpa using h, by omega, hb.1, hb.2⟩
end Go.Proofs.YtnpghhpcloljeabGreatDoor.rs9

namespace Go.Proofs.YtnpghhpcloljeabGreatDoor.ad9
open Go.RowKit
open reads base ty lg rowi hs nt dt mt ml ph phb lp bl rs9
set_option linter.unusedVariables false
set_option linter.unusedSimpArgs false

theorem upd_at (f : Nat → Int) (k : Nat) (v : Int) (s : Nat) : upd f k v s = if s = k then v else f s := rfl
theorem bal1_at (x : Lg) (r : Int) (f : Nat → Int) (s : Nat) : bal1 x r f s = f s + (dl s x.to_.toNat - dl s x.frm.toNat) * r := by
  unfold bal1
  rw [upd_at, upd_at, upd_at]
  unfold dl
  by_cases h1 : s = x.frm.toNat <;> by_cases h2 : s = x.to_.toNat
  · rw [if_pos h1, ← h1, if_pos h2, ← h2]; simp
  · rw [if_pos h1, ← h1, if_neg h2, if_neg h2, if_pos rfl]; simp; omega
  · rw [if_neg h1, if_pos h2, if_pos h2, if_neg h1, ← h2]; simp
  · rw [if_neg h1, if_neg h2, if_neg h2, if_neg h1]; simp
theorem spU_from (ts : List Lg) (ax : Int) (cs : List Int) (den : Int) (s : Nat) : ∀ (U : List Int) (f : Nat → Int), (U.foldl (fun f u => bal1 (lgAt ts u) (rsV (lgAt ts u) ax cs den) f) f) s = f s + (U.map (fun u => (dl s (lgAt ts u).to_.toNat - dl s (lgAt ts u).frm.toNat) * rsV (lgAt ts u) ax cs den)).sum
  | [], f => by simp
  | u :: U, f => by
    rw [List.foldl_cons, spU_from ts ax cs den s U, bal1_at, List.map_cons, List.sum_cons]
    omega
theorem spU_zero {ts : List Lg} (hg : goodLg ts = true) (ax : Int) (s : Nat) : spU ts ax (xcN ts ax) (TC ts) (plIds ts) s = 0 := by
  have h := (nw_net hg ax).balanced_all s
  have e : arr (US ts ax) (res (US ts ax) (stN ts)) s = ((plIds ts).map (fun u => (dl s (lgAt ts u).to_.toNat - dl s (lgAt ts u).frm.toNat) * rsV (lgAt ts u) ax (xcN ts ax) (TC ts))).sum := by
    unfold arr sme US eds
    rw [List.map_map]
    congr 1
    refine List.map_congr_left (fun u hu => ?_)
    show (dl s (edOf ax (lgAt ts u)).t - dl s (edOf ax (lgAt ts u)).f) * res _ _ (edOf ax (lgAt ts u)) = _
    rw [show res (List.map (fun i => edOf ax (lgAt ts i)) (plIds ts)) (stN ts) (edOf ax (lgAt ts u)) = resV ts ax u from (resV_res hg ax hu).symm]
    rfl
  unfold spU
  rw [spU_from, ← e, h]; rfl
/-- the adjusted coordinates are balanced wherever it is asked -/
theorem bl_form {ts : List Lg} {ax : Int} (h : axOk ts ax = true) : ∃ (b four : Bool), ansBl ts ax (xcN ts ax) (TC ts) = .tuple #[.bool b, .bool four] ∧ (four = true → b = true) := by
  have hg : goodLg ts = true := by unfold axOk at h; rw [Bool.and_eq_true] at h; exact h.1
  unfold ansBl
  split
  · refine ⟨_, true, rfl, fun _ => ?_⟩
    have hz : cat (xcN ts ax) 0 = 0 := by unfold cat; rw [show (0 : Int).toNat = 0 from rfl, xc_zero hg ax]; rfl
    rw [hz, az_yes (fun k _ => spU_zero hg ax k)]; rfl
  · exact ⟨false, false, rfl, fun h => by cases h⟩
/-- a coordinate of a station without a place -/
theorem xc_far {ts : List Lg} (hg : goodLg ts = true) (ax : Int) {s : Nat} (h : (s : Int) ∉ (net ts).ps) : XC ts ax s = 0 := by
  refine XC_out (fun q => h ?_)
  have hu : (s : Int) ∈ unk ts := by
    have := (mem_stN hg (s := (s : Int)) (by omega)).1
    rw [Int.toNat_natCast] at this
    exact this q
  rw [(ps_split hg).1]; exact List.mem_cons_of_mem _ hu
/-- a bridge's residual -/
theorem br_res {ts : List Lg} {ax i : Int} (h : axOk ts ax = true) (hi : i ∈ brIds ts) : ansRs ts ax i = .tuple #[.int .i64 0, .int .i64 1, .bool true] := by
  have hg : goodLg ts = true := by unfold axOk at h; rw [Bool.and_eq_true] at h; exact h.1
  have hi2 := hi
  unfold brIds at hi2
  rw [hg] at hi2
  obtain ⟨k, rfl, hk, h1, h2⟩ := brN_mem (by simpa using hi2)
  obtain ⟨x, hx⟩ := at_lt rfl hk
  have hm : mem (net ts).ps x.frm = true := by
    unfold brAt at h1
    rw [Int.toNat_natCast, hx] at h1
    exact h1
  have hd := TC_pos hg
  rw [rs_yes h (pl_all hx hm), res_bridge hg hx (mem_iff.1 hm) h2 ax]
  have e1 : redN 0 (TC ts) = 0 := (redN_zero hd).2 rfl
  have e2 : redD 0 (TC ts) = 1 := by
    unfold redD
    rw [show (0 : Int).natAbs = 0 from rfl, Nat.gcd_zero_left, show ((TC ts).natAbs : Int) = TC ts by omega]
    exact Int.tdiv_self (by omega)
  rw [e1, e2]
end Go.Proofs.YtnpghhpcloljeabGreatDoor.ad9
