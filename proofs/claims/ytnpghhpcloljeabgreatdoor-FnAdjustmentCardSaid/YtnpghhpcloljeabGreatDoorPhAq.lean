/-
  The program: how far apart numbers are, fractions in lowest terms, whether a list has a number; the residual of a leg.
  SquareSum, by the model and by the program.
  The depth of the adjusted coordinates, by the model and by the program.
  Conditions: those that each theorem names.
-/
import Derived.Test.YtnpghhpcloljeabGreatDoorPgU
import Derived.Deep.DeepCutAuto
import Derived.Deep.RegionHeld3
import Derived.BigRegion
import Derived.Test.YtnpghhpcloljeabGreatDoorMostq
namespace Go.Proofs.YtnpghhpcloljeabGreatDoor.ph
open Go.RowKit
open reads base ty lg lgi win hs nt nq rowi sn mt ml dt pg
set_option linter.unusedVariables false
set_option linter.unusedSimpArgs false

def IxPost (t : Bool) (w : World) (e : Ending) (w' : World) : Prop := ∃ r : Int, e = .returned (.int .i64 r) ∧ (-1 ≤ r ∧ r ≤ 2000000) ∧ decide (0 ≤ r) = t ∧ w = w'
set_option maxHeartbeats 4000000 in
theorem index_int (A : Option Addr) (n c : Nat) (xs : List Int) (a : Int) (t : Bool) (h : Hid (mem xs a = t)) (w : World) (hn : n ≤ 2000000) (hx : Hid (ints.IL w A n xs)) :
    Calls Tryz.prog 128 #[.slice A n c, .int .i64 a] w (IxPost t w) := by
  have hL : Hid (xs.length = n) := Lib.hid hx.out.1
  go_enter Tryz.func128, Tryz.ntmps128
  go_wp2_with fail
  go_loop [8] (fun i => ∃ k : Nat, k ≤ n ∧ i = .int .i64 k ∧ Hid ((xs.take k).all (fun x => !(x == a)) = true)) (fun i => n - (intOf i).toNat)
  case atStart => exact ⟨0, Nat.zero_le _, rfl, Lib.hid (by simp)⟩
  case round =>
    obtain ⟨k, hk, rfl, HI⟩ := hrel
    have hk0 : 0 ≤ (k : Int) := by omega
    by_cases h1 : k < n
    · have hki : (k : Int) < (n : Int) := by omega
      have hkd : decide (k < n) = true := by simpa using h1
      obtain ⟨x, hxk⟩ := at_lt hL.out h1
      obtain ⟨g, rfl, e0⟩ := hx.out.2 k x hxk
      have HK := Lib.hid hxk
      clear hxk
      by_cases he : x = a
      · have HF := Lib.hid (show mem xs a = true from mem_yes HK.out he)
        have hd2 : (a == x) = true := by simpa using he.symm
        subst he
        go_wp2_with fail
        go_ret
        exact ⟨k, rfl, by omega, by rw [← h.out, HF.out]; simp, rfl⟩
      · have HN := Lib.hid (all_take (p := fun x => !(x == a)) HK.out HI.out (by simpa using he))
        have hd2 : (a == x) = false := by simp; omega
        have hd3 : decide (a = x) = false := by simp; omega
        clear he
        go_wp2_with fail
        go_round
        case rel => exact ⟨k + 1, by omega, by go_num, HN⟩
        case measure => simp [intOf]; omega
    · have hkd : decide (k < n) = false := by simpa using h1
      obtain rfl : k = n := by omega
      have HF := Lib.hid (show mem xs a = false from mem_no (by rw [hL.out]; exact HI.out))
      clear h1
      go_wp2_with fail
      go_ret
      exact ⟨-1, rfl, by omega, by rw [← h.out, HF.out]; rfl, rfl⟩
theorem contains_int (A : Option Addr) (n c : Nat) (xs : List Int) (a : Int) (t : Bool) (h : Hid (mem xs a = t)) (w : World) (hn : n ≤ 2000000) (hx : Hid (ints.IL w A n xs)) :
    Calls Tryz.prog 77 #[.slice A n c, .int .i64 a] w fun e w' => e = .returned (.bool t) ∧ w = w' := by
  go_enter Tryz.func77, Tryz.ntmps77
  go_wp2_with fail
  refine (index_int A n c xs a t h _ hn hx).mono ?_
  rintro e w1 ⟨r, rfl, ⟨h1, h2⟩, h3, rfl⟩
  go_wp2_with fail
  go_ret
  exact ⟨rfl, rfl⟩
set_option maxHeartbeats 4000000 in
theorem dist_any (a : Int) (v : Nat) (w : World) (h : Hid (a.natAbs = v)) (hl : lim62 a) : Calls Tryz.prog 88 #[.int .i64 a, .int .i64 0] w fun e w' => e = .returned (.int .i64 (v : Int)) ∧ w = w' := by
  unfold lim62 at hl
  have hv := h.out
  by_cases hs : 0 ≤ a
  · obtain rfl : a = (v : Int) := by omega
    have xw : IntKind.i64.wrap (v : Int) = (v : Int) := IntWalk.i64_in _ (by omega)
    by_cases hz : v = 0
    · subst hz
      go_enter Tryz.func88, Tryz.ntmps88
      go_wp2_with fail
      go_ret
      exact ⟨rfl, rfl⟩
    · have d1 : (0 : Int) < (v : Int) := by omega
      have d2 : ¬ (v : Int) < 0 := by omega
      have d3 : 0 < v := by omega
      go_enter Tryz.func88, Tryz.ntmps88
      go_wp2_with fail
      go_ret
      exact ⟨rfl, rfl⟩
  · obtain rfl : a = -(v : Int) := by omega
    have d1 : -(v : Int) < 0 := by omega
    have d2 : ¬ 0 < -(v : Int) := by omega
    have d3 : (0 : Int) < (v : Int) := by omega
    have d4 : 0 < v := by omega
    have xw : IntKind.i64.wrap (v : Int) = (v : Int) := IntWalk.i64_in _ (by omega)
    have xw2 : (0 : Int) - -(v : Int) = (v : Int) := by omega
    go_enter Tryz.func88, Tryz.ntmps88
    go_wp2_with fail
    go_ret
    exact ⟨rfl, rfl⟩
set_option maxHeartbeats 4000000 in
theorem gcd_any (num den : Int) (g : Nat) (w : World) (h1 : lim62 num) (h2 : lim62 den) (hg : Hid (Nat.gcd num.natAbs den.natAbs = g)) :
    Calls Tryz.prog 129 #[.int .i64 num, .int .i64 den] w (APost (.int .i64 (g : Int)) w) := by
  go_enter Tryz.func129, Tryz.ntmps129
  go_wp2_with fail
  go_loopw [0, 1] (fun x y wr => ∃ a b : Int, lim62 a ∧ lim62 b ∧ x = .int .i64 a ∧ y = .int .i64 b ∧ Hid (Nat.gcd a.natAbs b.natAbs = g) ∧ Below w.heap.size w wr) (fun _ y _ => (intOf y).natAbs)
  case atStart => exact ⟨num, den, h1, h2, rfl, rfl, hg, Below.refl _ _⟩
  case round =>
    obtain ⟨a, b, ha, hb, rfl, rfl, HI, hB⟩ := hrel
    have HB := Lib.hid hB
    clear hB
    by_cases hz : b = 0
    · subst hz
      have HV := Lib.hid (show a.natAbs = g by have := HI.out; rwa [Int.natAbs_zero, Nat.gcd_zero_right] at this)
      go_wp2_with fail
      refine (dist_any a g _ HV ha).mono ?_
      rintro e w1 ⟨rfl, rfl⟩
      go_wp2_with fail
      go_ret
      exact ⟨rfl, HB.out⟩
    · have b1 : (b == 0) = false := by simpa using hz
      have b2 : (b != 0) = true := by simpa using hz
      obtain ⟨r, hr⟩ : ∃ r, a.tmod b = r := ⟨_, rfl⟩
      have hna : r.natAbs = a.natAbs % b.natAbs := by rw [← hr, Int.natAbs_tmod]
      have hml : r.natAbs < b.natAbs := by rw [hna]; exact Nat.mod_lt _ (by omega)
      have hrl : lim62 r := by unfold lim62 at hb ⊢; omega
      have HS := Lib.hid (show Nat.gcd b.natAbs r.natAbs = g by
        rw [hna, Nat.gcd_comm b.natAbs (a.natAbs % b.natAbs), ← Nat.gcd_rec, Nat.gcd_comm]; exact HI.out)
      have k2 : IntKind.i64.wrap r = r := IntWalk.i64_in _ (by unfold lim62 at hrl; omega)
      have HML := Lib.hid hml
      clear hna hml
      go_upto_region 2 with fail
      go_region
      go_wp2_with fail
      go_roundw
      case rel => exact ⟨b, r, hb, hrl, rfl, rfl, HS, HB.out.drew⟩
      case measure => have := HML.out; simp [intOf]; omega
set_option maxHeartbeats 4000000 in
theorem reduced_any (num den n d : Int) (w : World) (h1 : lim62 num) (h2 : lim62 den) (h3 : 1 ≤ den) (hn : Hid (redN num den = n)) (hd : Hid (redD num den = d)) :
    Calls Tryz.prog 78 #[.int .i64 num, .int .i64 den] w (APost (.tuple #[.int .i64 n, .int .i64 d]) w) := by
  obtain ⟨g, HG⟩ : ∃ g, Hid (Nat.gcd num.natAbs den.natAbs = g) := ⟨_, Lib.hid rfl⟩
  have hg0 : 0 < g := by rw [← HG.out]; exact Nat.gcd_pos_of_pos_right _ (by omega)
  have k1 : num.tdiv (g : Int) = n := by rw [← HG.out]; exact hn.out
  have k2 : den.tdiv (g : Int) = d := by rw [← HG.out]; exact hd.out
  have ln : lim62 n := by rw [← k1]; exact tdiv_lim _ h1
  have ld : lim62 d := by rw [← k2]; exact tdiv_lim _ h2
  have y1 : IntKind.i64.wrap n = n := IntWalk.i64_in _ (by unfold lim62 at ln; omega)
  have y2 : IntKind.i64.wrap d = d := IntWalk.i64_in _ (by unfold lim62 at ld; omega)
  have a0 : ¬ (g : Int) = 0 := by omega
  have a1 : ((g : Int) == 0) = false := by simp; omega
  have a2 : ¬ g = 0 := by omega
  go_enter Tryz.func78, Tryz.ntmps78
  go_wp2_with fail
  refine (gcd_any num den g _ h1 h2 HG).mono ?_
  rintro e w1 ⟨rfl, b1⟩
  have HB := Lib.hid b1
  clear b1
  go_upto_region 2 with fail
  go_region
  go_wp2_with fail
  go_ret2
  exact ⟨rfl, HB.out.drew⟩
/-- the residual of a leg, times the number of trees -/
def resV (ts : List Lg) (ax i : Int) : Int := rsV (lgAt ts i) ax (xcN ts ax) (TC ts)
/-- ResidualOf's answer -/
def ansRs (ts : List Lg) (ax i : Int) : Value := if axOk ts ax && mem (plIds ts) i then .tuple #[.int .i64 (redN (resV ts ax i) (TC ts)), .int .i64 (redD (resV ts ax i) (TC ts)), .bool true] else .tuple #[.int .i64 0, .int .i64 0, .bool false]
theorem tc_bd {ts : List Lg} (hg : goodLg ts = true) : -1000000 ≤ TC ts ∧ TC ts ≤ 1000000 := by have := TC_le hg; have := TC_pos hg; omega
theorem resV_bd {ts : List Lg} (hg : goodLg ts = true) (ax : Int) {j : Nat} {x : Lg} (hx : ts[j]? = some x) : -4500000000 ≤ resV ts ax (j : Int) ∧ resV ts ax (j : Int) ≤ 4500000000 := by
  unfold resV
  rw [lgAt_is hx]
  exact rsV_bd (goodLg_at hg hx) (xcN_bd hg ax) (tc_bd hg)
end Go.Proofs.YtnpghhpcloljeabGreatDoor.ph

namespace Go.Proofs.YtnpghhpcloljeabGreatDoor.ph
open Go.RowKit
open reads base ty lg lgi win hs nt nq rowi sn mt ml dt pg
set_option linter.unusedVariables false
set_option linter.unusedSimpArgs false
theorem cat_xc (ts : List Lg) (ax : Int) {s : Nat} (h : s < 8) : cat (xcN ts ax) (s : Int) = XC ts ax s := by
  unfold cat xcN
  rw [Int.toNat_natCast, List.getElem?_map, List.getElem?_range h]
  rfl
theorem resV_res {ts : List Lg} (hg : goodLg ts = true) (ax : Int) {i : Int} (hi : i ∈ plIds ts) : resV ts ax i = res (US ts ax) (stN ts) (edOf ax (lgAt ts i)) := by
  obtain ⟨j, rfl, x, hx, -⟩ := plIds_at hi
  have ho := goodLg_at hg hx
  unfold resV
  rw [lgAt_is hx]
  obtain ⟨⟨f0, f1⟩, ⟨t0, t1⟩, -⟩ := okLg_lim ho
  unfold rsV res
  rw [DD_ax hg ax]
  show msA x ax * TC ts - cat (xcN ts ax) x.to_ + cat (xcN ts ax) x.frm = msA x ax * TC ts - (XC ts ax x.to_.toNat - XC ts ax x.frm.toNat)
  have e1 : cat (xcN ts ax) x.to_ = XC ts ax x.to_.toNat := by
    have h := cat_xc ts ax (s := x.to_.toNat) (by omega)
    rwa [show ((x.to_.toNat : Nat) : Int) = x.to_ by omega] at h
  have e2 : cat (xcN ts ax) x.frm = XC ts ax x.frm.toNat := by
    have h := cat_xc ts ax (s := x.frm.toNat) (by omega)
    rwa [show ((x.frm.toNat : Nat) : Int) = x.frm by omega] at h
  rw [e1, e2]; omega
end Go.Proofs.YtnpghhpcloljeabGreatDoor.ph

namespace Go.Proofs.YtnpghhpcloljeabGreatDoor.ph
open Go.RowKit
open reads base ty lg lgi win hs nt nq rowi sn mt ml dt pg mst
set_option linter.unusedVariables false
set_option linter.unusedSimpArgs false
theorem xc_zero {ts : List Lg} (hg : goodLg ts = true) (ax : Int) : (xcN ts ax)[0]? = some 0 := by
  unfold xcN
  rw [List.getElem?_map, List.getElem?_range (by decide)]
  show some (XC ts ax 0) = some 0
  rw [XC_out (nw_net hg ax).h0]
end Go.Proofs.YtnpghhpcloljeabGreatDoor.ph
