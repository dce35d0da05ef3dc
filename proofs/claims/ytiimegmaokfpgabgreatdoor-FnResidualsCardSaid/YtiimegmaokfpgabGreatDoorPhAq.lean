/-
  The program: how far apart numbers are, fractions in lowest terms, whether a list has a number; the residual of a leg.
  SquareSum, by the model and by the program.
  LargestResidual, by the model and by the program.
  The depth of the adjusted coordinates, by the model and by the program.
  ExactLegs, by the model.
  The strain of legs (pure mathematics): the sum of the squares is a multiple of the number of trees; fractions in lowest terms, their sums and their order.
  Conditions: those that each theorem names.
-/
import Derived.Test.YtiimegmaokfpgabGreatDoorPgU
import Derived.Deep.DeepCutAuto
import Derived.Deep.RegionHeld3
import Derived.BigRegion
import Derived.Test.YtiimegmaokfpgabGreatDoorMost
namespace Go.Proofs.YtiimegmaokfpgabGreatDoor.ph
open Go.RowKit
open reads base ty lg lgi win hs nt nq rowi sn mt ml dt pg
set_option linter.unusedVariables false
set_option linter.unusedSimpArgs false

def IxPost (t : Bool) (w : World) (e : Ending) (w' : World) : Prop := ∃ r : Int, e = .returned (.int .i64 r) ∧ (-1 ≤ r ∧ r ≤ 2000000) ∧ decide (0 ≤ r) = t ∧ w = w'
set_option maxHeartbeats 4000000 in
theorem index_int (A : Option Addr) (n c : Nat) (xs : List Int) (a : Int) (t : Bool) (h : Hid (mem xs a = t)) (w : World) (hn : n ≤ 2000000) (hx : Hid (ints.IL w A n xs)) :
    Calls Tryz.prog 128 #[.slice A n c, .int .i64 a] w (IxPost t w) := by
  have hL : Hid (xs.length = n) := Lib.hid hx.out.1
  go_enter Tryz.func128, Tryz.ntmps128
  go_wp2_with fail
  go_loop [8] (fun i => ∃ k : Nat, k ≤ n ∧ i = .int .i64 k ∧ Hid ((xs.take k).all (fun x => !(x == a)) = true)) (fun i => n - (intOf i).toNat)
  case atStart => exact ⟨0, Nat.zero_le _, rfl, Lib.hid (by simp)⟩
  case round =>
    obtain ⟨k, hk, rfl, HI⟩ := hrel
    have hk0 : 0 ≤ (k : Int) := by omega
    by_cases h1 : k < n
    · have hki : (k : Int) < (n : Int) := by omega
      have hkd : decide (k < n) = true := by simpa using h1
      obtain ⟨x, hxk⟩ := at_lt hL.out h1
      obtain ⟨g, rfl, e0⟩ := hx.out.2 k x hxk
      have HK := Lib.hid hxk
      clear hxk
      by_cases he : x = a
      · have HF := Lib.hid (show mem xs a = true from mem_yes HK.out he)
        have hd2 : (a == x) = true := by simpa using he.symm
        subst he
        go_wp2_with fail
        go_ret
        exact ⟨k, rfl, by omega, by rw [← h.out, HF.out]; simp, rfl⟩
      · have HN := Lib.hid (all_take (p := fun x => !(x == a)) HK.out HI.out (by simpa using he))
        have hd2 : (a == x) = false := by simp; omega
        have hd3 : decide (a = x) = false := by simp; omega
        clear he
        go_wp2_with fail
        go_round
        case rel => exact ⟨k + 1, by omega, by go_num, HN⟩
        case measure => simp [intOf]; omega
    · have hkd : decide (k < n) = false := by simpa using h1
      obtain rfl : k = n := by omega
      have HF := Lib.hid (show mem xs a = false from mem_no (by rw [hL.out]; exact HI.out))
      clear h1
      go_wp2_with fail
      go_ret
      exact ⟨-1, rfl, by omega, by rw [← h.out, HF.out]; rfl, rfl⟩
theorem contains_int (A : Option Addr) (n c : Nat) (xs : List Int) (a : Int) (t : Bool) (h : Hid (mem xs a = t)) (w : World) (hn : n ≤ 2000000) (hx : Hid (ints.IL w A n xs)) :
    Calls Tryz.prog 77 #[.slice A n c, .int .i64 a] w fun e w' => e = .returned (.bool t) ∧ w = w' := by
  go_enter Tryz.func77, Tryz.ntmps77
  go_wp2_with fail
  refine (index_int A n c xs a t h _ hn hx).mono ?_
  rintro e w1 ⟨r, rfl, ⟨h1, h2⟩, h3, rfl⟩
  go_wp2_with fail
  go_ret
  exact ⟨rfl, rfl⟩
set_option maxHeartbeats 4000000 in
theorem dist_any (a : Int) (v : Nat) (w : World) (h : Hid (a.natAbs = v)) (hl : lim62 a) : Calls Tryz.prog 88 #[.int .i64 a, .int .i64 0] w fun e w' => e = .returned (.int .i64 (v : Int)) ∧ w = w' := by
  unfold lim62 at hl
  have hv := h.out
  by_cases hs : 0 ≤ a
  · obtain rfl : a = (v : Int) := by omega
    have xw : IntKind.i64.wrap (v : Int) = (v : Int) := IntWalk.i64_in _ (by omega)
    by_cases hz : v = 0
    · subst hz
      go_enter Tryz.func88, Tryz.ntmps88
      go_wp2_with fail
      go_ret
      exact ⟨rfl, rfl⟩
    · have d1 : (0 : Int) < (v : Int) := by omega
      have d2 : ¬ (v : Int) < 0 := by omega
      have d3 : 0 < v := by omega
      go_enter Tryz.func88, Tryz.ntmps88
      go_wp2_with fail
      go_ret
      exact ⟨rfl, rfl⟩
  · obtain rfl : a = -(v : Int) := by omega
    have d1 : -(v : Int) < 0 := by omega
    have d2 : ¬ 0 < -(v : Int) := by omega
    have d3 : (0 : Int) < (v : Int) := by omega
    have d4 : 0 < v := by omega
    have xw : IntKind.i64.wrap (v : Int) = (v : Int) := IntWalk.i64_in _ (by omega)
    have xw2 : (0 : Int) - -(v : Int) = (v : Int) := by omega
    go_enter Tryz.func88, Tryz.ntmps88
    go_wp2_with fail
    go_ret
    exact ⟨rfl, rfl⟩
set_option maxHeartbeats 4000000 in
theorem gcd_any (num den : Int) (g : Nat) (w : World) (h1 : lim62 num) (h2 : lim62 den) (hg : Hid (Nat.gcd num.natAbs den.natAbs = g)) :
    Calls Tryz.prog 129 #[.int .i64 num, .int .i64 den] w (APost (.int .i64 (g : Int)) w) := by
  go_enter Tryz.func129, Tryz.ntmps129
  go_wp2_with fail
  go_loopw [0, 1] (fun x y wr => ∃ a b : Int, lim62 a ∧ lim62 b ∧ x = .int .i64 a ∧ y = .int .i64 b ∧ Hid (Nat.gcd a.natAbs b.natAbs = g) ∧ Below w.heap.size w wr) (fun _ y _ => (intOf y).natAbs)
  case atStart => exact ⟨num, den, h1, h2, rfl, rfl, hg, Below.refl _ _⟩
  case round =>
    obtain ⟨a, b, ha, hb, rfl, rfl, HI, hB⟩ := hrel
    have HB := Lib.hid hB
    clear hB
    by_cases hz : b = 0
    · subst hz
      have HV := Lib.hid (show a.natAbs = g by have := HI.out; rwa [Int.natAbs_zero, Nat.gcd_zero_right] at this)
      go_wp2_with fail
      refine (dist_any a g _ HV ha).mono ?_
      rintro e w1 ⟨rfl, rfl⟩
      go_wp2_with fail
      go_ret
      exact ⟨rfl, HB.out⟩
    · have b1 : (b == 0) = false := by simpa using hz
      have b2 : (b != 0) = true := by simpa using hz
      obtain ⟨r, hr⟩ : ∃ r, a.tmod b = r := ⟨_, rfl⟩
      have hna : r.natAbs = a.natAbs % b.natAbs := by rw [← hr, Int.natAbs_tmod]
      have hml : r.natAbs < b.natAbs := by rw [hna]; exact Nat.mod_lt _ (by omega)
      have hrl : lim62 r := by unfold lim62 at hb ⊢; omega
      have HS := Lib.hid (show Nat.gcd b.natAbs r.natAbs = g by
        rw [hna, Nat.gcd_comm b.natAbs (a.natAbs % b.natAbs), ← Nat.gcd_rec, Nat.gcd_comm]; exact HI.out)
      have k2 : IntKind.i64.wrap r = r := IntWalk.i64_in _ (by unfold lim62 at hrl; omega)
      have HML := Lib.hid hml
      clear hna hml
      go_upto_region 2 with fail
      go_region
      go_wp2_with fail
      go_roundw
      case rel => exact ⟨b, r, hb, hrl, rfl, rfl, HS, HB.out.drew⟩
      case measure => have := HML.out; simp [intOf]; omega
set_option maxHeartbeats 4000000 in
theorem reduced_any (num den n d : Int) (w : World) (h1 : lim62 num) (h2 : lim62 den) (h3 : 1 ≤ den) (hn : Hid (redN num den = n)) (hd : Hid (redD num den = d)) :
    Calls Tryz.prog 78 #[.int .i64 num, .int .i64 den] w (APost (.tuple #[.int .i64 n, .int .i64 d]) w) := by
  obtain ⟨g, HG⟩ : ∃ g, Hid (Nat.gcd num.natAbs den.natAbs = g) := ⟨_, Lib.hid rfl⟩
  have hg0 : 0 < g := by rw [← HG.out]; exact Nat.gcd_pos_of_pos_right _ (by omega)
  have k1 : num.tdiv (g : Int) = n := by rw [← HG.out]; exact hn.out
  have k2 : den.tdiv (g : Int) = d := by rw [← HG.out]; exact hd.out
  have ln : lim62 n := by rw [← k1]; exact tdiv_lim _ h1
  have ld : lim62 d := by rw [← k2]; exact tdiv_lim _ h2
  have y1 : IntKind.i64.wrap n = n := IntWalk.i64_in _ (by unfold lim62 at ln; omega)
  have y2 : IntKind.i64.wrap d = d := IntWalk.i64_in _ (by unfold lim62 at ld; omega)
  have a0 : ¬ (g : Int) = 0 := by omega
  have a1 : ((g : Int) == 0) = false := by simp; omega
  have a2 : ¬ g = 0 := by omega
  go_enter Tryz.func78, Tryz.ntmps78
  go_wp2_with fail
  refine (gcd_any num den g _ h1 h2 HG).mono ?_
  rintro e w1 ⟨rfl, b1⟩
  have HB := Lib.hid b1
  clear b1
  go_upto_region 2 with fail
  go_region
  go_wp2_with fail
  go_ret2
  exact ⟨rfl, HB.out.drew⟩
/-- the residual of a leg, times the number of trees -/
def resV (ts : List Lg) (ax i : Int) : Int := rsV (lgAt ts i) ax (xcN ts ax) (TC ts)
/-- ResidualOf's answer -/
def ansRs (ts : List Lg) (ax i : Int) : Value := if axOk ts ax && mem (plIds ts) i then .tuple #[.int .i64 (redN (resV ts ax i) (TC ts)), .int .i64 (redD (resV ts ax i) (TC ts)), .bool true] else .tuple #[.int .i64 0, .int .i64 0, .bool false]
theorem tc_bd {ts : List Lg} (hg : goodLg ts = true) : -1000000 ≤ TC ts ∧ TC ts ≤ 1000000 := by have := TC_le hg; have := TC_pos hg; omega
theorem resV_bd {ts : List Lg} (hg : goodLg ts = true) (ax : Int) {j : Nat} {x : Lg} (hx : ts[j]? = some x) : -4500000000 ≤ resV ts ax (j : Int) ∧ resV ts ax (j : Int) ≤ 4500000000 := by
  unfold resV
  rw [lgAt_is hx]
  exact rsV_bd (goodLg_at hg hx) (xcN_bd hg ax) (tc_bd hg)
end Go.Proofs.YtiimegmaokfpgabGreatDoor.ph

namespace Go.Proofs.YtiimegmaokfpgabGreatDoor.ph
open Go.RowKit
open reads base ty lg lgi win hs nt nq rowi sn mt ml dt pg
set_option linter.unusedVariables false
set_option linter.unusedSimpArgs false

/-- the sum of the squares -/
def ssq (l : List Int) : Int := (l.map (fun x => x * x)).sum
theorem ssq_app (a b : List Int) : ssq (a ++ b) = ssq a + ssq b := by simp [ssq]
theorem ssq_nn : ∀ l : List Int, 0 ≤ ssq l
  | [] => by simp [ssq]
  | x :: l => by
    have h : ssq (x :: l) = x * x + ssq l := by simp [ssq]
    have a := ssq_nn l
    have b : 0 ≤ x * x := by rcases Int.le_total 0 x with q | q; exact Int.mul_nonneg q q; exact Int.mul_nonneg_of_nonpos_of_nonpos q q
    omega
theorem ssq_step {l : List Int} {k : Nat} {x : Int} (h : l[k]? = some x) : ssq (l.take (k + 1)) = ssq (l.take k) + x * x := by
  rw [take_snoc h, ssq_app]; simp [ssq]
theorem ssq_le (l : List Int) (k : Nat) : 0 ≤ ssq (l.take k) ∧ ssq (l.take k) ≤ ssq l := by
  have h : ssq l = ssq (l.take k) + ssq (l.drop k) := by rw [← ssq_app, List.take_append_drop]
  have a := ssq_nn (l.take k)
  have b := ssq_nn (l.drop k)
  omega
/-- the sum of the squares of the residuals, times the square of the number of trees -/
def SQ (ts : List Lg) (ax : Int) : Int := ssq ((plIds ts).map (resV ts ax))
theorem cat_xc (ts : List Lg) (ax : Int) {s : Nat} (h : s < 8) : cat (xcN ts ax) (s : Int) = XC ts ax s := by
  unfold cat xcN
  rw [Int.toNat_natCast, List.getElem?_map, List.getElem?_range h]
  rfl
theorem resV_res {ts : List Lg} (hg : goodLg ts = true) (ax : Int) {i : Int} (hi : i ∈ plIds ts) : resV ts ax i = res (US ts ax) (stN ts) (edOf ax (lgAt ts i)) := by
  obtain ⟨j, rfl, x, hx, -⟩ := plIds_at hi
  have ho := goodLg_at hg hx
  unfold resV
  rw [lgAt_is hx]
  obtain ⟨⟨f0, f1⟩, ⟨t0, t1⟩, -⟩ := okLg_lim ho
  unfold rsV res
  rw [DD_ax hg ax]
  show msA x ax * TC ts - cat (xcN ts ax) x.to_ + cat (xcN ts ax) x.frm = msA x ax * TC ts - (XC ts ax x.to_.toNat - XC ts ax x.frm.toNat)
  have e1 : cat (xcN ts ax) x.to_ = XC ts ax x.to_.toNat := by
    have h := cat_xc ts ax (s := x.to_.toNat) (by omega)
    rwa [show ((x.to_.toNat : Nat) : Int) = x.to_ by omega] at h
  have e2 : cat (xcN ts ax) x.frm = XC ts ax x.frm.toNat := by
    have h := cat_xc ts ax (s := x.frm.toNat) (by omega)
    rwa [show ((x.frm.toNat : Nat) : Int) = x.frm by omega] at h
  rw [e1, e2]; omega
theorem SQ_sme {ts : List Lg} (hg : goodLg ts = true) (ax : Int) : SQ ts ax = sme (US ts ax) (fun x => res (US ts ax) (stN ts) x * res (US ts ax) (stN ts) x) := by
  have key : ∀ U : List Int, (∀ i ∈ U, i ∈ plIds ts) → ssq (U.map (resV ts ax)) = sme (eds ts ax U) (fun x => res (US ts ax) (stN ts) x * res (US ts ax) (stN ts) x) := by
    intro U hU
    unfold ssq sme eds
    rw [List.map_map, List.map_map]
    refine congrArg List.sum (List.map_congr_left (fun i hi => ?_))
    show resV ts ax i * resV ts ax i = _
    rw [resV_res hg ax (hU i hi)]
    rfl
  exact key (plIds ts) (fun i hi => hi)
theorem mu_sum : ∀ {us : List Ed}, (∀ x ∈ us, EdOk x) → sme us (fun x => x.mu * x.mu) ≤ 250000 * us.length
  | [], _ => by simp [sme]
  | x :: us, h => by
    rw [sme_cons]
    have a := mu_sum (us := us) (fun y hy => h y (List.mem_cons_of_mem _ hy))
    obtain ⟨-, -, -, m0, m1⟩ := h x (List.mem_cons_self ..)
    have h1 := Int.mul_le_mul (show (x.mu.natAbs : Int) ≤ 500 by omega) (show (x.mu.natAbs : Int) ≤ 500 by omega) (by omega) (by omega)
    have e2 : x.mu * x.mu = (x.mu.natAbs : Int) * (x.mu.natAbs : Int) := by rw [← Int.natAbs_mul_self, Int.natCast_mul]
    simp only [List.length_cons]
    omega
theorem SQ_bd {ts : List Lg} (hg : goodLg ts = true) (ax : Int) : 0 ≤ SQ ts ax ∧ SQ ts ax ≤ 3000000000000000000 := by
  refine ⟨ssq_nn _, ?_⟩
  have hw := nw_net hg ax
  have h := hw.squares
  rw [← SQ_sme hg ax, DD_ax hg ax] at h
  have b1 := TC_pos hg
  have b2 := TC_le hg
  have hl := US_len hg ax
  have hm := mu_sum hw.hu
  have h1 := Int.mul_le_mul (show TC ts ≤ 1000000 by omega) (show TC ts ≤ 1000000 by omega) (by omega) (by omega)
  have h0 : 0 ≤ TC ts * TC ts := Int.mul_nonneg (by omega) (by omega)
  have hs : 0 ≤ sme (US ts ax) (fun x => x.mu * x.mu) := sme_sq_nonneg _ _
  have h2 := Int.mul_le_mul h1 (show sme (US ts ax) (fun x => x.mu * x.mu) ≤ 3000000 by omega) hs (by omega)
  omega
theorem ssq_rsL (ts : List Lg) (ax : Int) : ssq (rsL ts ax (xcN ts ax) (TC ts)) = SQ ts ax := by
  have key : ∀ k, k ≤ ts.length → ssq ((List.range k).map (rsF ts ax (xcN ts ax) (TC ts) (plIds ts))) = ssq ((plN ts k).map (resV ts ax)) := by
    intro k hk
    induction k with
    | zero => rfl
    | succ k ih =>
      have ih := ih (by omega)
      obtain ⟨x, hx⟩ := at_lt rfl (show k < ts.length by omega)
      rw [List.range_succ, List.map_append, ssq_app, ih]
      cases q : mem (net ts).ps x.frm
      · rw [show plN ts (k + 1) = plN ts k from rowi.idxs_no hx q]
        have hn : ¬ (k : Int) ∈ plIds ts := fun z => by
          obtain ⟨j, e, y, hy, hm⟩ := plIds_at z
          obtain rfl : k = j := by omega
          rw [hx] at hy
          obtain rfl := Option.some.inj hy
          rw [q] at hm; cases hm
        have e0 : rsF ts ax (xcN ts ax) (TC ts) (plIds ts) k = 0 := by unfold rsF; rw [if_neg hn]
        simp [ssq, e0]
      · rw [show plN ts (k + 1) = plN ts k ++ [(k : Int)] from rowi.idxs_yes hx q, List.map_append, ssq_app]
        have e0 : rsF ts ax (xcN ts ax) (TC ts) (plIds ts) k = resV ts ax (k : Int) := by unfold rsF; rw [if_pos (pl_all hx q)]; rfl
        simp [ssq, e0]
  exact key ts.length (Nat.le_refl _)
theorem rsL_bd {ts : List Lg} (hg : goodLg ts = true) (ax : Int) {r : Int} (hr : r ∈ rsL ts ax (xcN ts ax) (TC ts)) : -4500000000 ≤ r ∧ r ≤ 4500000000 ∧ r * r ≤ 3000000000000000000 := by
  have hq : r * r ≤ SQ ts ax := by
    rw [← ssq_rsL]
    obtain ⟨k, hk⟩ := List.getElem?_of_mem hr
    have h1 := ssq_step hk
    have h2 := (ssq_le (rsL ts ax (xcN ts ax) (TC ts)) k).1
    have h3 := (ssq_le (rsL ts ax (xcN ts ax) (TC ts)) (k + 1)).2
    omega
  obtain ⟨i, hi, rfl⟩ := List.mem_map.1 hr
  have hb := SQ_bd hg ax
  have hz : -4500000000 ≤ rsF ts ax (xcN ts ax) (TC ts) (plIds ts) i ∧ rsF ts ax (xcN ts ax) (TC ts) (plIds ts) i ≤ 4500000000 := by
    unfold rsF
    split
    · rename_i q
      obtain ⟨j, e, x, hx, -⟩ := plIds_at q
      rw [e]
      exact resV_bd hg ax hx
    · omega
  exact ⟨hz.1, hz.2, by omega⟩
/-- SquareSum's answer -/
def ansSq (ts : List Lg) (ax : Int) : Value := if axOk ts ax then .tuple #[.int .i64 (redN (SQ ts ax) (TC ts * TC ts)), .int .i64 (redD (SQ ts ax) (TC ts * TC ts)), .bool true] else .tuple #[.int .i64 0, .int .i64 0, .bool false]
theorem tt_bd {ts : List Lg} (hg : goodLg ts = true) : 1 ≤ TC ts * TC ts ∧ TC ts * TC ts ≤ 1000000000000 := by
  have b1 := TC_pos hg
  have b2 := TC_le hg
  have h1 := Int.mul_le_mul (show TC ts ≤ 1000000 by omega) (show TC ts ≤ 1000000 by omega) (by omega) (by omega)
  have h2 := Int.mul_le_mul b1 b1 (by omega) (by omega)
  omega
set_option maxHeartbeats 16000000 in
set_option maxRecDepth 100000 in
theorem squares_any (A : Option Addr) (n cap : Nat) (ts : List Lg) (ax rn rd : Int) (w : World) (hn : n ≤ 2000000) (h0 : 0 ≤ ax) (h2 : ax ≤ 2) (HG : Hid (goodLg ts = true)) (HRN : Hid (redN (SQ ts ax) (TC ts * TC ts) = rn)) (HRD : Hid (redD (SQ ts ax) (TC ts * TC ts) = rd)) (hts : Hid (LgAt w w.heap.size A n ts)) :
    Calls Tryz.prog 87 #[.slice A n cap, .int .i64 ax] w (APost (.tuple #[.int .i64 rn, .int .i64 rd]) w) := by
  have HL := Lib.hid hts.out.1
  obtain ⟨U, HU⟩ : ∃ q, Hid (plIds ts = q) := ⟨_, Lib.hid rfl⟩
  obtain ⟨nu, HNU⟩ : ∃ q, Hid (U.length = q) := ⟨_, Lib.hid rfl⟩
  have hn12 := len12 HL.out HG.out
  have hnu : nu ≤ 12 := by rw [← HNU.out, ← HU.out]; have := plIds_len' ts; rw [HL.out] at this; omega
  have btr := tc_bd HG.out
  have btt := tt_bd HG.out
  have bSQ := SQ_bd HG.out ax
  obtain ⟨l, HLS⟩ : ∃ q, Hid ((plIds ts).map (resV ts ax) = q) := ⟨_, Lib.hid rfl⟩
  have HSQ := Lib.hid (show ssq l = SQ ts ax by rw [← HLS.out]; rfl)
  obtain ⟨tr, HTR⟩ : ∃ q, Hid (TC ts = q) := ⟨_, Lib.hid rfl⟩
  rw [HTR.out] at btr btt HRN HRD
  have xt : IntKind.i64.wrap (tr * tr) = tr * tr := IntWalk.i64_in _ (by omega)
  go_enter Tryz.func87, Tryz.ntmps87
  go_wp2_with fail
  refine (adjust_any A n cap ts ax _ h0 h2 HG hts).mono ?_
  rintro e w3 ⟨v7, rfl, hO7, b7⟩
  rw [xcN_len] at hO7
  obtain ⟨A8, c8, rfl⟩ := row_slice hO7
  have HO3 := Lib.hid (IO.of_own hO7)
  have HB3 := Lib.hid b7
  clear hO7 b7
  go_wp2_with fail
  refine (trees_any A n cap ts _ HG (Lib.hid (hts.out.step HB3.out))).mono ?_
  rintro e w4 ⟨rfl, b4⟩
  rw [HTR.out]
  have HB4 := Lib.hid (HB3.out.trans (b4.mono HB3.out.size))
  have HO4 := Lib.hid (HO3.out.step b4)
  clear b4 HO3 HB3
  go_wp2_with fail
  refine (legs9_any A n cap ts _ HG (Lib.hid (hts.out.step HB4.out))).mono ?_
  rintro e w5 ⟨vU, rfl, hOU, b2⟩
  rw [HU.out, HNU.out] at hOU
  obtain ⟨AU, cU, rfl⟩ := row_slice hOU
  have HB5 := Lib.hid (HB4.out.trans (b2.mono HB4.out.size))
  have HI5 := Lib.hid (IO.of_own hOU)
  have HO5 := Lib.hid (HO4.out.step b2)
  clear hOU b2 HB4 HO4
  go_wp2_with fail
  go_loopw [8, 10] (fun v i wr => ∃ k : Nat, k ≤ nu ∧ i = .int .i64 (k : Nat) ∧ v = .int .i64 (ssq (l.take k)) ∧ Below w5.heap.size w5 wr) (fun _ i _ => nu - (intOf i).toNat)
  case atStart => exact ⟨0, Nat.zero_le _, rfl, rfl, Below.refl _ _⟩
  case round =>
    obtain ⟨k, hk, rfl, rfl, hB⟩ := hrel
    have HBQ := Lib.hid hB
    clear hB
    have hk0 : (0 : Int) ≤ (k : Int) := by omega
    by_cases hlt : k < nu
    · have hki : (k : Int) < (nu : Int) := by omega
      have hkd : decide (k < nu) = true := by simpa using hlt
      obtain ⟨q, hq⟩ := at_lt HNU.out hlt
      obtain ⟨j, rfl, ⟨xf, xt9, xp, xc, xs⟩, hx, -⟩ := plIds_at (by rw [HU.out]; exact List.mem_of_getElem? hq)
      have hjn : j < n := by have := lt_at hx; rw [HL.out] at this; exact this
      have hji : (j : Int) < (n : Int) := by omega
      have hj0 : (0 : Int) ≤ (j : Int) := by omega
      have HOX := Lib.hid (goodLg_at HG.out hx)
      have bR := resV_bd HG.out ax hx
      obtain ⟨R, HRR⟩ : ∃ q, Hid (resV ts ax (j : Int) = q) := ⟨_, Lib.hid rfl⟩
      have HRV := Lib.hid (show rsV ⟨xf, xt9, xp, xc, xs⟩ ax (xcN ts ax) tr = R by rw [← HRR.out, ← HTR.out]; unfold resV; rw [lgAt_is hx])
      rw [HRR.out] at bR
      have HST := Lib.hid (show ssq (l.take (k + 1)) = ssq (l.take k) + R * R from ssq_step (by rw [← HLS.out, List.getElem?_map, HU.out, hq]; exact congrArg some HRR.out))
      have bs := ssq_le l k
      have bs1 := ssq_le l (k + 1)
      rw [HST.out, HSQ.out] at bs1
      rw [HSQ.out] at bs
      obtain ⟨s0, HS0⟩ : ∃ q, Hid (ssq (l.take k) = q) := ⟨_, Lib.hid rfl⟩
      rw [HS0.out] at HST bs bs1 ⊢
      have x1 : IntKind.i64.wrap (R * R) = R * R := IntWalk.i64_in _ (by omega)
      have x2 : IntKind.i64.wrap (s0 + R * R) = s0 + R * R := IntWalk.i64_in _ (by omega)
      obtain ⟨gU, oU, rfl, hgU, eU⟩ := (HI5.out.step HBQ.out).2 k _ hq
      obtain ⟨gL, rfl, hgL, e0, e1, e2, e3, e4⟩ := ((hts.out.step HB5.out).step HBQ.out).2 j _ hx
      simp only [] at e0 e1 e2 e3 e4
      clear hq hx bR bs bs1
      go_wp2_with fail
      refine (rest_any ⟨xf, xt9, xp, xc, xs⟩ ax tr R A8 c8 (xcN ts ax) _ HOX h0 h2 btr (Lib.hid (xcN_bd HG.out ax)) (Lib.hid (HO5.out.step HBQ.out)) HRV).mono ?_
      rintro e w6 ⟨rfl, b6⟩
      have HB6 := Lib.hid (HBQ.out.trans (b6.mono HBQ.out.size))
      clear e0 e1 e2 e3 e4 eU b6
      go_wp2_with fail
      go_roundw
      case rel => exact ⟨k + 1, by omega, by go_num, by rw [HST.out], HB6.out⟩
      case measure => simp [intOf]; omega
    · have hkd : decide (k < nu) = false := by simpa using hlt
      obtain rfl : k = nu := by omega
      have HTK := Lib.hid (show ssq (l.take k) = SQ ts ax by rw [List.take_of_length_le (by rw [← HLS.out, List.length_map, HU.out, HNU.out]; exact Nat.le_refl _)]; exact HSQ.out)
      rw [HTK.out]
      obtain ⟨sq, HQ⟩ : ∃ q, Hid (SQ ts ax = q) := ⟨_, Lib.hid rfl⟩
      rw [HQ.out] at HRN HRD bSQ ⊢
      have lR : lim62 sq := by unfold lim62; omega
      have ltr : lim62 (tr * tr) := by unfold lim62; omega
      go_wp2_with fail
      refine (reduce_any sq (tr * tr) rn rd _ lR ltr btt.1 HRN HRD).mono ?_
      rintro e w7 ⟨rfl, b7⟩
      have HB7 := Lib.hid (HBQ.out.trans (b7.mono HBQ.out.size))
      clear b7
      go_wp2_with fail
      go_ret2
      exact ⟨rfl, HB5.out.trans (HB7.out.mono HB5.out.size)⟩
set_option maxHeartbeats 16000000 in
set_option maxRecDepth 100000 in
theorem squareSum_model (A : Option Addr) (n cap : Nat) (ts : List Lg) (ax : Int) (w : World) (hn : n ≤ 2000000) (hts : Hid (LgAt w w.heap.size A n ts)) :
    Calls Tryz.prog 25 #[.slice A n cap, .int .i64 ax] w (APost (ansSq ts ax) w) := by
  have HL := Lib.hid hts.out.1
  obtain ⟨t, HT⟩ : ∃ t, Hid (axOk ts ax = t) := ⟨_, Lib.hid rfl⟩
  cases t
  · have HF := Lib.hid (show ansSq ts ax = .tuple #[.int .i64 0, .int .i64 0, .bool false] by unfold ansSq; rw [HT.out]; rfl)
    go_enter Tryz.func25, Tryz.ntmps25
    go_wp2_with fail
    refine (axis_is A n cap ts ax false _ hn hts HT).mono ?_
    rintro e w1 ⟨rfl, b1⟩
    have HB := Lib.hid b1
    clear b1
    go_wp2_with fail
    go_ret3
    exact ⟨by rw [HF.out]; rfl, HB.out⟩
  have HGA := Lib.hid (show goodLg ts = true ∧ btw 0 ax 2 = true by have := HT.out; unfold axOk at this; rwa [Bool.and_eq_true] at this)
  have HG := Lib.hid HGA.out.1
  have hax := btw_yes HGA.out.2
  obtain ⟨rn, HRN⟩ : ∃ q, Hid (redN (SQ ts ax) (TC ts * TC ts) = q) := ⟨_, Lib.hid rfl⟩
  obtain ⟨rd, HRD⟩ : ∃ q, Hid (redD (SQ ts ax) (TC ts * TC ts) = q) := ⟨_, Lib.hid rfl⟩
  have HF := Lib.hid (show ansSq ts ax = .tuple #[.int .i64 rn, .int .i64 rd, .bool true] by unfold ansSq; rw [HT.out, HRN.out, HRD.out]; rfl)
  go_enter Tryz.func25, Tryz.ntmps25
  go_wp2_with fail
  refine (axis_is A n cap ts ax true _ hn hts HT).mono ?_
  rintro e w1 ⟨rfl, b1⟩
  have HB := Lib.hid b1
  clear b1
  go_wp2_with fail
  refine (squares_any A n cap ts ax rn rd _ hn hax.1 hax.2 HG HRN HRD (Lib.hid (hts.out.step HB.out))).mono ?_
  rintro e w2 ⟨rfl, b2⟩
  have HB2 := Lib.hid (HB.out.trans (b2.mono HB.out.size))
  clear b2
  go_wp2_with fail
  go_ret3
  exact ⟨by rw [HF.out]; rfl, HB2.out⟩
set_option maxHeartbeats 16000000 in
set_option maxRecDepth 100000 in
theorem squareSum_impl (A : Option Addr) (n cap : Nat) (ts : List Lg) (ax : Int) (w : World) (hn : n ≤ 2000000) (hts : Hid (LgAt w w.heap.size A n ts)) (hT : Hid (Tab w)) :
    Calls Tryz.prog 24 #[.slice A n cap, .int .i64 ax] w (APost (ansSq ts ax) w) := by
  have HL := Lib.hid hts.out.1
  obtain ⟨t, HTT⟩ : ∃ t, Hid (axOk ts ax = t) := ⟨_, Lib.hid rfl⟩
  cases t
  · have HF := Lib.hid (show ansSq ts ax = .tuple #[.int .i64 0, .int .i64 0, .bool false] by unfold ansSq; rw [HTT.out]; rfl)
    go_enter Tryz.func24, Tryz.ntmps24
    go_wp2_with fail
    refine (adjOf_no A n cap ts ax _ hn hts hT HTT).mono ?_
    rintro e w1 ⟨rfl, b1⟩
    have HB := Lib.hid b1
    clear b1
    go_wp2_with fail
    go_ret3
    exact ⟨by rw [HF.out]; rfl, HB.out.alloc HB.out.size _⟩
  have HGA := Lib.hid (show goodLg ts = true ∧ btw 0 ax 2 = true by have := HTT.out; unfold axOk at this; rwa [Bool.and_eq_true] at this)
  have HG := Lib.hid HGA.out.1
  have hn12 := len12 HL.out HG.out
  have btr := tc_bd HG.out
  have btt := tt_bd HG.out
  have bSQ := SQ_bd HG.out ax
  obtain ⟨rn, HRN⟩ : ∃ q, Hid (redN (SQ ts ax) (TC ts * TC ts) = q) := ⟨_, Lib.hid rfl⟩
  obtain ⟨rd, HRD⟩ : ∃ q, Hid (redD (SQ ts ax) (TC ts * TC ts) = q) := ⟨_, Lib.hid rfl⟩
  have HF := Lib.hid (show ansSq ts ax = .tuple #[.int .i64 rn, .int .i64 rd, .bool true] by unfold ansSq; rw [HTT.out, HRN.out, HRD.out]; rfl)
  obtain ⟨l, HLS⟩ : ∃ q, Hid (rsL ts ax (xcN ts ax) (TC ts) = q) := ⟨_, Lib.hid rfl⟩
  have HSQ := Lib.hid (show ssq l = SQ ts ax by rw [← HLS.out]; exact ssq_rsL ts ax)
  have HLB := Lib.hid (show ∀ r ∈ l, -4500000000 ≤ r ∧ r ≤ 4500000000 ∧ r * r ≤ 3000000000000000000 from fun r hr => rsL_bd HG.out ax (by rw [HLS.out]; exact hr))
  have HLL := Lib.hid (show l.length = n by rw [← HLS.out, rsL_len, HL.out])
  obtain ⟨tr, HTR⟩ : ∃ q, Hid (TC ts = q) := ⟨_, Lib.hid rfl⟩
  rw [HTR.out] at btr btt HRN HRD
  have xt : IntKind.i64.wrap (tr * tr) = tr * tr := IntWalk.i64_in _ (by omega)
  go_enter Tryz.func24, Tryz.ntmps24
  go_wp2_with fail
  refine (adjOf_yes A n cap ts ax _ hn hts hT HTT).mono ?_
  rintro e w1 ⟨AU, cU, Ax, cx, Ar, cr, rfl, -, -, hOR, b1⟩
  rw [HLS.out, HL.out] at hOR
  rw [HL.out, HTR.out]
  obtain ⟨zU, HZU⟩ : ∃ q, Hid ((plIds ts).length = q) := ⟨_, Lib.hid rfl⟩
  rw [HZU.out]
  have HB := Lib.hid b1
  have HIR := Lib.hid (IO.of_own (hOR.alloc (.cells #[.slice AU zU cU, .int .i64 tr, .slice Ax 8 cx, .slice Ar n cr] 64)))
  have HXB := Lib.hid (Blk.new w1 64 #[.slice AU zU cU, .int .i64 tr, .slice Ax 8 cx, .slice Ar n cr])
  have HBA := Lib.hid (HB.out.alloc HB.out.size (.cells #[.slice AU zU cU, .int .i64 tr, .slice Ax 8 cx, .slice Ar n cr] 64))
  clear b1 hOR
  go_upto_region 4 with fail
  obtain ⟨V0, HV0⟩ : ∃ W, Hid (w1.alloc (.cells #[.slice AU zU cU, .int .i64 tr, .slice Ax 8 cx, .slice Ar n cr] 64) = W) := ⟨_, Lib.hid rfl⟩
  obtain ⟨X, HXX⟩ : ∃ X, Hid (w1.heap.size = X) := ⟨_, Lib.hid rfl⟩
  rw [HXX.out] at HXB
  rw [HV0.out] at HXB HBA HIR ⊢
  try simp only [HXX.out]
  clear HV0 HB
  have q1 := HXB.out.cell 1
  have q3 := HXB.out.cell 3
  simp at q1 q3
  go_wp2_with fail
  go_loopw [9, 25] (fun v i wr => ∃ k : Nat, k ≤ n ∧ i = .int .i64 (k : Nat) ∧ v = .int .i64 (ssq (l.take k)) ∧ wr = V0) (fun _ i _ => n - (intOf i).toNat)
  case atStart => exact ⟨0, Nat.zero_le _, rfl, rfl, rfl⟩
  case round =>
    obtain ⟨k, hk, rfl, rfl, rfl⟩ := hrel
    have hk0 : (0 : Int) ≤ (k : Int) := by omega
    by_cases hlt : k < n
    · have hki : (k : Int) < (n : Int) := by omega
      have hkd : decide (k < n) = true := by simpa using hlt
      obtain ⟨R, hq⟩ := at_lt HLL.out hlt
      have bR := HLB.out R (List.mem_of_getElem? hq)
      have HST := Lib.hid (ssq_step hq)
      have bs := ssq_le l k
      have bs1 := ssq_le l (k + 1)
      rw [HST.out, HSQ.out] at bs1
      rw [HSQ.out] at bs
      obtain ⟨s0, HS0⟩ : ∃ q, Hid (ssq (l.take k) = q) := ⟨_, Lib.hid rfl⟩
      rw [HS0.out] at HST bs bs1 ⊢
      have x1 : IntKind.i64.wrap (R * R) = R * R := IntWalk.i64_in _ (by omega)
      have x2 : IntKind.i64.wrap (s0 + R * R) = s0 + R * R := IntWalk.i64_in _ (by omega)
      obtain ⟨gR, oR, eAr, hgR, er⟩ := HIR.out.2 k _ hq
      subst eAr
      clear hq bR bs bs1
      go_wp2_with fail
      go_roundw
      case rel => exact ⟨k + 1, by omega, by go_num, by rw [HST.out], by first | rfl | trivial⟩
      case measure => simp [intOf]; omega
    · have hkd : decide (k < n) = false := by simpa using hlt
      obtain rfl : k = n := by omega
      have HTK := Lib.hid (show ssq (l.take k) = SQ ts ax by rw [List.take_of_length_le (by rw [HLL.out]; exact Nat.le_refl _)]; exact HSQ.out)
      rw [HTK.out]
      obtain ⟨sq, HQ⟩ : ∃ q, Hid (SQ ts ax = q) := ⟨_, Lib.hid rfl⟩
      rw [HQ.out] at HRN HRD bSQ ⊢
      have lR : lim62 sq := by unfold lim62; omega
      have ltr : lim62 (tr * tr) := by unfold lim62; omega
      go_wp2_with fail
      refine (reduced_any sq (tr * tr) rn rd _ lR ltr btt.1 HRN HRD).mono ?_
      rintro e w7 ⟨rfl, b7⟩
      have HB7 := Lib.hid (HBA.out.trans (b7.mono HBA.out.size))
      clear b7
      go_wp2_with fail
      go_ret3
      exact ⟨by rw [HF.out]; rfl, HB7.out⟩
end Go.Proofs.YtiimegmaokfpgabGreatDoor.ph

namespace Go.Proofs.YtiimegmaokfpgabGreatDoor.ph
open Go.RowKit
open reads base ty lg lgi win hs nt nq rowi sn mt ml dt pg mst
set_option linter.unusedVariables false
set_option linter.unusedSimpArgs false

/-- the first number with the largest value, and that value -/
def bg (f : Int → Nat) (U : List Int) : Nat → Int × Int
  | 0 => (0, -1)
  | k + 1 => match U[k]? with
    | some u => if (bg f U k).2 < (f u : Int) then (u, (f u : Int)) else bg f U k
    | none => bg f U k
theorem bg_step {f : Int → Nat} {U : List Int} {k : Nat} {u : Int} (h : U[k]? = some u) : bg f U (k + 1) = if (bg f U k).2 < (f u : Int) then (u, (f u : Int)) else bg f U k := by
  show (match U[k]? with | some u => if (bg f U k).2 < (f u : Int) then (u, (f u : Int)) else bg f U k | none => bg f U k) = _
  rw [h]
theorem bg_one {f : Int → Nat} {U : List Int} {u : Int} (h : U[0]? = some u) : bg f U 1 = (u, (f u : Int)) := by
  rw [bg_step h, if_pos (by show (-1 : Int) < _; omega)]
theorem bg_in {f : Int → Nat} {U : List Int} : ∀ k : Nat, k < U.length → (bg f U (k + 1)).2 = (f (bg f U (k + 1)).1 : Int) ∧ (bg f U (k + 1)).1 ∈ U
  | 0, h => by
    obtain ⟨u, hu⟩ := at_lt rfl h
    rw [bg_one hu]
    exact ⟨rfl, List.mem_of_getElem? hu⟩
  | k + 1, h => by
    obtain ⟨u, hu⟩ := at_lt rfl h
    rw [bg_step hu]
    split
    · exact ⟨rfl, List.mem_of_getElem? hu⟩
    · exact bg_in k (by omega)
/-- the program's: it begins with the first -/
def lgst (f : Int → Nat) (U : List Int) (k : Nat) : Int := (bg f U (k - 1 + 1)).1
theorem lgst_zero {f : Int → Nat} {U : List Int} {u : Int} (h : U[0]? = some u) : lgst f U 0 = u := by
  show (bg f U 1).1 = u
  rw [bg_one h]
theorem lgst_mem {f : Int → Nat} {U : List Int} {k : Nat} (h : 0 < U.length) (hk : k ≤ U.length) : lgst f U k ∈ U := (bg_in (k - 1) (by omega)).2
theorem lgst_step {f : Int → Nat} {U : List Int} {k : Nat} {u : Int} (h : U[k]? = some u) : lgst f U (k + 1) = if f (lgst f U k) < f u then u else lgst f U k := by
  cases k with
  | zero =>
    rw [lgst_zero h, if_neg (Nat.lt_irrefl _)]
    show (bg f U 1).1 = u
    rw [bg_one h]
  | succ k =>
    show (bg f U (k + 1 + 1)).1 = if f (bg f U (k + 1)).1 < f u then u else (bg f U (k + 1)).1
    rw [bg_step h, (bg_in k (by have := lt_at h; omega)).1]
    by_cases q : f (bg f U (k + 1)).1 < f u
    · rw [if_pos q, if_pos (by omega)]
    · rw [if_neg q, if_neg (by omega)]
theorem lgst_end {f : Int → Nat} {U : List Int} {k : Nat} (h : 0 < k) : lgst f U k = (bg f U k).1 := by
  unfold lgst; rw [Nat.sub_add_cancel h]
/-- how large a residual is -/
def absR (ts : List Lg) (ax i : Int) : Nat := (resV ts ax i).natAbs
/-- LargestResidual's answer -/
def ansLr (ts : List Lg) (ax : Int) : Value := if axOk ts ax && decide (0 < (plIds ts).length) then .tuple #[.int .i64 (bg (absR ts ax) (plIds ts) (plIds ts).length).1, .bool true] else .tuple #[.int .i64 0, .bool false]
theorem rsL_at {ts : List Lg} {ax : Int} {j : Nat} (hj : j < ts.length) (hm : (j : Int) ∈ plIds ts) : (rsL ts ax (xcN ts ax) (TC ts))[j]? = some (resV ts ax (j : Int)) := by
  unfold rsL
  rw [List.getElem?_map, List.getElem?_range hj]
  show some (rsF ts ax (xcN ts ax) (TC ts) (plIds ts) j) = _
  unfold rsF
  rw [if_pos hm]
  rfl
set_option maxHeartbeats 16000000 in
set_option maxRecDepth 100000 in
theorem largest_model (A : Option Addr) (n cap : Nat) (ts : List Lg) (ax : Int) (w : World) (hn : n ≤ 2000000) (hts : Hid (LgAt w w.heap.size A n ts)) :
    Calls Tryz.prog 27 #[.slice A n cap, .int .i64 ax] w (APost (ansLr ts ax) w) := by
  have HL := Lib.hid hts.out.1
  obtain ⟨t, HT⟩ : ∃ t, Hid (axOk ts ax = t) := ⟨_, Lib.hid rfl⟩
  cases t
  · have HF := Lib.hid (show ansLr ts ax = .tuple #[.int .i64 0, .bool false] by unfold ansLr; rw [HT.out]; rfl)
    go_enter Tryz.func27, Tryz.ntmps27
    go_wp2_with fail
    refine (axis_is A n cap ts ax false _ hn hts HT).mono ?_
    rintro e w1 ⟨rfl, b1⟩
    have HB := Lib.hid b1
    clear b1
    go_wp2_with fail
    go_ret2
    exact ⟨by rw [HF.out]; rfl, HB.out⟩
  have HGA := Lib.hid (show goodLg ts = true ∧ btw 0 ax 2 = true by have := HT.out; unfold axOk at this; rwa [Bool.and_eq_true] at this)
  have HG := Lib.hid HGA.out.1
  have hax := btw_yes HGA.out.2
  obtain ⟨U, HU⟩ : ∃ q, Hid (plIds ts = q) := ⟨_, Lib.hid rfl⟩
  obtain ⟨nu, HNU⟩ : ∃ q, Hid (U.length = q) := ⟨_, Lib.hid rfl⟩
  have hn12 := len12 HL.out HG.out
  have hnu : nu ≤ 12 := by rw [← HNU.out, ← HU.out]; have := plIds_len' ts; rw [HL.out] at this; omega
  by_cases hz : nu = 0
  · have HF := Lib.hid (show ansLr ts ax = .tuple #[.int .i64 0, .bool false] by unfold ansLr; rw [HT.out, HU.out, HNU.out, hz]; rfl)
    subst hz
    go_enter Tryz.func27, Tryz.ntmps27
    go_wp2_with fail
    refine (axis_is A n cap ts ax true _ hn hts HT).mono ?_
    rintro e w1 ⟨rfl, b1⟩
    have HB := Lib.hid b1
    clear b1
    go_wp2_with fail
    refine (legs9_any A n cap ts _ HG (Lib.hid (hts.out.step HB.out))).mono ?_
    rintro e w2 ⟨vU, rfl, hOU, b2⟩
    rw [HU.out, HNU.out] at hOU
    obtain ⟨AU, cU, rfl⟩ := row_slice hOU
    have HB2 := Lib.hid (HB.out.trans (b2.mono HB.out.size))
    clear hOU b2
    go_wp2_with fail
    go_ret2
    exact ⟨by rw [HF.out]; rfl, HB2.out⟩
  have h0 : 0 < nu := by omega
  have z1 : ((nu : Int) == 0) = false := by simp; omega
  have z2 : decide ((nu : Int) = 0) = false := by simp; omega
  have z3 : decide (nu = 0) = false := by simp; omega
  have HF := Lib.hid (show ansLr ts ax = .tuple #[.int .i64 (bg (absR ts ax) U nu).1, .bool true] by unfold ansLr; rw [HT.out, HU.out, HNU.out, decide_eq_true h0]; rfl)
  have btr := tc_bd HG.out
  obtain ⟨tr, HTR⟩ : ∃ q, Hid (TC ts = q) := ⟨_, Lib.hid rfl⟩
  rw [HTR.out] at btr
  go_enter Tryz.func27, Tryz.ntmps27
  go_wp2_with fail
  refine (axis_is A n cap ts ax true _ hn hts HT).mono ?_
  rintro e w1 ⟨rfl, b1⟩
  have HB := Lib.hid b1
  clear b1
  go_wp2_with fail
  refine (legs9_any A n cap ts _ HG (Lib.hid (hts.out.step HB.out))).mono ?_
  rintro e w2 ⟨vU, rfl, hOU, b2⟩
  rw [HU.out, HNU.out] at hOU
  obtain ⟨AU0, cU0, rfl⟩ := row_slice hOU
  have HB2 := Lib.hid (HB.out.trans (b2.mono HB.out.size))
  clear hOU b2 HB
  go_wp2_with fail
  refine (legs9_any A n cap ts _ HG (Lib.hid (hts.out.step HB2.out))).mono ?_
  rintro e w3 ⟨vU, rfl, hOU, b2⟩
  rw [HU.out, HNU.out] at hOU
  obtain ⟨AU, cU, rfl⟩ := row_slice hOU
  have HB3 := Lib.hid (HB2.out.trans (b2.mono HB2.out.size))
  have HI3 := Lib.hid (IO.of_own hOU)
  clear hOU b2 HB2
  go_wp2_with fail
  refine (trees_any A n cap ts _ HG (Lib.hid (hts.out.step HB3.out))).mono ?_
  rintro e w4 ⟨rfl, b4⟩
  rw [HTR.out]
  have HB4 := Lib.hid (HB3.out.trans (b4.mono HB3.out.size))
  have HI4 := Lib.hid (HI3.out.step b4)
  clear b4 HI3 HB3
  go_wp2_with fail
  refine (adjust_any A n cap ts ax _ hax.1 hax.2 HG (Lib.hid (hts.out.step HB4.out))).mono ?_
  rintro e w5 ⟨v7, rfl, hO7, b7⟩
  rw [xcN_len] at hO7
  obtain ⟨A8, c8, rfl⟩ := row_slice hO7
  have HO7 := Lib.hid (IO.of_own hO7)
  have HB5 := Lib.hid (HB4.out.trans (b7.mono HB4.out.size))
  have HI5 := Lib.hid (HI4.out.step b7)
  clear hO7 b7 HI4 HB4
  go_wp2_with fail
  go_loopw [9, 10, 11] (fun v9 v10 i wr => ∃ k : Nat, k ≤ nu ∧ i = .int .i64 (k : Nat) ∧ v9 = .int .i64 (bg (absR ts ax) U k).1 ∧ v10 = .int .i64 (bg (absR ts ax) U k).2 ∧ Below w5.heap.size w5 wr) (fun _ _ i _ => nu - (intOf i).toNat)
  case atStart => exact ⟨0, Nat.zero_le _, rfl, rfl, rfl, Below.refl _ _⟩
  case round =>
    obtain ⟨k, hk, rfl, rfl, rfl, hB⟩ := hrel
    have HBQ := Lib.hid hB
    clear hB
    have hk0 : (0 : Int) ≤ (k : Int) := by omega
    by_cases hlt : k < nu
    · have hki : (k : Int) < (nu : Int) := by omega
      have hkd : decide (k < nu) = true := by simpa using hlt
      obtain ⟨q, hq⟩ := at_lt HNU.out hlt
      obtain ⟨j, rfl, ⟨xf, xt, xp, xc, xs⟩, hx, -⟩ := plIds_at (by rw [HU.out]; exact List.mem_of_getElem? hq)
      have hjn : j < n := by have := lt_at hx; rw [HL.out] at this; exact this
      have hji : (j : Int) < (n : Int) := by omega
      have hj0 : (0 : Int) ≤ (j : Int) := by omega
      have HOX := Lib.hid (goodLg_at HG.out hx)
      have bR := resV_bd HG.out ax hx
      obtain ⟨R, HRR⟩ : ∃ q, Hid (resV ts ax (j : Int) = q) := ⟨_, Lib.hid rfl⟩
      have HRV := Lib.hid (show rsV ⟨xf, xt, xp, xc, xs⟩ ax (xcN ts ax) tr = R by rw [← HRR.out, ← HTR.out]; unfold resV; rw [lgAt_is hx])
      rw [HRR.out] at bR
      have xn : IntKind.i64.wrap (-R) = -R := IntWalk.i64_in _ (by omega)
      obtain ⟨m, HM⟩ : ∃ m, Hid (absR ts ax (j : Int) = m) := ⟨_, Lib.hid rfl⟩
      have HMX := Lib.hid (show mx R (-R) = (m : Int) by rw [← HM.out]; unfold absR; rw [HRR.out]; unfold mx; split <;> omega)
      obtain ⟨b0, HB0⟩ : ∃ q, Hid ((bg (absR ts ax) U k).1 = q) := ⟨_, Lib.hid rfl⟩
      obtain ⟨m0, HM0⟩ : ∃ q, Hid ((bg (absR ts ax) U k).2 = q) := ⟨_, Lib.hid rfl⟩
      have HST := Lib.hid (show bg (absR ts ax) U (k + 1) = if m0 < (m : Int) then ((j : Int), (m : Int)) else bg (absR ts ax) U k by rw [bg_step hq, HM0.out, HM.out])
      rw [HB0.out, HM0.out]
      obtain ⟨gU, oU, rfl, hgU, eU⟩ := (HI5.out.step HBQ.out).2 k _ hq
      obtain ⟨gL, rfl, hgL, e0, e1, e2, e3, e4⟩ := ((hts.out.step HB5.out).step HBQ.out).2 j _ hx
      simp only [] at e0 e1 e2 e3 e4
      clear hq hx bR
      go_wp2_with fail
      refine (rest_any ⟨xf, xt, xp, xc, xs⟩ ax tr R A8 c8 (xcN ts ax) _ HOX hax.1 hax.2 btr (Lib.hid (xcN_bd HG.out ax)) (Lib.hid (HO7.out.step HBQ.out)) HRV).mono ?_
      rintro e w6 ⟨rfl, b6⟩
      have eU6 := (b6.cell (p := ⟨gU, oU + k, none⟩) hgU).trans eU
      have HB6 := Lib.hid (HBQ.out.trans (b6.mono HBQ.out.size))
      clear e0 e1 e2 e3 e4 eU b6
      go_wp2_with fail
      refine (most_is R (-R) (m : Int) HMX _).mono ?_
      rintro e w7 ⟨rfl, rfl⟩
      by_cases hc : m0 < (m : Int)
      · have hcd : decide (m0 < (m : Int)) = true := by simpa using hc
        go_wp2_with fail
        go_roundw
        case rel => exact ⟨k + 1, by omega, by go_num, by rw [HST.out, if_pos hc], by rw [HST.out, if_pos hc], HB6.out⟩
        case measure => simp [intOf]; omega
      · have hcd : decide (m0 < (m : Int)) = false := decide_eq_false hc
        have hc2 : ¬ m0 < (m : Int) := hc
        go_wp2_with fail
        go_roundw
        case rel => exact ⟨k + 1, by omega, by go_num, by rw [HST.out, if_neg (by omega), HB0.out], by rw [HST.out, if_neg (by omega), HM0.out], HB6.out⟩
        case measure => simp [intOf]; omega
    · have hkd : decide (k < nu) = false := by simpa using hlt
      obtain rfl : k = nu := by omega
      go_wp2_with fail
      go_ret2
      exact ⟨by rw [HF.out]; rfl, HB5.out.trans (HBQ.out.mono HB5.out.size)⟩
set_option maxHeartbeats 16000000 in
set_option maxRecDepth 100000 in
theorem largest_impl (A : Option Addr) (n cap : Nat) (ts : List Lg) (ax : Int) (w : World) (hn : n ≤ 2000000) (hts : Hid (LgAt w w.heap.size A n ts)) (hT : Hid (Tab w)) :
    Calls Tryz.prog 26 #[.slice A n cap, .int .i64 ax] w (APost (ansLr ts ax) w) := by
  have HL := Lib.hid hts.out.1
  obtain ⟨t, HTT⟩ : ∃ t, Hid (axOk ts ax = t) := ⟨_, Lib.hid rfl⟩
  cases t
  · have HF := Lib.hid (show ansLr ts ax = .tuple #[.int .i64 0, .bool false] by unfold ansLr; rw [HTT.out]; rfl)
    go_enter Tryz.func26, Tryz.ntmps26
    go_wp2_with fail
    refine (adjOf_no A n cap ts ax _ hn hts hT HTT).mono ?_
    rintro e w1 ⟨rfl, b1⟩
    have HB := Lib.hid b1
    clear b1
    go_wp2_with fail
    go_ret2
    exact ⟨by rw [HF.out]; rfl, HB.out.alloc HB.out.size _⟩
  have HGA := Lib.hid (show goodLg ts = true ∧ btw 0 ax 2 = true by have := HTT.out; unfold axOk at this; rwa [Bool.and_eq_true] at this)
  have HG := Lib.hid HGA.out.1
  obtain ⟨U, HU⟩ : ∃ q, Hid (plIds ts = q) := ⟨_, Lib.hid rfl⟩
  obtain ⟨nu, HNU⟩ : ∃ q, Hid (U.length = q) := ⟨_, Lib.hid rfl⟩
  have hn12 := len12 HL.out HG.out
  have hnu : nu ≤ 12 := by rw [← HNU.out, ← HU.out]; have := plIds_len' ts; rw [HL.out] at this; omega
  obtain ⟨tr, HTR⟩ : ∃ q, Hid (TC ts = q) := ⟨_, Lib.hid rfl⟩
  by_cases hz : nu = 0
  · have HF := Lib.hid (show ansLr ts ax = .tuple #[.int .i64 0, .bool false] by unfold ansLr; rw [HTT.out, HU.out, HNU.out, hz]; rfl)
    subst hz
    go_enter Tryz.func26, Tryz.ntmps26
    go_wp2_with fail
    refine (adjOf_yes A n cap ts ax _ hn hts hT HTT).mono ?_
    rintro e w1 ⟨AU, cU, Ax, cx, Ar, cr, rfl, hOU, -, -, b1⟩
    rw [HU.out, HNU.out, HTR.out]
    have HB := Lib.hid b1
    clear b1 hOU
    go_wp2_with fail
    go_ret2
    exact ⟨by rw [HF.out]; rfl, HB.out.alloc HB.out.size _⟩
  have h0 : 0 < nu := by omega
  have z1 : ((nu : Int) == 0) = false := by simp; omega
  have z2 : decide ((nu : Int) = 0) = false := by simp; omega
  have z3 : decide (nu = 0) = false := by simp; omega
  have z4 : (0 : Int) < (nu : Int) := by omega
  have HF := Lib.hid (show ansLr ts ax = .tuple #[.int .i64 (bg (absR ts ax) U nu).1, .bool true] by unfold ansLr; rw [HTT.out, HU.out, HNU.out, decide_eq_true h0]; rfl)
  obtain ⟨u0, hu0⟩ := at_lt HNU.out h0
  go_enter Tryz.func26, Tryz.ntmps26
  go_wp2_with fail
  refine (adjOf_yes A n cap ts ax _ hn hts hT HTT).mono ?_
  rintro e w1 ⟨AU, cU, Ax, cx, Ar, cr, rfl, hOU, -, hOR, b1⟩
  rw [HU.out, HNU.out] at hOU
  rw [HU.out, HNU.out, HTR.out]
  have HB := Lib.hid b1
  have HIU := Lib.hid (IO.of_own (hOU.alloc (.cells #[.slice AU nu cU, .int .i64 tr, .slice Ax 8 cx, .slice Ar ts.length cr] 64)))
  have HIR := Lib.hid (IO.of_own (hOR.alloc (.cells #[.slice AU nu cU, .int .i64 tr, .slice Ax 8 cx, .slice Ar ts.length cr] 64)))
  have HXB := Lib.hid (Blk.new w1 64 #[.slice AU nu cU, .int .i64 tr, .slice Ax 8 cx, .slice Ar ts.length cr])
  have HBA := Lib.hid (HB.out.alloc HB.out.size (.cells #[.slice AU nu cU, .int .i64 tr, .slice Ax 8 cx, .slice Ar ts.length cr] 64))
  clear b1 hOU hOR
  go_upto_region 4 with fail
  obtain ⟨V0, HV0⟩ : ∃ W, Hid (w1.alloc (.cells #[.slice AU nu cU, .int .i64 tr, .slice Ax 8 cx, .slice Ar ts.length cr] 64) = W) := ⟨_, Lib.hid rfl⟩
  obtain ⟨X, HXX⟩ : ∃ X, Hid (w1.heap.size = X) := ⟨_, Lib.hid rfl⟩
  rw [HXX.out] at HXB
  rw [HV0.out] at HXB HBA HIU HIR ⊢
  try simp only [HXX.out]
  clear HV0 HB
  have q0 := HXB.out.cell 0
  simp at q0
  obtain ⟨gU, oU, rfl, hgU0, eU0⟩ := HIU.out.2 0 _ hu0
  rw [Nat.add_zero] at eU0
  go_wp2_with fail
  go_loopw [8, 32] (fun v i wr => ∃ k : Nat, k ≤ nu ∧ i = .int .i64 (k : Nat) ∧ v = .int .i64 (lgst (absR ts ax) U k) ∧ Below V0.heap.size V0 wr) (fun _ i _ => nu - (intOf i).toNat)
  case atStart => exact ⟨0, Nat.zero_le _, rfl, by rw [lgst_zero hu0], by first | exact Below.refl _ _ | exact (Below.refl _ _).drew⟩
  case round =>
    clear q0 eU0
    obtain ⟨k, hk, rfl, rfl, hB⟩ := hrel
    have HBQ := Lib.hid hB
    clear hB
    have hk0 : (0 : Int) ≤ (k : Int) := by omega
    by_cases hlt : k < nu
    · have hki : (k : Int) < (nu : Int) := by omega
      have hkd : decide (k < nu) = true := by simpa using hlt
      obtain ⟨q, hq⟩ := at_lt HNU.out hlt
      have hmq : q ∈ plIds ts := by rw [HU.out]; exact List.mem_of_getElem? hq
      obtain ⟨l, HLK⟩ : ∃ q, Hid (lgst (absR ts ax) U k = q) := ⟨_, Lib.hid rfl⟩
      have hml : l ∈ plIds ts := by rw [HU.out, ← HLK.out]; exact lgst_mem (by rw [HNU.out]; exact h0) (by rw [HNU.out]; exact hk)
      have HST := Lib.hid (show lgst (absR ts ax) U (k + 1) = if absR ts ax l < absR ts ax q then q else l by rw [lgst_step hq, HLK.out])
      rw [HLK.out]
      obtain ⟨j, rfl, x, hx, -⟩ := plIds_at hmq
      obtain ⟨j2, rfl, x2, hx2, -⟩ := plIds_at hml
      have hjl : j < ts.length := lt_at hx
      have hjli : (j : Int) < (ts.length : Int) := by omega
      have hj0 : (0 : Int) ≤ (j : Int) := by omega
      have hj2l : j2 < ts.length := lt_at hx2
      have hj2li : (j2 : Int) < (ts.length : Int) := by omega
      have hj20 : (0 : Int) ≤ (j2 : Int) := by omega
      have bR := resV_bd HG.out ax hx
      have bR2 := resV_bd HG.out ax hx2
      have HRL := Lib.hid (rsL_at (ax := ax) hjl hmq)
      have HRL2 := Lib.hid (rsL_at (ax := ax) hj2l hml)
      obtain ⟨R, HRR⟩ : ∃ q, Hid (resV ts ax (j : Int) = q) := ⟨_, Lib.hid rfl⟩
      obtain ⟨R2, HRR2⟩ : ∃ q, Hid (resV ts ax (j2 : Int) = q) := ⟨_, Lib.hid rfl⟩
      rw [HRR.out] at bR HRL
      rw [HRR2.out] at bR2 HRL2
      have lR : lim62 R := by unfold lim62; omega
      have lR2 : lim62 R2 := by unfold lim62; omega
      obtain ⟨d, HDD⟩ : ∃ q, Hid (R.natAbs = q) := ⟨_, Lib.hid rfl⟩
      obtain ⟨d2, HDD2⟩ : ∃ q, Hid (R2.natAbs = q) := ⟨_, Lib.hid rfl⟩
      have HAB := Lib.hid (show absR ts ax (j : Int) = d ∧ absR ts ax (j2 : Int) = d2 by unfold absR; rw [HRR.out, HRR2.out]; exact ⟨HDD.out, HDD2.out⟩)
      rw [HAB.out.1, HAB.out.2] at HST
      obtain ⟨g', o', eg, -, eU⟩ := (HIU.out.step HBQ.out).2 k _ hq
      obtain ⟨rfl, rfl⟩ : gU = g' ∧ oU = o' := by injection eg with eg; injection eg with e1 e2; exact ⟨e1, e2⟩
      obtain ⟨gR, oR, eAr, hgR, er⟩ := (HIR.out.step HBQ.out).2 j _ HRL.out
      subst eAr
      obtain ⟨g', o', eg2, -, er2⟩ := (HIR.out.step HBQ.out).2 j2 _ HRL2.out
      obtain ⟨rfl, rfl⟩ : gR = g' ∧ oR = o' := by injection eg2 with eg2; injection eg2 with e1 e2; exact ⟨e1, e2⟩
      have HX1 := Lib.hid (HXB.out.below HBQ.out HXB.out.lt)
      clear eg eg2 hq hmq hml hx hx2 bR bR2 HRL HRL2
      go_upto_region 8 with fail
      obtain ⟨W0, HW0⟩ : ∃ W, Hid (wr = W) := ⟨_, Lib.hid rfl⟩
      rw [HW0.out] at HBQ HX1 hgR er er2 ⊢
      clear HW0 eU
      have q3 := HX1.out.cell 3
      have qX := HX1.out.lt
      simp at q3
      obtain ⟨B, HBB⟩ : ∃ B, Hid (W0.heap.size = B) := ⟨_, Lib.hid rfl⟩
      have HWB := Lib.hid (show B ≤ W0.heap.size by rw [HBB.out]; exact Nat.le_refl _)
      rw [HBB.out] at qX hgR
      refine wp_region_held_drew (S := (fun v => (∀ b o, b < B → v.cell? ⟨b, o, none⟩ = W0.cell? ⟨b, o, none⟩) ∧ Below B W0 v)) (by kernel_rfl) ?_ (fun hHeld => ?_)
      · exact sb_start (Below.refl _ _)
      refine' wpAnyH_take (i := 0) (v := ?vr1_0) rfl (by kernel_rfl) (by kernel_rfl) (by kernel_rfl) (fun _ _ _ h => h) (Or.inl ⟨by rfl, ?hyr1_0⟩) (by assumption) ?restr1_0
      case hyr1_0 => (intro w hSw; (try dsimp only at hSw); go_simp; try (with_reducible rfl))
      simp only [Act.put, List.getElem_toArray, List.getElem_cons_succ, List.getElem_cons_zero, List.setIfInBounds_toArray, List.set_cons_zero, List.set_cons_succ]
      refine' wpAnyH_take (i := 1) (v := ?vr1_1) rfl (by kernel_rfl) (by kernel_rfl) (by kernel_rfl) (fun _ _ _ h => h) (Or.inl ⟨by rfl, ?hyr1_1⟩) (by assumption) ?restr1_1
      case hyr1_1 => (intro w hSw; (try dsimp only at hSw); go_simp; try (with_reducible rfl))
      simp only [Act.put, List.getElem_toArray, List.getElem_cons_succ, List.getElem_cons_zero, List.setIfInBounds_toArray, List.set_cons_zero, List.set_cons_succ]
      refine' wpAnyH_take (i := 2) (v := ?vr1_2) rfl (by kernel_rfl) (by kernel_rfl) (by kernel_rfl) (fun _ _ _ h => h) (Or.inl ⟨by rfl, ?hyr1_2⟩) (by assumption) ?restr1_2
      case hyr1_2 => (intro w hSw; (try dsimp only at hSw); go_simp; try (with_reducible rfl))
      simp only [Act.put, List.getElem_toArray, List.getElem_cons_succ, List.getElem_cons_zero, List.setIfInBounds_toArray, List.set_cons_zero, List.set_cons_succ]
      refine' wpAnyH_take (i := 3) (v := ?vr1_3) rfl (by kernel_rfl) (by kernel_rfl) (by kernel_rfl) (fun _ _ _ h => h) (Or.inl ⟨by rfl, ?hyr1_3⟩) (by assumption) ?restr1_3
      case hyr1_3 => (intro w hSw; (try dsimp only at hSw); go_simp; try (with_reducible rfl))
      simp only [Act.put, List.getElem_toArray, List.getElem_cons_succ, List.getElem_cons_zero, List.setIfInBounds_toArray, List.set_cons_zero, List.set_cons_succ]
      refine' wpAnyH_take (i := 4) (v := ?vr1_4) rfl (by kernel_rfl) (by kernel_rfl) (by kernel_rfl) (fun _ _ _ h => h) (Or.inl ⟨by rfl, ?hyr1_4⟩) (by assumption) ?restr1_4
      case hyr1_4 => (intro w hSw; (try dsimp only at hSw); go_simp; try (with_reducible rfl))
      simp only [Act.put, List.getElem_toArray, List.getElem_cons_succ, List.getElem_cons_zero, List.setIfInBounds_toArray, List.set_cons_zero, List.set_cons_succ]
      refine' wpAnyH_take (i := 6) (v := ?vr1_6) rfl (by kernel_rfl) (by kernel_rfl) (by kernel_rfl) (fun _ _ _ h => h) (Or.inl ⟨by rfl, ?hyr1_6⟩) (by assumption) ?restr1_6
      case hyr1_6 => (intro w hSw; (try dsimp only at hSw); go_simp; try (with_reducible rfl))
      simp only [Act.put, List.getElem_toArray, List.getElem_cons_succ, List.getElem_cons_zero, List.setIfInBounds_toArray, List.set_cons_zero, List.set_cons_succ]
      refine' wpAnyH_take (i := 7) (v := ?vr1_7) rfl (by kernel_rfl) (by kernel_rfl) (by kernel_rfl) (fun _ _ _ h => h) (Or.inl ⟨by rfl, ?hyr1_7⟩) (by assumption) ?restr1_7
      case hyr1_7 => (intro w hSw; (try dsimp only at hSw); go_simp; try (with_reducible rfl))
      simp only [Act.put, List.getElem_toArray, List.getElem_cons_succ, List.getElem_cons_zero, List.setIfInBounds_toArray, List.set_cons_zero, List.set_cons_succ]
      refine' wpAnyH_take (i := 8) (v := ?vr1_8) rfl (by kernel_rfl) (by kernel_rfl) (by kernel_rfl) (fun _ _ _ h => h) (Or.inl ⟨by rfl, ?hyr1_8⟩) (by assumption) ?restr1_8
      case hyr1_8 => (intro w hSw; (try dsimp only at hSw); go_simp; try (with_reducible rfl))
      simp only [Act.put, List.getElem_toArray, List.getElem_cons_succ, List.getElem_cons_zero, List.setIfInBounds_toArray, List.set_cons_zero, List.set_cons_succ]
      refine' wpAnyH_take (i := 9) (v := ?vr1_9) rfl (by kernel_rfl) (by kernel_rfl) (by kernel_rfl) (fun _ _ _ h => h) (Or.inl ⟨by rfl, ?hyr1_9⟩) (by assumption) ?restr1_9
      case hyr1_9 => (intro w hSw; (try dsimp only at hSw); go_simp; try (with_reducible rfl))
      simp only [Act.put, List.getElem_toArray, List.getElem_cons_succ, List.getElem_cons_zero, List.setIfInBounds_toArray, List.set_cons_zero, List.set_cons_succ]
      refine' wpAnyH_take (i := 10) (v := ?vr1_10) rfl (by kernel_rfl) (by kernel_rfl) (by kernel_rfl) (fun _ _ _ h => h) (Or.inl ⟨by rfl, ?hyr1_10⟩) (by assumption) ?restr1_10
      case hyr1_10 => (intro w hSw; (try dsimp only at hSw); go_simp; try (with_reducible rfl))
      simp only [Act.put, List.getElem_toArray, List.getElem_cons_succ, List.getElem_cons_zero, List.setIfInBounds_toArray, List.set_cons_zero, List.set_cons_succ]
      refine wpAnyH_ready (rs := [5]) (by kernel_rfl) (by simp) ?_
      refine AllReadyH.cons rfl (fun K hK => ?_) AllReadyH.nil
      go_simp
      refine (ph.dist_any R d _ HDD lR).mono ?_
      rintro e w5 ⟨rfl, rfl⟩
      refine hK.out _ _ (hHeld) (fun hHeld1 => ?_)
      clear hK K hHeld
      have hHeld := hHeld1
      clear hHeld1
      try simp only [Act.put, List.getElem_toArray, List.getElem_cons_succ, List.getElem_cons_zero, List.setIfInBounds_toArray, List.set_cons_zero, List.set_cons_succ]
      refine wpAnyH_ready (rs := [11]) (by kernel_rfl) (by simp) ?_
      refine AllReadyH.cons rfl (fun K hK => ?_) AllReadyH.nil
      go_simp
      refine (ph.dist_any R2 d2 _ HDD2 lR2).mono ?_
      rintro e w6 ⟨rfl, rfl⟩
      refine hK.out _ _ (hHeld) (fun hHeld1 => ?_)
      clear hK K hHeld
      have hHeld := hHeld1
      clear hHeld1
      try simp only [Act.put, List.getElem_toArray, List.getElem_cons_succ, List.getElem_cons_zero, List.setIfInBounds_toArray, List.set_cons_zero, List.set_cons_succ]
      refine' wpAnyH_take (i := 12) (v := ?vr1_12) rfl (by kernel_rfl) (by kernel_rfl) (by kernel_rfl) (fun _ _ _ h => h) (Or.inl ⟨by rfl, ?hyr1_12⟩) (by assumption) ?restr1_12
      case hyr1_12 => (intro w hSw; (try dsimp only at hSw); go_simp; try (with_reducible rfl))
      simp only [Act.put, List.getElem_toArray, List.getElem_cons_succ, List.getElem_cons_zero, List.setIfInBounds_toArray, List.set_cons_zero, List.set_cons_succ]
      refine wpAnyH_done (by kernel_rfl) ?_ _
      have HB6 := Lib.hid (HBQ.out.trans (hHeld.2.mono (by rw [← HBB.out]; exact HBQ.out.size)))
      by_cases hc : d2 < d
      · have hcd : decide (d2 < d) = true := by simpa using hc
        have hcd2 : decide ((d2 : Int) < (d : Int)) = true := by simpa using hc
        have hcd3 : (d2 : Int) < (d : Int) := by omega
        go_wp2_with fail
        go_roundw
        case rel => exact ⟨k + 1, by omega, by go_num, by rw [HST.out, if_pos hc], HB6.out⟩
        case measure => simp [intOf]; omega
      · have hcd : decide (d2 < d) = false := by simpa using hc
        have hcd2 : decide ((d2 : Int) < (d : Int)) = false := by simpa using hc
        have hcd3 : ¬ (d2 : Int) < (d : Int) := by omega
        go_wp2_with fail
        go_roundw
        case rel => exact ⟨k + 1, by omega, by go_num, by rw [HST.out, if_neg hc], HB6.out⟩
        case measure => simp [intOf]; omega
    · have hkd : decide (k < nu) = false := by simpa using hlt
      obtain rfl : k = nu := by omega
      go_wp2_with fail
      go_ret2
      exact ⟨by rw [HF.out, lgst_end h0]; rfl, HBA.out.trans (HBQ.out.mono HBA.out.size)⟩
end Go.Proofs.YtiimegmaokfpgabGreatDoor.ph

namespace Go.Proofs.YtiimegmaokfpgabGreatDoor.ph
open Go.RowKit
open reads base ty lg lgi win hs nt nq rowi sn mt ml dt pg mst
set_option linter.unusedVariables false
set_option linter.unusedSimpArgs false

def mn (a b : Int) : Int := if a < b then a else b
theorem least_is (a b v : Int) (h : Hid (mn a b = v)) (w : World) : Calls Tryz.prog 96 #[.int .i64 a, .int .i64 b] w fun e w' => e = .returned (.int .i64 v) ∧ w = w' := by
  have hh := h.out
  clear h
  by_cases c : a < b
  · obtain rfl : v = a := by rw [← hh]; exact if_pos c
    clear hh
    go_enter Tryz.func96, Tryz.ntmps96
    go_wp2_with fail
    go_ret
    exact ⟨rfl, rfl⟩
  · obtain rfl : v = b := by rw [← hh]; exact if_neg c
    have hd : decide (a < v) = false := by simpa using c
    clear hh c
    go_enter Tryz.func96, Tryz.ntmps96
    go_wp2_with fail
    go_ret
    exact ⟨rfl, rfl⟩
/-- the largest and the least of the first numbers and 0 -/
def hiF (xs : List Int) (k : Nat) : Int := (xs.take k).foldl mx 0
def loF (xs : List Int) (k : Nat) : Int := (xs.take k).foldl mn 0
theorem hiF_step {xs : List Int} {k : Nat} {x : Int} (h : xs[k]? = some x) : hiF xs (k + 1) = mx (hiF xs k) x := by
  unfold hiF; rw [take_snoc h, List.foldl_append]; rfl
theorem loF_step {xs : List Int} {k : Nat} {x : Int} (h : xs[k]? = some x) : loF xs (k + 1) = mn (loF xs k) x := by
  unfold loF; rw [take_snoc h, List.foldl_append]; rfl
theorem hl_bd {xs : List Int} (h : CBd xs) : ∀ k, k ≤ 8 → (-2000000000 ≤ hiF xs k ∧ hiF xs k ≤ 2000000000) ∧ (-2000000000 ≤ loF xs k ∧ loF xs k ≤ 2000000000)
  | 0, _ => by simp [hiF, loF]
  | k + 1, hk => by
    obtain ⟨x, hx⟩ := at_lt h.1 (show k < 8 by omega)
    have hb := h.2 x (List.mem_of_getElem? hx)
    have ih := hl_bd h k (by omega)
    rw [hiF_step hx, loF_step hx]
    unfold mx mn
    split <;> split <;> omega
set_option maxHeartbeats 4000000 in
theorem max_any (A : Option Addr) (c : Nat) (xs : List Int) (v : Int) (w : World) (hv : Hid (hiF xs 8 = v)) (hz : Hid (xs[0]? = some 0)) (hx : Hid (IO w w.heap.size A 8 xs)) :
    Calls Tryz.prog 94 #[.slice A 8 c] w fun e w' => e = .returned (.int .i64 v) ∧ w = w' := by
  have hL : Hid (xs.length = 8) := Lib.hid hx.out.1
  obtain ⟨g, o, rfl, hg, e0⟩ := hx.out.2 0 _ hz.out
  rw [Nat.add_zero] at e0
  have H1 := Lib.hid (show hiF xs 1 = 0 by rw [hiF_step hz.out]; rfl)
  go_enter Tryz.func94, Tryz.ntmps94
  go_wp2_with fail
  go_loop [3, 4] (fun v i => ∃ k : Nat, k ≤ 8 ∧ 1 ≤ k ∧ i = .int .i64 k ∧ v = .int .i64 (hiF xs k)) (fun _ i => 8 - (intOf i).toNat)
  case atStart => exact ⟨1, by omega, by omega, rfl, by rw [H1.out]⟩
  case round =>
    obtain ⟨k, hk, hk1, rfl, rfl⟩ := hrel
    have hk0 : 0 ≤ (k : Int) := by omega
    by_cases h1 : k < 8
    · have hki : (k : Int) < 8 := by omega
      have hkd : decide (k < 8) = true := by simpa using h1
      obtain ⟨x, hxk⟩ := at_lt hL.out h1
      obtain ⟨g', o', eg, -, ex⟩ := hx.out.2 k x hxk
      obtain ⟨rfl, rfl⟩ : g = g' ∧ o = o' := by injection eg with eg; injection eg with e1 e2; exact ⟨e1, e2⟩
      have HST := Lib.hid (hiF_step hxk)
      obtain ⟨m, HM⟩ : ∃ q, Hid (hiF xs k = q) := ⟨_, Lib.hid rfl⟩
      rw [HM.out] at HST ⊢
      clear hxk
      go_wp2_with fail
      go_round
      case rel => exact ⟨k + 1, by omega, by omega, by go_num, by rw [HST.out]; unfold mx; simp; try omega⟩
      case measure => simp [intOf]; omega
    · have hkd : decide (k < 8) = false := by simpa using h1
      obtain rfl : k = 8 := by omega
      rw [hv.out]
      go_wp2_with fail
      go_ret
      exact ⟨rfl, rfl⟩
set_option maxHeartbeats 4000000 in
theorem min_any (A : Option Addr) (c : Nat) (xs : List Int) (v : Int) (w : World) (hv : Hid (loF xs 8 = v)) (hz : Hid (xs[0]? = some 0)) (hx : Hid (IO w w.heap.size A 8 xs)) :
    Calls Tryz.prog 95 #[.slice A 8 c] w fun e w' => e = .returned (.int .i64 v) ∧ w = w' := by
  have hL : Hid (xs.length = 8) := Lib.hid hx.out.1
  obtain ⟨g, o, rfl, hg, e0⟩ := hx.out.2 0 _ hz.out
  rw [Nat.add_zero] at e0
  have H1 := Lib.hid (show loF xs 1 = 0 by rw [loF_step hz.out]; rfl)
  go_enter Tryz.func95, Tryz.ntmps95
  go_wp2_with fail
  go_loop [3, 4] (fun v i => ∃ k : Nat, k ≤ 8 ∧ 1 ≤ k ∧ i = .int .i64 k ∧ v = .int .i64 (loF xs k)) (fun _ i => 8 - (intOf i).toNat)
  case atStart => exact ⟨1, by omega, by omega, rfl, by rw [H1.out]⟩
  case round =>
    obtain ⟨k, hk, hk1, rfl, rfl⟩ := hrel
    have hk0 : 0 ≤ (k : Int) := by omega
    by_cases h1 : k < 8
    · have hki : (k : Int) < 8 := by omega
      have hkd : decide (k < 8) = true := by simpa using h1
      obtain ⟨x, hxk⟩ := at_lt hL.out h1
      obtain ⟨g', o', eg, -, ex⟩ := hx.out.2 k x hxk
      obtain ⟨rfl, rfl⟩ : g = g' ∧ o = o' := by injection eg with eg; injection eg with e1 e2; exact ⟨e1, e2⟩
      have HST := Lib.hid (loF_step hxk)
      obtain ⟨m, HM⟩ : ∃ q, Hid (loF xs k = q) := ⟨_, Lib.hid rfl⟩
      rw [HM.out] at HST ⊢
      clear hxk
      go_wp2_with fail
      go_round
      case rel => exact ⟨k + 1, by omega, by omega, by go_num, by rw [HST.out]; unfold mn; simp; try (split <;> split <;> omega)⟩
      case measure => simp [intOf]; omega
    · have hkd : decide (k < 8) = false := by simpa using h1
      obtain rfl : k = 8 := by omega
      rw [hv.out]
      go_wp2_with fail
      go_ret
      exact ⟨rfl, rfl⟩
-- REST
theorem xc_zero {ts : List Lg} (hg : goodLg ts = true) (ax : Int) : (xcN ts ax)[0]? = some 0 := by
  unfold xcN
  rw [List.getElem?_map, List.getElem?_range (by decide)]
  show some (XC ts ax 0) = some 0
  rw [XC_out (nw_net hg ax).h0]
/-- AdjustedDepth's answer -/
def ansDp (ts : List Lg) : Value := if goodLg ts then .tuple #[.int .i64 (redN (hiF (xcN ts 2) 8 - loF (xcN ts 2) 8) (TC ts)), .int .i64 (redD (hiF (xcN ts 2) 8 - loF (xcN ts 2) 8) (TC ts)), .bool true] else .tuple #[.int .i64 0, .int .i64 0, .bool false]
set_option maxHeartbeats 16000000 in
set_option maxRecDepth 100000 in
theorem depth_model (A : Option Addr) (n cap : Nat) (ts : List Lg) (w : World) (hn : n ≤ 2000000) (hts : Hid (LgAt w w.heap.size A n ts)) :
    Calls Tryz.prog 35 #[.slice A n cap] w (APost (ansDp ts) w) := by
  obtain ⟨t, HT⟩ : ∃ t, Hid (goodLg ts = t) := ⟨_, Lib.hid rfl⟩
  cases t
  · have HF := Lib.hid (show ansDp ts = .tuple #[.int .i64 0, .int .i64 0, .bool false] by unfold ansDp; rw [HT.out]; rfl)
    go_enter Tryz.func35, Tryz.ntmps35
    go_wp2_with fail
    refine (legs_is A n cap ts false _ hn hts HT).mono ?_
    rintro e w1 ⟨rfl, b1⟩
    have HB := Lib.hid b1
    clear b1
    go_wp2_with fail
    go_ret3
    exact ⟨by rw [HF.out]; rfl, HB.out⟩
  have HG := Lib.hid HT.out
  have btr := tc_bd HG.out
  have btr1 := TC_pos HG.out
  have hbd := hl_bd (xcN_bd HG.out 2) 8 (Nat.le_refl _)
  obtain ⟨xs, HXS⟩ : ∃ q, Hid (xcN ts 2 = q) := ⟨_, Lib.hid rfl⟩
  have HXB := Lib.hid (show CBd xs by rw [← HXS.out]; exact xcN_bd HG.out 2)
  obtain ⟨hv, HHI⟩ : ∃ q, Hid (hiF xs 8 = q) := ⟨_, Lib.hid rfl⟩
  obtain ⟨lv, HLO⟩ : ∃ q, Hid (loF xs 8 = q) := ⟨_, Lib.hid rfl⟩
  obtain ⟨tr, HTR⟩ : ∃ q, Hid (TC ts = q) := ⟨_, Lib.hid rfl⟩
  rw [HXS.out, HHI.out, HLO.out] at hbd
  rw [HTR.out] at btr btr1
  have lR : lim62 (hv - lv) := by unfold lim62; omega
  have ltr : lim62 tr := by unfold lim62; omega
  have x1 : IntKind.i64.wrap (hv - lv) = hv - lv := IntWalk.i64_in _ (by omega)
  obtain ⟨rn, HRN⟩ : ∃ q, Hid (redN (hv - lv) tr = q) := ⟨_, Lib.hid rfl⟩
  obtain ⟨rd, HRD⟩ : ∃ q, Hid (redD (hv - lv) tr = q) := ⟨_, Lib.hid rfl⟩
  have HF := Lib.hid (show ansDp ts = .tuple #[.int .i64 rn, .int .i64 rd, .bool true] by unfold ansDp; rw [HT.out, HXS.out, HHI.out, HLO.out, HTR.out, HRN.out, HRD.out]; rfl)
  clear btr hbd
  go_enter Tryz.func35, Tryz.ntmps35
  go_wp2_with fail
  refine (legs_is A n cap ts true _ hn hts HT).mono ?_
  rintro e w1 ⟨rfl, b1⟩
  have HB := Lib.hid b1
  clear b1
  go_wp2_with fail
  refine (adjust_any A n cap ts 2 _ (by decide) (by decide) HG (Lib.hid (hts.out.step HB.out))).mono ?_
  rintro e w5 ⟨v7, rfl, hO7, b7⟩
  rw [xcN_len, HXS.out] at hO7
  obtain ⟨A8, c8, rfl⟩ := row_slice hO7
  have HO5 := Lib.hid (IO.of_own hO7)
  have HB5 := Lib.hid (HB.out.trans (b7.mono HB.out.size))
  clear hO7 b7
  go_wp2_with fail
  go_loopw [6, 7, 8] (fun v6 v7 i wr => ∃ k : Nat, k ≤ 8 ∧ i = .int .i64 (k : Nat) ∧ v6 = .int .i64 (loF xs k) ∧ v7 = .int .i64 (hiF xs k) ∧ wr = w5) (fun _ _ i _ => 8 - (intOf i).toNat)
  case atStart => exact ⟨0, Nat.zero_le _, rfl, rfl, rfl, rfl⟩
  case round =>
    obtain ⟨k, hk, rfl, rfl, rfl, rfl⟩ := hrel
    have hk0 : (0 : Int) ≤ (k : Int) := by omega
    by_cases hlt : k < 8
    · have hki : (k : Int) < 8 := by omega
      have hkd : decide (k < 8) = true := by simpa using hlt
      obtain ⟨x, hxk⟩ := at_lt HXB.out.1 hlt
      obtain ⟨gC, oC, rfl, hgC, ex⟩ := HO5.out.2 k _ hxk
      have HS1 := Lib.hid (hiF_step hxk)
      have HS2 := Lib.hid (loF_step hxk)
      obtain ⟨m1, HM1⟩ : ∃ q, Hid (hiF xs k = q) := ⟨_, Lib.hid rfl⟩
      obtain ⟨m2, HM2⟩ : ∃ q, Hid (loF xs k = q) := ⟨_, Lib.hid rfl⟩
      rw [HM1.out] at HS1 ⊢
      rw [HM2.out] at HS2 ⊢
      clear hxk
      go_wp2_with fail
      refine (least_is m2 x _ (Lib.hid HS2.out.symm) _).mono ?_
      rintro e w6 ⟨rfl, rfl⟩
      go_wp2_with fail
      refine (most_is m1 x _ (Lib.hid HS1.out.symm) _).mono ?_
      rintro e w7 ⟨rfl, rfl⟩
      go_wp2_with fail
      go_roundw
      case rel => exact ⟨k + 1, by omega, by go_num, rfl, rfl, by first | rfl | trivial⟩
      case measure => simp [intOf]; omega
    · have hkd : decide (k < 8) = false := by simpa using hlt
      obtain rfl : k = 8 := by omega
      rw [HHI.out, HLO.out]
      go_wp2_with fail
      refine (trees_any A n cap ts _ HG (Lib.hid (hts.out.step HB5.out))).mono ?_
      rintro e w6 ⟨rfl, b6⟩
      rw [HTR.out]
      have HB6 := Lib.hid (HB5.out.trans (b6.mono HB5.out.size))
      clear b6
      go_wp2_with fail
      refine (reduce_any (hv - lv) tr rn rd _ lR ltr btr1 HRN HRD).mono ?_
      rintro e w7 ⟨rfl, b7⟩
      have HB7 := Lib.hid (HB6.out.trans (b7.mono HB6.out.size))
      clear b7
      go_wp2_with fail
      go_ret3
      exact ⟨by rw [HF.out]; rfl, HB7.out⟩
set_option maxHeartbeats 16000000 in
set_option maxRecDepth 100000 in
theorem depth_impl (A : Option Addr) (n cap : Nat) (ts : List Lg) (w : World) (hn : n ≤ 2000000) (hts : Hid (LgAt w w.heap.size A n ts)) (hT : Hid (Tab w)) :
    Calls Tryz.prog 34 #[.slice A n cap] w (APost (ansDp ts) w) := by
  obtain ⟨t, HTT⟩ : ∃ t, Hid (goodLg ts = t) := ⟨_, Lib.hid rfl⟩
  cases t
  · have HF := Lib.hid (show ansDp ts = .tuple #[.int .i64 0, .int .i64 0, .bool false] by unfold ansDp; rw [HTT.out]; rfl)
    have HO := Lib.hid (show axOk ts 2 = false by unfold axOk; rw [HTT.out]; rfl)
    go_enter Tryz.func34, Tryz.ntmps34
    go_wp2_with fail
    refine (adjOf_no A n cap ts 2 _ hn hts hT HO).mono ?_
    rintro e w1 ⟨rfl, b1⟩
    have HB := Lib.hid b1
    clear b1
    go_wp2_with fail
    go_ret3
    exact ⟨by rw [HF.out]; rfl, HB.out.alloc HB.out.size _⟩
  have HG := Lib.hid HTT.out
  have HO := Lib.hid (show axOk ts 2 = true by unfold axOk; rw [HTT.out]; rfl)
  have btr := tc_bd HG.out
  have btr1 := TC_pos HG.out
  have hbd := hl_bd (xcN_bd HG.out 2) 8 (Nat.le_refl _)
  obtain ⟨xs, HXS⟩ : ∃ q, Hid (xcN ts 2 = q) := ⟨_, Lib.hid rfl⟩
  have HZ := Lib.hid (show xs[0]? = some 0 by rw [← HXS.out]; exact xc_zero HG.out 2)
  obtain ⟨hv, HHI⟩ : ∃ q, Hid (hiF xs 8 = q) := ⟨_, Lib.hid rfl⟩
  obtain ⟨lv, HLO⟩ : ∃ q, Hid (loF xs 8 = q) := ⟨_, Lib.hid rfl⟩
  obtain ⟨tr, HTR⟩ : ∃ q, Hid (TC ts = q) := ⟨_, Lib.hid rfl⟩
  rw [HXS.out, HHI.out, HLO.out] at hbd
  rw [HTR.out] at btr btr1
  have lR : lim62 (hv - lv) := by unfold lim62; omega
  have ltr : lim62 tr := by unfold lim62; omega
  have x1 : IntKind.i64.wrap (hv - lv) = hv - lv := IntWalk.i64_in _ (by omega)
  obtain ⟨rn, HRN⟩ : ∃ q, Hid (redN (hv - lv) tr = q) := ⟨_, Lib.hid rfl⟩
  obtain ⟨rd, HRD⟩ : ∃ q, Hid (redD (hv - lv) tr = q) := ⟨_, Lib.hid rfl⟩
  have HF := Lib.hid (show ansDp ts = .tuple #[.int .i64 rn, .int .i64 rd, .bool true] by unfold ansDp; rw [HTT.out, HXS.out, HHI.out, HLO.out, HTR.out, HRN.out, HRD.out]; rfl)
  clear btr hbd
  go_enter Tryz.func34, Tryz.ntmps34
  go_wp2_with fail
  refine (adjOf_yes A n cap ts 2 _ hn hts hT HO).mono ?_
  rintro e w1 ⟨AU, cU, Ax, cx, Ar, cr, rfl, -, hOX, -, b1⟩
  rw [HXS.out] at hOX
  rw [HTR.out]
  obtain ⟨zU, HZU⟩ : ∃ q, Hid ((plIds ts).length = q) := ⟨_, Lib.hid rfl⟩
  rw [HZU.out]
  obtain ⟨zr, HZR⟩ : ∃ q, Hid (ts.length = q) := ⟨_, Lib.hid rfl⟩
  rw [HZR.out]
  have HB := Lib.hid b1
  have HIX := Lib.hid (IO.of_own (hOX.alloc (.cells #[.slice AU zU cU, .int .i64 tr, .slice Ax 8 cx, .slice Ar zr cr] 64)))
  have HXB := Lib.hid (Blk.new w1 64 #[.slice AU zU cU, .int .i64 tr, .slice Ax 8 cx, .slice Ar zr cr])
  have HBA := Lib.hid (HB.out.alloc HB.out.size (.cells #[.slice AU zU cU, .int .i64 tr, .slice Ax 8 cx, .slice Ar zr cr] 64))
  obtain ⟨gC, oC, eAx, -, -⟩ := HIX.out.2 0 _ HZ.out
  subst eAx
  clear b1 hOX
  go_upto_region 4 with fail
  obtain ⟨W0, HV0⟩ : ∃ W, Hid (w1.alloc (.cells #[.slice AU zU cU, .int .i64 tr, .slice (some ⟨gC, oC, none⟩) 8 cx, .slice Ar zr cr] 64) = W) := ⟨_, Lib.hid rfl⟩
  obtain ⟨X, HXX⟩ : ∃ X, Hid (w1.heap.size = X) := ⟨_, Lib.hid rfl⟩
  rw [HXX.out] at HXB
  rw [HV0.out] at HXB HBA HIX ⊢
  try simp only [HXX.out]
  clear HV0 HB
  have q1 := HXB.out.cell 1
  have q2 := HXB.out.cell 2
  have qX := HXB.out.lt
  simp at q1 q2
  obtain ⟨B, HBB⟩ : ∃ B, Hid (W0.heap.size = B) := ⟨_, Lib.hid rfl⟩
  have HWB := Lib.hid (show B ≤ W0.heap.size by rw [HBB.out]; exact Nat.le_refl _)
  rw [HBB.out] at qX HIX
  refine wp_region_held_drew (S := (fun v => (∀ b o, b < B → v.cell? ⟨b, o, none⟩ = W0.cell? ⟨b, o, none⟩) ∧ Below B W0 v)) (by kernel_rfl) ?_ (fun hHeld => ?_)
  · exact sb_start (Below.refl _ _)
  refine' wpAnyH_take (i := 0) (v := ?vr1_0) rfl (by kernel_rfl) (by kernel_rfl) (by kernel_rfl) (fun _ _ _ h => h) (Or.inl ⟨by rfl, ?hyr1_0⟩) (by assumption) ?restr1_0
  case hyr1_0 => (intro w hSw; (try dsimp only at hSw); go_simp; try (with_reducible rfl))
  simp only [Act.put, List.getElem_toArray, List.getElem_cons_succ, List.getElem_cons_zero, List.setIfInBounds_toArray, List.set_cons_zero, List.set_cons_succ]
  refine' wpAnyH_take (i := 1) (v := ?vr1_1) rfl (by kernel_rfl) (by kernel_rfl) (by kernel_rfl) (fun _ _ _ h => h) (Or.inl ⟨by rfl, ?hyr1_1⟩) (by assumption) ?restr1_1
  case hyr1_1 => (intro w hSw; (try dsimp only at hSw); go_simp; try (with_reducible rfl))
  simp only [Act.put, List.getElem_toArray, List.getElem_cons_succ, List.getElem_cons_zero, List.setIfInBounds_toArray, List.set_cons_zero, List.set_cons_succ]
  refine' wpAnyH_take (i := 3) (v := ?vr1_3) rfl (by kernel_rfl) (by kernel_rfl) (by kernel_rfl) (fun _ _ _ h => h) (Or.inl ⟨by rfl, ?hyr1_3⟩) (by assumption) ?restr1_3
  case hyr1_3 => (intro w hSw; (try dsimp only at hSw); go_simp; try (with_reducible rfl))
  simp only [Act.put, List.getElem_toArray, List.getElem_cons_succ, List.getElem_cons_zero, List.setIfInBounds_toArray, List.set_cons_zero, List.set_cons_succ]
  refine' wpAnyH_take (i := 4) (v := ?vr1_4) rfl (by kernel_rfl) (by kernel_rfl) (by kernel_rfl) (fun _ _ _ h => h) (Or.inl ⟨by rfl, ?hyr1_4⟩) (by assumption) ?restr1_4
  case hyr1_4 => (intro w hSw; (try dsimp only at hSw); go_simp; try (with_reducible rfl))
  simp only [Act.put, List.getElem_toArray, List.getElem_cons_succ, List.getElem_cons_zero, List.setIfInBounds_toArray, List.set_cons_zero, List.set_cons_succ]
  refine' wpAnyH_take (i := 7) (v := ?vr1_7) rfl (by kernel_rfl) (by kernel_rfl) (by kernel_rfl) (fun _ _ _ h => h) (Or.inl ⟨by rfl, ?hyr1_7⟩) (by assumption) ?restr1_7
  case hyr1_7 => (intro w hSw; (try dsimp only at hSw); go_simp; try (with_reducible rfl))
  simp only [Act.put, List.getElem_toArray, List.getElem_cons_succ, List.getElem_cons_zero, List.setIfInBounds_toArray, List.set_cons_zero, List.set_cons_succ]
  refine' wpAnyH_take (i := 8) (v := ?vr1_8) rfl (by kernel_rfl) (by kernel_rfl) (by kernel_rfl) (fun _ _ _ h => h) (Or.inl ⟨by rfl, ?hyr1_8⟩) (by assumption) ?restr1_8
  case hyr1_8 => (intro w hSw; (try dsimp only at hSw); go_simp; try (with_reducible rfl))
  simp only [Act.put, List.getElem_toArray, List.getElem_cons_succ, List.getElem_cons_zero, List.setIfInBounds_toArray, List.set_cons_zero, List.set_cons_succ]
  refine wpAnyH_ready (rs := [2]) (by kernel_rfl) (by simp) ?_
  refine AllReadyH.cons rfl (fun K hK => ?_) AllReadyH.nil
  go_simp
  refine (max_any (some ⟨gC, oC, none⟩) cx xs hv _ HHI HZ (Lib.hid ((HIX.out.below hHeld.2).more (Nat.le_trans HWB.out hHeld.2.size)))).mono ?_
  rintro e w5 ⟨rfl, rfl⟩
  refine hK.out _ _ (hHeld) (fun hHeld1 => ?_)
  clear hK K hHeld
  have hHeld := hHeld1
  clear hHeld1
  try simp only [Act.put, List.getElem_toArray, List.getElem_cons_succ, List.getElem_cons_zero, List.setIfInBounds_toArray, List.set_cons_zero, List.set_cons_succ]
  refine wpAnyH_ready (rs := [5]) (by kernel_rfl) (by simp) ?_
  refine AllReadyH.cons rfl (fun K hK => ?_) AllReadyH.nil
  go_simp
  refine (min_any (some ⟨gC, oC, none⟩) cx xs lv _ HLO HZ (Lib.hid ((HIX.out.below hHeld.2).more (Nat.le_trans HWB.out hHeld.2.size)))).mono ?_
  rintro e w6 ⟨rfl, rfl⟩
  refine hK.out _ _ (hHeld) (fun hHeld1 => ?_)
  clear hK K hHeld
  have hHeld := hHeld1
  clear hHeld1
  try simp only [Act.put, List.getElem_toArray, List.getElem_cons_succ, List.getElem_cons_zero, List.setIfInBounds_toArray, List.set_cons_zero, List.set_cons_succ]
  refine' wpAnyH_take (i := 6) (v := ?vr1_6) rfl (by kernel_rfl) (by kernel_rfl) (by kernel_rfl) (fun _ _ _ h => h) (Or.inl ⟨by rfl, ?hyr1_6⟩) (by assumption) ?restr1_6
  case hyr1_6 => (intro w hSw; (try dsimp only at hSw); go_simp; try (with_reducible rfl))
  simp only [Act.put, List.getElem_toArray, List.getElem_cons_succ, List.getElem_cons_zero, List.setIfInBounds_toArray, List.set_cons_zero, List.set_cons_succ]
  refine wpAnyH_ready (rs := [9]) (by kernel_rfl) (by simp) ?_
  refine AllReadyH.cons rfl (fun K hK => ?_) AllReadyH.nil
  go_simp
  refine (reduced_any (hv - lv) tr rn rd _ lR ltr btr1 HRN HRD).mono ?_
  rintro e w9 ⟨rfl, b9⟩
  refine hK.out _ _ (sb_step hHeld HWB.out b9) (fun hHeld1 => ?_)
  clear hK K hHeld
  have hHeld := hHeld1
  clear hHeld1
  try simp only [Act.put, List.getElem_toArray, List.getElem_cons_succ, List.getElem_cons_zero, List.setIfInBounds_toArray, List.set_cons_zero, List.set_cons_succ]
  refine' wpAnyH_take (i := 10) (v := ?vr1_10) rfl (by kernel_rfl) (by kernel_rfl) (by kernel_rfl) (fun _ _ _ h => h) (Or.inl ⟨by rfl, ?hyr1_10⟩) (by assumption) ?restr1_10
  case hyr1_10 => (intro w hSw; (try dsimp only at hSw); go_simp; try (with_reducible rfl))
  simp only [Act.put, List.getElem_toArray, List.getElem_cons_succ, List.getElem_cons_zero, List.setIfInBounds_toArray, List.set_cons_zero, List.set_cons_succ]
  refine' wpAnyH_take (i := 11) (v := ?vr1_11) rfl (by kernel_rfl) (by kernel_rfl) (by kernel_rfl) (fun _ _ _ h => h) (Or.inl ⟨by rfl, ?hyr1_11⟩) (by assumption) ?restr1_11
  case hyr1_11 => (intro w hSw; (try dsimp only at hSw); go_simp; try (with_reducible rfl))
  simp only [Act.put, List.getElem_toArray, List.getElem_cons_succ, List.getElem_cons_zero, List.setIfInBounds_toArray, List.set_cons_zero, List.set_cons_succ]
  refine' wpAnyH_take (i := 12) (v := ?vr1_12) rfl (by kernel_rfl) (by kernel_rfl) (by kernel_rfl) (fun _ _ _ h => h) (Or.inl ⟨by rfl, ?hyr1_12⟩) (by assumption) ?restr1_12
  case hyr1_12 => (intro w hSw; (try dsimp only at hSw); go_simp; try (with_reducible rfl))
  simp only [Act.put, List.getElem_toArray, List.getElem_cons_succ, List.getElem_cons_zero, List.setIfInBounds_toArray, List.set_cons_zero, List.set_cons_succ]
  refine' wpAnyH_take (i := 13) (v := ?vr1_13) rfl (by kernel_rfl) (by kernel_rfl) (by kernel_rfl) (fun _ _ _ h => h) (Or.inl ⟨by rfl, ?hyr1_13⟩) (by assumption) ?restr1_13
  case hyr1_13 => (intro w hSw; (try dsimp only at hSw); go_simp; try (with_reducible rfl))
  simp only [Act.put, List.getElem_toArray, List.getElem_cons_succ, List.getElem_cons_zero, List.setIfInBounds_toArray, List.set_cons_zero, List.set_cons_succ]
  refine' wpAnyH_take (i := 14) (v := ?vr1_14) rfl (by kernel_rfl) (by kernel_rfl) (by kernel_rfl) (fun _ _ _ h => h) (Or.inl ⟨by rfl, ?hyr1_14⟩) (by assumption) ?restr1_14
  case hyr1_14 => (intro w hSw; (try dsimp only at hSw); go_simp; try (with_reducible rfl))
  simp only [Act.put, List.getElem_toArray, List.getElem_cons_succ, List.getElem_cons_zero, List.setIfInBounds_toArray, List.set_cons_zero, List.set_cons_succ]
  refine wpAnyH_done (by kernel_rfl) ?_ _
  go_wp2_with fail
  go_ret3
  exact ⟨by rw [HF.out]; rfl, HBA.out.trans (hHeld.2.mono (by rw [← HBB.out]; exact HBA.out.size))⟩
end Go.Proofs.YtiimegmaokfpgabGreatDoor.ph

namespace Go.Proofs.YtiimegmaokfpgabGreatDoor.phx
open Go.RowKit
open reads base ty lg lgi win hs nt nq rowi sn mt ml dt pg
set_option linter.unusedVariables false
set_option linter.unusedSimpArgs false

def rA (ts : List Lg) (a i : Int) : Int := rsV (lgAt ts i) a (xcN ts a) (TC ts)
def exB (ts : List Lg) (i : Int) : Bool := decide (rA ts 0 i = 0) && (decide (rA ts 1 i = 0) && decide (rA ts 2 i = 0))
def exN (ts : List Lg) (U : List Int) (k : Nat) : List Int := (U.take k).filter (exB ts)
/-- ExactLegs's answer -/
def exIds (ts : List Lg) : List Int := if goodLg ts then (plIds ts).filter (exB ts) else []
theorem exN_no {ts : List Lg} {U : List Int} {k : Nat} {q : Int} (h : U[k]? = some q) (hb : exB ts q = false) : exN ts U (k + 1) = exN ts U k := by
  unfold exN; rw [take_snoc h, List.filter_append]; simp [hb]
theorem exN_yes {ts : List Lg} {U : List Int} {k : Nat} {q : Int} (h : U[k]? = some q) (hb : exB ts q = true) : exN ts U (k + 1) = exN ts U k ++ [q] := by
  unfold exN; rw [take_snoc h, List.filter_append]; simp [hb]
theorem exIds_len {ts : List Lg} (h : ts.length ≤ 2000000) : (exIds ts).length ≤ ts.length := by
  unfold exIds
  split
  · exact Nat.le_trans (List.length_filter_le _ _) (plIds_len' ts)
  · simp
set_option maxHeartbeats 16000000 in
set_option maxRecDepth 100000 in
theorem exact_model (A : Option Addr) (n cap : Nat) (ts : List Lg) (w : World) (hn : n ≤ 2000000) (hts : Hid (LgAt w w.heap.size A n ts)) :
    Calls Tryz.prog 31 #[.slice A n cap] w (LPost (exIds ts) (goodLg ts) w) := by
  obtain ⟨i0, hi, hz0, hz1, hz2⟩ := info_parts infoI
  have HL := Lib.hid hts.out.1
  have HR1 := Lib.hid (show (w.alloc (.cells #[] 3)).ownsRow w.heap.size 3 1 (.slice (some ⟨w.heap.size, 0, none⟩) 0 0) 0 [] from World.ownsRow_made w #[] 0 (Nat.le_refl _) (by decide) (by simp))
  have HB1 := Lib.hid ((Below.refl w.heap.size w).alloc (Nat.le_refl _) (.cells #[] 3))
  have HA1 := Lib.hid (hts.out.alloc (.cells #[] 3))
  obtain ⟨t, HT⟩ : ∃ t, Hid (goodLg ts = t) := ⟨_, Lib.hid rfl⟩
  rw [HT.out]
  cases t
  · have HF := Lib.hid (show exIds ts = [] by unfold exIds; rw [HT.out]; rfl)
    rw [HF.out]
    go_enter Tryz.func31, Tryz.ntmps31
    go_wp2_with fail
    refine (legs_is A n cap ts false _ hn HA1 HT).mono ?_
    rintro e w2 ⟨rfl, b2⟩
    have HR2 := Lib.hid (row_below HR1.out b2)
    have HB2 := Lib.hid (HB1.out.trans (b2.mono HB1.out.size))
    clear b2
    go_wp2_with fail
    go_ret2
    exact ⟨_, rfl, HR2.out, HB2.out⟩
  have HG := Lib.hid HT.out
  have btr : -1000000 ≤ TC ts ∧ TC ts ≤ 1000000 := by have := TC_le HG.out; have := TC_pos HG.out; omega
  obtain ⟨U, HU⟩ : ∃ q, Hid (plIds ts = q) := ⟨_, Lib.hid rfl⟩
  obtain ⟨nu, HNU⟩ : ∃ q, Hid (U.length = q) := ⟨_, Lib.hid rfl⟩
  have hn12 := len12 HL.out HG.out
  have hnu : nu ≤ 12 := by rw [← HNU.out, ← HU.out]; have := plIds_len' ts; rw [HL.out] at this; omega
  have HF := Lib.hid (show exIds ts = exN ts U nu by unfold exIds exN; rw [HT.out, if_pos rfl, HU.out, List.take_of_length_le (by rw [HNU.out]; exact Nat.le_refl _)])
  rw [HF.out]
  obtain ⟨tr, HTR⟩ : ∃ q, Hid (TC ts = q) := ⟨_, Lib.hid rfl⟩
  rw [HTR.out] at btr
  obtain ⟨S1, HS1⟩ : ∃ q, Hid (w.heap.size + 1 = q) := ⟨_, Lib.hid rfl⟩
  go_enter Tryz.func31, Tryz.ntmps31
  go_wp2_with fail
  refine (legs_is A n cap ts true _ hn HA1 HT).mono ?_
  rintro e w2 ⟨rfl, b2⟩
  have HO2 := Lib.hid (row_below HR1.out b2)
  have HB2 := Lib.hid (HB1.out.trans (b2.mono HB1.out.size))
  have s2 : S1 ≤ w2.heap.size := by have := b2.size; have e := HS1.out; simp at this; omega
  clear b2 HR1 HB1 HA1
  go_wp2_with fail
  refine (legs9_any A n cap ts _ HG (Lib.hid (hts.out.step HB2.out))).mono ?_
  rintro e w3 ⟨vU, rfl, hOU, b3⟩
  rw [HU.out, HNU.out] at hOU
  obtain ⟨AU, cU, rfl⟩ := row_slice hOU
  have HU3 := Lib.hid (own_mono hOU s2)
  have HO3 := Lib.hid (row_below HO2.out b3)
  have HB3 := Lib.hid (HB2.out.trans (b3.mono HB2.out.size))
  have s3 : S1 ≤ w3.heap.size := Nat.le_trans s2 b3.size
  clear b3 hOU HO2 HB2
  go_wp2_with fail
  refine (trees_any A n cap ts _ HG (Lib.hid (hts.out.step HB3.out))).mono ?_
  rintro e w4 ⟨rfl, b4⟩
  rw [HTR.out]
  have HU4 := Lib.hid (row_below HU3.out b4)
  have HO4 := Lib.hid (row_below HO3.out b4)
  have HB4 := Lib.hid (HB3.out.trans (b4.mono HB3.out.size))
  have s4 : S1 ≤ w4.heap.size := Nat.le_trans s3 b4.size
  clear b4 HU3 HO3 HB3
  go_wp2_with fail
  refine (adjust_any A n cap ts 0 _ (by decide) (by decide) HG (Lib.hid (hts.out.step HB4.out))).mono ?_
  rintro e w5 ⟨v7, rfl, hO7, b5⟩
  rw [xcN_len] at hO7
  obtain ⟨X0, c0, rfl⟩ := row_slice hO7
  have HX05 := Lib.hid (own_mono hO7 s4)
  have HU5 := Lib.hid (row_below HU4.out b5)
  have HO5 := Lib.hid (row_below HO4.out b5)
  have HB5 := Lib.hid (HB4.out.trans (b5.mono HB4.out.size))
  have s5 : S1 ≤ w5.heap.size := Nat.le_trans s4 b5.size
  clear b5 hO7 HU4 HO4 HB4
  go_wp2_with fail
  refine (adjust_any A n cap ts 1 _ (by decide) (by decide) HG (Lib.hid (hts.out.step HB5.out))).mono ?_
  rintro e w6 ⟨v7, rfl, hO7, b6⟩
  rw [xcN_len] at hO7
  obtain ⟨X1, c1, rfl⟩ := row_slice hO7
  have HX16 := Lib.hid (own_mono hO7 s5)
  have HX06 := Lib.hid (row_below HX05.out b6)
  have HU6 := Lib.hid (row_below HU5.out b6)
  have HO6 := Lib.hid (row_below HO5.out b6)
  have HB6 := Lib.hid (HB5.out.trans (b6.mono HB5.out.size))
  have s6 : S1 ≤ w6.heap.size := Nat.le_trans s5 b6.size
  clear b6 hO7 HU5 HO5 HB5 HX05
  go_wp2_with fail
  refine (adjust_any A n cap ts 2 _ (by decide) (by decide) HG (Lib.hid (hts.out.step HB6.out))).mono ?_
  rintro e w7 ⟨v7, rfl, hO7, b7⟩
  rw [xcN_len] at hO7
  obtain ⟨X2, c2, rfl⟩ := row_slice hO7
  have HX27 := Lib.hid (own_mono hO7 s6)
  have HX17 := Lib.hid (row_below HX16.out b7)
  have HX07 := Lib.hid (row_below HX06.out b7)
  have HU7 := Lib.hid (row_below HU6.out b7)
  have HO7 := Lib.hid (row_below HO6.out b7)
  have HB7 := Lib.hid (HB6.out.trans (b7.mono HB6.out.size))
  clear b7 hO7 HU6 HO6 HB6 HX06 HX16 s2 s3 s4 s5 s6
  go_wp2_with fail
  go_loopw [4, 10] (fun v i wr => ∃ (k m c gO : Nat), k ≤ nu ∧ i = .int .i64 (k : Nat) ∧ m ≤ k ∧ v = .slice (some ⟨gO, 0, none⟩) m c ∧ (gO = w.heap.size ∨ w7.heap.size ≤ gO) ∧ Hid ((exN ts U k).length = m) ∧ wr.ownsRow w.heap.size 3 1 (.slice (some ⟨gO, 0, none⟩) m c) m (ints.intsV (exN ts U k)) ∧ wr.ownsRow S1 3 1 (.slice AU nu cU) nu (ints.intsV U) ∧ wr.ownsRow S1 3 1 (.slice X0 8 c0) 8 (ints.intsV (xcN ts 0)) ∧ wr.ownsRow S1 3 1 (.slice X1 8 c1) 8 (ints.intsV (xcN ts 1)) ∧ wr.ownsRow S1 3 1 (.slice X2 8 c2) 8 (ints.intsV (xcN ts 2)) ∧ Below w.heap.size w wr ∧ w7.heap.size ≤ wr.heap.size) (fun _ i _ => nu - (intOf i).toNat)
  case atStart => exact ⟨0, 0, 0, _, Nat.zero_le _, rfl, Nat.le_refl _, rfl, Or.inl rfl, Lib.hid rfl, HO7.out, HU7.out, HX07.out, HX17.out, HX27.out, HB7.out, Nat.le_refl _⟩
  case round =>
    obtain ⟨k, m, c, gO, hk, rfl, hmk, rfl, hgO, HM, hO, hU, hX0, hX1, hX2, hB, hZ⟩ := hrel
    have HGO := Lib.hid hgO
    have HOa := Lib.hid hO
    have HUa := Lib.hid hU
    have HX0a := Lib.hid hX0
    have HX1a := Lib.hid hX1
    have HX2a := Lib.hid hX2
    have HBa := Lib.hid hB
    have HZa := Lib.hid hZ
    have HNE := Lib.hid (show ((Value.slice AU nu cU).ownBlock = some gO → False) ∧ ((Value.slice X0 8 c0).ownBlock = some gO → False) ∧ ((Value.slice X1 8 c1).ownBlock = some gO → False) ∧ ((Value.slice X2 8 c2).ownBlock = some gO → False) from by
      refine ⟨fun e => ?_, fun e => ?_, fun e => ?_, fun e => ?_⟩
      · have := HU7.out.lt gO e; have := HS1.out; omega
      · have := HX07.out.lt gO e; have := HS1.out; omega
      · have := HX17.out.lt gO e; have := HS1.out; omega
      · have := HX27.out.lt gO e; have := HS1.out; omega)
    clear hgO hO hU hX0 hX1 hX2 hB hZ
    have hk0 : (0 : Int) ≤ (k : Int) := by omega
    by_cases hlt : k < nu
    · have hki : (k : Int) < (nu : Int) := by omega
      have hkd : decide (k < nu) = true := by simpa using hlt
      obtain ⟨q, hq⟩ := at_lt HNU.out hlt
      obtain ⟨j, rfl, ⟨xf, xt, xp, xc, xs⟩, hx, -⟩ := plIds_at (by rw [HU.out]; exact List.mem_of_getElem? hq)
      have hjn : j < n := by have := lt_at hx; rw [HL.out] at this; exact this
      have hji : (j : Int) < (n : Int) := by omega
      have hj0 : (0 : Int) ≤ (j : Int) := by omega
      have HOX := Lib.hid (goodLg_at HG.out hx)
      obtain ⟨r0, HR0⟩ : ∃ q, Hid (rsV ⟨xf, xt, xp, xc, xs⟩ 0 (xcN ts 0) tr = q) := ⟨_, Lib.hid rfl⟩
      obtain ⟨r1, HR1⟩ : ∃ q, Hid (rsV ⟨xf, xt, xp, xc, xs⟩ 1 (xcN ts 1) tr = q) := ⟨_, Lib.hid rfl⟩
      obtain ⟨r2, HR2⟩ : ∃ q, Hid (rsV ⟨xf, xt, xp, xc, xs⟩ 2 (xcN ts 2) tr = q) := ⟨_, Lib.hid rfl⟩
      have HE := Lib.hid (show exB ts (j : Int) = (decide (r0 = 0) && (decide (r1 = 0) && decide (r2 = 0))) by
        unfold exB rA; rw [lgAt_is hx, HTR.out, HR0.out, HR1.out, HR2.out])
      obtain ⟨gU, oU, eA, -, eU⟩ := (IO.of_own HUa.out).2 k _ hq
      subst eA
      obtain ⟨gL, rfl, hgL, e0, e1, e2, e3, e4⟩ := (hts.out.below HBa.out).2 j _ hx
      simp only [] at e0 e1 e2 e3 e4
      clear hx
      go_upto_region 10 with fail
      have HAL2 := Lib.hid ((Below.refl wr.heap.size wr).alloc (Nat.le_refl _) (.cells #[.int .i64 xf, .int .i64 xt, .int .i64 xp, .int .i64 xc, .int .i64 xs] 87))
      have HKb := Lib.hid (Blk.new wr 87 #[.int .i64 xf, .int .i64 xt, .int .i64 xp, .int .i64 xc, .int .i64 xs])
      have HOb := Lib.hid (row_below HOa.out HAL2.out)
      have HUb := Lib.hid (row_below HUa.out HAL2.out)
      have HX0b := Lib.hid (row_below HX0a.out HAL2.out)
      have HX1b := Lib.hid (row_below HX1a.out HAL2.out)
      have HX2b := Lib.hid (row_below HX2a.out HAL2.out)
      have HBb := Lib.hid (HBa.out.trans (HAL2.out.mono HBa.out.size))
      have HZb := Lib.hid (Nat.le_trans HZa.out HAL2.out.size)
      clear HOa HUa HX0a HX1a HX2a HBa HZa
      obtain ⟨W0, HW0⟩ : ∃ W, Hid (wr.alloc (.cells #[.int .i64 xf, .int .i64 xt, .int .i64 xp, .int .i64 xc, .int .i64 xs] 87) = W) := ⟨_, Lib.hid rfl⟩
      obtain ⟨X, HXX⟩ : ∃ X, Hid (wr.heap.size = X) := ⟨_, Lib.hid rfl⟩
      rw [HXX.out] at HKb
      rw [HW0.out] at HOb HUb HX0b HX1b HX2b HBb HZb HKb ⊢
      try simp only [HXX.out]
      clear HW0 HXX e0 e1 e2 e3 e4 eU hgL HAL2
      have y0 := HKb.out.cell 0
      have y1 := HKb.out.cell 1
      have y2 := HKb.out.cell 2
      have y3 := HKb.out.cell 3
      have y4 := HKb.out.cell 4
      have lX := HKb.out.lt
      simp at y0 y1 y2 y3 y4
      go_wp2_with fail
      refine (rest_any ⟨xf, xt, xp, xc, xs⟩ 0 tr r0 _ c0 (xcN ts 0) _ HOX (by decide) (by decide) btr (Lib.hid (xcN_bd HG.out 0)) (Lib.hid (IO.of_own HX0b.out)) HR0).mono ?_
      rintro e w6 ⟨rfl, b6⟩
      have HO6 := Lib.hid (row_below HOb.out b6)
      have HU6 := Lib.hid (row_below HUb.out b6)
      have HX06 := Lib.hid (row_below HX0b.out b6)
      have HX16 := Lib.hid (row_below HX1b.out b6)
      have HX26 := Lib.hid (row_below HX2b.out b6)
      have HB6 := Lib.hid (HBb.out.trans (b6.mono HBb.out.size))
      have HZ6 := Lib.hid (Nat.le_trans HZb.out b6.size)
      have HK6 := Lib.hid (HKb.out.below b6 HKb.out.lt)
      clear HOb HUb HX0b HX1b HX2b HBb HZb HKb
      clear b6 y0 y1 y2 y3 y4 lX
      by_cases n0 : r0 = 0
      · subst n0
        have n0 : (0 : Int) = 0 := rfl
        have y0 := HK6.out.cell 0
        have y1 := HK6.out.cell 1
        have y2 := HK6.out.cell 2
        have y3 := HK6.out.cell 3
        have y4 := HK6.out.cell 4
        have lX := HK6.out.lt
        simp at y0 y1 y2 y3 y4
        go_wp2_with fail
        refine (rest_any ⟨xf, xt, xp, xc, xs⟩ 1 tr r1 _ c1 (xcN ts 1) _ HOX (by decide) (by decide) btr (Lib.hid (xcN_bd HG.out 1)) (Lib.hid (IO.of_own HX16.out)) HR1).mono ?_
        rintro e w70 ⟨rfl, b6⟩
        have HO7 := Lib.hid (row_below HO6.out b6)
        have HU7 := Lib.hid (row_below HU6.out b6)
        have HX07 := Lib.hid (row_below HX06.out b6)
        have HX17 := Lib.hid (row_below HX16.out b6)
        have HX27 := Lib.hid (row_below HX26.out b6)
        have HB7 := Lib.hid (HB6.out.trans (b6.mono HB6.out.size))
        have HZ7 := Lib.hid (Nat.le_trans HZ6.out b6.size)
        have HK7 := Lib.hid (HK6.out.below b6 HK6.out.lt)
        clear HO6 HU6 HX06 HX16 HX26 HB6 HZ6 HK6
        clear b6 y0 y1 y2 y3 y4 lX
        by_cases n1 : r1 = 0
        · subst n1
          have n1 : (0 : Int) = 0 := rfl
          have y0 := HK7.out.cell 0
          have y1 := HK7.out.cell 1
          have y2 := HK7.out.cell 2
          have y3 := HK7.out.cell 3
          have y4 := HK7.out.cell 4
          have lX := HK7.out.lt
          simp at y0 y1 y2 y3 y4
          go_wp2_with fail
          refine (rest_any ⟨xf, xt, xp, xc, xs⟩ 2 tr r2 _ c2 (xcN ts 2) _ HOX (by decide) (by decide) btr (Lib.hid (xcN_bd HG.out 2)) (Lib.hid (IO.of_own HX27.out)) HR2).mono ?_
          rintro e w8 ⟨rfl, b6⟩
          have HO8 := Lib.hid (row_below HO7.out b6)
          have HU8 := Lib.hid (row_below HU7.out b6)
          have HX08 := Lib.hid (row_below HX07.out b6)
          have HX18 := Lib.hid (row_below HX17.out b6)
          have HX28 := Lib.hid (row_below HX27.out b6)
          have HB8 := Lib.hid (HB7.out.trans (b6.mono HB7.out.size))
          have HZ8 := Lib.hid (Nat.le_trans HZ7.out b6.size)
          have HK8 := Lib.hid (HK7.out.below b6 HK7.out.lt)
          clear HO7 HU7 HX07 HX17 HX27 HB7 HZ7 HK7
          clear b6 y0 y1 y2 y3 y4 lX
          by_cases n2 : r2 = 0
          · subst n2
            have n2 : (0 : Int) = 0 := rfl
            have HSY := Lib.hid (show exN ts U (k + 1) = exN ts U k ++ [(j : Int)] from exN_yes hq (by rw [HE.out]; simp [n0, n1, n2]))
            obtain ⟨g', o', eg, -, eU⟩ := (IO.of_own HU8.out).2 k _ hq
            obtain ⟨rfl, rfl⟩ : gU = g' ∧ oU = o' := by injection eg with eg; injection eg with e1 e2; exact ⟨e1, e2⟩
            clear eg
            have hs8 := HB8.out.size
            have hz8 := HZ8.out
            go_wp2_with (at_builtin; refine wpList_append_lies _ rfl _ _ 27 rfl w.heap.size 3 i0 (.int .i64 0) 1 8 Tryz.underlying27 hi hz0 hz1 hz2 rfl (by decide) _ _ _ rfl (HO8.out.alloc _) ⟨w8.heap.size, 0, none⟩ 1 1 [.int .i64 (j : Int)] rfl rfl (cell_one_new _ _ _) (by simp [Value.oneCell']) (by decide) (by unfold maxLen; omega) (by omega) (by simp; omega) _ rfl ?_; intro g9 c9 w9 hown' hgrow hat hlt9)
            have HAL := Lib.hid ((Below.refl w8.heap.size w8).alloc (Nat.le_refl _) (.cells #[.int .i64 (j : Int)] 3))
            have HGO9 := Lib.hid (show g9 = w.heap.size ∨ w7.heap.size ≤ g9 by
              rcases hat with z | z
              · have h0 : (Value.slice (some ⟨gO, 0, none⟩) m c).ownBlock = some g9 := z
                have h : gO = g9 := by simpa [Value.ownBlock] using h0
                rw [← h]; exact HGO.out
              · have z2 : g9 = w8.heap.size + 1 := by simpa using z
                omega)
            have HU9 := Lib.hid ((row_below HU8.out HAL.out).kept hgrow (.inr (fun e => HNE.out.1 e)))
            have HX09 := Lib.hid ((row_below HX08.out HAL.out).kept hgrow (.inr (fun e => HNE.out.2.1 e)))
            have HX19 := Lib.hid ((row_below HX18.out HAL.out).kept hgrow (.inr (fun e => HNE.out.2.2.1 e)))
            have HX29 := Lib.hid ((row_below HX28.out HAL.out).kept hgrow (.inr (fun e => HNE.out.2.2.2 e)))
            have HB9 := Lib.hid ((HB8.out.trans (HAL.out.mono hs8)).grown hgrow (by simp; omega) (fun g e => (HO8.out.lt g e).1))
            have HO9 := Lib.hid (show w9.ownsRow w.heap.size 3 1 (.slice (some ⟨g9, 0, none⟩) (m + 1) c9) (m + 1) (ints.intsV (exN ts U (k + 1))) by rw [HSY.out, intsV_app]; exact hown')
            have HZ9 := Lib.hid (show w7.heap.size ≤ w9.heap.size by have h := hgrow.size; simp at h; omega)
            clear hown' hgrow hat
            go_wp2_with fail
            go_roundw
            case rel => exact ⟨k + 1, m + 1, c9, g9, by omega, by go_num, by omega, rfl, HGO9.out, Lib.hid (by rw [HSY.out, List.length_append, HM.out]; rfl), HO9.out, HU9.out, HX09.out, HX19.out, HX29.out, HB9.out, HZ9.out⟩
            case measure => simp [intOf]; omega
          · skip
            have HST := Lib.hid (show exN ts U (k + 1) = exN ts U k from exN_no hq (by rw [HE.out]; simp [n2]))
            have q1 : decide (r2 = 0) = false := decide_eq_false n2
            have q2 : (r2 == 0) = false := by simpa using n2
            go_wp2_with fail
            go_roundw
            case rel => exact ⟨k + 1, m, c, gO, by omega, by go_num, by omega, rfl, HGO.out, Lib.hid (by rw [HST.out]; exact HM.out), by rw [HST.out]; exact HO8.out, HU8.out, HX08.out, HX18.out, HX28.out, HB8.out, HZ8.out⟩
            case measure => simp [intOf]; omega
        · skip
          have HST := Lib.hid (show exN ts U (k + 1) = exN ts U k from exN_no hq (by rw [HE.out]; simp [n1]))
          have q1 : decide (r1 = 0) = false := decide_eq_false n1
          have q2 : (r1 == 0) = false := by simpa using n1
          go_wp2_with fail
          go_roundw
          case rel => exact ⟨k + 1, m, c, gO, by omega, by go_num, by omega, rfl, HGO.out, Lib.hid (by rw [HST.out]; exact HM.out), by rw [HST.out]; exact HO7.out, HU7.out, HX07.out, HX17.out, HX27.out, HB7.out, HZ7.out⟩
          case measure => simp [intOf]; omega
      · skip
        have HST := Lib.hid (show exN ts U (k + 1) = exN ts U k from exN_no hq (by rw [HE.out]; simp [n0]))
        have q1 : decide (r0 = 0) = false := decide_eq_false n0
        have q2 : (r0 == 0) = false := by simpa using n0
        go_wp2_with fail
        go_roundw
        case rel => exact ⟨k + 1, m, c, gO, by omega, by go_num, by omega, rfl, HGO.out, Lib.hid (by rw [HST.out]; exact HM.out), by rw [HST.out]; exact HO6.out, HU6.out, HX06.out, HX16.out, HX26.out, HB6.out, HZ6.out⟩
        case measure => simp [intOf]; omega
    · have hkd : decide (k < nu) = false := by simpa using hlt
      obtain rfl : k = nu := by omega
      have HFIN := Lib.hid (show wr.ownsRow w.heap.size 3 1 (.slice (some ⟨gO, 0, none⟩) m c) (exN ts U k).length (ints.intsV (exN ts U k)) by rw [HM.out]; exact HOa.out)
      go_wp2_with fail
      go_ret2
      exact ⟨_, rfl, HFIN.out, HBa.out⟩
end Go.Proofs.YtiimegmaokfpgabGreatDoor.phx

namespace Go.Proofs.YtiimegmaokfpgabGreatDoor.bl
open Go.RowKit
open reads base ty lg lgi win hs nt nq rowi sn mt ml dt pg ph
set_option linter.unusedVariables false
set_option linter.unusedSimpArgs false
end Go.Proofs.YtiimegmaokfpgabGreatDoor.bl
