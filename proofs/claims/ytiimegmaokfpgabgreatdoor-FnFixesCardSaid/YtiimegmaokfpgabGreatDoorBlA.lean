/-
  The program: how far apart numbers are, fractions in lowest terms, whether a list has a number; the residual of a leg.
  SquareSum, by the model and by the program.
  The strain of legs (pure mathematics): the sum of the squares is a multiple of the number of trees; fractions in lowest terms, their sums and their order.
  The strain by the model: divisors, sums, the order of fractions; StrainOf and CompareStrains.
  The strain by the program: sums and the order of fractions; StrainOf and CompareStrains.
  Conditions: those that each theorem names.
-/
import Derived.Test.YtiimegmaokfpgabGreatDoorPgZ
import Derived.Deep.DeepCutAuto
import Derived.Deep.RegionHeld3
import Derived.BigRegion
namespace Go.Proofs.YtiimegmaokfpgabGreatDoor.ph
open Go.RowKit
open reads base ty lg lgi win hs nt nq rowi sn mt ml dt pg
set_option linter.unusedVariables false
set_option linter.unusedSimpArgs false
def IxPost (t : Bool) (w : World) (e : Ending) (w' : World) : Prop := ∃ r : Int, e = .returned (.int .i64 r) ∧ (-1 ≤ r ∧ r ≤ 2000000) ∧ decide (0 ≤ r) = t ∧ w = w'
set_option maxHeartbeats 4000000 in
theorem index_int (A : Option Addr) (n c : Nat) (xs : List Int) (a : Int) (t : Bool) (h : Hid (mem xs a = t)) (w : World) (hn : n ≤ 2000000) (hx : Hid (ints.IL w A n xs)) :
    Calls Tryz.prog 128 #[.slice A n c, .int .i64 a] w (IxPost t w) := by
  have hL : Hid (xs.length = n) := Lib.hid hx.out.1
  go_enter Tryz.func128, Tryz.ntmps128
  go_wp2_with fail
  go_loop [8] (fun i => ∃ k : Nat, k ≤ n ∧ i = .int .i64 k ∧ Hid ((xs.take k).all (fun x => !(x == a)) = true)) (fun i => n - (intOf i).toNat)
  case atStart => exact ⟨0, Nat.zero_le _, rfl, Lib.hid (by simp)⟩
  case round =>
    obtain ⟨k, hk, rfl, HI⟩ := hrel
    have hk0 : 0 ≤ (k : Int) := by omega
    by_cases h1 : k < n
    · have hki : (k : Int) < (n : Int) := by omega
      have hkd : decide (k < n) = true := by simpa using h1
      obtain ⟨x, hxk⟩ := at_lt hL.out h1
      obtain ⟨g, rfl, e0⟩ := hx.out.2 k x hxk
      have HK := Lib.hid hxk
      clear hxk
      by_cases he : x = a
      · have HF := Lib.hid (show mem xs a = true from mem_yes HK.out he)
        have hd2 : (a == x) = true := by simpa using he.symm
        subst he
        go_wp2_with fail
        go_ret
        exact ⟨k, rfl, by omega, by rw [← h.out, HF.out]; simp, rfl⟩
      · have HN := Lib.hid (all_take (p := fun x => !(x == a)) HK.out HI.out (by simpa using he))
        have hd2 : (a == x) = false := by simp; omega
        have hd3 : decide (a = x) = false := by simp; omega
        clear he
        go_wp2_with fail
        go_round
        case rel => exact ⟨k + 1, by omega, by go_num, HN⟩
        case measure => simp [intOf]; omega
    · have hkd : decide (k < n) = false := by simpa using h1
      obtain rfl : k = n := by omega
      have HF := Lib.hid (show mem xs a = false from mem_no (by rw [hL.out]; exact HI.out))
      clear h1
      go_wp2_with fail
      go_ret
      exact ⟨-1, rfl, by omega, by rw [← h.out, HF.out]; rfl, rfl⟩
set_option maxHeartbeats 4000000 in
theorem dist_any (a : Int) (v : Nat) (w : World) (h : Hid (a.natAbs = v)) (hl : lim62 a) : Calls Tryz.prog 88 #[.int .i64 a, .int .i64 0] w fun e w' => e = .returned (.int .i64 (v : Int)) ∧ w = w' := by
  unfold lim62 at hl
  have hv := h.out
  by_cases hs : 0 ≤ a
  · obtain rfl : a = (v : Int) := by omega
    have xw : IntKind.i64.wrap (v : Int) = (v : Int) := IntWalk.i64_in _ (by omega)
    by_cases hz : v = 0
    · subst hz
      go_enter Tryz.func88, Tryz.ntmps88
      go_wp2_with fail
      go_ret
      exact ⟨rfl, rfl⟩
    · have d1 : (0 : Int) < (v : Int) := by omega
      have d2 : ¬ (v : Int) < 0 := by omega
      have d3 : 0 < v := by omega
      go_enter Tryz.func88, Tryz.ntmps88
      go_wp2_with fail
      go_ret
      exact ⟨rfl, rfl⟩
  · obtain rfl : a = -(v : Int) := by omega
    have d1 : -(v : Int) < 0 := by omega
    have d2 : ¬ 0 < -(v : Int) := by omega
    have d3 : (0 : Int) < (v : Int) := by omega
    have d4 : 0 < v := by omega
    have xw : IntKind.i64.wrap (v : Int) = (v : Int) := IntWalk.i64_in _ (by omega)
    have xw2 : (0 : Int) - -(v : Int) = (v : Int) := by omega
    go_enter Tryz.func88, Tryz.ntmps88
    go_wp2_with fail
    go_ret
    exact ⟨rfl, rfl⟩
set_option maxHeartbeats 4000000 in
theorem gcd_any (num den : Int) (g : Nat) (w : World) (h1 : lim62 num) (h2 : lim62 den) (hg : Hid (Nat.gcd num.natAbs den.natAbs = g)) :
    Calls Tryz.prog 129 #[.int .i64 num, .int .i64 den] w (APost (.int .i64 (g : Int)) w) := by
  go_enter Tryz.func129, Tryz.ntmps129
  go_wp2_with fail
  go_loopw [0, 1] (fun x y wr => ∃ a b : Int, lim62 a ∧ lim62 b ∧ x = .int .i64 a ∧ y = .int .i64 b ∧ Hid (Nat.gcd a.natAbs b.natAbs = g) ∧ Below w.heap.size w wr) (fun _ y _ => (intOf y).natAbs)
  case atStart => exact ⟨num, den, h1, h2, rfl, rfl, hg, Below.refl _ _⟩
  case round =>
    obtain ⟨a, b, ha, hb, rfl, rfl, HI, hB⟩ := hrel
    have HB := Lib.hid hB
    clear hB
    by_cases hz : b = 0
    · subst hz
      have HV := Lib.hid (show a.natAbs = g by have := HI.out; rwa [Int.natAbs_zero, Nat.gcd_zero_right] at this)
      go_wp2_with fail
      refine (dist_any a g _ HV ha).mono ?_
      rintro e w1 ⟨rfl, rfl⟩
      go_wp2_with fail
      go_ret
      exact ⟨rfl, HB.out⟩
    · have b1 : (b == 0) = false := by simpa using hz
      have b2 : (b != 0) = true := by simpa using hz
      obtain ⟨r, hr⟩ : ∃ r, a.tmod b = r := ⟨_, rfl⟩
      have hna : r.natAbs = a.natAbs % b.natAbs := by rw [← hr, Int.natAbs_tmod]
      have hml : r.natAbs < b.natAbs := by rw [hna]; exact Nat.mod_lt _ (by omega)
      have hrl : lim62 r := by unfold lim62 at hb ⊢; omega
      have HS := Lib.hid (show Nat.gcd b.natAbs r.natAbs = g by
        rw [hna, Nat.gcd_comm b.natAbs (a.natAbs % b.natAbs), ← Nat.gcd_rec, Nat.gcd_comm]; exact HI.out)
      have k2 : IntKind.i64.wrap r = r := IntWalk.i64_in _ (by unfold lim62 at hrl; omega)
      have HML := Lib.hid hml
      clear hna hml
      go_upto_region 2 with fail
      go_region
      go_wp2_with fail
      go_roundw
      case rel => exact ⟨b, r, hb, hrl, rfl, rfl, HS, HB.out.drew⟩
      case measure => have := HML.out; simp [intOf]; omega
set_option maxHeartbeats 4000000 in
theorem reduced_any (num den n d : Int) (w : World) (h1 : lim62 num) (h2 : lim62 den) (h3 : 1 ≤ den) (hn : Hid (redN num den = n)) (hd : Hid (redD num den = d)) :
    Calls Tryz.prog 78 #[.int .i64 num, .int .i64 den] w (APost (.tuple #[.int .i64 n, .int .i64 d]) w) := by
  obtain ⟨g, HG⟩ : ∃ g, Hid (Nat.gcd num.natAbs den.natAbs = g) := ⟨_, Lib.hid rfl⟩
  have hg0 : 0 < g := by rw [← HG.out]; exact Nat.gcd_pos_of_pos_right _ (by omega)
  have k1 : num.tdiv (g : Int) = n := by rw [← HG.out]; exact hn.out
  have k2 : den.tdiv (g : Int) = d := by rw [← HG.out]; exact hd.out
  have ln : lim62 n := by rw [← k1]; exact tdiv_lim _ h1
  have ld : lim62 d := by rw [← k2]; exact tdiv_lim _ h2
  have y1 : IntKind.i64.wrap n = n := IntWalk.i64_in _ (by unfold lim62 at ln; omega)
  have y2 : IntKind.i64.wrap d = d := IntWalk.i64_in _ (by unfold lim62 at ld; omega)
  have a0 : ¬ (g : Int) = 0 := by omega
  have a1 : ((g : Int) == 0) = false := by simp; omega
  have a2 : ¬ g = 0 := by omega
  go_enter Tryz.func78, Tryz.ntmps78
  go_wp2_with fail
  refine (gcd_any num den g _ h1 h2 HG).mono ?_
  rintro e w1 ⟨rfl, b1⟩
  have HB := Lib.hid b1
  clear b1
  go_upto_region 2 with fail
  go_region
  go_wp2_with fail
  go_ret2
  exact ⟨rfl, HB.out.drew⟩
def resV (ts : List Lg) (ax i : Int) : Int := rsV (lgAt ts i) ax (xcN ts ax) (TC ts)
theorem tc_bd {ts : List Lg} (hg : goodLg ts = true) : -1000000 ≤ TC ts ∧ TC ts ≤ 1000000 := by have := TC_le hg; have := TC_pos hg; omega
theorem resV_bd {ts : List Lg} (hg : goodLg ts = true) (ax : Int) {j : Nat} {x : Lg} (hx : ts[j]? = some x) : -4500000000 ≤ resV ts ax (j : Int) ∧ resV ts ax (j : Int) ≤ 4500000000 := by
  unfold resV
  rw [lgAt_is hx]
  exact rsV_bd (goodLg_at hg hx) (xcN_bd hg ax) (tc_bd hg)
end Go.Proofs.YtiimegmaokfpgabGreatDoor.ph
namespace Go.Proofs.YtiimegmaokfpgabGreatDoor.ph
open Go.RowKit
open reads base ty lg lgi win hs nt nq rowi sn mt ml dt pg
set_option linter.unusedVariables false
set_option linter.unusedSimpArgs false
def ssq (l : List Int) : Int := (l.map (fun x => x * x)).sum
theorem ssq_app (a b : List Int) : ssq (a ++ b) = ssq a + ssq b := by simp [ssq]
theorem ssq_nn : ∀ l : List Int, 0 ≤ ssq l
  | [] => by simp [ssq]
  | x :: l => by
    have h : ssq (x :: l) = x * x + ssq l := by simp [ssq]
    have a := ssq_nn l
    have b : 0 ≤ x * x := by rcases Int.le_total 0 x with q | q; exact Int.mul_nonneg q q; exact Int.mul_nonneg_of_nonpos_of_nonpos q q
    omega
theorem ssq_step {l : List Int} {k : Nat} {x : Int} (h : l[k]? = some x) : ssq (l.take (k + 1)) = ssq (l.take k) + x * x := by
  rw [take_snoc h, ssq_app]; simp [ssq]
theorem ssq_le (l : List Int) (k : Nat) : 0 ≤ ssq (l.take k) ∧ ssq (l.take k) ≤ ssq l := by
  have h : ssq l = ssq (l.take k) + ssq (l.drop k) := by rw [← ssq_app, List.take_append_drop]
  have a := ssq_nn (l.take k)
  have b := ssq_nn (l.drop k)
  omega
def SQ (ts : List Lg) (ax : Int) : Int := ssq ((plIds ts).map (resV ts ax))
theorem cat_xc (ts : List Lg) (ax : Int) {s : Nat} (h : s < 8) : cat (xcN ts ax) (s : Int) = XC ts ax s := by
  unfold cat xcN
  rw [Int.toNat_natCast, List.getElem?_map, List.getElem?_range h]
  rfl
theorem resV_res {ts : List Lg} (hg : goodLg ts = true) (ax : Int) {i : Int} (hi : i ∈ plIds ts) : resV ts ax i = res (US ts ax) (stN ts) (edOf ax (lgAt ts i)) := by
  obtain ⟨j, rfl, x, hx, -⟩ := plIds_at hi
  have ho := goodLg_at hg hx
  unfold resV
  rw [lgAt_is hx]
  obtain ⟨⟨f0, f1⟩, ⟨t0, t1⟩, -⟩ := okLg_lim ho
  unfold rsV res
  rw [DD_ax hg ax]
  show msA x ax * TC ts - cat (xcN ts ax) x.to_ + cat (xcN ts ax) x.frm = msA x ax * TC ts - (XC ts ax x.to_.toNat - XC ts ax x.frm.toNat)
  have e1 : cat (xcN ts ax) x.to_ = XC ts ax x.to_.toNat := by
    have h := cat_xc ts ax (s := x.to_.toNat) (by omega)
    rwa [show ((x.to_.toNat : Nat) : Int) = x.to_ by omega] at h
  have e2 : cat (xcN ts ax) x.frm = XC ts ax x.frm.toNat := by
    have h := cat_xc ts ax (s := x.frm.toNat) (by omega)
    rwa [show ((x.frm.toNat : Nat) : Int) = x.frm by omega] at h
  rw [e1, e2]; omega
theorem SQ_sme {ts : List Lg} (hg : goodLg ts = true) (ax : Int) : SQ ts ax = sme (US ts ax) (fun x => res (US ts ax) (stN ts) x * res (US ts ax) (stN ts) x) := by
  have key : ∀ U : List Int, (∀ i ∈ U, i ∈ plIds ts) → ssq (U.map (resV ts ax)) = sme (eds ts ax U) (fun x => res (US ts ax) (stN ts) x * res (US ts ax) (stN ts) x) := by
    intro U hU
    unfold ssq sme eds
    rw [List.map_map, List.map_map]
    refine congrArg List.sum (List.map_congr_left (fun i hi => ?_))
    show resV ts ax i * resV ts ax i = _
    rw [resV_res hg ax (hU i hi)]
    rfl
  exact key (plIds ts) (fun i hi => hi)
theorem mu_sum : ∀ {us : List Ed}, (∀ x ∈ us, EdOk x) → sme us (fun x => x.mu * x.mu) ≤ 250000 * us.length
  | [], _ => by simp [sme]
  | x :: us, h => by
    rw [sme_cons]
    have a := mu_sum (us := us) (fun y hy => h y (List.mem_cons_of_mem _ hy))
    obtain ⟨-, -, -, m0, m1⟩ := h x (List.mem_cons_self ..)
    have h1 := Int.mul_le_mul (show (x.mu.natAbs : Int) ≤ 500 by omega) (show (x.mu.natAbs : Int) ≤ 500 by omega) (by omega) (by omega)
    have e2 : x.mu * x.mu = (x.mu.natAbs : Int) * (x.mu.natAbs : Int) := by rw [← Int.natAbs_mul_self, Int.natCast_mul]
    simp only [List.length_cons]
    omega
theorem SQ_bd {ts : List Lg} (hg : goodLg ts = true) (ax : Int) : 0 ≤ SQ ts ax ∧ SQ ts ax ≤ 3000000000000000000 := by
  refine ⟨ssq_nn _, ?_⟩
  have hw := nw_net hg ax
  have h := hw.squares
  rw [← SQ_sme hg ax, DD_ax hg ax] at h
  have b1 := TC_pos hg
  have b2 := TC_le hg
  have hl := US_len hg ax
  have hm := mu_sum hw.hu
  have h1 := Int.mul_le_mul (show TC ts ≤ 1000000 by omega) (show TC ts ≤ 1000000 by omega) (by omega) (by omega)
  have h0 : 0 ≤ TC ts * TC ts := Int.mul_nonneg (by omega) (by omega)
  have hs : 0 ≤ sme (US ts ax) (fun x => x.mu * x.mu) := sme_sq_nonneg _ _
  have h2 := Int.mul_le_mul h1 (show sme (US ts ax) (fun x => x.mu * x.mu) ≤ 3000000 by omega) hs (by omega)
  omega
theorem ssq_rsL (ts : List Lg) (ax : Int) : ssq (rsL ts ax (xcN ts ax) (TC ts)) = SQ ts ax := by
  have key : ∀ k, k ≤ ts.length → ssq ((List.range k).map (rsF ts ax (xcN ts ax) (TC ts) (plIds ts))) = ssq ((plN ts k).map (resV ts ax)) := by
    intro k hk
    induction k with
    | zero => rfl
    | succ k ih =>
      have ih := ih (by omega)
      obtain ⟨x, hx⟩ := at_lt rfl (show k < ts.length by omega)
      rw [List.range_succ, List.map_append, ssq_app, ih]
      cases q : mem (net ts).ps x.frm
      · rw [show plN ts (k + 1) = plN ts k from rowi.idxs_no hx q]
        have hn : ¬ (k : Int) ∈ plIds ts := fun z => by
          obtain ⟨j, e, y, hy, hm⟩ := plIds_at z
          obtain rfl : k = j := by omega
          rw [hx] at hy
          obtain rfl := Option.some.inj hy
          rw [q] at hm; cases hm
        have e0 : rsF ts ax (xcN ts ax) (TC ts) (plIds ts) k = 0 := by unfold rsF; rw [if_neg hn]
        simp [ssq, e0]
      · rw [show plN ts (k + 1) = plN ts k ++ [(k : Int)] from rowi.idxs_yes hx q, List.map_append, ssq_app]
        have e0 : rsF ts ax (xcN ts ax) (TC ts) (plIds ts) k = resV ts ax (k : Int) := by unfold rsF; rw [if_pos (pl_all hx q)]; rfl
        simp [ssq, e0]
  exact key ts.length (Nat.le_refl _)
theorem rsL_bd {ts : List Lg} (hg : goodLg ts = true) (ax : Int) {r : Int} (hr : r ∈ rsL ts ax (xcN ts ax) (TC ts)) : -4500000000 ≤ r ∧ r ≤ 4500000000 ∧ r * r ≤ 3000000000000000000 := by
  have hq : r * r ≤ SQ ts ax := by
    rw [← ssq_rsL]
    obtain ⟨k, hk⟩ := List.getElem?_of_mem hr
    have h1 := ssq_step hk
    have h2 := (ssq_le (rsL ts ax (xcN ts ax) (TC ts)) k).1
    have h3 := (ssq_le (rsL ts ax (xcN ts ax) (TC ts)) (k + 1)).2
    omega
  obtain ⟨i, hi, rfl⟩ := List.mem_map.1 hr
  have hb := SQ_bd hg ax
  have hz : -4500000000 ≤ rsF ts ax (xcN ts ax) (TC ts) (plIds ts) i ∧ rsF ts ax (xcN ts ax) (TC ts) (plIds ts) i ≤ 4500000000 := by
    unfold rsF
    split
    · rename_i q
      obtain ⟨j, e, x, hx, -⟩ := plIds_at q
      rw [e]
      exact resV_bd hg ax hx
    · omega
  exact ⟨hz.1, hz.2, by omega⟩
def ansSq (ts : List Lg) (ax : Int) : Value := if axOk ts ax then .tuple #[.int .i64 (redN (SQ ts ax) (TC ts * TC ts)), .int .i64 (redD (SQ ts ax) (TC ts * TC ts)), .bool true] else .tuple #[.int .i64 0, .int .i64 0, .bool false]
theorem tt_bd {ts : List Lg} (hg : goodLg ts = true) : 1 ≤ TC ts * TC ts ∧ TC ts * TC ts ≤ 1000000000000 := by
  have b1 := TC_pos hg
  have b2 := TC_le hg
  have h1 := Int.mul_le_mul (show TC ts ≤ 1000000 by omega) (show TC ts ≤ 1000000 by omega) (by omega) (by omega)
  have h2 := Int.mul_le_mul b1 b1 (by omega) (by omega)
  omega
set_option maxHeartbeats 16000000 in
set_option maxRecDepth 100000 in
theorem squares_any (A : Option Addr) (n cap : Nat) (ts : List Lg) (ax rn rd : Int) (w : World) (hn : n ≤ 2000000) (h0 : 0 ≤ ax) (h2 : ax ≤ 2) (HG : Hid (goodLg ts = true)) (HRN : Hid (redN (SQ ts ax) (TC ts * TC ts) = rn)) (HRD : Hid (redD (SQ ts ax) (TC ts * TC ts) = rd)) (hts : Hid (LgAt w w.heap.size A n ts)) :
    Calls Tryz.prog 87 #[.slice A n cap, .int .i64 ax] w (APost (.tuple #[.int .i64 rn, .int .i64 rd]) w) := by
  have HL := Lib.hid hts.out.1
  obtain ⟨U, HU⟩ : ∃ q, Hid (plIds ts = q) := ⟨_, Lib.hid rfl⟩
  obtain ⟨nu, HNU⟩ : ∃ q, Hid (U.length = q) := ⟨_, Lib.hid rfl⟩
  have hn12 := len12 HL.out HG.out
  have hnu : nu ≤ 12 := by rw [← HNU.out, ← HU.out]; have := plIds_len' ts; rw [HL.out] at this; omega
  have btr := tc_bd HG.out
  have btt := tt_bd HG.out
  have bSQ := SQ_bd HG.out ax
  obtain ⟨l, HLS⟩ : ∃ q, Hid ((plIds ts).map (resV ts ax) = q) := ⟨_, Lib.hid rfl⟩
  have HSQ := Lib.hid (show ssq l = SQ ts ax by rw [← HLS.out]; rfl)
  obtain ⟨tr, HTR⟩ : ∃ q, Hid (TC ts = q) := ⟨_, Lib.hid rfl⟩
  rw [HTR.out] at btr btt HRN HRD
  have xt : IntKind.i64.wrap (tr * tr) = tr * tr := IntWalk.i64_in _ (by omega)
  go_enter Tryz.func87, Tryz.ntmps87
  go_wp2_with fail
  refine (adjust_any A n cap ts ax _ h0 h2 HG hts).mono ?_
  rintro e w3 ⟨v7, rfl, hO7, b7⟩
  rw [xcN_len] at hO7
  obtain ⟨A8, c8, rfl⟩ := row_slice hO7
  have HO3 := Lib.hid (IO.of_own hO7)
  have HB3 := Lib.hid b7
  clear hO7 b7
  go_wp2_with fail
  refine (trees_any A n cap ts _ HG (Lib.hid (hts.out.step HB3.out))).mono ?_
  rintro e w4 ⟨rfl, b4⟩
  rw [HTR.out]
  have HB4 := Lib.hid (HB3.out.trans (b4.mono HB3.out.size))
  have HO4 := Lib.hid (HO3.out.step b4)
  clear b4 HO3 HB3
  go_wp2_with fail
  refine (legs9_any A n cap ts _ HG (Lib.hid (hts.out.step HB4.out))).mono ?_
  rintro e w5 ⟨vU, rfl, hOU, b2⟩
  rw [HU.out, HNU.out] at hOU
  obtain ⟨AU, cU, rfl⟩ := row_slice hOU
  have HB5 := Lib.hid (HB4.out.trans (b2.mono HB4.out.size))
  have HI5 := Lib.hid (IO.of_own hOU)
  have HO5 := Lib.hid (HO4.out.step b2)
  clear hOU b2 HB4 HO4
  go_wp2_with fail
  go_loopw [8, 10] (fun v i wr => ∃ k : Nat, k ≤ nu ∧ i = .int .i64 (k : Nat) ∧ v = .int .i64 (ssq (l.take k)) ∧ Below w5.heap.size w5 wr) (fun _ i _ => nu - (intOf i).toNat)
  case atStart => exact ⟨0, Nat.zero_le _, rfl, rfl, Below.refl _ _⟩
  case round =>
    obtain ⟨k, hk, rfl, rfl, hB⟩ := hrel
    have HBQ := Lib.hid hB
    clear hB
    have hk0 : (0 : Int) ≤ (k : Int) := by omega
    by_cases hlt : k < nu
    · have hki : (k : Int) < (nu : Int) := by omega
      have hkd : decide (k < nu) = true := by simpa using hlt
      obtain ⟨q, hq⟩ := at_lt HNU.out hlt
      obtain ⟨j, rfl, ⟨xf, xt9, xp, xc, xs⟩, hx, -⟩ := plIds_at (by rw [HU.out]; exact List.mem_of_getElem? hq)
      have hjn : j < n := by have := lt_at hx; rw [HL.out] at this; exact this
      have hji : (j : Int) < (n : Int) := by omega
      have hj0 : (0 : Int) ≤ (j : Int) := by omega
      have HOX := Lib.hid (goodLg_at HG.out hx)
      have bR := resV_bd HG.out ax hx
      obtain ⟨R, HRR⟩ : ∃ q, Hid (resV ts ax (j : Int) = q) := ⟨_, Lib.hid rfl⟩
      have HRV := Lib.hid (show rsV ⟨xf, xt9, xp, xc, xs⟩ ax (xcN ts ax) tr = R by rw [← HRR.out, ← HTR.out]; unfold resV; rw [lgAt_is hx])
      rw [HRR.out] at bR
      have HST := Lib.hid (show ssq (l.take (k + 1)) = ssq (l.take k) + R * R from ssq_step (by rw [← HLS.out, List.getElem?_map, HU.out, hq]; exact congrArg some HRR.out))
      have bs := ssq_le l k
      have bs1 := ssq_le l (k + 1)
      rw [HST.out, HSQ.out] at bs1
      rw [HSQ.out] at bs
      obtain ⟨s0, HS0⟩ : ∃ q, Hid (ssq (l.take k) = q) := ⟨_, Lib.hid rfl⟩
      rw [HS0.out] at HST bs bs1 ⊢
      have x1 : IntKind.i64.wrap (R * R) = R * R := IntWalk.i64_in _ (by omega)
      have x2 : IntKind.i64.wrap (s0 + R * R) = s0 + R * R := IntWalk.i64_in _ (by omega)
      obtain ⟨gU, oU, rfl, hgU, eU⟩ := (HI5.out.step HBQ.out).2 k _ hq
      obtain ⟨gL, rfl, hgL, e0, e1, e2, e3, e4⟩ := ((hts.out.step HB5.out).step HBQ.out).2 j _ hx
      simp only [] at e0 e1 e2 e3 e4
      clear hq hx bR bs bs1
      go_wp2_with fail
      refine (rest_any ⟨xf, xt9, xp, xc, xs⟩ ax tr R A8 c8 (xcN ts ax) _ HOX h0 h2 btr (Lib.hid (xcN_bd HG.out ax)) (Lib.hid (HO5.out.step HBQ.out)) HRV).mono ?_
      rintro e w6 ⟨rfl, b6⟩
      have HB6 := Lib.hid (HBQ.out.trans (b6.mono HBQ.out.size))
      clear e0 e1 e2 e3 e4 eU b6
      go_wp2_with fail
      go_roundw
      case rel => exact ⟨k + 1, by omega, by go_num, by rw [HST.out], HB6.out⟩
      case measure => simp [intOf]; omega
    · have hkd : decide (k < nu) = false := by simpa using hlt
      obtain rfl : k = nu := by omega
      have HTK := Lib.hid (show ssq (l.take k) = SQ ts ax by rw [List.take_of_length_le (by rw [← HLS.out, List.length_map, HU.out, HNU.out]; exact Nat.le_refl _)]; exact HSQ.out)
      rw [HTK.out]
      obtain ⟨sq, HQ⟩ : ∃ q, Hid (SQ ts ax = q) := ⟨_, Lib.hid rfl⟩
      rw [HQ.out] at HRN HRD bSQ ⊢
      have lR : lim62 sq := by unfold lim62; omega
      have ltr : lim62 (tr * tr) := by unfold lim62; omega
      go_wp2_with fail
      refine (reduce_any sq (tr * tr) rn rd _ lR ltr btt.1 HRN HRD).mono ?_
      rintro e w7 ⟨rfl, b7⟩
      have HB7 := Lib.hid (HBQ.out.trans (b7.mono HBQ.out.size))
      clear b7
      go_wp2_with fail
      go_ret2
      exact ⟨rfl, HB5.out.trans (HB7.out.mono HB5.out.size)⟩
set_option maxHeartbeats 16000000 in
set_option maxRecDepth 100000 in
theorem squareSum_impl (A : Option Addr) (n cap : Nat) (ts : List Lg) (ax : Int) (w : World) (hn : n ≤ 2000000) (hts : Hid (LgAt w w.heap.size A n ts)) (hT : Hid (Tab w)) :
    Calls Tryz.prog 24 #[.slice A n cap, .int .i64 ax] w (APost (ansSq ts ax) w) := by
  have HL := Lib.hid hts.out.1
  obtain ⟨t, HTT⟩ : ∃ t, Hid (axOk ts ax = t) := ⟨_, Lib.hid rfl⟩
  cases t
  · have HF := Lib.hid (show ansSq ts ax = .tuple #[.int .i64 0, .int .i64 0, .bool false] by unfold ansSq; rw [HTT.out]; rfl)
    go_enter Tryz.func24, Tryz.ntmps24
    go_wp2_with fail
    refine (adjOf_no A n cap ts ax _ hn hts hT HTT).mono ?_
    rintro e w1 ⟨rfl, b1⟩
    have HB := Lib.hid b1
    clear b1
    go_wp2_with fail
    go_ret3
    exact ⟨by rw [HF.out]; rfl, HB.out.alloc HB.out.size _⟩
  have HGA := Lib.hid (show goodLg ts = true ∧ btw 0 ax 2 = true by have := HTT.out; unfold axOk at this; rwa [Bool.and_eq_true] at this)
  have HG := Lib.hid HGA.out.1
  have hn12 := len12 HL.out HG.out
  have btr := tc_bd HG.out
  have btt := tt_bd HG.out
  have bSQ := SQ_bd HG.out ax
  obtain ⟨rn, HRN⟩ : ∃ q, Hid (redN (SQ ts ax) (TC ts * TC ts) = q) := ⟨_, Lib.hid rfl⟩
  obtain ⟨rd, HRD⟩ : ∃ q, Hid (redD (SQ ts ax) (TC ts * TC ts) = q) := ⟨_, Lib.hid rfl⟩
  have HF := Lib.hid (show ansSq ts ax = .tuple #[.int .i64 rn, .int .i64 rd, .bool true] by unfold ansSq; rw [HTT.out, HRN.out, HRD.out]; rfl)
  obtain ⟨l, HLS⟩ : ∃ q, Hid (rsL ts ax (xcN ts ax) (TC ts) = q) := ⟨_, Lib.hid rfl⟩
  have HSQ := Lib.hid (show ssq l = SQ ts ax by rw [← HLS.out]; exact ssq_rsL ts ax)
  have HLB := Lib.hid (show ∀ r ∈ l, -4500000000 ≤ r ∧ r ≤ 4500000000 ∧ r * r ≤ 3000000000000000000 from fun r hr => rsL_bd HG.out ax (by rw [HLS.out]; exact hr))
  have HLL := Lib.hid (show l.length = n by rw [← HLS.out, rsL_len, HL.out])
  obtain ⟨tr, HTR⟩ : ∃ q, Hid (TC ts = q) := ⟨_, Lib.hid rfl⟩
  rw [HTR.out] at btr btt HRN HRD
  have xt : IntKind.i64.wrap (tr * tr) = tr * tr := IntWalk.i64_in _ (by omega)
  go_enter Tryz.func24, Tryz.ntmps24
  go_wp2_with fail
  refine (adjOf_yes A n cap ts ax _ hn hts hT HTT).mono ?_
  rintro e w1 ⟨AU, cU, Ax, cx, Ar, cr, rfl, -, -, hOR, b1⟩
  rw [HLS.out, HL.out] at hOR
  rw [HL.out, HTR.out]
  obtain ⟨zU, HZU⟩ : ∃ q, Hid ((plIds ts).length = q) := ⟨_, Lib.hid rfl⟩
  rw [HZU.out]
  have HB := Lib.hid b1
  have HIR := Lib.hid (IO.of_own (hOR.alloc (.cells #[.slice AU zU cU, .int .i64 tr, .slice Ax 8 cx, .slice Ar n cr] 64)))
  have HXB := Lib.hid (Blk.new w1 64 #[.slice AU zU cU, .int .i64 tr, .slice Ax 8 cx, .slice Ar n cr])
  have HBA := Lib.hid (HB.out.alloc HB.out.size (.cells #[.slice AU zU cU, .int .i64 tr, .slice Ax 8 cx, .slice Ar n cr] 64))
  clear b1 hOR
  go_upto_region 4 with fail
  obtain ⟨V0, HV0⟩ : ∃ W, Hid (w1.alloc (.cells #[.slice AU zU cU, .int .i64 tr, .slice Ax 8 cx, .slice Ar n cr] 64) = W) := ⟨_, Lib.hid rfl⟩
  obtain ⟨X, HXX⟩ : ∃ X, Hid (w1.heap.size = X) := ⟨_, Lib.hid rfl⟩
  rw [HXX.out] at HXB
  rw [HV0.out] at HXB HBA HIR ⊢
  try simp only [HXX.out]
  clear HV0 HB
  have q1 := HXB.out.cell 1
  have q3 := HXB.out.cell 3
  simp at q1 q3
  go_wp2_with fail
  go_loopw [9, 25] (fun v i wr => ∃ k : Nat, k ≤ n ∧ i = .int .i64 (k : Nat) ∧ v = .int .i64 (ssq (l.take k)) ∧ wr = V0) (fun _ i _ => n - (intOf i).toNat)
  case atStart => exact ⟨0, Nat.zero_le _, rfl, rfl, rfl⟩
  case round =>
    obtain ⟨k, hk, rfl, rfl, rfl⟩ := hrel
    have hk0 : (0 : Int) ≤ (k : Int) := by omega
    by_cases hlt : k < n
    · have hki : (k : Int) < (n : Int) := by omega
      have hkd : decide (k < n) = true := by simpa using hlt
      obtain ⟨R, hq⟩ := at_lt HLL.out hlt
      have bR := HLB.out R (List.mem_of_getElem? hq)
      have HST := Lib.hid (ssq_step hq)
      have bs := ssq_le l k
      have bs1 := ssq_le l (k + 1)
      rw [HST.out, HSQ.out] at bs1
      rw [HSQ.out] at bs
      obtain ⟨s0, HS0⟩ : ∃ q, Hid (ssq (l.take k) = q) := ⟨_, Lib.hid rfl⟩
      rw [HS0.out] at HST bs bs1 ⊢
      have x1 : IntKind.i64.wrap (R * R) = R * R := IntWalk.i64_in _ (by omega)
      have x2 : IntKind.i64.wrap (s0 + R * R) = s0 + R * R := IntWalk.i64_in _ (by omega)
      obtain ⟨gR, oR, eAr, hgR, er⟩ := HIR.out.2 k _ hq
      subst eAr
      clear hq bR bs bs1
      go_wp2_with fail
      go_roundw
      case rel => exact ⟨k + 1, by omega, by go_num, by rw [HST.out], by first | rfl | trivial⟩
      case measure => simp [intOf]; omega
    · have hkd : decide (k < n) = false := by simpa using hlt
      obtain rfl : k = n := by omega
      have HTK := Lib.hid (show ssq (l.take k) = SQ ts ax by rw [List.take_of_length_le (by rw [HLL.out]; exact Nat.le_refl _)]; exact HSQ.out)
      rw [HTK.out]
      obtain ⟨sq, HQ⟩ : ∃ q, Hid (SQ ts ax = q) := ⟨_, Lib.hid rfl⟩
      rw [HQ.out] at HRN HRD bSQ ⊢
      have lR : lim62 sq := by unfold lim62; omega
      have ltr : lim62 (tr * tr) := by unfold lim62; omega
      go_wp2_with fail
      refine (reduced_any sq (tr * tr) rn rd _ lR ltr btt.1 HRN HRD).mono ?_
      rintro e w7 ⟨rfl, b7⟩
      have HB7 := Lib.hid (HBA.out.trans (b7.mono HBA.out.size))
      clear b7
      go_wp2_with fail
      go_ret3
      exact ⟨by rw [HF.out]; rfl, HB7.out⟩
end Go.Proofs.YtiimegmaokfpgabGreatDoor.ph
namespace Go.Proofs.YtiimegmaokfpgabGreatDoor.bl
open Go.RowKit
open reads base ty lg lgi win hs nt nq rowi sn mt ml dt pg ph
set_option linter.unusedVariables false
set_option linter.unusedSimpArgs false
theorem sq_split {us : List Ed} {l : List Nat} (h : Nw us l) : sme us (fun x => res us l x * res us l x) = DD us l * sme us (fun x => x.mu * res us l x) := by
  have b := h.balanced_with (XX us l)
  have e := sme_lin (DD us l) (-1) us (fun x => x.mu * res us l x) (fun x => (XX us l x.t - XX us l x.f) * res us l x)
  rw [b] at e
  have c : sme us (fun x => res us l x * res us l x) = sme us (fun x => DD us l * (x.mu * res us l x) + -1 * ((XX us l x.t - XX us l x.f) * res us l x)) := sme_congr (fun x _ => by
    have hr : res us l x = x.mu * DD us l - (XX us l x.t - XX us l x.f) := rfl
    obtain ⟨r, h1⟩ : ∃ r, res us l x = r := ⟨_, rfl⟩
    obtain ⟨X, h2⟩ : ∃ X, XX us l x.t - XX us l x.f = X := ⟨_, rfl⟩
    rw [h1, h2] at hr ⊢
    have h3 : r * r = (x.mu * DD us l - X) * r := by rw [← hr]
    grind)
  rw [c, e]; omega
def EE (ts : List Lg) (ax : Int) : Int := sme (US ts ax) (fun x => x.mu * res (US ts ax) (stN ts) x)
theorem SQ_EE {ts : List Lg} (hg : goodLg ts = true) (ax : Int) : SQ ts ax = TC ts * EE ts ax := by
  rw [SQ_sme hg ax, sq_split (nw_net hg ax), DD_ax hg ax]; rfl
theorem EE_bd {ts : List Lg} (hg : goodLg ts = true) (ax : Int) : 0 ≤ EE ts ax ∧ EE ts ax ≤ 2000000000000 := by
  have b1 := TC_pos hg
  have b2 := TC_le hg
  have hw := nw_net hg ax
  have h := hw.squares
  rw [← SQ_sme hg ax, DD_ax hg ax, SQ_EE hg ax] at h
  have hp := (SQ_bd hg ax).1
  rw [SQ_EE hg ax] at hp
  have hl := US_len hg ax
  have hm := mu_sum hw.hu
  have hs : 0 ≤ sme (US ts ax) (fun x => x.mu * x.mu) := sme_sq_nonneg _ _
  obtain ⟨T, hT⟩ : ∃ T, TC ts = T := ⟨_, rfl⟩
  obtain ⟨S, hS⟩ : ∃ S, sme (US ts ax) (fun x => x.mu * x.mu) = S := ⟨_, rfl⟩
  rw [hT] at b1 b2 h hp
  rw [hS] at h hs hm
  constructor
  · exact Int.le_of_mul_le_mul_left (a := T) (by omega) (by omega)
  · have e : EE ts ax ≤ T * S := Int.le_of_mul_le_mul_left (a := T) (by rw [← Int.mul_assoc]; exact h) (by omega)
    have f := Int.mul_le_mul b2 (show S ≤ 3000000 by omega) hs (by omega)
    omega
def EK (ts : List Lg) : Nat → Int
  | 0 => 0
  | k + 1 => EK ts k + EE ts (k : Int)
theorem EK_bd {ts : List Lg} (hg : goodLg ts = true) : ∀ k, k ≤ 3 → 0 ≤ EK ts k ∧ EK ts k ≤ 2000000000000 * k
  | 0, _ => by simp [EK]
  | k + 1, h => by
    have a := EK_bd hg k (by omega)
    have b := EE_bd hg (k : Int)
    simp only [EK]; omega
theorem nat_red {a t b u : Nat} (ht : 0 < t) (hu : 0 < u) (h : a * u = b * t) : a / Nat.gcd a t = b / Nat.gcd b u ∧ t / Nat.gcd a t = u / Nat.gcd b u := by
  obtain ⟨g, hg⟩ : ∃ g, Nat.gcd a t = g := ⟨_, rfl⟩
  obtain ⟨k, hk⟩ : ∃ k, Nat.gcd b u = k := ⟨_, rfl⟩
  have g0 : 0 < g := by rw [← hg]; exact Nat.gcd_pos_of_pos_right _ ht
  have k0 : 0 < k := by rw [← hk]; exact Nat.gcd_pos_of_pos_right _ hu
  have h1 : g * u = k * t := by
    rw [← hg, ← hk, ← Nat.gcd_mul_right, ← Nat.gcd_mul_right, h, Nat.mul_comm t u]
  have h2 : g * b = k * a := by
    rw [← hg, ← hk, ← Nat.gcd_mul_right, ← Nat.gcd_mul_right, Nat.mul_comm u a, h, Nat.mul_comm a b, Nat.mul_comm t b]
  obtain ⟨a', ha⟩ : g ∣ a := by rw [← hg]; exact Nat.gcd_dvd_left ..
  obtain ⟨t', ht'⟩ : g ∣ t := by rw [← hg]; exact Nat.gcd_dvd_right ..
  obtain ⟨b', hb⟩ : k ∣ b := by rw [← hk]; exact Nat.gcd_dvd_left ..
  obtain ⟨u', hu'⟩ : k ∣ u := by rw [← hk]; exact Nat.gcd_dvd_right ..
  rw [hg, hk, ha, ht', hb, hu', Nat.mul_div_cancel_left _ g0, Nat.mul_div_cancel_left _ g0, Nat.mul_div_cancel_left _ k0, Nat.mul_div_cancel_left _ k0]
  refine ⟨?_, ?_⟩
  · rw [ha, hb, ← Nat.mul_assoc, ← Nat.mul_assoc, Nat.mul_comm g k] at h2
    exact (Nat.eq_of_mul_eq_mul_left (Nat.mul_pos k0 g0) h2).symm
  · rw [ht', hu', ← Nat.mul_assoc, ← Nat.mul_assoc, Nat.mul_comm g k] at h1
    exact (Nat.eq_of_mul_eq_mul_left (Nat.mul_pos k0 g0) h1).symm
theorem redN_nat (a t : Nat) : redN (a : Int) (t : Int) = ((a / Nat.gcd a t : Nat) : Int) := by
  unfold redN; rw [Int.natAbs_natCast, Int.natAbs_natCast]; exact (Int.ofNat_tdiv ..).symm
theorem redD_nat (a t : Nat) : redD (a : Int) (t : Int) = ((t / Nat.gcd a t : Nat) : Int) := by
  unfold redD; rw [Int.natAbs_natCast, Int.natAbs_natCast]; exact (Int.ofNat_tdiv ..).symm
theorem red_eq {a t b u : Int} (ha : 0 ≤ a) (ht : 1 ≤ t) (hb : 0 ≤ b) (hu : 1 ≤ u) (h : a * u = b * t) : redN a t = redN b u ∧ redD a t = redD b u := by
  obtain ⟨a, rfl⟩ := Int.eq_ofNat_of_zero_le ha
  obtain ⟨b, rfl⟩ := Int.eq_ofNat_of_zero_le hb
  obtain ⟨t, rfl⟩ := Int.eq_ofNat_of_zero_le (show 0 ≤ t by omega)
  obtain ⟨u, rfl⟩ := Int.eq_ofNat_of_zero_le (show 0 ≤ u by omega)
  have h := nat_red (a := a) (t := t) (b := b) (u := u) (by omega) (by omega) (by exact_mod_cast h)
  rw [redN_nat, redN_nat, redD_nat, redD_nat, h.1, h.2]
  exact ⟨rfl, rfl⟩
theorem red_is {a t : Int} (ha : 0 ≤ a) (ht : 1 ≤ t) : redN a t * t = a * redD a t ∧ 0 ≤ redN a t ∧ redN a t ≤ a ∧ 1 ≤ redD a t ∧ redD a t ≤ t := by
  obtain ⟨a, rfl⟩ := Int.eq_ofNat_of_zero_le ha
  obtain ⟨t, rfl⟩ := Int.eq_ofNat_of_zero_le (show 0 ≤ t by omega)
  have g0 : 0 < Nat.gcd a t := Nat.gcd_pos_of_pos_right _ (by omega)
  rw [redN_nat, redD_nat]
  obtain ⟨a', ha⟩ : Nat.gcd a t ∣ a := Nat.gcd_dvd_left ..
  obtain ⟨t', ht'⟩ : Nat.gcd a t ∣ t := Nat.gcd_dvd_right ..
  have e1 : a / Nat.gcd a t = a' := by rw [Nat.div_eq_iff_eq_mul_right g0 (Nat.gcd_dvd_left ..)]; exact ha
  have e2 : t / Nat.gcd a t = t' := by rw [Nat.div_eq_iff_eq_mul_right g0 (Nat.gcd_dvd_right ..)]; exact ht'
  have p1 : a' ≤ a := by rw [← e1]; exact Nat.div_le_self ..
  have p2 : t' ≤ t := by rw [← e2]; exact Nat.div_le_self ..
  have p3 : 1 ≤ t' := by
    rcases Nat.eq_zero_or_pos t' with z | z
    · rw [z] at ht'; omega
    · exact z
  rw [e1, e2]
  refine ⟨?_, by omega, by omega, by omega, by omega⟩
  have : a' * t = a * t' := by
    obtain ⟨g, hg⟩ : ∃ g, Nat.gcd a t = g := ⟨_, rfl⟩
    rw [hg] at ha ht'
    rw [ha, ht', ← Nat.mul_assoc, Nat.mul_comm a' g]
  exact_mod_cast this
theorem red_zero {t : Int} (ht : 1 ≤ t) : redN 0 t = 0 ∧ redD 0 t = 1 := by
  have h := red_eq (a := 0) (t := t) (b := 0) (u := 1) (by omega) ht (by omega) (by omega) (by omega)
  rw [h.1, h.2]; decide
def kn (ts : List Lg) (k : Nat) : Int := redN (EK ts k) (TC ts)
def kd (ts : List Lg) (k : Nat) : Int := redD (EK ts k) (TC ts)
def sqn (ts : List Lg) (ax : Int) : Int := redN (SQ ts ax) (TC ts * TC ts)
def sqd (ts : List Lg) (ax : Int) : Int := redD (SQ ts ax) (TC ts * TC ts)
theorem sq_red {ts : List Lg} (hg : goodLg ts = true) (ax : Int) : sqn ts ax = redN (EE ts ax) (TC ts) ∧ sqd ts ax = redD (EE ts ax) (TC ts) :=
  red_eq (SQ_bd hg ax).1 (tt_bd hg).1 (EE_bd hg ax).1 (TC_pos hg) (by rw [SQ_EE hg ax]; grind)
def Frc (n d b : Int) : Prop := 0 ≤ n ∧ n ≤ b ∧ 1 ≤ d ∧ d ≤ 663552
theorem kf_bd {ts : List Lg} (hg : goodLg ts = true) (k : Nat) (hk : k ≤ 3) : Frc (kn ts k) (kd ts k) (2000000000000 * k) := by
  have a := EK_bd hg k hk
  have b := red_is a.1 (TC_pos hg)
  have c := TC_le hg
  unfold Frc kn kd; omega
theorem sf_bd {ts : List Lg} (hg : goodLg ts = true) (ax : Int) : Frc (sqn ts ax) (sqd ts ax) 2000000000000 := by
  have e := sq_red hg ax
  have a := EE_bd hg ax
  have b := red_is a.1 (TC_pos hg)
  have c := TC_le hg
  rw [e.1, e.2]
  unfold Frc; omega
theorem k_zero {ts : List Lg} (hg : goodLg ts = true) : kn ts 0 = 0 ∧ kd ts 0 = 1 := red_zero (TC_pos hg)
theorem sum_eq {n1 d1 n2 d2 e1 e2 t : Int} (h1 : n1 * t = e1 * d1) (h2 : n2 * t = e2 * d2) : (n1 * d2 + n2 * d1) * t = (e1 + e2) * (d1 * d2) := by
  have a : n1 * d2 * t = e1 * d1 * d2 := by rw [← h1]; grind
  have b : n2 * d1 * t = e2 * d2 * d1 := by rw [← h2]; grind
  grind
theorem frc_mul {n d b n2 d2 b2 : Int} (h : Frc n d b) (h2 : Frc n2 d2 b2) : 0 ≤ n * d2 ∧ n * d2 ≤ b * 663552 ∧ 1 ≤ d * d2 ∧ d * d2 ≤ 440301256704 := by
  unfold Frc at h h2
  have a := Int.mul_le_mul h.2.1 h2.2.2.2 (by omega) (by omega)
  have b := Int.mul_nonneg h.1 (show 0 ≤ d2 by omega)
  have c := Int.mul_le_mul h.2.2.2 h2.2.2.2 (by omega) (by omega)
  have e := Int.mul_le_mul h.2.2.1 h2.2.2.1 (by omega) (by omega)
  omega
theorem k_step {ts : List Lg} (hg : goodLg ts = true) (k : Nat) (hk : k ≤ 2) : redN (kn ts k * sqd ts (k : Int) + sqn ts (k : Int) * kd ts k) (kd ts k * sqd ts (k : Int)) = kn ts (k + 1) ∧ redD (kn ts k * sqd ts (k : Int) + sqn ts (k : Int) * kd ts k) (kd ts k * sqd ts (k : Int)) = kd ts (k + 1) := by
  have f1 := kf_bd hg k (by omega)
  have f2 := sf_bd hg (k : Int)
  have m1 := frc_mul f1 f2
  have m2 := frc_mul f2 f1
  have e := sq_red hg (k : Int)
  have r1 := red_is (EK_bd hg k (by omega)).1 (TC_pos hg)
  have r2 := red_is (EE_bd hg (k : Int)).1 (TC_pos hg)
  rw [← e.1, ← e.2] at r2
  exact red_eq (by omega) m1.2.2.1 (EK_bd hg (k + 1) (by omega)).1 (TC_pos hg) (sum_eq r1.1 r2.1)
def snV (ts : List Lg) : Int := kn ts 3
def sdV (ts : List Lg) : Int := kd ts 3
def BdS (n d : Int) : Prop := 0 ≤ n ∧ n ≤ 6000000000000 ∧ 1 ≤ d ∧ d ≤ 663552
theorem st_bd {ts : List Lg} (hg : goodLg ts = true) : BdS (snV ts) (sdV ts) := by
  have h := kf_bd hg 3 (by omega)
  unfold Frc at h
  unfold BdS snV sdV; omega
theorem st_mul {n d n2 d2 : Int} (h : BdS n d) (h2 : BdS n2 d2) : 0 ≤ n * d2 ∧ n * d2 ≤ 3981312000000000000 := by
  have := frc_mul (b := 6000000000000) (b2 := 6000000000000) h h2
  omega
def cpI (x y : Int) : Int := if x < y then -1 else if y < x then 1 else 0
theorem cpI_lt {x y : Int} : cpI x y < 0 ↔ x < y := by unfold cpI; split; omega; split <;> omega
theorem cpI_neg (x y : Int) : cpI y x = - cpI x y := by unfold cpI; split <;> split <;> omega
theorem cpI_bd (x y : Int) : -1 ≤ cpI x y ∧ cpI x y ≤ 1 := by unfold cpI; split; omega; split <;> omega
def cpS (ts us : List Lg) : Int := cpI (snV ts * sdV us) (snV us * sdV ts)
theorem cp_quot {a b c d : Int} (hb : 1 ≤ b) (hd : 1 ≤ d) (ha : 0 ≤ a) (hc : 0 ≤ c) (h : a / b < c / d) : a * d < c * b := by
  have e1 := Int.emod_add_mul_ediv a b
  have e2 := Int.emod_add_mul_ediv c d
  have r1 := Int.emod_lt_of_pos a (show 0 < b by omega)
  have r2 := Int.emod_nonneg c (show d ≠ 0 by omega)
  have h1 : a < (c / d) * b := by
    have := Int.mul_le_mul_of_nonneg_right (show a / b + 1 ≤ c / d by omega) (show 0 ≤ b by omega)
    rw [Int.add_mul, Int.one_mul, Int.mul_comm (a / b) b] at this
    omega
  have h2 : (c / d) * d ≤ c := by rw [Int.mul_comm]; omega
  have h3 := Int.mul_lt_mul_of_pos_right h1 (show 0 < d by omega)
  have h4 := Int.mul_le_mul_of_nonneg_right h2 (show 0 ≤ b by omega)
  have h5 : c / d * b * d = c / d * d * b := by grind
  omega
theorem cp_rest {a b c d : Int} (h : a / b = c / d) : a * d - c * b = (a % b) * d - (c % d) * b := by
  have e1 := Int.emod_add_mul_ediv a b
  have e2 := Int.emod_add_mul_ediv c d
  rw [h] at e1
  obtain ⟨q, hq⟩ : ∃ q, c / d = q := ⟨_, rfl⟩
  obtain ⟨r, hr⟩ : ∃ r, a % b = r := ⟨_, rfl⟩
  obtain ⟨s, hs⟩ : ∃ s, c % d = s := ⟨_, rfl⟩
  rw [hq, hr] at e1
  rw [hq, hs] at e2
  rw [hr, hs, ← e1, ← e2]
  grind
theorem cpI_sub {x y u v : Int} (h : x - y = u - v) : cpI x y = cpI u v := by unfold cpI; split <;> split <;> (try split) <;> (try split) <;> omega
end Go.Proofs.YtiimegmaokfpgabGreatDoor.bl
namespace Go.Proofs.YtiimegmaokfpgabGreatDoor.bl
open Go.RowKit
open reads base ty lg lgi win hs nt nq rowi sn mt ml dt pg ph
set_option linter.unusedVariables false
set_option linter.unusedSimpArgs false
set_option maxHeartbeats 4000000 in
theorem common_any (u v g : Nat) (w : World) (hu : u ≤ 4611686018427387904) (hv : v ≤ 4611686018427387904) (hg : Hid (Nat.gcd u v = g)) :
    Calls Tryz.prog 140 #[.int .i64 (u : Int), .int .i64 (v : Int)] w fun e w' => e = .returned (.int .i64 (g : Int)) ∧ w = w' := by
  go_enter Tryz.func140, Tryz.ntmps140
  go_wp2_with fail
  go_loop [0, 1] (fun x y => ∃ a b : Nat, a ≤ 4611686018427387904 ∧ b ≤ 4611686018427387904 ∧ x = .int .i64 (a : Nat) ∧ y = .int .i64 (b : Nat) ∧ Hid (Gc u v a b)) (fun _ y => (intOf y).toNat)
  case atStart => exact ⟨u, v, hu, hv, rfl, rfl, Lib.hid rfl⟩
  case round =>
    obtain ⟨a, b, ha, hb, rfl, rfl, HI⟩ := hrel
    by_cases hz : b = 0
    · subst hz
      obtain rfl : a = g := by have := HI.out; unfold Gc at this; rw [Nat.gcd_zero_right, hg.out] at this; exact this
      clear HI
      go_wp2_with fail
      go_ret
      exact ⟨rfl, rfl⟩
    · have b0 : ¬ (b : Int) = 0 := by omega
      have b1 : ((b : Int) == 0) = false := by simp; omega
      have b2 : ((b : Int) != 0) = true := by simp; omega
      have hml := Nat.mod_lt a (Nat.pos_of_ne_zero hz)
      have k1 : (a : Int).tmod (b : Int) = ((a % b : Nat) : Int) := rfl
      have HS := Lib.hid (gc_step HI.out)
      have k2 : IntKind.i64.wrap ((a % b : Nat) : Int) = ((a % b : Nat) : Int) := IntWalk.i64_in _ (by omega)
      obtain ⟨r, hr⟩ : ∃ r, r = a % b := ⟨_, rfl⟩
      rw [← hr] at k1 k2 HS hml
      clear hr
      go_wp2_with fail
      go_round
      case rel => exact ⟨b, r, by omega, by omega, rfl, rfl, HS⟩
      case measure => simp [intOf]; omega
theorem k_step2 {ts : List Lg} (hg : goodLg ts = true) (k : Nat) (hk : k ≤ 2) {g b1 d1 : Int} (hb : g * b1 = sqd ts (k : Int)) (hd : g * d1 = kd ts k) (b1p : 1 ≤ b1) (b1l : b1 ≤ 663552) (d1p : 1 ≤ d1) (d1l : d1 ≤ 663552) :
    redN (kn ts k * b1 + sqn ts (k : Int) * d1) (d1 * sqd ts (k : Int)) = kn ts (k + 1) ∧ redD (kn ts k * b1 + sqn ts (k : Int) * d1) (d1 * sqd ts (k : Int)) = kd ts (k + 1) ∧
      0 ≤ kn ts k * b1 ∧ kn ts k * b1 ≤ 2654208000000000000 ∧ 0 ≤ sqn ts (k : Int) * d1 ∧ sqn ts (k : Int) * d1 ≤ 1327104000000000000 ∧ 1 ≤ d1 * sqd ts (k : Int) ∧ d1 * sqd ts (k : Int) ≤ 440301256704 := by
  have f1 := kf_bd hg k (by omega)
  have f2 := sf_bd hg (k : Int)
  have m1 := frc_mul f1 (show Frc 0 b1 0 from ⟨by omega, by omega, b1p, b1l⟩)
  have m2 := frc_mul f2 (show Frc 0 d1 0 from ⟨by omega, by omega, d1p, d1l⟩)
  have m3 := frc_mul (show Frc 0 d1 0 from ⟨by omega, by omega, d1p, d1l⟩) f2
  have e := sq_red hg (k : Int)
  have r1 := red_is (EK_bd hg k (by omega)).1 (TC_pos hg)
  have r2 := red_is (EE_bd hg (k : Int)).1 (TC_pos hg)
  rw [← e.1, ← e.2] at r2
  have h := red_eq (a := kn ts k * b1 + sqn ts (k : Int) * d1) (t := d1 * sqd ts (k : Int)) (b := EK ts (k + 1)) (u := TC ts) (by omega) m3.2.2.1 (EK_bd hg (k + 1) (by omega)).1 (TC_pos hg) (by
    have a1 : kn ts k * b1 * TC ts = EK ts k * (d1 * sqd ts (k : Int)) := by
      rw [show kn ts k * b1 * TC ts = kn ts k * TC ts * b1 by grind]
      show redN (EK ts k) (TC ts) * TC ts * b1 = _
      rw [r1.1]
      show EK ts k * kd ts k * b1 = _
      rw [← hd, ← hb]; grind
    have a2 : sqn ts (k : Int) * d1 * TC ts = EE ts (k : Int) * (d1 * sqd ts (k : Int)) := by
      rw [show sqn ts (k : Int) * d1 * TC ts = sqn ts (k : Int) * TC ts * d1 by grind, r2.1]; grind
    rw [Int.add_mul, a1, a2]
    simp only [EK]; grind)
  refine ⟨h.1, h.2, m1.1, ?_, m2.1, by omega, m3.2.2.1, m3.2.2.2⟩
  have : (2000000000000 * (k : Int)) * 663552 ≤ 2654208000000000000 := by omega
  omega
set_option maxHeartbeats 16000000 in
set_option maxRecDepth 100000 in
theorem strain_any (A : Option Addr) (n cap : Nat) (ts : List Lg) (rn rd : Int) (w : World) (hn : n ≤ 2000000) (HG : Hid (goodLg ts = true)) (HRN : Hid (snV ts = rn)) (HRD : Hid (sdV ts = rd)) (hts : Hid (LgAt w w.heap.size A n ts)) :
    Calls Tryz.prog 102 #[.slice A n cap] w (APost (.tuple #[.int .i64 rn, .int .i64 rd]) w) := by
  have HK0 := Lib.hid (k_zero HG.out)
  go_enter Tryz.func102, Tryz.ntmps102
  go_wp2_with fail
  go_loopw [4, 5, 6] (fun x y i wr => ∃ k : Nat, k ≤ 3 ∧ i = .int .i64 (k : Nat) ∧ x = .int .i64 (kn ts k) ∧ y = .int .i64 (kd ts k) ∧ Below w.heap.size w wr) (fun _ _ i _ => 3 - (intOf i).toNat)
  case atStart => exact ⟨0, by omega, rfl, by rw [HK0.out.1], by rw [HK0.out.2], Below.refl _ _⟩
  case round =>
    obtain ⟨k, hk, rfl, rfl, rfl, hB⟩ := hrel
    have HB := Lib.hid hB
    clear hB
    have hk0 : (0 : Int) ≤ (k : Int) := by omega
    by_cases hlt : k < 3
    · have hki : (k : Int) < 3 := by omega
      have hkd : decide (k < 3) = true := by simpa using hlt
      have hk2 : (k : Int) ≤ 2 := by omega
      have F1 := kf_bd HG.out k (by omega)
      have F2 := sf_bd HG.out (k : Int)
      unfold Frc at F1 F2
      obtain ⟨d, HDk⟩ : ∃ q : Nat, Hid (kd ts k = q) := ⟨(kd ts k).toNat, Lib.hid (by omega)⟩
      obtain ⟨b, HBk⟩ : ∃ q : Nat, Hid (sqd ts (k : Int) = q) := ⟨(sqd ts (k : Int)).toNat, Lib.hid (by omega)⟩
      rw [HDk.out] at F1
      rw [HBk.out] at F2
      obtain ⟨g, HGC⟩ : ∃ g, Hid (Nat.gcd d b = g) := ⟨_, Lib.hid rfl⟩
      have hg0 : 0 < g := by rw [← HGC.out]; exact Nat.gcd_pos_of_pos_right _ (by omega)
      obtain ⟨d1, Hd1⟩ : ∃ q, Hid (d = g * q) := by
        obtain ⟨q, hq⟩ : Nat.gcd d b ∣ d := Nat.gcd_dvd_left ..
        rw [HGC.out] at hq; exact ⟨q, Lib.hid hq⟩
      obtain ⟨b1, Hb1⟩ : ∃ q, Hid (b = g * q) := by
        obtain ⟨q, hq⟩ : Nat.gcd d b ∣ b := Nat.gcd_dvd_right ..
        rw [HGC.out] at hq; exact ⟨q, Lib.hid hq⟩
      have d1p : 1 ≤ d1 := by
        rcases Nat.eq_zero_or_pos d1 with z | z
        · have := Hd1.out; rw [z] at this; omega
        · exact z
      have b1p : 1 ≤ b1 := by
        rcases Nat.eq_zero_or_pos b1 with z | z
        · have := Hb1.out; rw [z] at this; omega
        · exact z
      have d1l : d1 ≤ d := by rw [Hd1.out]; exact Nat.le_mul_of_pos_left _ hg0
      have b1l : b1 ≤ b := by rw [Hb1.out]; exact Nat.le_mul_of_pos_left _ hg0
      have KS := k_step2 HG.out k (by omega) (g := g) (b1 := b1) (d1 := d1) (by rw [HBk.out, Hb1.out]; push_cast; rfl) (by rw [HDk.out, Hd1.out]; push_cast; rfl) (by omega) (by omega) (by omega) (by omega)
      rw [HBk.out] at KS
      have hd62 : d ≤ 4611686018427387904 := by omega
      have hb62 : b ≤ 4611686018427387904 := by omega
      have hqb : (b : Int).tdiv (g : Int) = (b1 : Int) := by rw [← Int.ofNat_tdiv, Hb1.out, Nat.mul_div_cancel_left _ hg0]
      have hqd : (d : Int).tdiv (g : Int) = (d1 : Int) := by rw [← Int.ofNat_tdiv, Hd1.out, Nat.mul_div_cancel_left _ hg0]
      have hwb : IntKind.i64.wrap (b1 : Int) = (b1 : Int) := IntWalk.i64_in _ (by omega)
      have hwd : IntKind.i64.wrap (d1 : Int) = (d1 : Int) := IntWalk.i64_in _ (by omega)
      have g0 : ¬ (g : Int) = 0 := by omega
      have g1 : ¬ g = 0 := by omega
      obtain ⟨a, HA⟩ : ∃ q, Hid (kn ts k = q) := ⟨_, Lib.hid rfl⟩
      obtain ⟨c, HC⟩ : ∃ q, Hid (sqn ts (k : Int) = q) := ⟨_, Lib.hid rfl⟩
      rw [HA.out, HC.out] at KS
      obtain ⟨ks1, ks2, ks3, ks4, ks5, ks6, ks7, ks8⟩ := KS
      rw [HA.out, HDk.out]
      have x1 : IntKind.i64.wrap (a * (b1 : Int)) = a * (b1 : Int) := IntWalk.i64_in _ (by omega)
      have x2 : IntKind.i64.wrap (c * (d1 : Int)) = c * (d1 : Int) := IntWalk.i64_in _ (by omega)
      have x3 : IntKind.i64.wrap (a * (b1 : Int) + c * (d1 : Int)) = a * (b1 : Int) + c * (d1 : Int) := IntWalk.i64_in _ (by omega)
      have x4 : IntKind.i64.wrap ((d1 : Int) * (b : Int)) = (d1 : Int) * (b : Int) := IntWalk.i64_in _ (by omega)
      have lR : lim62 (a * (b1 : Int) + c * (d1 : Int)) := by unfold lim62; omega
      have lD : lim62 ((d1 : Int) * (b : Int)) := by unfold lim62; omega
      have hD1 : 1 ≤ (d1 : Int) * (b : Int) := ks7
      obtain ⟨rn, HRN⟩ : ∃ q, Hid (redN (a * (b1 : Int) + c * (d1 : Int)) ((d1 : Int) * (b : Int)) = q) := ⟨_, Lib.hid rfl⟩
      obtain ⟨rd, HRD⟩ : ∃ q, Hid (redD (a * (b1 : Int) + c * (d1 : Int)) ((d1 : Int) * (b : Int)) = q) := ⟨_, Lib.hid rfl⟩
      have HK1 := Lib.hid (show kn ts (k + 1) = rn by rw [← ks1]; exact HRN.out)
      have HK2 := Lib.hid (show kd ts (k + 1) = rd by rw [← ks2]; exact HRD.out)
      clear ks1 ks2 ks3 ks4 ks5 ks6 ks7 ks8 F1 F2 d1l b1l d1p b1p hg0
      go_wp2_with fail
      refine (squares_any A n cap ts (k : Int) c (b : Int) _ hn hk0 hk2 HG (Lib.hid HC.out) (Lib.hid HBk.out) (Lib.hid (hts.out.step HB.out))).mono ?_
      rintro e wc ⟨rfl, b2⟩
      have HB2 := Lib.hid (HB.out.trans (b2.mono HB.out.size))
      clear b2
      go_upto_region 6 with fail
      refine wp_region_held_drew (S := (fun v => Below wc.heap.size wc v)) (by kernel_rfl) ?_ (fun hHeld => ?_)
      · exact (Below.refl _ _).drew
      refine' wpAnyH_take (i := 0) (v := ?vr1_0) rfl (by kernel_rfl) (by kernel_rfl) (by kernel_rfl) (fun _ _ _ h => h) (Or.inl ⟨by rfl, ?hyr1_0⟩) (by assumption) ?restr1_0
      case hyr1_0 => (intro w hSw; (try dsimp only at hSw); go_simp; try (with_reducible rfl))
      simp only [Act.put, List.getElem_toArray, List.getElem_cons_succ, List.getElem_cons_zero, List.setIfInBounds_toArray, List.set_cons_zero, List.set_cons_succ]
      refine' wpAnyH_take (i := 1) (v := ?vr1_1) rfl (by kernel_rfl) (by kernel_rfl) (by kernel_rfl) (fun _ _ _ h => h) (Or.inl ⟨by rfl, ?hyr1_1⟩) (by assumption) ?restr1_1
      case hyr1_1 => (intro w hSw; (try dsimp only at hSw); go_simp; try (with_reducible rfl))
      simp only [Act.put, List.getElem_toArray, List.getElem_cons_succ, List.getElem_cons_zero, List.setIfInBounds_toArray, List.set_cons_zero, List.set_cons_succ]
      refine' wpAnyH_take (i := 2) (v := ?vr1_2) rfl (by kernel_rfl) (by kernel_rfl) (by kernel_rfl) (fun _ _ _ h => h) (Or.inl ⟨by rfl, ?hyr1_2⟩) (by assumption) ?restr1_2
      case hyr1_2 => (intro w hSw; (try dsimp only at hSw); go_simp; try (with_reducible rfl))
      simp only [Act.put, List.getElem_toArray, List.getElem_cons_succ, List.getElem_cons_zero, List.setIfInBounds_toArray, List.set_cons_zero, List.set_cons_succ]
      refine' wpAnyH_take (i := 3) (v := ?vr1_3) rfl (by kernel_rfl) (by kernel_rfl) (by kernel_rfl) (fun _ _ _ h => h) (Or.inl ⟨by rfl, ?hyr1_3⟩) (by assumption) ?restr1_3
      case hyr1_3 => (intro w hSw; (try dsimp only at hSw); go_simp; try (with_reducible rfl))
      simp only [Act.put, List.getElem_toArray, List.getElem_cons_succ, List.getElem_cons_zero, List.setIfInBounds_toArray, List.set_cons_zero, List.set_cons_succ]
      refine' wpAnyH_take (i := 7) (v := ?vr1_7) rfl (by kernel_rfl) (by kernel_rfl) (by kernel_rfl) (fun _ _ _ h => h) (Or.inl ⟨by rfl, ?hyr1_7⟩) (by assumption) ?restr1_7
      case hyr1_7 => (intro w hSw; (try dsimp only at hSw); go_simp; try (with_reducible rfl))
      simp only [Act.put, List.getElem_toArray, List.getElem_cons_succ, List.getElem_cons_zero, List.setIfInBounds_toArray, List.set_cons_zero, List.set_cons_succ]
      refine' wpAnyH_take (i := 8) (v := ?vr1_8) rfl (by kernel_rfl) (by kernel_rfl) (by kernel_rfl) (fun _ _ _ h => h) (Or.inl ⟨by rfl, ?hyr1_8⟩) (by assumption) ?restr1_8
      case hyr1_8 => (intro w hSw; (try dsimp only at hSw); go_simp; try (with_reducible rfl))
      simp only [Act.put, List.getElem_toArray, List.getElem_cons_succ, List.getElem_cons_zero, List.setIfInBounds_toArray, List.set_cons_zero, List.set_cons_succ]
      refine' wpAnyH_take (i := 9) (v := ?vr1_9) rfl (by kernel_rfl) (by kernel_rfl) (by kernel_rfl) (fun _ _ _ h => h) (Or.inl ⟨by rfl, ?hyr1_9⟩) (by assumption) ?restr1_9
      case hyr1_9 => (intro w hSw; (try dsimp only at hSw); go_simp; try (with_reducible rfl))
      simp only [Act.put, List.getElem_toArray, List.getElem_cons_succ, List.getElem_cons_zero, List.setIfInBounds_toArray, List.set_cons_zero, List.set_cons_succ]
      refine' wpAnyH_take (i := 10) (v := ?vr1_10) rfl (by kernel_rfl) (by kernel_rfl) (by kernel_rfl) (fun _ _ _ h => h) (Or.inl ⟨by rfl, ?hyr1_10⟩) (by assumption) ?restr1_10
      case hyr1_10 => (intro w hSw; (try dsimp only at hSw); go_simp; try (with_reducible rfl))
      simp only [Act.put, List.getElem_toArray, List.getElem_cons_succ, List.getElem_cons_zero, List.setIfInBounds_toArray, List.set_cons_zero, List.set_cons_succ]
      refine' wpAnyH_take (i := 15) (v := ?vr1_15) rfl (by kernel_rfl) (by kernel_rfl) (by kernel_rfl) (fun _ _ _ h => h) (Or.inl ⟨by rfl, ?hyr1_15⟩) (by assumption) ?restr1_15
      case hyr1_15 => (intro w hSw; (try dsimp only at hSw); go_simp; try (with_reducible rfl))
      simp only [Act.put, List.getElem_toArray, List.getElem_cons_succ, List.getElem_cons_zero, List.setIfInBounds_toArray, List.set_cons_zero, List.set_cons_succ]
      refine' wpAnyH_take (i := 16) (v := ?vr1_16) rfl (by kernel_rfl) (by kernel_rfl) (by kernel_rfl) (fun _ _ _ h => h) (Or.inl ⟨by rfl, ?hyr1_16⟩) (by assumption) ?restr1_16
      case hyr1_16 => (intro w hSw; (try dsimp only at hSw); go_simp; try (with_reducible rfl))
      simp only [Act.put, List.getElem_toArray, List.getElem_cons_succ, List.getElem_cons_zero, List.setIfInBounds_toArray, List.set_cons_zero, List.set_cons_succ]
      refine' wpAnyH_take (i := 17) (v := ?vr1_17) rfl (by kernel_rfl) (by kernel_rfl) (by kernel_rfl) (fun _ _ _ h => h) (Or.inl ⟨by rfl, ?hyr1_17⟩) (by assumption) ?restr1_17
      case hyr1_17 => (intro w hSw; (try dsimp only at hSw); go_simp; try (with_reducible rfl))
      simp only [Act.put, List.getElem_toArray, List.getElem_cons_succ, List.getElem_cons_zero, List.setIfInBounds_toArray, List.set_cons_zero, List.set_cons_succ]
      refine' wpAnyH_take (i := 20) (v := ?vr1_20) rfl (by kernel_rfl) (by kernel_rfl) (by kernel_rfl) (fun _ _ _ h => h) (Or.inl ⟨by rfl, ?hyr1_20⟩) (by assumption) ?restr1_20
      case hyr1_20 => (intro w hSw; (try dsimp only at hSw); go_simp; try (with_reducible rfl))
      simp only [Act.put, List.getElem_toArray, List.getElem_cons_succ, List.getElem_cons_zero, List.setIfInBounds_toArray, List.set_cons_zero, List.set_cons_succ]
      refine wpAnyH_ready (rs := [4]) (by kernel_rfl) (by simp) ?_
      refine AllReadyH.cons rfl (fun K hK => ?_) AllReadyH.nil
      go_simp
      refine (common_any d b g _ hd62 hb62 HGC).mono ?_
      rintro e w1 ⟨rfl, rfl⟩
      refine hK.out _ _ (hHeld) (fun hHeld1 => ?_)
      clear hK K hHeld
      have hHeld := hHeld1
      clear hHeld1
      try simp only [Act.put, List.getElem_toArray, List.getElem_cons_succ, List.getElem_cons_zero, List.setIfInBounds_toArray, List.set_cons_zero, List.set_cons_succ]
      refine' wpAnyH_take (i := 5) (v := .int .i64 (b1 : Nat)) rfl (by kernel_rfl) (by kernel_rfl) (by kernel_rfl) (fun _ _ _ h => h) (Or.inl ⟨by rfl, ?hyq5⟩) (by assumption) ?restq5
      case hyq5 => (intro w hSw; (try dsimp only at hSw); go_simp; (try simp only [if_neg g0, if_neg g1, hqb, hwb]); try (with_reducible rfl))
      simp only [Act.put, List.getElem_toArray, List.getElem_cons_succ, List.getElem_cons_zero, List.setIfInBounds_toArray, List.set_cons_zero, List.set_cons_succ]
      refine' wpAnyH_take (i := 6) (v := ?vr1_6) rfl (by kernel_rfl) (by kernel_rfl) (by kernel_rfl) (fun _ _ _ h => h) (Or.inl ⟨by rfl, ?hyr1_6⟩) (by assumption) ?restr1_6
      case hyr1_6 => (intro w hSw; (try dsimp only at hSw); go_simp; try (with_reducible rfl))
      simp only [Act.put, List.getElem_toArray, List.getElem_cons_succ, List.getElem_cons_zero, List.setIfInBounds_toArray, List.set_cons_zero, List.set_cons_succ]
      refine wpAnyH_ready (rs := [11]) (by kernel_rfl) (by simp) ?_
      refine AllReadyH.cons rfl (fun K hK => ?_) AllReadyH.nil
      go_simp
      refine (common_any d b g _ hd62 hb62 HGC).mono ?_
      rintro e w1 ⟨rfl, rfl⟩
      refine hK.out _ _ (hHeld) (fun hHeld1 => ?_)
      clear hK K hHeld
      have hHeld := hHeld1
      clear hHeld1
      try simp only [Act.put, List.getElem_toArray, List.getElem_cons_succ, List.getElem_cons_zero, List.setIfInBounds_toArray, List.set_cons_zero, List.set_cons_succ]
      refine' wpAnyH_take (i := 12) (v := .int .i64 (d1 : Nat)) rfl (by kernel_rfl) (by kernel_rfl) (by kernel_rfl) (fun _ _ _ h => h) (Or.inl ⟨by rfl, ?hyq12⟩) (by assumption) ?restq12
      case hyq12 => (intro w hSw; (try dsimp only at hSw); go_simp; (try simp only [if_neg g0, if_neg g1, hqd, hwd]); try (with_reducible rfl))
      simp only [Act.put, List.getElem_toArray, List.getElem_cons_succ, List.getElem_cons_zero, List.setIfInBounds_toArray, List.set_cons_zero, List.set_cons_succ]
      refine' wpAnyH_take (i := 13) (v := ?vr1_13) rfl (by kernel_rfl) (by kernel_rfl) (by kernel_rfl) (fun _ _ _ h => h) (Or.inl ⟨by rfl, ?hyr1_13⟩) (by assumption) ?restr1_13
      case hyr1_13 => (intro w hSw; (try dsimp only at hSw); go_simp; try (with_reducible rfl))
      simp only [Act.put, List.getElem_toArray, List.getElem_cons_succ, List.getElem_cons_zero, List.setIfInBounds_toArray, List.set_cons_zero, List.set_cons_succ]
      refine' wpAnyH_take (i := 14) (v := ?vr1_14) rfl (by kernel_rfl) (by kernel_rfl) (by kernel_rfl) (fun _ _ _ h => h) (Or.inl ⟨by rfl, ?hyr1_14⟩) (by assumption) ?restr1_14
      case hyr1_14 => (intro w hSw; (try dsimp only at hSw); go_simp; try (with_reducible rfl))
      simp only [Act.put, List.getElem_toArray, List.getElem_cons_succ, List.getElem_cons_zero, List.setIfInBounds_toArray, List.set_cons_zero, List.set_cons_succ]
      refine wpAnyH_ready (rs := [18]) (by kernel_rfl) (by simp) ?_
      refine AllReadyH.cons rfl (fun K hK => ?_) AllReadyH.nil
      go_simp
      refine (common_any d b g _ hd62 hb62 HGC).mono ?_
      rintro e w1 ⟨rfl, rfl⟩
      refine hK.out _ _ (hHeld) (fun hHeld1 => ?_)
      clear hK K hHeld
      have hHeld := hHeld1
      clear hHeld1
      try simp only [Act.put, List.getElem_toArray, List.getElem_cons_succ, List.getElem_cons_zero, List.setIfInBounds_toArray, List.set_cons_zero, List.set_cons_succ]
      refine' wpAnyH_take (i := 19) (v := .int .i64 (d1 : Nat)) rfl (by kernel_rfl) (by kernel_rfl) (by kernel_rfl) (fun _ _ _ h => h) (Or.inl ⟨by rfl, ?hyq19⟩) (by assumption) ?restq19
      case hyq19 => (intro w hSw; (try dsimp only at hSw); go_simp; (try simp only [if_neg g0, if_neg g1, hqd, hwd]); try (with_reducible rfl))
      simp only [Act.put, List.getElem_toArray, List.getElem_cons_succ, List.getElem_cons_zero, List.setIfInBounds_toArray, List.set_cons_zero, List.set_cons_succ]
      refine' wpAnyH_take (i := 21) (v := ?vr1_21) rfl (by kernel_rfl) (by kernel_rfl) (by kernel_rfl) (fun _ _ _ h => h) (Or.inl ⟨by rfl, ?hyr1_21⟩) (by assumption) ?restr1_21
      case hyr1_21 => (intro w hSw; (try dsimp only at hSw); go_simp; try (with_reducible rfl))
      simp only [Act.put, List.getElem_toArray, List.getElem_cons_succ, List.getElem_cons_zero, List.setIfInBounds_toArray, List.set_cons_zero, List.set_cons_succ]
      refine wpAnyH_ready (rs := [22]) (by kernel_rfl) (by simp) ?_
      refine AllReadyH.cons rfl (fun K hK => ?_) AllReadyH.nil
      go_simp
      refine (reduce_any _ _ rn rd _ lR lD hD1 HRN HRD).mono ?_
      rintro e w4 ⟨rfl, b4⟩
      refine hK.out _ _ (hHeld.trans (b4.mono hHeld.size)) (fun hHeld1 => ?_)
      clear hK K hHeld
      have hHeld := hHeld1
      clear hHeld1
      try simp only [Act.put, List.getElem_toArray, List.getElem_cons_succ, List.getElem_cons_zero, List.setIfInBounds_toArray, List.set_cons_zero, List.set_cons_succ]
      refine' wpAnyH_take (i := 23) (v := ?vr1_23) rfl (by kernel_rfl) (by kernel_rfl) (by kernel_rfl) (fun _ _ _ h => h) (Or.inl ⟨by rfl, ?hyr1_23⟩) (by assumption) ?restr1_23
      case hyr1_23 => (intro w hSw; (try dsimp only at hSw); go_simp; try (with_reducible rfl))
      simp only [Act.put, List.getElem_toArray, List.getElem_cons_succ, List.getElem_cons_zero, List.setIfInBounds_toArray, List.set_cons_zero, List.set_cons_succ]
      refine' wpAnyH_take (i := 24) (v := ?vr1_24) rfl (by kernel_rfl) (by kernel_rfl) (by kernel_rfl) (fun _ _ _ h => h) (Or.inl ⟨by rfl, ?hyr1_24⟩) (by assumption) ?restr1_24
      case hyr1_24 => (intro w hSw; (try dsimp only at hSw); go_simp; try (with_reducible rfl))
      simp only [Act.put, List.getElem_toArray, List.getElem_cons_succ, List.getElem_cons_zero, List.setIfInBounds_toArray, List.set_cons_zero, List.set_cons_succ]
      refine' wpAnyH_take (i := 25) (v := ?vr1_25) rfl (by kernel_rfl) (by kernel_rfl) (by kernel_rfl) (fun _ _ _ h => h) (Or.inl ⟨by rfl, ?hyr1_25⟩) (by assumption) ?restr1_25
      case hyr1_25 => (intro w hSw; (try dsimp only at hSw); go_simp; try (with_reducible rfl))
      simp only [Act.put, List.getElem_toArray, List.getElem_cons_succ, List.getElem_cons_zero, List.setIfInBounds_toArray, List.set_cons_zero, List.set_cons_succ]
      refine' wpAnyH_take (i := 26) (v := ?vr1_26) rfl (by kernel_rfl) (by kernel_rfl) (by kernel_rfl) (fun _ _ _ h => h) (Or.inl ⟨by rfl, ?hyr1_26⟩) (by assumption) ?restr1_26
      case hyr1_26 => (intro w hSw; (try dsimp only at hSw); go_simp; try (with_reducible rfl))
      simp only [Act.put, List.getElem_toArray, List.getElem_cons_succ, List.getElem_cons_zero, List.setIfInBounds_toArray, List.set_cons_zero, List.set_cons_succ]
      refine' wpAnyH_take (i := 27) (v := ?vr1_27) rfl (by kernel_rfl) (by kernel_rfl) (by kernel_rfl) (fun _ _ _ h => h) (Or.inl ⟨by rfl, ?hyr1_27⟩) (by assumption) ?restr1_27
      case hyr1_27 => (intro w hSw; (try dsimp only at hSw); go_simp; try (with_reducible rfl))
      simp only [Act.put, List.getElem_toArray, List.getElem_cons_succ, List.getElem_cons_zero, List.setIfInBounds_toArray, List.set_cons_zero, List.set_cons_succ]
      refine wpAnyH_done (by kernel_rfl) ?_ _
      go_wp2_with fail
      go_roundw
      case rel => exact ⟨k + 1, by omega, by go_num, by rw [HK1.out], by rw [HK2.out], HB2.out.trans (hHeld.mono HB2.out.size)⟩
      case measure => simp [intOf]; omega
    · have hkd : decide (k < 3) = false := by simpa using hlt
      obtain rfl : k = 3 := by omega
      have HF1 := Lib.hid (show kn ts 3 = rn from HRN.out)
      have HF2 := Lib.hid (show kd ts 3 = rd from HRD.out)
      rw [HF1.out, HF2.out]
      go_wp2_with fail
      go_ret2
      exact ⟨rfl, HB.out⟩
set_option maxHeartbeats 16000000 in
set_option maxRecDepth 100000 in
theorem compare_any (a b c d : Nat) (r : Int) (w : World) (ha : a ≤ 4611686018427387904) (hb : b ≤ 4611686018427387904) (hc : c ≤ 4611686018427387904) (hd : d ≤ 4611686018427387904) (b1 : 1 ≤ b) (d1 : 1 ≤ d) (HR : Hid (cpI ((a : Int) * (d : Int)) ((c : Int) * (b : Int)) = r)) :
    Calls Tryz.prog 106 #[.int .i64 (a : Int), .int .i64 (b : Int), .int .i64 (c : Int), .int .i64 (d : Int)] w (APost (.int .i64 r) w) := by
  go_enter Tryz.func106, Tryz.ntmps106
  go_wp2_with fail
  go_loopw [0, 1, 2, 3, 9] (fun p q x y z wr => ∃ (a b c d : Nat) (s : Int), (a ≤ 4611686018427387904 ∧ b ≤ 4611686018427387904 ∧ c ≤ 4611686018427387904 ∧ d ≤ 4611686018427387904) ∧ 1 ≤ b ∧ 1 ≤ d ∧ (-1 ≤ s ∧ s ≤ 1) ∧ p = .int .i64 (a : Nat) ∧ q = .int .i64 (b : Nat) ∧ x = .int .i64 (c : Nat) ∧ y = .int .i64 (d : Nat) ∧ z = .int .i64 s ∧ Hid (s * cpI ((a : Int) * (d : Int)) ((c : Int) * (b : Int)) = r) ∧ Below w.heap.size w wr) (fun _ q _ _ _ _ => (intOf q).toNat)
  case atStart => exact ⟨a, b, c, d, 1, ⟨ha, hb, hc, hd⟩, b1, d1, by omega, rfl, rfl, rfl, rfl, rfl, Lib.hid (by rw [HR.out]; omega), Below.refl _ _⟩
  case round =>
    clear HR ha hb hc hd b1 d1 a b c d
    obtain ⟨a, b, c, d, s, ⟨ha, hb, hc, hd⟩, b1, d1, ⟨s0, s1⟩, rfl, rfl, rfl, rfl, rfl, HI, hB⟩ := hrel
    have HB := Lib.hid hB
    clear hB
    have b0 : ¬ (b : Int) = 0 := by omega
    have b2 : ((b : Int) == 0) = false := by simp; omega
    have d0 : ¬ (d : Int) = 0 := by omega
    have d2 : ((d : Int) == 0) = false := by simp; omega
    have xs : IntKind.i64.wrap (-s) = -s := IntWalk.i64_in _ (by omega)
    obtain ⟨q1, h1⟩ : ∃ q, a / b = q := ⟨_, rfl⟩
    obtain ⟨q2, h2⟩ : ∃ q, c / d = q := ⟨_, rfl⟩
    obtain ⟨r1, h3⟩ : ∃ q, a % b = q := ⟨_, rfl⟩
    obtain ⟨r2, h4⟩ : ∃ q, c % d = q := ⟨_, rfl⟩
    have l1 : q1 ≤ 4611686018427387904 := by have := Nat.div_le_self a b; omega
    have l2 : q2 ≤ 4611686018427387904 := by have := Nat.div_le_self c d; omega
    have l3 : r1 < b := by have := Nat.mod_lt a (show b > 0 by omega); omega
    have l4 : r2 < d := by have := Nat.mod_lt c (show d > 0 by omega); omega
    have k1 : (a : Int).tdiv (b : Int) = (q1 : Int) := by rw [← h1]; exact (Int.ofNat_tdiv a b).symm
    have k2 : (c : Int).tdiv (d : Int) = (q2 : Int) := by rw [← h2]; exact (Int.ofNat_tdiv c d).symm
    have k3 : (a : Int).tmod (b : Int) = (r1 : Int) := by rw [← h3]; rfl
    have k4 : (c : Int).tmod (d : Int) = (r2 : Int) := by rw [← h4]; rfl
    have y1 : IntKind.i64.wrap (q1 : Int) = (q1 : Int) := IntWalk.i64_in _ (by omega)
    have y2 : IntKind.i64.wrap (q2 : Int) = (q2 : Int) := IntWalk.i64_in _ (by omega)
    have y3 : IntKind.i64.wrap (r1 : Int) = (r1 : Int) := IntWalk.i64_in _ (by omega)
    have y4 : IntKind.i64.wrap (r2 : Int) = (r2 : Int) := IntWalk.i64_in _ (by omega)
    have HLT := Lib.hid (fun (h : q1 < q2) => cp_quot (a := a) (b := b) (c := c) (d := d) (by omega) (by omega) (by omega) (by omega) (by rw [← h1, ← h2] at h; exact_mod_cast h))
    have HGT := Lib.hid (fun (h : q2 < q1) => cp_quot (a := c) (b := d) (c := a) (d := b) (by omega) (by omega) (by omega) (by omega) (by rw [← h1, ← h2] at h; exact_mod_cast h))
    have HEQ := Lib.hid (fun (h : q1 = q2) => show cpI ((a : Int) * (d : Int)) ((c : Int) * (b : Int)) = cpI ((r1 : Int) * (d : Int)) ((r2 : Int) * (b : Int)) from cpI_sub (by
      have := cp_rest (a := a) (b := b) (c := c) (d := d) (by rw [← h1, ← h2] at h; exact_mod_cast h)
      rw [show (a : Int) % (b : Int) = (r1 : Int) by rw [← h3]; rfl, show (c : Int) % (d : Int) = (r2 : Int) by rw [← h4]; rfl] at this
      exact this))
    clear h1 h2 h3 h4
    by_cases hlt : q1 < q2
    · have e1 : (q1 : Int) < (q2 : Int) := by omega
      have HV := Lib.hid (show -s = r by have h := HI.out; unfold cpI at h; rw [if_pos (HLT.out hlt)] at h; omega)
      clear HLT HGT HEQ HI
      rw [← HV.out]
      go_upto_region 2 with fail
      go_region
      go_wp2_with fail
      go_ret
      exact ⟨rfl, HB.out.drew⟩
    by_cases hgt : q2 < q1
    · have e1 : ¬ (q1 : Int) < (q2 : Int) := by omega
      have e2 : (q2 : Int) < (q1 : Int) := by omega
      have HV := Lib.hid (show s = r by have h := HI.out; have g := HGT.out hgt; unfold cpI at h; rw [if_neg (by omega), if_pos g] at h; omega)
      clear HLT HGT HEQ HI
      rw [← HV.out]
      go_upto_region 2 with fail
      go_region
      go_upto_region 4 with fail
      go_region
      go_wp2_with fail
      go_ret
      exact ⟨rfl, HB.out.drew.drew⟩
    have e1 : ¬ (q1 : Int) < (q2 : Int) := by omega
    have e2 : ¬ (q2 : Int) < (q1 : Int) := by omega
    have HE := Lib.hid (HEQ.out (by omega))
    have HI2 := Lib.hid (show s * cpI ((r1 : Int) * (d : Int)) ((r2 : Int) * (b : Int)) = r by have h := HI.out; rwa [HE.out] at h)
    clear HLT HGT HEQ HI HE
    by_cases z1 : r1 = 0
    · subst z1
      by_cases z2 : r2 = 0
      · subst z2
        have HV := Lib.hid (show (0 : Int) = r by have h := HI2.out; unfold cpI at h; simp at h; exact h)
        clear HI2
        rw [← HV.out]
        go_upto_region 2 with fail
        go_region
        go_upto_region 4 with fail
        go_region
        go_wp2_with fail
        go_ret
        exact ⟨rfl, HB.out.drew.drew⟩
      · have n2 : ((r2 : Int) == 0) = false := by simp; omega
        have n3 : ¬ (r2 : Int) = 0 := by omega
        have n4 : ((0 : Int) == (r2 : Int)) = false := by simp; omega
        have n5 : ¬ (0 : Int) = (r2 : Int) := by omega
        have HV := Lib.hid (show -s = r by
          have h := HI2.out
          have p : 0 < (r2 : Int) * (b : Int) := Int.mul_pos (by omega) (by omega)
          unfold cpI at h; rw [if_pos (by simp; omega)] at h; omega)
        clear HI2
        rw [← HV.out]
        go_upto_region 2 with fail
        go_region
        go_upto_region 4 with fail
        go_region
        go_wp2_with fail
        go_ret
        exact ⟨rfl, HB.out.drew.drew⟩
    · have m2 : ((r1 : Int) == 0) = false := by simp; omega
      have m3 : ¬ (r1 : Int) = 0 := by omega
      by_cases z2 : r2 = 0
      · subst z2
        have HV := Lib.hid (show s = r by
          have h := HI2.out
          have p : 0 < (r1 : Int) * (d : Int) := Int.mul_pos (by omega) (by omega)
          unfold cpI at h; rw [if_neg (by simp; omega), if_pos (by simp; omega)] at h; omega)
        clear HI2
        rw [← HV.out]
        go_upto_region 2 with fail
        go_region
        go_upto_region 4 with fail
        go_region
        go_wp2_with fail
        go_ret
        exact ⟨rfl, HB.out.drew.drew⟩
      · have n2 : ((r2 : Int) == 0) = false := by simp; omega
        have n3 : ¬ (r2 : Int) = 0 := by omega
        have HN := Lib.hid (show -s * cpI ((b : Int) * (r2 : Int)) ((d : Int) * (r1 : Int)) = r by
          rw [← HI2.out, Int.mul_comm (b : Int), Int.mul_comm (d : Int), cpI_neg, Int.neg_mul_neg])
        clear HI2
        go_upto_region 2 with fail
        go_region
        go_upto_region 4 with fail
        go_region
        go_wp2_with fail
        go_roundw
        case rel => exact ⟨b, r1, d, r2, -s, ⟨hb, by omega, hd, by omega⟩, by omega, by omega, by omega, rfl, rfl, rfl, rfl, rfl, HN, HB.out.drew.drew⟩
        case measure => simp [intOf]; omega
def ansSt (ts : List Lg) : Value := if goodLg ts then .tuple #[.int .i64 (snV ts), .int .i64 (sdV ts), .bool true] else .tuple #[.int .i64 0, .int .i64 0, .bool false]
set_option maxHeartbeats 4000000 in
set_option maxRecDepth 100000 in
theorem strainOf_model (A : Option Addr) (n cap : Nat) (ts : List Lg) (w : World) (hn : n ≤ 2000000) (hts : Hid (LgAt w w.heap.size A n ts)) :
    Calls Tryz.prog 49 #[.slice A n cap] w (APost (ansSt ts) w) := by
  obtain ⟨t, HT⟩ : ∃ t, Hid (goodLg ts = t) := ⟨_, Lib.hid rfl⟩
  cases t
  · have HF := Lib.hid (show ansSt ts = .tuple #[.int .i64 0, .int .i64 0, .bool false] by unfold ansSt; rw [HT.out]; rfl)
    go_enter Tryz.func49, Tryz.ntmps49
    go_wp2_with fail
    refine (legs_is A n cap ts false _ hn hts HT).mono ?_
    rintro e w1 ⟨rfl, b1⟩
    have HB := Lib.hid b1
    clear b1
    go_wp2_with fail
    go_ret3
    exact ⟨by rw [HF.out]; rfl, HB.out⟩
  obtain ⟨rn, HRN⟩ : ∃ q, Hid (snV ts = q) := ⟨_, Lib.hid rfl⟩
  obtain ⟨rd, HRD⟩ : ∃ q, Hid (sdV ts = q) := ⟨_, Lib.hid rfl⟩
  have HF := Lib.hid (show ansSt ts = .tuple #[.int .i64 rn, .int .i64 rd, .bool true] by unfold ansSt; rw [HT.out, HRN.out, HRD.out]; rfl)
  go_enter Tryz.func49, Tryz.ntmps49
  go_wp2_with fail
  refine (legs_is A n cap ts true _ hn hts HT).mono ?_
  rintro e w1 ⟨rfl, b1⟩
  have HB := Lib.hid b1
  clear b1
  go_wp2_with fail
  refine (strain_any A n cap ts rn rd _ hn HT HRN HRD (Lib.hid (hts.out.step HB.out))).mono ?_
  rintro e w2 ⟨rfl, b2⟩
  have HB2 := Lib.hid (HB.out.trans (b2.mono HB.out.size))
  clear b2
  go_wp2_with fail
  go_ret3
  exact ⟨by rw [HF.out]; rfl, HB2.out⟩
end Go.Proofs.YtiimegmaokfpgabGreatDoor.bl
namespace Go.Proofs.YtiimegmaokfpgabGreatDoor.bl
open Go.RowKit
open reads base ty lg lgi win hs nt nq rowi sn mt ml dt pg ph
set_option linter.unusedVariables false
set_option linter.unusedSimpArgs false
theorem squareSum_is (A : Option Addr) (n cap : Nat) (ts : List Lg) (ax : Int) (v : Value) (w : World) (h : Hid (ansSq ts ax = v)) (hn : n ≤ 2000000) (hts : Hid (LgAt w w.heap.size A n ts)) (hT : Hid (Tab w)) :
    Calls Tryz.prog 24 #[.slice A n cap, .int .i64 ax] w (APost v w) := by rw [← h.out]; exact squareSum_impl A n cap ts ax w hn hts hT
set_option maxHeartbeats 4000000 in
set_option maxRecDepth 100000 in
theorem sumF_any (n1 d1 n2 d2 rn rd : Int) (w : World) (l1 : lim62 (n1 * d2)) (l2 : lim62 (n2 * d1)) (lN : lim62 (n1 * d2 + n2 * d1)) (lD : lim62 (d1 * d2)) (hD : 1 ≤ d1 * d2) (HRN : Hid (redN (n1 * d2 + n2 * d1) (d1 * d2) = rn)) (HRD : Hid (redD (n1 * d2 + n2 * d1) (d1 * d2) = rd)) :
    Calls Tryz.prog 141 #[.agg #[.int .i64 n1, .int .i64 d1], .agg #[.int .i64 n2, .int .i64 d2]] w (APost (.agg #[.int .i64 rn, .int .i64 rd]) w) := by
  have x1 : IntKind.i64.wrap (n1 * d2) = n1 * d2 := IntWalk.i64_in _ (by unfold lim62 at l1; omega)
  have x2 : IntKind.i64.wrap (n2 * d1) = n2 * d1 := IntWalk.i64_in _ (by unfold lim62 at l2; omega)
  have x3 : IntKind.i64.wrap (n1 * d2 + n2 * d1) = n1 * d2 + n2 * d1 := IntWalk.i64_in _ (by unfold lim62 at lN; omega)
  have x4 : IntKind.i64.wrap (d1 * d2) = d1 * d2 := IntWalk.i64_in _ (by unfold lim62 at lD; omega)
  go_enter Tryz.func141, Tryz.ntmps141
  go_upto_region 1 with fail
  obtain ⟨V, HV⟩ : ∃ V, Hid (((w.alloc (.cells #[.int .i64 n1, .int .i64 d1] 105)).alloc (.cells #[.int .i64 n2, .int .i64 d2] 105)).alloc (.cells #[.int .i64 0, .int .i64 0] 105) = V) := ⟨_, Lib.hid rfl⟩
  have HB := Lib.hid (show Below w.heap.size w V by rw [← HV.out]; exact (((Below.refl _ _).alloc (Nat.le_refl _) _).alloc (by simp) _).alloc (by simp; omega) _)
  have H1 := Lib.hid (show Blk V w.heap.size 105 #[.int .i64 n1, .int .i64 d1] by rw [← HV.out]; exact ((Blk.new _ _ _).alloc _).alloc _)
  have H2 := Lib.hid (show Blk V (w.heap.size + 1) 105 #[.int .i64 n2, .int .i64 d2] by rw [← HV.out]; exact (by have h := Blk.new (w.alloc (.cells #[.int .i64 n1, .int .i64 d1] 105)) 105 #[.int .i64 n2, .int .i64 d2]; simpa using h : Blk ((w.alloc (.cells #[.int .i64 n1, .int .i64 d1] 105)).alloc (.cells #[.int .i64 n2, .int .i64 d2] 105)) (w.heap.size + 1) 105 #[.int .i64 n2, .int .i64 d2]).alloc _)
  have H3 := Lib.hid (show Blk V (w.heap.size + 1 + 1) 105 #[.int .i64 0, .int .i64 0] by rw [← HV.out]; have h := Blk.new ((w.alloc (.cells #[.int .i64 n1, .int .i64 d1] 105)).alloc (.cells #[.int .i64 n2, .int .i64 d2] 105)) 105 #[.int .i64 0, .int .i64 0]; simpa using h)
  rw [HV.out]
  clear HV
  have q0 := H1.out.cell 0
  have q1 := H1.out.cell 1
  have q2 := H2.out.cell 0
  have q3 := H2.out.cell 1
  simp at q0 q1 q2 q3
  go_wp2_with fail
  refine (reduced_any _ _ rn rd _ lN lD hD HRN HRD).mono ?_
  rintro e w1 ⟨rfl, b1⟩
  have HB1 := Lib.hid (HB.out.trans (b1.mono HB.out.size))
  have H4 := Lib.hid (H3.out.below b1 H3.out.lt)
  clear b1 q0 q1 q2 q3 HB H1 H2 H3 x1 x2 x3 x4
  have z0 := H4.out.cell 0
  have z1 := H4.out.cell 1
  have f0 := H4.out.frozen 0
  have f1 := H4.out.frozen 1
  have zl := H4.out.lt
  simp at z0 z1
  go_wp2_with fail
  refine bodyPost_ret (v := .agg #[.int .i64 rn, .int .i64 rd]) (by simp [results, Tryz.results141, go_sem, *]) rfl ⟨rfl, ?_⟩
  exact (HB1.out.setCell (p := ⟨w.heap.size + 1 + 1, 0, none⟩) (by show w.heap.size ≤ w.heap.size + 1 + 1; omega) _).setCell (p := ⟨w.heap.size + 1 + 1, 1, none⟩) (by show w.heap.size ≤ w.heap.size + 1 + 1; omega) _
theorem nan_any (x : Int) (w : World) : Calls Tryz.prog 165 #[.int .i64 x] w fun e w' => e = .returned (.bool false) ∧ w = w' := by
  have h1 : (x == x) = true := by simp
  have h2 : (x != x) = false := by simp
  go_enter Tryz.func165, Tryz.ntmps165
  go_wp2_with fail
  go_ret
  exact ⟨rfl, rfl⟩
set_option maxHeartbeats 4000000 in
theorem cmp_any (x y r : Int) (w : World) (hr : Hid (cpI x y = r)) : Calls Tryz.prog 142 #[.int .i64 x, .int .i64 y] w fun e w' => e = .returned (.int .i64 r) ∧ w = w' := by
  go_enter Tryz.func142, Tryz.ntmps142
  go_wp2_with fail
  refine (nan_any x _).mono ?_
  rintro e w1 ⟨rfl, rfl⟩
  go_wp2_with fail
  refine (nan_any y _).mono ?_
  rintro e w1 ⟨rfl, rfl⟩
  by_cases h1 : x < y
  · have HV := Lib.hid (show (-1 : Int) = r by have h := hr.out; unfold cpI at h; rw [if_pos h1] at h; exact h)
    obtain rfl := HV.out
    go_wp2_with fail
    go_ret
    exact ⟨rfl, rfl⟩
  · by_cases h2 : y < x
    · have HV := Lib.hid (show (1 : Int) = r by have h := hr.out; unfold cpI at h; rw [if_neg h1, if_pos h2] at h; exact h)
      obtain rfl := HV.out
      go_wp2_with fail
      go_ret
      exact ⟨rfl, rfl⟩
    · have HV := Lib.hid (show (0 : Int) = r by have h := hr.out; unfold cpI at h; rw [if_neg h1, if_neg h2] at h; exact h)
      obtain rfl := HV.out
      go_wp2_with fail
      go_ret
      exact ⟨rfl, rfl⟩
set_option maxHeartbeats 4000000 in
set_option maxRecDepth 100000 in
theorem cmpF_any (n1 d1 n2 d2 r : Int) (w : World) (l1 : lim62 (n1 * d2)) (l2 : lim62 (n2 * d1)) (HR : Hid (cpI (n1 * d2) (n2 * d1) = r)) :
    Calls Tryz.prog 105 #[.agg #[.int .i64 n1, .int .i64 d1], .agg #[.int .i64 n2, .int .i64 d2]] w (APost (.int .i64 r) w) := by
  have x1 : IntKind.i64.wrap (n1 * d2) = n1 * d2 := IntWalk.i64_in _ (by unfold lim62 at l1; omega)
  have x2 : IntKind.i64.wrap (n2 * d1) = n2 * d1 := IntWalk.i64_in _ (by unfold lim62 at l2; omega)
  go_enter Tryz.func105, Tryz.ntmps105
  go_wp2_with fail
  refine (cmp_any _ _ r _ HR).mono ?_
  rintro e w1 ⟨rfl, rfl⟩
  go_wp2_with fail
  go_ret
  exact ⟨rfl, ((Below.refl _ _).alloc (Nat.le_refl _) _).alloc (by simp) _⟩
def ansF (ts : List Lg) : Value := if goodLg ts then .tuple #[.agg #[.int .i64 (snV ts), .int .i64 (sdV ts)], .bool true] else .tuple #[.agg #[.int .i64 0, .int .i64 0], .bool false]
set_option maxHeartbeats 4000000 in
set_option maxRecDepth 100000 in
theorem strainF_no (A : Option Addr) (n cap : Nat) (ts : List Lg) (w : World) (hn : n ≤ 2000000) (HG : Hid (goodLg ts = false)) (hts : Hid (LgAt w w.heap.size A n ts)) (hT : Hid (Tab w)) :
    Calls Tryz.prog 104 #[.slice A n cap] w (APost (.tuple #[.agg #[.int .i64 0, .int .i64 0], .bool false]) w) := by
  have HF := Lib.hid (show ansSq ts 0 = .tuple #[.int .i64 0, .int .i64 0, .bool false] by unfold ansSq axOk; rw [HG.out]; rfl)
  go_enter Tryz.func104, Tryz.ntmps104
  go_upto_region 2 with fail
  obtain ⟨V, HV⟩ : ∃ V, Hid ((w.alloc (.cells #[.int .i64 0, .int .i64 0] 105)).alloc (.cells #[.int .i64 0, .int .i64 1] 105) = V) := ⟨_, Lib.hid rfl⟩
  have HB := Lib.hid (show Below w.heap.size w V by rw [← HV.out]; exact ((Below.refl _ _).alloc (Nat.le_refl _) _).alloc (by simp) _)
  have H1 := Lib.hid (show Blk V w.heap.size 105 #[.int .i64 0, .int .i64 0] by rw [← HV.out]; exact (Blk.new _ _ _).alloc _)
  rw [HV.out]
  clear HV
  go_wp2_with fail
  go_loopw [5] (fun i wr => i = .int .i64 0 ∧ wr = V) (fun _ _ => 0)
  case atStart => exact ⟨rfl, rfl⟩
  case round =>
    obtain ⟨rfl, rfl⟩ := hrel
    go_wp2_with fail
    refine (squareSum_is A n cap ts 0 _ _ HF hn (Lib.hid (hts.out.step HB.out)) (Lib.hid (hT.out.below HB.out))).mono ?_
    rintro e w1 ⟨rfl, b1⟩
    have HB1 := Lib.hid (HB.out.trans (b1.mono HB.out.size))
    have H4 := Lib.hid (H1.out.below b1 H1.out.lt)
    clear b1
    have z0 := H4.out.cell 0
    have z1 := H4.out.cell 1
    have f0 := H4.out.frozen 0
    have f1 := H4.out.frozen 1
    have zl := H4.out.lt
    simp at z0 z1
    go_wp2_with fail
    refine bodyPost_ret (v := .tuple #[.agg #[.int .i64 0, .int .i64 0], .bool false]) (by simp [results, Tryz.results104, go_sem, *]) rfl ⟨rfl, ?_⟩
    exact (HB1.out.setCell (p := ⟨w.heap.size, 0, none⟩) (Nat.le_refl _) _).setCell (p := ⟨w.heap.size, 1, none⟩) (Nat.le_refl _) _
set_option maxHeartbeats 8000000 in
set_option maxRecDepth 100000 in
theorem strainF_yes (A : Option Addr) (n cap : Nat) (ts : List Lg) (rn rd : Int) (w : World) (hn : n ≤ 2000000) (HG : Hid (goodLg ts = true)) (HRN : Hid (snV ts = rn)) (HRD : Hid (sdV ts = rd)) (hts : Hid (LgAt w w.heap.size A n ts)) (hT : Hid (Tab w)) :
    Calls Tryz.prog 104 #[.slice A n cap] w (APost (.tuple #[.agg #[.int .i64 rn, .int .i64 rd], .bool true]) w) := by
  have HK0 := Lib.hid (k_zero HG.out)
  have HF1 := Lib.hid (show kn ts 3 = rn from HRN.out)
  have HF2 := Lib.hid (show kd ts 3 = rd from HRD.out)
  have HR0 : w.heap.size ≤ w.heap.size := Nat.le_refl _
  go_enter Tryz.func104, Tryz.ntmps104
  go_upto_region 2 with fail
  obtain ⟨V, HV⟩ : ∃ V, Hid ((w.alloc (.cells #[.int .i64 0, .int .i64 0] 105)).alloc (.cells #[.int .i64 0, .int .i64 1] 105) = V) := ⟨_, Lib.hid rfl⟩
  have HB0 := Lib.hid (show Below w.heap.size w V by rw [← HV.out]; exact ((Below.refl _ _).alloc (Nat.le_refl _) _).alloc (by simp) _)
  have H1 := Lib.hid (show Blk V w.heap.size 105 #[.int .i64 0, .int .i64 0] by rw [← HV.out]; exact (Blk.new _ _ _).alloc _)
  have H2 := Lib.hid (show Blk V (w.heap.size + 1) 105 #[.int .i64 0, .int .i64 1] by rw [← HV.out]; have h := Blk.new (w.alloc (.cells #[.int .i64 0, .int .i64 0] 105)) 105 #[.int .i64 0, .int .i64 1]; simpa using h)
  rw [HV.out]
  clear HV
  go_wp2_with fail
  go_loopw [5] (fun i wr => ∃ k : Nat, k ≤ 3 ∧ i = .int .i64 (k : Nat) ∧ Blk wr w.heap.size 105 #[.int .i64 0, .int .i64 0] ∧ Blk wr (w.heap.size + 1) 105 #[.int .i64 (kn ts k), .int .i64 (kd ts k)] ∧ Below w.heap.size w wr) (fun i _ => 3 - (intOf i).toNat)
  case atStart => exact ⟨0, by omega, rfl, H1.out, by rw [HK0.out.1, HK0.out.2]; exact H2.out, HB0.out⟩
  case round =>
    clear H1 H2 HB0
    obtain ⟨k, hk, rfl, hX, hY, hB⟩ := hrel
    have HX := Lib.hid hX
    have HY := Lib.hid hY
    have HB := Lib.hid hB
    clear hX hY hB
    have hk0 : (0 : Int) ≤ (k : Int) := by omega
    by_cases hlt : k < 3
    · have hki : (k : Int) < 3 := by omega
      have hkd : decide (k < 3) = true := by simpa using hlt
      have hk2 : (k : Int) ≤ 2 := by omega
      have F1 := kf_bd HG.out k (by omega)
      have F2 := sf_bd HG.out (k : Int)
      have KS := k_step HG.out k (by omega)
      have m1 := frc_mul F1 F2
      have m2 := frc_mul F2 F1
      have HF := Lib.hid (show ansSq ts (k : Int) = .tuple #[.int .i64 (sqn ts (k : Int)), .int .i64 (sqd ts (k : Int)), .bool true] by unfold ansSq axOk; rw [HG.out, btw_mk hk0 hk2]; rfl)
      obtain ⟨a, HA⟩ : ∃ q, Hid (kn ts k = q) := ⟨_, Lib.hid rfl⟩
      obtain ⟨d, HD⟩ : ∃ q, Hid (kd ts k = q) := ⟨_, Lib.hid rfl⟩
      obtain ⟨c, HC⟩ : ∃ q, Hid (sqn ts (k : Int) = q) := ⟨_, Lib.hid rfl⟩
      obtain ⟨b, HBB⟩ : ∃ q, Hid (sqd ts (k : Int) = q) := ⟨_, Lib.hid rfl⟩
      obtain ⟨a2, HA2⟩ : ∃ q, Hid (kn ts (k + 1) = q) := ⟨_, Lib.hid rfl⟩
      obtain ⟨d2, HD2⟩ : ∃ q, Hid (kd ts (k + 1) = q) := ⟨_, Lib.hid rfl⟩
      simp only [HA.out, HD.out, HC.out, HBB.out, HA2.out, HD2.out] at m1 m2 KS
      rw [HC.out, HBB.out] at HF
      rw [HA.out, HD.out] at HY
      have l1 : lim62 (a * b) := by unfold lim62; omega
      have l2 : lim62 (c * d) := by unfold lim62; omega
      have lN : lim62 (a * b + c * d) := by unfold lim62; omega
      have lD : lim62 (d * b) := by unfold lim62; omega
      have hD1 : 1 ≤ d * b := m1.2.2.1
      have HS1 := Lib.hid KS.1
      have HS2 := Lib.hid KS.2
      clear F1 F2 KS m1 m2
      go_wp2_with fail
      refine (squareSum_is A n cap ts (k : Int) _ _ HF hn (Lib.hid (hts.out.step HB.out)) (Lib.hid (hT.out.below HB.out))).mono ?_
      rintro e w1 ⟨rfl, b1⟩
      have HB1 := Lib.hid (HB.out.trans (b1.mono HB.out.size))
      have HX1 := Lib.hid (HX.out.below b1 HX.out.lt)
      have HY1 := Lib.hid (HY.out.below b1 HY.out.lt)
      clear b1 HX HY HB
      have q0 := HY1.out.cell 0
      have q1 := HY1.out.cell 1
      simp at q0 q1
      go_wp2_with fail
      refine (sumF_any a d c b a2 d2 _ l1 l2 lN lD hD1 HS1 HS2).mono ?_
      rintro e w2 ⟨rfl, b2⟩
      have HB2 := Lib.hid (HB1.out.trans (b2.mono HB1.out.size))
      have HX2 := Lib.hid (HX1.out.below b2 HX1.out.lt)
      have HY2 := Lib.hid (HY1.out.below b2 HY1.out.lt)
      clear b2 HX1 HY1 HB1 q0 q1
      have z0 := HY2.out.cell 0
      have z1 := HY2.out.cell 1
      have f0 := HY2.out.frozen 0
      have f1 := HY2.out.frozen 1
      have zl := HY2.out.lt
      simp at z0 z1
      go_wp2_with fail
      go_roundw
      case rel =>
        refine ⟨k + 1, by omega, by go_num, (HX2.out.far (by show w.heap.size ≠ w.heap.size + 1; omega) _).far (by show w.heap.size ≠ w.heap.size + 1; omega) _, ?_, (HB2.out.setCell (p := ⟨w.heap.size + 1, 0, none⟩) (by show w.heap.size ≤ w.heap.size + 1; omega) _).setCell (p := ⟨w.heap.size + 1, 1, none⟩) (by show w.heap.size ≤ w.heap.size + 1; omega) _⟩
        rw [HA2.out, HD2.out]
        have h := (HY2.out.set_ 0 (.int .i64 a2)).set_ 1 (.int .i64 d2)
        simpa using h
      case measure => simp [intOf]; omega
    · have hkd : decide (k < 3) = false := by simpa using hlt
      obtain rfl : k = 3 := by omega
      rw [HF1.out, HF2.out] at HY
      have q0 := HY.out.cell 0
      have q1 := HY.out.cell 1
      have z0 := HX.out.cell 0
      have z1 := HX.out.cell 1
      have f0 := HX.out.frozen 0
      have f1 := HX.out.frozen 1
      have zl := HX.out.lt
      simp at q0 q1 z0 z1
      go_wp2_with fail
      refine bodyPost_ret (v := .tuple #[.agg #[.int .i64 rn, .int .i64 rd], .bool true]) (by simp [results, Tryz.results104, go_sem, *]) rfl ⟨rfl, ?_⟩
      exact (HB.out.setCell (p := ⟨w.heap.size, 0, none⟩) HR0 _).setCell (p := ⟨w.heap.size, 1, none⟩) HR0 _
theorem strainF_any (A : Option Addr) (n cap : Nat) (ts : List Lg) (v : Value) (w : World) (h : Hid (ansF ts = v)) (hn : n ≤ 2000000) (hts : Hid (LgAt w w.heap.size A n ts)) (hT : Hid (Tab w)) :
    Calls Tryz.prog 104 #[.slice A n cap] w (APost v w) := by
  rw [← h.out]
  unfold ansF
  cases hg : goodLg ts
  · rw [if_neg (by decide)]; exact strainF_no A n cap ts w hn (Lib.hid hg) hts hT
  · rw [if_pos rfl]; exact strainF_yes A n cap ts _ _ w hn (Lib.hid hg) (Lib.hid rfl) (Lib.hid rfl) hts hT
def fN (ts : List Lg) : Int := if goodLg ts then snV ts else 0
def fD (ts : List Lg) : Int := if goodLg ts then sdV ts else 0
theorem ansF_is (ts : List Lg) : ansF ts = .tuple #[.agg #[.int .i64 (fN ts), .int .i64 (fD ts)], .bool (goodLg ts)] := by unfold ansF fN fD; split <;> simp_all
theorem ansSt_is (ts : List Lg) : ansSt ts = .tuple #[.int .i64 (fN ts), .int .i64 (fD ts), .bool (goodLg ts)] := by unfold ansSt fN fD; split <;> simp_all
set_option maxHeartbeats 4000000 in
set_option maxRecDepth 100000 in
theorem strainOf_impl (A : Option Addr) (n cap : Nat) (ts : List Lg) (w : World) (hn : n ≤ 2000000) (hts : Hid (LgAt w w.heap.size A n ts)) (hT : Hid (Tab w)) :
    Calls Tryz.prog 44 #[.slice A n cap] w (APost (ansSt ts) w) := by
  obtain ⟨g, HG⟩ : ∃ q, Hid (goodLg ts = q) := ⟨_, Lib.hid rfl⟩
  obtain ⟨rn, HRN⟩ : ∃ q, Hid (fN ts = q) := ⟨_, Lib.hid rfl⟩
  obtain ⟨rd, HRD⟩ : ∃ q, Hid (fD ts = q) := ⟨_, Lib.hid rfl⟩
  have HF := Lib.hid (show ansSt ts = .tuple #[.int .i64 rn, .int .i64 rd, .bool g] by rw [ansSt_is, HG.out, HRN.out, HRD.out])
  have HI := Lib.hid (show ansF ts = .tuple #[.agg #[.int .i64 rn, .int .i64 rd], .bool g] by rw [ansF_is, HG.out, HRN.out, HRD.out])
  go_enter Tryz.func44, Tryz.ntmps44
  go_wp2_with fail
  refine (strainF_any A n cap ts _ _ HI hn hts hT).mono ?_
  rintro e w1 ⟨rfl, b1⟩
  have HB := Lib.hid (b1.alloc b1.size (.cells #[.int .i64 rn, .int .i64 rd] 105))
  have HX := Lib.hid (Blk.new w1 105 #[.int .i64 rn, .int .i64 rd])
  clear b1
  go_upto_region 2 with fail
  obtain ⟨V, HV⟩ : ∃ q, Hid (w1.alloc (.cells #[.int .i64 rn, .int .i64 rd] 105) = q) := ⟨_, Lib.hid rfl⟩
  obtain ⟨X, HXX⟩ : ∃ q, Hid (w1.heap.size = q) := ⟨_, Lib.hid rfl⟩
  rw [HXX.out] at HX
  rw [HV.out] at HX HB ⊢
  try simp only [HXX.out]
  clear HV
  have q0 := HX.out.cell 0
  have q1 := HX.out.cell 1
  simp at q0 q1
  go_region
  go_wp2_with fail
  go_ret3
  exact ⟨by rw [HF.out]; rfl, HB.out.drew⟩
def ansCs (a b : List Lg) : Value := if goodLg a && goodLg b then .tuple #[.int .i64 (cpS a b), .bool true] else .tuple #[.int .i64 0, .bool false]
set_option maxHeartbeats 4000000 in
set_option maxRecDepth 100000 in
theorem compareStrains_impl (A : Option Addr) (n cap : Nat) (ts : List Lg) (A2 : Option Addr) (n2 cap2 : Nat) (us : List Lg) (w : World) (hn : n ≤ 2000000) (hn2 : n2 ≤ 2000000) (hts : Hid (LgAt w w.heap.size A n ts)) (hus : Hid (LgAt w w.heap.size A2 n2 us)) (hT : Hid (Tab w)) :
    Calls Tryz.prog 43 #[.slice A n cap, .slice A2 n2 cap2] w (APost (ansCs ts us) w) := by
  obtain ⟨g, HG⟩ : ∃ q, Hid (goodLg ts = q) := ⟨_, Lib.hid rfl⟩
  obtain ⟨rn, HRN⟩ : ∃ q, Hid (fN ts = q) := ⟨_, Lib.hid rfl⟩
  obtain ⟨rd, HRD⟩ : ∃ q, Hid (fD ts = q) := ⟨_, Lib.hid rfl⟩
  have HI := Lib.hid (show ansF ts = .tuple #[.agg #[.int .i64 rn, .int .i64 rd], .bool g] by rw [ansF_is, HG.out, HRN.out, HRD.out])
  obtain ⟨g2, HG2⟩ : ∃ q, Hid (goodLg us = q) := ⟨_, Lib.hid rfl⟩
  obtain ⟨rn2, HRN2⟩ : ∃ q, Hid (fN us = q) := ⟨_, Lib.hid rfl⟩
  obtain ⟨rd2, HRD2⟩ : ∃ q, Hid (fD us = q) := ⟨_, Lib.hid rfl⟩
  have HI2 := Lib.hid (show ansF us = .tuple #[.agg #[.int .i64 rn2, .int .i64 rd2], .bool g2] by rw [ansF_is, HG2.out, HRN2.out, HRD2.out])
  go_enter Tryz.func43, Tryz.ntmps43
  go_wp2_with fail
  refine (strainF_any A n cap ts _ _ HI hn hts hT).mono ?_
  rintro e w1 ⟨rfl, b1⟩
  have HB := Lib.hid (b1.alloc b1.size (.cells #[.int .i64 rn, .int .i64 rd] 105))
  have HX := Lib.hid (Blk.new w1 105 #[.int .i64 rn, .int .i64 rd])
  clear b1
  go_upto_region 2 with fail
  obtain ⟨V, HV⟩ : ∃ q, Hid (w1.alloc (.cells #[.int .i64 rn, .int .i64 rd] 105) = q) := ⟨_, Lib.hid rfl⟩
  obtain ⟨X, HXX⟩ : ∃ q, Hid (w1.heap.size = q) := ⟨_, Lib.hid rfl⟩
  rw [HXX.out] at HX
  rw [HV.out] at HX HB ⊢
  try simp only [HXX.out]
  clear HV
  go_wp2_with fail
  refine (strainF_any A2 n2 cap2 us _ _ HI2 hn2 (Lib.hid (hus.out.step HB.out)) (Lib.hid (hT.out.below HB.out))).mono ?_
  rintro e w2 ⟨rfl, b2⟩
  have HB2 := Lib.hid (HB.out.trans (b2.mono HB.out.size))
  have HB3 := Lib.hid (HB2.out.alloc HB2.out.size (.cells #[.int .i64 rn2, .int .i64 rd2] 105))
  have HX2 := Lib.hid ((HX.out.below b2 HX.out.lt).alloc (.cells #[.int .i64 rn2, .int .i64 rd2] 105))
  have HY2 := Lib.hid (Blk.new w2 105 #[.int .i64 rn2, .int .i64 rd2])
  clear b2 HX HB HB2
  go_upto_region 3 with fail
  obtain ⟨V, HV⟩ : ∃ q, Hid (w2.alloc (.cells #[.int .i64 rn2, .int .i64 rd2] 105) = q) := ⟨_, Lib.hid rfl⟩
  obtain ⟨Y, HYY⟩ : ∃ q, Hid (w2.heap.size = q) := ⟨_, Lib.hid rfl⟩
  rw [HYY.out] at HY2
  rw [HV.out] at HX2 HY2 HB3 ⊢
  try simp only [HYY.out]
  clear HV
  have HCS := Lib.hid (show ansCs ts us = if g && g2 then .tuple #[.int .i64 (cpS ts us), .bool true] else .tuple #[.int .i64 0, .bool false] by unfold ansCs; rw [HG.out, HG2.out])
  cases g
  · have HE := Lib.hid (show ansCs ts us = .tuple #[.int .i64 0, .bool false] from HCS.out)
    go_wp2_with fail
    go_ret2
    exact ⟨by rw [HE.out]; rfl, HB3.out⟩
  cases g2
  · have HE := Lib.hid (show ansCs ts us = .tuple #[.int .i64 0, .bool false] from HCS.out)
    go_wp2_with fail
    go_ret2
    exact ⟨by rw [HE.out]; rfl, HB3.out⟩
  have e1 : fN ts = snV ts := by unfold fN; rw [HG.out]; rfl
  have e2 : fD ts = sdV ts := by unfold fD; rw [HG.out]; rfl
  have e3 : fN us = snV us := by unfold fN; rw [HG2.out]; rfl
  have e4 : fD us = sdV us := by unfold fD; rw [HG2.out]; rfl
  have m1 := st_mul (st_bd HG.out) (st_bd HG2.out)
  have m2 := st_mul (st_bd HG2.out) (st_bd HG.out)
  rw [← e1, ← e4, HRN.out, HRD2.out] at m1
  rw [← e3, ← e2, HRN2.out, HRD.out] at m2
  have l1 : lim62 (rn * rd2) := by unfold lim62; omega
  have l2 : lim62 (rn2 * rd) := by unfold lim62; omega
  obtain ⟨r, HR⟩ : ∃ q, Hid (cpI (rn * rd2) (rn2 * rd) = q) := ⟨_, Lib.hid rfl⟩
  have HE := Lib.hid (show ansCs ts us = .tuple #[.int .i64 r, .bool true] by rw [HCS.out, ← HR.out, ← HRN.out, ← HRD.out, ← HRN2.out, ← HRD2.out, e1, e2, e3, e4]; rfl)
  clear e1 e2 e3 e4 m1 m2 HCS
  have q0 := HX2.out.cell 0
  have q1 := HX2.out.cell 1
  have q2 := HY2.out.cell 0
  have q3 := HY2.out.cell 1
  simp at q0 q1 q2 q3
  go_wp2_with fail
  refine (cmpF_any rn rd rn2 rd2 r _ l1 l2 HR).mono ?_
  rintro e w3 ⟨rfl, b3⟩
  have HB4 := Lib.hid (HB3.out.trans (b3.mono HB3.out.size))
  clear b3 q0 q1 q2 q3
  go_wp2_with fail
  go_ret2
  exact ⟨by rw [HE.out]; rfl, HB4.out⟩
set_option maxHeartbeats 4000000 in
set_option maxRecDepth 100000 in
theorem compareStrains_model (A : Option Addr) (n cap : Nat) (ts : List Lg) (A2 : Option Addr) (n2 cap2 : Nat) (us : List Lg) (w : World) (hn : n ≤ 2000000) (hn2 : n2 ≤ 2000000) (hts : Hid (LgAt w w.heap.size A n ts)) (hus : Hid (LgAt w w.heap.size A2 n2 us)) :
    Calls Tryz.prog 51 #[.slice A n cap, .slice A2 n2 cap2] w (APost (ansCs ts us) w) := by
  obtain ⟨g, HG⟩ : ∃ q, Hid (goodLg ts = q) := ⟨_, Lib.hid rfl⟩
  obtain ⟨g2, HG2⟩ : ∃ q, Hid (goodLg us = q) := ⟨_, Lib.hid rfl⟩
  have HCS := Lib.hid (show ansCs ts us = if g && g2 then .tuple #[.int .i64 (cpS ts us), .bool true] else .tuple #[.int .i64 0, .bool false] by unfold ansCs; rw [HG.out, HG2.out])
  cases g
  · have HE := Lib.hid (show ansCs ts us = .tuple #[.int .i64 0, .bool false] from HCS.out)
    go_enter Tryz.func51, Tryz.ntmps51
    go_wp2_with fail
    refine (legs_is A n cap ts false _ hn hts HG).mono ?_
    rintro e w1 ⟨rfl, b1⟩
    have HB := Lib.hid b1
    clear b1
    go_wp2_with fail
    go_ret2
    exact ⟨by rw [HE.out]; rfl, HB.out⟩
  cases g2
  · have HE := Lib.hid (show ansCs ts us = .tuple #[.int .i64 0, .bool false] from HCS.out)
    go_enter Tryz.func51, Tryz.ntmps51
    go_wp2_with fail
    refine (legs_is A n cap ts true _ hn hts HG).mono ?_
    rintro e w1 ⟨rfl, b1⟩
    have HB := Lib.hid b1
    clear b1
    go_wp2_with fail
    refine (legs_is A2 n2 cap2 us false _ hn2 (Lib.hid (hus.out.step HB.out)) HG2).mono ?_
    rintro e w2 ⟨rfl, b2⟩
    have HB2 := Lib.hid (HB.out.trans (b2.mono HB.out.size))
    clear b2
    go_wp2_with fail
    go_ret2
    exact ⟨by rw [HE.out]; rfl, HB2.out⟩
  have B1 := st_bd HG.out
  have B2 := st_bd HG2.out
  unfold BdS at B1 B2
  obtain ⟨a, HA⟩ : ∃ q : Nat, Hid (snV ts = q) := ⟨(snV ts).toNat, Lib.hid (by omega)⟩
  obtain ⟨b, HBB⟩ : ∃ q : Nat, Hid (sdV ts = q) := ⟨(sdV ts).toNat, Lib.hid (by omega)⟩
  obtain ⟨c, HC⟩ : ∃ q : Nat, Hid (snV us = q) := ⟨(snV us).toNat, Lib.hid (by omega)⟩
  obtain ⟨d, HD⟩ : ∃ q : Nat, Hid (sdV us = q) := ⟨(sdV us).toNat, Lib.hid (by omega)⟩
  rw [HA.out, HBB.out] at B1
  rw [HC.out, HD.out] at B2
  obtain ⟨r, HR⟩ : ∃ q, Hid (cpI ((a : Int) * (d : Int)) ((c : Int) * (b : Int)) = q) := ⟨_, Lib.hid rfl⟩
  have HE := Lib.hid (show ansCs ts us = .tuple #[.int .i64 r, .bool true] by rw [HCS.out, ← HR.out, ← HA.out, ← HBB.out, ← HC.out, ← HD.out]; rfl)
  clear HCS
  go_enter Tryz.func51, Tryz.ntmps51
  go_wp2_with fail
  refine (legs_is A n cap ts true _ hn hts HG).mono ?_
  rintro e w1 ⟨rfl, b1⟩
  have HB := Lib.hid b1
  clear b1
  go_wp2_with fail
  refine (legs_is A2 n2 cap2 us true _ hn2 (Lib.hid (hus.out.step HB.out)) HG2).mono ?_
  rintro e w2 ⟨rfl, b2⟩
  have HB2 := Lib.hid (HB.out.trans (b2.mono HB.out.size))
  clear b2 HB
  go_wp2_with fail
  refine (strain_any A n cap ts a b _ hn HG HA HBB (Lib.hid (hts.out.step HB2.out))).mono ?_
  rintro e w3 ⟨rfl, b3⟩
  have HB3 := Lib.hid (HB2.out.trans (b3.mono HB2.out.size))
  clear b3 HB2
  go_wp2_with fail
  refine (strain_any A2 n2 cap2 us c d _ hn2 HG2 HC HD (Lib.hid (hus.out.step HB3.out))).mono ?_
  rintro e w4 ⟨rfl, b4⟩
  have HB4 := Lib.hid (HB3.out.trans (b4.mono HB3.out.size))
  clear b4 HB3
  go_wp2_with fail
  refine (compare_any a b c d r _ (by omega) (by omega) (by omega) (by omega) (by omega) (by omega) HR).mono ?_
  rintro e w5 ⟨rfl, b5⟩
  have HB5 := Lib.hid (HB4.out.trans (b5.mono HB4.out.size))
  clear b5 HB4
  go_wp2_with fail
  go_ret2
  exact ⟨by rw [HE.out]; rfl, HB5.out⟩
end Go.Proofs.YtiimegmaokfpgabGreatDoor.bl
