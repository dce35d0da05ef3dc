/-
  SquareSum, by the model and by the program.
  Conditions: the legs lie in one block, at most 2000000 of them; for the program the variable holds the table of the sines.
-/
import Derived.Test.YtgfopehceojahaaDoorPhA
namespace Go.Proofs.YtgfopehceojahaaDoor.ph
open Go.RowKit
open reads base ty lg lgi win hs nt nq rowi sn mt ml dt pg
set_option linter.unusedVariables false
set_option linter.unusedSimpArgs false

/-- the sum of the squares -/
def ssq (l : List Int) : Int := (l.map (fun x => x * x)).sum
theorem ssq_app (a b : List Int) : ssq (a ++ b) = ssq a + ssq b := by simp [ssq]
theorem ssq_nn : ∀ l : List Int, 0 ≤ ssq l
  | [] => by simp [ssq]
  | x :: l => by
    have h : ssq (x :: l) = x * x + ssq l := by simp [ssq]
    have a := ssq_nn l
    have b : 0 ≤ x * x := by rcases Int.le_total 0 x with q | q; exact Int.mul_nonneg q q; exact Int.mul_nonneg_of_nonpos_of_nonpos q q
    omega
theorem ssq_step {l : List Int} {k : Nat} {x : Int} (h : l[k]? = some x) : ssq (l.take (k + 1)) = ssq (l.take k) + x * x := by
  rw [take_snoc h, ssq_app]; simp [ssq]
theorem ssq_le (l : List Int) (k : Nat) : 0 ≤ ssq (l.take k) ∧ ssq (l.take k) ≤ ssq l := by
  have h : ssq l = ssq (l.take k) + ssq (l.drop k) := by rw [← ssq_app, List.take_append_drop]
  have a := ssq_nn (l.take k)
  have b := ssq_nn (l.drop k)
  omega
/-- the sum of the squares of the residuals, times the square of the number of trees -/
def SQ (ts : List Lg) (ax : Int) : Int := ssq ((plIds ts).map (resV ts ax))
theorem cat_xc (ts : List Lg) (ax : Int) {s : Nat} (h : s < 8) : cat (xcN ts ax) (s : Int) = XC ts ax s := by
  unfold cat xcN
  rw [Int.toNat_natCast, List.getElem?_map, List.getElem?_range h]
  rfl
theorem resV_res {ts : List Lg} (hg : goodLg ts = true) (ax : Int) {i : Int} (hi : i ∈ plIds ts) : resV ts ax i = res (US ts ax) (stN ts) (edOf ax (lgAt ts i)) := by
  obtain ⟨j, rfl, x, hx, -⟩ := plIds_at hi
  have ho := goodLg_at hg hx
  unfold resV
  rw [lgAt_is hx]
  obtain ⟨⟨f0, f1⟩, ⟨t0, t1⟩, -⟩ := okLg_lim ho
  unfold rsV res
  rw [DD_ax hg ax]
  show msA x ax * TC ts - cat (xcN ts ax) x.to_ + cat (xcN ts ax) x.frm = msA x ax * TC ts - (XC ts ax x.to_.toNat - XC ts ax x.frm.toNat)
  have e1 : cat (xcN ts ax) x.to_ = XC ts ax x.to_.toNat := by
    have h := cat_xc ts ax (s := x.to_.toNat) (by omega)
    rwa [show ((x.to_.toNat : Nat) : Int) = x.to_ by omega] at h
  have e2 : cat (xcN ts ax) x.frm = XC ts ax x.frm.toNat := by
    have h := cat_xc ts ax (s := x.frm.toNat) (by omega)
    rwa [show ((x.frm.toNat : Nat) : Int) = x.frm by omega] at h
  rw [e1, e2]; omega
theorem SQ_sme {ts : List Lg} (hg : goodLg ts = true) (ax : Int) : SQ ts ax = sme (US ts ax) (fun x => res (US ts ax) (stN ts) x * res (US ts ax) (stN ts) x) := by
  have key : ∀ U : List Int, (∀ i ∈ U, i ∈ plIds ts) → ssq (U.map (resV ts ax)) = sme (eds ts ax U) (fun x => res (US ts ax) (stN ts) x * res (US ts ax) (stN ts) x) := by
    intro U hU
    unfold ssq sme eds
    rw [List.map_map, List.map_map]
    refine congrArg List.sum (List.map_congr_left (fun i hi => ?_))
    show resV ts ax i * resV ts ax i = _
    rw [resV_res hg ax (hU i hi)]
    rfl
  exact key (plIds ts) (fun i hi => hi)
theorem mu_sum : ∀ {us : List Ed}, (∀ x ∈ us, EdOk x) → sme us (fun x => x.mu * x.mu) ≤ 250000 * us.length
  | [], _ => by simp [sme]
  | x :: us, h => by
    rw [sme_cons]
    have a := mu_sum (us := us) (fun y hy => h y (List.mem_cons_of_mem _ hy))
    obtain ⟨-, -, -, m0, m1⟩ := h x (List.mem_cons_self ..)
    have h1 := Int.mul_le_mul (show (x.mu.natAbs : Int) ≤ 500 by omega) (show (x.mu.natAbs : Int) ≤ 500 by omega) (by omega) (by omega)
    have e2 : x.mu * x.mu = (x.mu.natAbs : Int) * (x.mu.natAbs : Int) := by rw [← Int.natAbs_mul_self, Int.natCast_mul]
    simp only [List.length_cons]
    omega
theorem SQ_bd {ts : List Lg} (hg : goodLg ts = true) (ax : Int) : 0 ≤ SQ ts ax ∧ SQ ts ax ≤ 3000000000000000000 := by
  refine ⟨ssq_nn _, ?_⟩
  have hw := nw_net hg ax
  have h := hw.squares
  rw [← SQ_sme hg ax, DD_ax hg ax] at h
  have b1 := TC_pos hg
  have b2 := TC_le hg
  have hl := US_len hg ax
  have hm := mu_sum hw.hu
  have h1 := Int.mul_le_mul (show TC ts ≤ 1000000 by omega) (show TC ts ≤ 1000000 by omega) (by omega) (by omega)
  have h0 : 0 ≤ TC ts * TC ts := Int.mul_nonneg (by omega) (by omega)
  have hs : 0 ≤ sme (US ts ax) (fun x => x.mu * x.mu) := sme_sq_nonneg _ _
  have h2 := Int.mul_le_mul h1 (show sme (US ts ax) (fun x => x.mu * x.mu) ≤ 3000000 by omega) hs (by omega)
  omega
theorem ssq_rsL (ts : List Lg) (ax : Int) : ssq (rsL ts ax (xcN ts ax) (TC ts)) = SQ ts ax := by
  have key : ∀ k, k ≤ ts.length → ssq ((List.range k).map (rsF ts ax (xcN ts ax) (TC ts) (plIds ts))) = ssq ((plN ts k).map (resV ts ax)) := by
    intro k hk
    induction k with
    | zero => rfl
    | succ k ih =>
      have ih := ih (by omega)
      obtain ⟨x, hx⟩ := at_lt rfl (show k < ts.length by omega)
      rw [List.range_succ, List.map_append, ssq_app, ih]
      cases q : mem (net ts).ps x.frm
      · rw [show plN ts (k + 1) = plN ts k from rowi.idxs_no hx q]
        have hn : ¬ (k : Int) ∈ plIds ts := fun z => by
          obtain ⟨j, e, y, hy, hm⟩ := plIds_at z
          obtain rfl : k = j := by omega
          rw [hx] at hy
          obtain rfl := Option.some.inj hy
          rw [q] at hm; cases hm
        have e0 : rsF ts ax (xcN ts ax) (TC ts) (plIds ts) k = 0 := by unfold rsF; rw [if_neg hn]
        simp [ssq, e0]
      · rw [show plN ts (k + 1) = plN ts k ++ [(k : Int)] from rowi.idxs_yes hx q, List.map_append, ssq_app]
        have e0 : rsF ts ax (xcN ts ax) (TC ts) (plIds ts) k = resV ts ax (k : Int) := by unfold rsF; rw [if_pos (pl_all hx q)]; rfl
        simp [ssq, e0]
  exact key ts.length (Nat.le_refl _)
theorem rsL_bd {ts : List Lg} (hg : goodLg ts = true) (ax : Int) {r : Int} (hr : r ∈ rsL ts ax (xcN ts ax) (TC ts)) : -4500000000 ≤ r ∧ r ≤ 4500000000 ∧ r * r ≤ 3000000000000000000 := by
  have hq : r * r ≤ SQ ts ax := by
    rw [← ssq_rsL]
    obtain ⟨k, hk⟩ := List.getElem?_of_mem hr
    have h1 := ssq_step hk
    have h2 := (ssq_le (rsL ts ax (xcN ts ax) (TC ts)) k).1
    have h3 := (ssq_le (rsL ts ax (xcN ts ax) (TC ts)) (k + 1)).2
    omega
  obtain ⟨i, hi, rfl⟩ := List.mem_map.1 hr
  have hb := SQ_bd hg ax
  have hz : -4500000000 ≤ rsF ts ax (xcN ts ax) (TC ts) (plIds ts) i ∧ rsF ts ax (xcN ts ax) (TC ts) (plIds ts) i ≤ 4500000000 := by
    unfold rsF
    split
    · rename_i q
      obtain ⟨j, e, x, hx, -⟩ := plIds_at q
      rw [e]
      exact resV_bd hg ax hx
    · omega
  exact ⟨hz.1, hz.2, by omega⟩
/-- SquareSum's answer -/
def ansSq (ts : List Lg) (ax : Int) : Value := if axOk ts ax then .tuple #[.int .i64 (redN (SQ ts ax) (TC ts * TC ts)), .int .i64 (redD (SQ ts ax) (TC ts * TC ts)), .bool true] else .tuple #[.int .i64 0, .int .i64 0, .bool false]
theorem tt_bd {ts : List Lg} (hg : goodLg ts = true) : 1 ≤ TC ts * TC ts ∧ TC ts * TC ts ≤ 1000000000000 := by
  have b1 := TC_pos hg
  have b2 := TC_le hg
  have h1 := Int.mul_le_mul (show TC ts ≤ 1000000 by omega) (show TC ts ≤ 1000000 by omega) (by omega) (by omega)
  have h2 := Int.mul_le_mul b1 b1 (by omega) (by omega)
  omega
set_option maxHeartbeats 16000000 in
set_option maxRecDepth 100000 in
theorem squares_any (A : Option Addr) (n cap : Nat) (ts : List Lg) (ax rn rd : Int) (w : World) (hn : n ≤ 2000000) (h0 : 0 ≤ ax) (h2 : ax ≤ 2) (HG : Hid (goodLg ts = true)) (HRN : Hid (redN (SQ ts ax) (TC ts * TC ts) = rn)) (HRD : Hid (redD (SQ ts ax) (TC ts * TC ts) = rd)) (hts : Hid (LgAt w w.heap.size A n ts)) :
    Calls Tryd.prog 54 #[.slice A n cap, .int .i64 ax] w (APost (.tuple #[.int .i64 rn, .int .i64 rd]) w) := by
  have HL := Lib.hid hts.out.1
  obtain ⟨U, HU⟩ : ∃ q, Hid (plIds ts = q) := ⟨_, Lib.hid rfl⟩
  obtain ⟨nu, HNU⟩ : ∃ q, Hid (U.length = q) := ⟨_, Lib.hid rfl⟩
  have hn12 := len12 HL.out HG.out
  have hnu : nu ≤ 12 := by rw [← HNU.out, ← HU.out]; have := plIds_len' ts; rw [HL.out] at this; omega
  have btr := tc_bd HG.out
  have btt := tt_bd HG.out
  have bSQ := SQ_bd HG.out ax
  obtain ⟨l, HLS⟩ : ∃ q, Hid ((plIds ts).map (resV ts ax) = q) := ⟨_, Lib.hid rfl⟩
  have HSQ := Lib.hid (show ssq l = SQ ts ax by rw [← HLS.out]; rfl)
  obtain ⟨tr, HTR⟩ : ∃ q, Hid (TC ts = q) := ⟨_, Lib.hid rfl⟩
  rw [HTR.out] at btr btt HRN HRD
  have xt : IntKind.i64.wrap (tr * tr) = tr * tr := IntWalk.i64_in _ (by omega)
  go_enter Tryd.func54, Tryd.ntmps54
  go_wp2_with fail
  refine (adjust_any A n cap ts ax _ h0 h2 HG hts).mono ?_
  rintro e w3 ⟨v7, rfl, hO7, b7⟩
  rw [xcN_len] at hO7
  obtain ⟨A8, c8, rfl⟩ := row_slice hO7
  have HO3 := Lib.hid (IO.of_own hO7)
  have HB3 := Lib.hid b7
  clear hO7 b7
  go_wp2_with fail
  refine (trees_any A n cap ts _ HG (Lib.hid (hts.out.step HB3.out))).mono ?_
  rintro e w4 ⟨rfl, b4⟩
  rw [HTR.out]
  have HB4 := Lib.hid (HB3.out.trans (b4.mono HB3.out.size))
  have HO4 := Lib.hid (HO3.out.step b4)
  clear b4 HO3 HB3
  go_wp2_with fail
  refine (legs9_any A n cap ts _ HG (Lib.hid (hts.out.step HB4.out))).mono ?_
  rintro e w5 ⟨vU, rfl, hOU, b2⟩
  rw [HU.out, HNU.out] at hOU
  obtain ⟨AU, cU, rfl⟩ := row_slice hOU
  have HB5 := Lib.hid (HB4.out.trans (b2.mono HB4.out.size))
  have HI5 := Lib.hid (IO.of_own hOU)
  have HO5 := Lib.hid (HO4.out.step b2)
  clear hOU b2 HB4 HO4
  go_wp2_with fail
  go_loopw [8, 10] (fun v i wr => ∃ k : Nat, k ≤ nu ∧ i = .int .i64 (k : Nat) ∧ v = .int .i64 (ssq (l.take k)) ∧ Below w5.heap.size w5 wr) (fun _ i _ => nu - (intOf i).toNat)
  case atStart => exact ⟨0, Nat.zero_le _, rfl, rfl, Below.refl _ _⟩
  case round =>
    obtain ⟨k, hk, rfl, rfl, hB⟩ := hrel
    have HBQ := Lib.hid hB
    clear hB
    have hk0 : (0 : Int) ≤ (k : Int) := by omega
    by_cases hlt : k < nu
    · have hki : (k : Int) < (nu : Int) := by omega
      have hkd : decide (k < nu) = true := by simpa using hlt
      obtain ⟨q, hq⟩ := at_lt HNU.out hlt
      obtain ⟨j, rfl, ⟨xf, xt9, xp, xc, xs⟩, hx, -⟩ := plIds_at (by rw [HU.out]; exact List.mem_of_getElem? hq)
      have hjn : j < n := by have := lt_at hx; rw [HL.out] at this; exact this
      have hji : (j : Int) < (n : Int) := by omega
      have hj0 : (0 : Int) ≤ (j : Int) := by omega
      have HOX := Lib.hid (goodLg_at HG.out hx)
      have bR := resV_bd HG.out ax hx
      obtain ⟨R, HRR⟩ : ∃ q, Hid (resV ts ax (j : Int) = q) := ⟨_, Lib.hid rfl⟩
      have HRV := Lib.hid (show rsV ⟨xf, xt9, xp, xc, xs⟩ ax (xcN ts ax) tr = R by rw [← HRR.out, ← HTR.out]; unfold resV; rw [lgAt_is hx])
      rw [HRR.out] at bR
      have HST := Lib.hid (show ssq (l.take (k + 1)) = ssq (l.take k) + R * R from ssq_step (by rw [← HLS.out, List.getElem?_map, HU.out, hq]; exact congrArg some HRR.out))
      have bs := ssq_le l k
      have bs1 := ssq_le l (k + 1)
      rw [HST.out, HSQ.out] at bs1
      rw [HSQ.out] at bs
      obtain ⟨s0, HS0⟩ : ∃ q, Hid (ssq (l.take k) = q) := ⟨_, Lib.hid rfl⟩
      rw [HS0.out] at HST bs bs1 ⊢
      have x1 : IntKind.i64.wrap (R * R) = R * R := IntWalk.i64_in _ (by omega)
      have x2 : IntKind.i64.wrap (s0 + R * R) = s0 + R * R := IntWalk.i64_in _ (by omega)
      obtain ⟨gU, oU, rfl, hgU, eU⟩ := (HI5.out.step HBQ.out).2 k _ hq
      obtain ⟨gL, rfl, hgL, e0, e1, e2, e3, e4⟩ := ((hts.out.step HB5.out).step HBQ.out).2 j _ hx
      simp only [] at e0 e1 e2 e3 e4
      clear hq hx bR bs bs1
      go_wp2_with fail
      refine (rest_any ⟨xf, xt9, xp, xc, xs⟩ ax tr R A8 c8 (xcN ts ax) _ HOX h0 h2 btr (Lib.hid (xcN_bd HG.out ax)) (Lib.hid (HO5.out.step HBQ.out)) HRV).mono ?_
      rintro e w6 ⟨rfl, b6⟩
      have HB6 := Lib.hid (HBQ.out.trans (b6.mono HBQ.out.size))
      clear e0 e1 e2 e3 e4 eU b6
      go_wp2_with fail
      go_roundw
      case rel => exact ⟨k + 1, by omega, by go_num, by rw [HST.out], HB6.out⟩
      case measure => simp [intOf]; omega
    · have hkd : decide (k < nu) = false := by simpa using hlt
      obtain rfl : k = nu := by omega
      have HTK := Lib.hid (show ssq (l.take k) = SQ ts ax by rw [List.take_of_length_le (by rw [← HLS.out, List.length_map, HU.out, HNU.out]; exact Nat.le_refl _)]; exact HSQ.out)
      rw [HTK.out]
      obtain ⟨sq, HQ⟩ : ∃ q, Hid (SQ ts ax = q) := ⟨_, Lib.hid rfl⟩
      rw [HQ.out] at HRN HRD bSQ ⊢
      have lR : lim62 sq := by unfold lim62; omega
      have ltr : lim62 (tr * tr) := by unfold lim62; omega
      go_wp2_with fail
      refine (reduce_any sq (tr * tr) rn rd _ lR ltr btt.1 HRN HRD).mono ?_
      rintro e w7 ⟨rfl, b7⟩
      have HB7 := Lib.hid (HBQ.out.trans (b7.mono HBQ.out.size))
      clear b7
      go_wp2_with fail
      go_ret2
      exact ⟨rfl, HB5.out.trans (HB7.out.mono HB5.out.size)⟩
set_option maxHeartbeats 16000000 in
set_option maxRecDepth 100000 in
theorem squareSum_model (A : Option Addr) (n cap : Nat) (ts : List Lg) (ax : Int) (w : World) (hn : n ≤ 2000000) (hts : Hid (LgAt w w.heap.size A n ts)) :
    Calls Tryd.prog 27 #[.slice A n cap, .int .i64 ax] w (APost (ansSq ts ax) w) := by
  have HL := Lib.hid hts.out.1
  obtain ⟨t, HT⟩ : ∃ t, Hid (axOk ts ax = t) := ⟨_, Lib.hid rfl⟩
  cases t
  · have HF := Lib.hid (show ansSq ts ax = .tuple #[.int .i64 0, .int .i64 0, .bool false] by unfold ansSq; rw [HT.out]; rfl)
    go_enter Tryd.func27, Tryd.ntmps27
    go_wp2_with fail
    refine (axis_is A n cap ts ax false _ hn hts HT).mono ?_
    rintro e w1 ⟨rfl, b1⟩
    have HB := Lib.hid b1
    clear b1
    go_wp2_with fail
    go_ret3
    exact ⟨by rw [HF.out]; rfl, HB.out⟩
  have HGA := Lib.hid (show goodLg ts = true ∧ btw 0 ax 2 = true by have := HT.out; unfold axOk at this; rwa [Bool.and_eq_true] at this)
  have HG := Lib.hid HGA.out.1
  have hax := btw_yes HGA.out.2
  obtain ⟨rn, HRN⟩ : ∃ q, Hid (redN (SQ ts ax) (TC ts * TC ts) = q) := ⟨_, Lib.hid rfl⟩
  obtain ⟨rd, HRD⟩ : ∃ q, Hid (redD (SQ ts ax) (TC ts * TC ts) = q) := ⟨_, Lib.hid rfl⟩
  have HF := Lib.hid (show ansSq ts ax = .tuple #[.int .i64 rn, .int .i64 rd, .bool true] by unfold ansSq; rw [HT.out, HRN.out, HRD.out]; rfl)
  go_enter Tryd.func27, Tryd.ntmps27
  go_wp2_with fail
  refine (axis_is A n cap ts ax true _ hn hts HT).mono ?_
  rintro e w1 ⟨rfl, b1⟩
  have HB := Lib.hid b1
  clear b1
  go_wp2_with fail
  refine (squares_any A n cap ts ax rn rd _ hn hax.1 hax.2 HG HRN HRD (Lib.hid (hts.out.step HB.out))).mono ?_
  rintro e w2 ⟨rfl, b2⟩
  have HB2 := Lib.hid (HB.out.trans (b2.mono HB.out.size))
  clear b2
  go_wp2_with fail
  go_ret3
  exact ⟨by rw [HF.out]; rfl, HB2.out⟩
set_option maxHeartbeats 16000000 in
set_option maxRecDepth 100000 in
theorem squareSum_impl (A : Option Addr) (n cap : Nat) (ts : List Lg) (ax : Int) (w : World) (hn : n ≤ 2000000) (hts : Hid (LgAt w w.heap.size A n ts)) (hT : Hid (Tab w)) :
    Calls Tryd.prog 28 #[.slice A n cap, .int .i64 ax] w (APost (ansSq ts ax) w) := by
  have HL := Lib.hid hts.out.1
  obtain ⟨t, HTT⟩ : ∃ t, Hid (axOk ts ax = t) := ⟨_, Lib.hid rfl⟩
  cases t
  · have HF := Lib.hid (show ansSq ts ax = .tuple #[.int .i64 0, .int .i64 0, .bool false] by unfold ansSq; rw [HTT.out]; rfl)
    go_enter Tryd.func28, Tryd.ntmps28
    go_wp2_with fail
    refine (adjOf_no A n cap ts ax _ hn hts hT HTT).mono ?_
    rintro e w1 ⟨rfl, b1⟩
    have HB := Lib.hid b1
    clear b1
    go_wp2_with fail
    go_ret3
    exact ⟨by rw [HF.out]; rfl, HB.out.alloc HB.out.size _⟩
  have HGA := Lib.hid (show goodLg ts = true ∧ btw 0 ax 2 = true by have := HTT.out; unfold axOk at this; rwa [Bool.and_eq_true] at this)
  have HG := Lib.hid HGA.out.1
  have hn12 := len12 HL.out HG.out
  have btr := tc_bd HG.out
  have btt := tt_bd HG.out
  have bSQ := SQ_bd HG.out ax
  obtain ⟨rn, HRN⟩ : ∃ q, Hid (redN (SQ ts ax) (TC ts * TC ts) = q) := ⟨_, Lib.hid rfl⟩
  obtain ⟨rd, HRD⟩ : ∃ q, Hid (redD (SQ ts ax) (TC ts * TC ts) = q) := ⟨_, Lib.hid rfl⟩
  have HF := Lib.hid (show ansSq ts ax = .tuple #[.int .i64 rn, .int .i64 rd, .bool true] by unfold ansSq; rw [HTT.out, HRN.out, HRD.out]; rfl)
  obtain ⟨l, HLS⟩ : ∃ q, Hid (rsL ts ax (xcN ts ax) (TC ts) = q) := ⟨_, Lib.hid rfl⟩
  have HSQ := Lib.hid (show ssq l = SQ ts ax by rw [← HLS.out]; exact ssq_rsL ts ax)
  have HLB := Lib.hid (show ∀ r ∈ l, -4500000000 ≤ r ∧ r ≤ 4500000000 ∧ r * r ≤ 3000000000000000000 from fun r hr => rsL_bd HG.out ax (by rw [HLS.out]; exact hr))
  have HLL := Lib.hid (show l.length = n by rw [← HLS.out, rsL_len, HL.out])
  obtain ⟨tr, HTR⟩ : ∃ q, Hid (TC ts = q) := ⟨_, Lib.hid rfl⟩
  rw [HTR.out] at btr btt HRN HRD
  have xt : IntKind.i64.wrap (tr * tr) = tr * tr := IntWalk.i64_in _ (by omega)
  go_enter Tryd.func28, Tryd.ntmps28
  go_wp2_with fail
  refine (adjOf_yes A n cap ts ax _ hn hts hT HTT).mono ?_
  rintro e w1 ⟨AU, cU, Ax, cx, Ar, cr, rfl, -, -, hOR, b1⟩
  rw [HLS.out, HL.out] at hOR
  rw [HL.out, HTR.out]
  obtain ⟨zU, HZU⟩ : ∃ q, Hid ((plIds ts).length = q) := ⟨_, Lib.hid rfl⟩
  rw [HZU.out]
  have HB := Lib.hid b1
  have HIR := Lib.hid (IO.of_own (hOR.alloc (.cells #[.slice AU zU cU, .int .i64 tr, .slice Ax 8 cx, .slice Ar n cr] 56)))
  have HXB := Lib.hid (Blk.new w1 56 #[.slice AU zU cU, .int .i64 tr, .slice Ax 8 cx, .slice Ar n cr])
  have HBA := Lib.hid (HB.out.alloc HB.out.size (.cells #[.slice AU zU cU, .int .i64 tr, .slice Ax 8 cx, .slice Ar n cr] 56))
  clear b1 hOR
  go_upto_region 4 with fail
  obtain ⟨V0, HV0⟩ : ∃ W, Hid (w1.alloc (.cells #[.slice AU zU cU, .int .i64 tr, .slice Ax 8 cx, .slice Ar n cr] 56) = W) := ⟨_, Lib.hid rfl⟩
  obtain ⟨X, HXX⟩ : ∃ X, Hid (w1.heap.size = X) := ⟨_, Lib.hid rfl⟩
  rw [HXX.out] at HXB
  rw [HV0.out] at HXB HBA HIR ⊢
  try simp only [HXX.out]
  clear HV0 HB
  have q1 := HXB.out.cell 1
  have q3 := HXB.out.cell 3
  simp at q1 q3
  go_wp2_with fail
  go_loopw [9, 25] (fun v i wr => ∃ k : Nat, k ≤ n ∧ i = .int .i64 (k : Nat) ∧ v = .int .i64 (ssq (l.take k)) ∧ wr = V0) (fun _ i _ => n - (intOf i).toNat)
  case atStart => exact ⟨0, Nat.zero_le _, rfl, rfl, rfl⟩
  case round =>
    obtain ⟨k, hk, rfl, rfl, rfl⟩ := hrel
    have hk0 : (0 : Int) ≤ (k : Int) := by omega
    by_cases hlt : k < n
    · have hki : (k : Int) < (n : Int) := by omega
      have hkd : decide (k < n) = true := by simpa using hlt
      obtain ⟨R, hq⟩ := at_lt HLL.out hlt
      have bR := HLB.out R (List.mem_of_getElem? hq)
      have HST := Lib.hid (ssq_step hq)
      have bs := ssq_le l k
      have bs1 := ssq_le l (k + 1)
      rw [HST.out, HSQ.out] at bs1
      rw [HSQ.out] at bs
      obtain ⟨s0, HS0⟩ : ∃ q, Hid (ssq (l.take k) = q) := ⟨_, Lib.hid rfl⟩
      rw [HS0.out] at HST bs bs1 ⊢
      have x1 : IntKind.i64.wrap (R * R) = R * R := IntWalk.i64_in _ (by omega)
      have x2 : IntKind.i64.wrap (s0 + R * R) = s0 + R * R := IntWalk.i64_in _ (by omega)
      obtain ⟨gR, oR, eAr, hgR, er⟩ := HIR.out.2 k _ hq
      subst eAr
      clear hq bR bs bs1
      go_wp2_with fail
      go_roundw
      case rel => exact ⟨k + 1, by omega, by go_num, by rw [HST.out], by first | rfl | trivial⟩
      case measure => simp [intOf]; omega
    · have hkd : decide (k < n) = false := by simpa using hlt
      obtain rfl : k = n := by omega
      have HTK := Lib.hid (show ssq (l.take k) = SQ ts ax by rw [List.take_of_length_le (by rw [HLL.out]; exact Nat.le_refl _)]; exact HSQ.out)
      rw [HTK.out]
      obtain ⟨sq, HQ⟩ : ∃ q, Hid (SQ ts ax = q) := ⟨_, Lib.hid rfl⟩
      rw [HQ.out] at HRN HRD bSQ ⊢
      have lR : lim62 sq := by unfold lim62; omega
      have ltr : lim62 (tr * tr) := by unfold lim62; omega
      go_wp2_with fail
      refine (reduced_any sq (tr * tr) rn rd _ lR ltr btt.1 HRN HRD).mono ?_
      rintro e w7 ⟨rfl, b7⟩
      have HB7 := Lib.hid (HBA.out.trans (b7.mono HBA.out.size))
      clear b7
      go_wp2_with fail
      go_ret3
      exact ⟨by rw [HF.out]; rfl, HB7.out⟩
#print axioms squareSum_model
#print axioms squareSum_impl
end Go.Proofs.YtgfopehceojahaaDoor.ph
