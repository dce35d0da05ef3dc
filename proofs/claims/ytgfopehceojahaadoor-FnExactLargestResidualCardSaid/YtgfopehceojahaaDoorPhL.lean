/-
  LargestResidual, by the model and by the program.
  Conditions: the legs lie in one block, at most 2000000 of them; for the program the variable holds the table of the sines.
-/
import Derived.Test.YtgfopehceojahaaDoorPhA
import Derived.Test.YtgfopehceojahaaDoorMost
namespace Go.Proofs.YtgfopehceojahaaDoor.ph
open Go.RowKit
open reads base ty lg lgi win hs nt nq rowi sn mt ml dt pg mst
set_option linter.unusedVariables false
set_option linter.unusedSimpArgs false

/-- the first number with the largest value, and that value -/
def bg (f : Int → Nat) (U : List Int) : Nat → Int × Int
  | 0 => (0, -1)
  | k + 1 => match U[k]? with
    | some u => if (bg f U k).2 < (f u : Int) then (u, (f u : Int)) else bg f U k
    | none => bg f U k
theorem bg_step {f : Int → Nat} {U : List Int} {k : Nat} {u : Int} (h : U[k]? = some u) : bg f U (k + 1) = if (bg f U k).2 < (f u : Int) then (u, (f u : Int)) else bg f U k := by
  show (match U[k]? with | some u => if (bg f U k).2 < (f u : Int) then (u, (f u : Int)) else bg f U k | none => bg f U k) = _
  rw [h]
theorem bg_one {f : Int → Nat} {U : List Int} {u : Int} (h : U[0]? = some u) : bg f U 1 = (u, (f u : Int)) := by
  rw [bg_step h, if_pos (by show (-1 : Int) < _; omega)]
theorem bg_in {f : Int → Nat} {U : List Int} : ∀ k : Nat, k < U.length → (bg f U (k + 1)).2 = (f (bg f U (k + 1)).1 : Int) ∧ (bg f U (k + 1)).1 ∈ U
  | 0, h => by
    obtain ⟨u, hu⟩ := at_lt rfl h
    rw [bg_one hu]
    exact ⟨rfl, List.mem_of_getElem? hu⟩
  | k + 1, h => by
    obtain ⟨u, hu⟩ := at_lt rfl h
    rw [bg_step hu]
    split
    · exact ⟨rfl, List.mem_of_getElem? hu⟩
    · exact bg_in k (by omega)
/-- the program's: it begins with the first -/
def lgst (f : Int → Nat) (U : List Int) (k : Nat) : Int := (bg f U (k - 1 + 1)).1
theorem lgst_zero {f : Int → Nat} {U : List Int} {u : Int} (h : U[0]? = some u) : lgst f U 0 = u := by
  show (bg f U 1).1 = u
  rw [bg_one h]
theorem lgst_mem {f : Int → Nat} {U : List Int} {k : Nat} (h : 0 < U.length) (hk : k ≤ U.length) : lgst f U k ∈ U := (bg_in (k - 1) (by omega)).2
theorem lgst_step {f : Int → Nat} {U : List Int} {k : Nat} {u : Int} (h : U[k]? = some u) : lgst f U (k + 1) = if f (lgst f U k) < f u then u else lgst f U k := by
  cases k with
  | zero =>
    rw [lgst_zero h, if_neg (Nat.lt_irrefl _)]
    show (bg f U 1).1 = u
    rw [bg_one h]
  | succ k =>
    show (bg f U (k + 1 + 1)).1 = if f (bg f U (k + 1)).1 < f u then u else (bg f U (k + 1)).1
    rw [bg_step h, (bg_in k (by have := lt_at h; omega)).1]
    by_cases q : f (bg f U (k + 1)).1 < f u
    · rw [if_pos q, if_pos (by omega)]
    · rw [if_neg q, if_neg (by omega)]
theorem lgst_end {f : Int → Nat} {U : List Int} {k : Nat} (h : 0 < k) : lgst f U k = (bg f U k).1 := by
  unfold lgst; rw [Nat.sub_add_cancel h]
/-- how large a residual is -/
def absR (ts : List Lg) (ax i : Int) : Nat := (resV ts ax i).natAbs
/-- LargestResidual's answer -/
def ansLr (ts : List Lg) (ax : Int) : Value := if axOk ts ax && decide (0 < (plIds ts).length) then .tuple #[.int .i64 (bg (absR ts ax) (plIds ts) (plIds ts).length).1, .bool true] else .tuple #[.int .i64 0, .bool false]
theorem rsL_at {ts : List Lg} {ax : Int} {j : Nat} (hj : j < ts.length) (hm : (j : Int) ∈ plIds ts) : (rsL ts ax (xcN ts ax) (TC ts))[j]? = some (resV ts ax (j : Int)) := by
  unfold rsL
  rw [List.getElem?_map, List.getElem?_range hj]
  show some (rsF ts ax (xcN ts ax) (TC ts) (plIds ts) j) = _
  unfold rsF
  rw [if_pos hm]
  rfl
set_option maxHeartbeats 16000000 in
set_option maxRecDepth 100000 in
theorem largest_model (A : Option Addr) (n cap : Nat) (ts : List Lg) (ax : Int) (w : World) (hn : n ≤ 2000000) (hts : Hid (LgAt w w.heap.size A n ts)) :
    Calls Tryd.prog 33 #[.slice A n cap, .int .i64 ax] w (APost (ansLr ts ax) w) := by
  have HL := Lib.hid hts.out.1
  obtain ⟨t, HT⟩ : ∃ t, Hid (axOk ts ax = t) := ⟨_, Lib.hid rfl⟩
  cases t
  · have HF := Lib.hid (show ansLr ts ax = .tuple #[.int .i64 0, .bool false] by unfold ansLr; rw [HT.out]; rfl)
    go_enter Tryd.func33, Tryd.ntmps33
    go_wp2_with fail
    refine (axis_is A n cap ts ax false _ hn hts HT).mono ?_
    rintro e w1 ⟨rfl, b1⟩
    have HB := Lib.hid b1
    clear b1
    go_wp2_with fail
    go_ret2
    exact ⟨by rw [HF.out]; rfl, HB.out⟩
  have HGA := Lib.hid (show goodLg ts = true ∧ btw 0 ax 2 = true by have := HT.out; unfold axOk at this; rwa [Bool.and_eq_true] at this)
  have HG := Lib.hid HGA.out.1
  have hax := btw_yes HGA.out.2
  obtain ⟨U, HU⟩ : ∃ q, Hid (plIds ts = q) := ⟨_, Lib.hid rfl⟩
  obtain ⟨nu, HNU⟩ : ∃ q, Hid (U.length = q) := ⟨_, Lib.hid rfl⟩
  have hn12 := len12 HL.out HG.out
  have hnu : nu ≤ 12 := by rw [← HNU.out, ← HU.out]; have := plIds_len' ts; rw [HL.out] at this; omega
  by_cases hz : nu = 0
  · have HF := Lib.hid (show ansLr ts ax = .tuple #[.int .i64 0, .bool false] by unfold ansLr; rw [HT.out, HU.out, HNU.out, hz]; rfl)
    subst hz
    go_enter Tryd.func33, Tryd.ntmps33
    go_wp2_with fail
    refine (axis_is A n cap ts ax true _ hn hts HT).mono ?_
    rintro e w1 ⟨rfl, b1⟩
    have HB := Lib.hid b1
    clear b1
    go_wp2_with fail
    refine (legs9_any A n cap ts _ HG (Lib.hid (hts.out.step HB.out))).mono ?_
    rintro e w2 ⟨vU, rfl, hOU, b2⟩
    rw [HU.out, HNU.out] at hOU
    obtain ⟨AU, cU, rfl⟩ := row_slice hOU
    have HB2 := Lib.hid (HB.out.trans (b2.mono HB.out.size))
    clear hOU b2
    go_wp2_with fail
    go_ret2
    exact ⟨by rw [HF.out]; rfl, HB2.out⟩
  have h0 : 0 < nu := by omega
  have z1 : ((nu : Int) == 0) = false := by simp; omega
  have z2 : decide ((nu : Int) = 0) = false := by simp; omega
  have z3 : decide (nu = 0) = false := by simp; omega
  have HF := Lib.hid (show ansLr ts ax = .tuple #[.int .i64 (bg (absR ts ax) U nu).1, .bool true] by unfold ansLr; rw [HT.out, HU.out, HNU.out, decide_eq_true h0]; rfl)
  have btr := tc_bd HG.out
  obtain ⟨tr, HTR⟩ : ∃ q, Hid (TC ts = q) := ⟨_, Lib.hid rfl⟩
  rw [HTR.out] at btr
  go_enter Tryd.func33, Tryd.ntmps33
  go_wp2_with fail
  refine (axis_is A n cap ts ax true _ hn hts HT).mono ?_
  rintro e w1 ⟨rfl, b1⟩
  have HB := Lib.hid b1
  clear b1
  go_wp2_with fail
  refine (legs9_any A n cap ts _ HG (Lib.hid (hts.out.step HB.out))).mono ?_
  rintro e w2 ⟨vU, rfl, hOU, b2⟩
  rw [HU.out, HNU.out] at hOU
  obtain ⟨AU0, cU0, rfl⟩ := row_slice hOU
  have HB2 := Lib.hid (HB.out.trans (b2.mono HB.out.size))
  clear hOU b2 HB
  go_wp2_with fail
  refine (legs9_any A n cap ts _ HG (Lib.hid (hts.out.step HB2.out))).mono ?_
  rintro e w3 ⟨vU, rfl, hOU, b2⟩
  rw [HU.out, HNU.out] at hOU
  obtain ⟨AU, cU, rfl⟩ := row_slice hOU
  have HB3 := Lib.hid (HB2.out.trans (b2.mono HB2.out.size))
  have HI3 := Lib.hid (IO.of_own hOU)
  clear hOU b2 HB2
  go_wp2_with fail
  refine (trees_any A n cap ts _ HG (Lib.hid (hts.out.step HB3.out))).mono ?_
  rintro e w4 ⟨rfl, b4⟩
  rw [HTR.out]
  have HB4 := Lib.hid (HB3.out.trans (b4.mono HB3.out.size))
  have HI4 := Lib.hid (HI3.out.step b4)
  clear b4 HI3 HB3
  go_wp2_with fail
  refine (adjust_any A n cap ts ax _ hax.1 hax.2 HG (Lib.hid (hts.out.step HB4.out))).mono ?_
  rintro e w5 ⟨v7, rfl, hO7, b7⟩
  rw [xcN_len] at hO7
  obtain ⟨A8, c8, rfl⟩ := row_slice hO7
  have HO7 := Lib.hid (IO.of_own hO7)
  have HB5 := Lib.hid (HB4.out.trans (b7.mono HB4.out.size))
  have HI5 := Lib.hid (HI4.out.step b7)
  clear hO7 b7 HI4 HB4
  go_wp2_with fail
  go_loopw [9, 10, 11] (fun v9 v10 i wr => ∃ k : Nat, k ≤ nu ∧ i = .int .i64 (k : Nat) ∧ v9 = .int .i64 (bg (absR ts ax) U k).1 ∧ v10 = .int .i64 (bg (absR ts ax) U k).2 ∧ Below w5.heap.size w5 wr) (fun _ _ i _ => nu - (intOf i).toNat)
  case atStart => exact ⟨0, Nat.zero_le _, rfl, rfl, rfl, Below.refl _ _⟩
  case round =>
    obtain ⟨k, hk, rfl, rfl, rfl, hB⟩ := hrel
    have HBQ := Lib.hid hB
    clear hB
    have hk0 : (0 : Int) ≤ (k : Int) := by omega
    by_cases hlt : k < nu
    · have hki : (k : Int) < (nu : Int) := by omega
      have hkd : decide (k < nu) = true := by simpa using hlt
      obtain ⟨q, hq⟩ := at_lt HNU.out hlt
      obtain ⟨j, rfl, ⟨xf, xt, xp, xc, xs⟩, hx, -⟩ := plIds_at (by rw [HU.out]; exact List.mem_of_getElem? hq)
      have hjn : j < n := by have := lt_at hx; rw [HL.out] at this; exact this
      have hji : (j : Int) < (n : Int) := by omega
      have hj0 : (0 : Int) ≤ (j : Int) := by omega
      have HOX := Lib.hid (goodLg_at HG.out hx)
      have bR := resV_bd HG.out ax hx
      obtain ⟨R, HRR⟩ : ∃ q, Hid (resV ts ax (j : Int) = q) := ⟨_, Lib.hid rfl⟩
      have HRV := Lib.hid (show rsV ⟨xf, xt, xp, xc, xs⟩ ax (xcN ts ax) tr = R by rw [← HRR.out, ← HTR.out]; unfold resV; rw [lgAt_is hx])
      rw [HRR.out] at bR
      have xn : IntKind.i64.wrap (-R) = -R := IntWalk.i64_in _ (by omega)
      obtain ⟨m, HM⟩ : ∃ m, Hid (absR ts ax (j : Int) = m) := ⟨_, Lib.hid rfl⟩
      have HMX := Lib.hid (show mx R (-R) = (m : Int) by rw [← HM.out]; unfold absR; rw [HRR.out]; unfold mx; split <;> omega)
      obtain ⟨b0, HB0⟩ : ∃ q, Hid ((bg (absR ts ax) U k).1 = q) := ⟨_, Lib.hid rfl⟩
      obtain ⟨m0, HM0⟩ : ∃ q, Hid ((bg (absR ts ax) U k).2 = q) := ⟨_, Lib.hid rfl⟩
      have HST := Lib.hid (show bg (absR ts ax) U (k + 1) = if m0 < (m : Int) then ((j : Int), (m : Int)) else bg (absR ts ax) U k by rw [bg_step hq, HM0.out, HM.out])
      rw [HB0.out, HM0.out]
      obtain ⟨gU, oU, rfl, hgU, eU⟩ := (HI5.out.step HBQ.out).2 k _ hq
      obtain ⟨gL, rfl, hgL, e0, e1, e2, e3, e4⟩ := ((hts.out.step HB5.out).step HBQ.out).2 j _ hx
      simp only [] at e0 e1 e2 e3 e4
      clear hq hx bR
      go_wp2_with fail
      refine (rest_any ⟨xf, xt, xp, xc, xs⟩ ax tr R A8 c8 (xcN ts ax) _ HOX hax.1 hax.2 btr (Lib.hid (xcN_bd HG.out ax)) (Lib.hid (HO7.out.step HBQ.out)) HRV).mono ?_
      rintro e w6 ⟨rfl, b6⟩
      have eU6 := (b6.cell (p := ⟨gU, oU + k, none⟩) hgU).trans eU
      have HB6 := Lib.hid (HBQ.out.trans (b6.mono HBQ.out.size))
      clear e0 e1 e2 e3 e4 eU b6
      go_wp2_with fail
      refine (most_is R (-R) (m : Int) HMX _).mono ?_
      rintro e w7 ⟨rfl, rfl⟩
      by_cases hc : m0 < (m : Int)
      · have hcd : decide (m0 < (m : Int)) = true := by simpa using hc
        go_wp2_with fail
        go_roundw
        case rel => exact ⟨k + 1, by omega, by go_num, by rw [HST.out, if_pos hc], by rw [HST.out, if_pos hc], HB6.out⟩
        case measure => simp [intOf]; omega
      · have hcd : decide (m0 < (m : Int)) = false := decide_eq_false hc
        have hc2 : ¬ m0 < (m : Int) := hc
        go_wp2_with fail
        go_roundw
        case rel => exact ⟨k + 1, by omega, by go_num, by rw [HST.out, if_neg (by omega), HB0.out], by rw [HST.out, if_neg (by omega), HM0.out], HB6.out⟩
        case measure => simp [intOf]; omega
    · have hkd : decide (k < nu) = false := by simpa using hlt
      obtain rfl : k = nu := by omega
      go_wp2_with fail
      go_ret2
      exact ⟨by rw [HF.out]; rfl, HB5.out.trans (HBQ.out.mono HB5.out.size)⟩
set_option maxHeartbeats 16000000 in
set_option maxRecDepth 100000 in
theorem largest_impl (A : Option Addr) (n cap : Nat) (ts : List Lg) (ax : Int) (w : World) (hn : n ≤ 2000000) (hts : Hid (LgAt w w.heap.size A n ts)) (hT : Hid (Tab w)) :
    Calls Tryd.prog 34 #[.slice A n cap, .int .i64 ax] w (APost (ansLr ts ax) w) := by
  have HL := Lib.hid hts.out.1
  obtain ⟨t, HTT⟩ : ∃ t, Hid (axOk ts ax = t) := ⟨_, Lib.hid rfl⟩
  cases t
  · have HF := Lib.hid (show ansLr ts ax = .tuple #[.int .i64 0, .bool false] by unfold ansLr; rw [HTT.out]; rfl)
    go_enter Tryd.func34, Tryd.ntmps34
    go_wp2_with fail
    refine (adjOf_no A n cap ts ax _ hn hts hT HTT).mono ?_
    rintro e w1 ⟨rfl, b1⟩
    have HB := Lib.hid b1
    clear b1
    go_wp2_with fail
    go_ret2
    exact ⟨by rw [HF.out]; rfl, HB.out.alloc HB.out.size _⟩
  have HGA := Lib.hid (show goodLg ts = true ∧ btw 0 ax 2 = true by have := HTT.out; unfold axOk at this; rwa [Bool.and_eq_true] at this)
  have HG := Lib.hid HGA.out.1
  obtain ⟨U, HU⟩ : ∃ q, Hid (plIds ts = q) := ⟨_, Lib.hid rfl⟩
  obtain ⟨nu, HNU⟩ : ∃ q, Hid (U.length = q) := ⟨_, Lib.hid rfl⟩
  have hn12 := len12 HL.out HG.out
  have hnu : nu ≤ 12 := by rw [← HNU.out, ← HU.out]; have := plIds_len' ts; rw [HL.out] at this; omega
  obtain ⟨tr, HTR⟩ : ∃ q, Hid (TC ts = q) := ⟨_, Lib.hid rfl⟩
  by_cases hz : nu = 0
  · have HF := Lib.hid (show ansLr ts ax = .tuple #[.int .i64 0, .bool false] by unfold ansLr; rw [HTT.out, HU.out, HNU.out, hz]; rfl)
    subst hz
    go_enter Tryd.func34, Tryd.ntmps34
    go_wp2_with fail
    refine (adjOf_yes A n cap ts ax _ hn hts hT HTT).mono ?_
    rintro e w1 ⟨AU, cU, Ax, cx, Ar, cr, rfl, hOU, -, -, b1⟩
    rw [HU.out, HNU.out, HTR.out]
    have HB := Lib.hid b1
    clear b1 hOU
    go_wp2_with fail
    go_ret2
    exact ⟨by rw [HF.out]; rfl, HB.out.alloc HB.out.size _⟩
  have h0 : 0 < nu := by omega
  have z1 : ((nu : Int) == 0) = false := by simp; omega
  have z2 : decide ((nu : Int) = 0) = false := by simp; omega
  have z3 : decide (nu = 0) = false := by simp; omega
  have z4 : (0 : Int) < (nu : Int) := by omega
  have HF := Lib.hid (show ansLr ts ax = .tuple #[.int .i64 (bg (absR ts ax) U nu).1, .bool true] by unfold ansLr; rw [HTT.out, HU.out, HNU.out, decide_eq_true h0]; rfl)
  obtain ⟨u0, hu0⟩ := at_lt HNU.out h0
  go_enter Tryd.func34, Tryd.ntmps34
  go_wp2_with fail
  refine (adjOf_yes A n cap ts ax _ hn hts hT HTT).mono ?_
  rintro e w1 ⟨AU, cU, Ax, cx, Ar, cr, rfl, hOU, -, hOR, b1⟩
  rw [HU.out, HNU.out] at hOU
  rw [HU.out, HNU.out, HTR.out]
  have HB := Lib.hid b1
  have HIU := Lib.hid (IO.of_own (hOU.alloc (.cells #[.slice AU nu cU, .int .i64 tr, .slice Ax 8 cx, .slice Ar ts.length cr] 56)))
  have HIR := Lib.hid (IO.of_own (hOR.alloc (.cells #[.slice AU nu cU, .int .i64 tr, .slice Ax 8 cx, .slice Ar ts.length cr] 56)))
  have HXB := Lib.hid (Blk.new w1 56 #[.slice AU nu cU, .int .i64 tr, .slice Ax 8 cx, .slice Ar ts.length cr])
  have HBA := Lib.hid (HB.out.alloc HB.out.size (.cells #[.slice AU nu cU, .int .i64 tr, .slice Ax 8 cx, .slice Ar ts.length cr] 56))
  clear b1 hOU hOR
  go_upto_region 4 with fail
  obtain ⟨V0, HV0⟩ : ∃ W, Hid (w1.alloc (.cells #[.slice AU nu cU, .int .i64 tr, .slice Ax 8 cx, .slice Ar ts.length cr] 56) = W) := ⟨_, Lib.hid rfl⟩
  obtain ⟨X, HXX⟩ : ∃ X, Hid (w1.heap.size = X) := ⟨_, Lib.hid rfl⟩
  rw [HXX.out] at HXB
  rw [HV0.out] at HXB HBA HIU HIR ⊢
  try simp only [HXX.out]
  clear HV0 HB
  have q0 := HXB.out.cell 0
  simp at q0
  obtain ⟨gU, oU, rfl, hgU0, eU0⟩ := HIU.out.2 0 _ hu0
  rw [Nat.add_zero] at eU0
  go_wp2_with fail
  go_loopw [8, 32] (fun v i wr => ∃ k : Nat, k ≤ nu ∧ i = .int .i64 (k : Nat) ∧ v = .int .i64 (lgst (absR ts ax) U k) ∧ Below V0.heap.size V0 wr) (fun _ i _ => nu - (intOf i).toNat)
  case atStart => exact ⟨0, Nat.zero_le _, rfl, by rw [lgst_zero hu0], by first | exact Below.refl _ _ | exact (Below.refl _ _).drew⟩
  case round =>
    clear q0 eU0
    obtain ⟨k, hk, rfl, rfl, hB⟩ := hrel
    have HBQ := Lib.hid hB
    clear hB
    have hk0 : (0 : Int) ≤ (k : Int) := by omega
    by_cases hlt : k < nu
    · have hki : (k : Int) < (nu : Int) := by omega
      have hkd : decide (k < nu) = true := by simpa using hlt
      obtain ⟨q, hq⟩ := at_lt HNU.out hlt
      have hmq : q ∈ plIds ts := by rw [HU.out]; exact List.mem_of_getElem? hq
      obtain ⟨l, HLK⟩ : ∃ q, Hid (lgst (absR ts ax) U k = q) := ⟨_, Lib.hid rfl⟩
      have hml : l ∈ plIds ts := by rw [HU.out, ← HLK.out]; exact lgst_mem (by rw [HNU.out]; exact h0) (by rw [HNU.out]; exact hk)
      have HST := Lib.hid (show lgst (absR ts ax) U (k + 1) = if absR ts ax l < absR ts ax q then q else l by rw [lgst_step hq, HLK.out])
      rw [HLK.out]
      obtain ⟨j, rfl, x, hx, -⟩ := plIds_at hmq
      obtain ⟨j2, rfl, x2, hx2, -⟩ := plIds_at hml
      have hjl : j < ts.length := lt_at hx
      have hjli : (j : Int) < (ts.length : Int) := by omega
      have hj0 : (0 : Int) ≤ (j : Int) := by omega
      have hj2l : j2 < ts.length := lt_at hx2
      have hj2li : (j2 : Int) < (ts.length : Int) := by omega
      have hj20 : (0 : Int) ≤ (j2 : Int) := by omega
      have bR := resV_bd HG.out ax hx
      have bR2 := resV_bd HG.out ax hx2
      have HRL := Lib.hid (rsL_at (ax := ax) hjl hmq)
      have HRL2 := Lib.hid (rsL_at (ax := ax) hj2l hml)
      obtain ⟨R, HRR⟩ : ∃ q, Hid (resV ts ax (j : Int) = q) := ⟨_, Lib.hid rfl⟩
      obtain ⟨R2, HRR2⟩ : ∃ q, Hid (resV ts ax (j2 : Int) = q) := ⟨_, Lib.hid rfl⟩
      rw [HRR.out] at bR HRL
      rw [HRR2.out] at bR2 HRL2
      have lR : lim62 R := by unfold lim62; omega
      have lR2 : lim62 R2 := by unfold lim62; omega
      obtain ⟨d, HDD⟩ : ∃ q, Hid (R.natAbs = q) := ⟨_, Lib.hid rfl⟩
      obtain ⟨d2, HDD2⟩ : ∃ q, Hid (R2.natAbs = q) := ⟨_, Lib.hid rfl⟩
      have HAB := Lib.hid (show absR ts ax (j : Int) = d ∧ absR ts ax (j2 : Int) = d2 by unfold absR; rw [HRR.out, HRR2.out]; exact ⟨HDD.out, HDD2.out⟩)
      rw [HAB.out.1, HAB.out.2] at HST
      obtain ⟨g', o', eg, -, eU⟩ := (HIU.out.step HBQ.out).2 k _ hq
      obtain ⟨rfl, rfl⟩ : gU = g' ∧ oU = o' := by injection eg with eg; injection eg with e1 e2; exact ⟨e1, e2⟩
      obtain ⟨gR, oR, eAr, hgR, er⟩ := (HIR.out.step HBQ.out).2 j _ HRL.out
      subst eAr
      obtain ⟨g', o', eg2, -, er2⟩ := (HIR.out.step HBQ.out).2 j2 _ HRL2.out
      obtain ⟨rfl, rfl⟩ : gR = g' ∧ oR = o' := by injection eg2 with eg2; injection eg2 with e1 e2; exact ⟨e1, e2⟩
      have HX1 := Lib.hid (HXB.out.below HBQ.out HXB.out.lt)
      clear eg eg2 hq hmq hml hx hx2 bR bR2 HRL HRL2
      go_upto_region 8 with fail
      obtain ⟨W0, HW0⟩ : ∃ W, Hid (wr = W) := ⟨_, Lib.hid rfl⟩
      rw [HW0.out] at HBQ HX1 hgR er er2 ⊢
      clear HW0 eU
      have q3 := HX1.out.cell 3
      have qX := HX1.out.lt
      simp at q3
      obtain ⟨B, HBB⟩ : ∃ B, Hid (W0.heap.size = B) := ⟨_, Lib.hid rfl⟩
      have HWB := Lib.hid (show B ≤ W0.heap.size by rw [HBB.out]; exact Nat.le_refl _)
      rw [HBB.out] at qX hgR
      refine wp_region_held_drew (S := (fun v => (∀ b o, b < B → v.cell? ⟨b, o, none⟩ = W0.cell? ⟨b, o, none⟩) ∧ Below B W0 v)) (by kernel_rfl) ?_ (fun hHeld => ?_)
      · exact sb_start (Below.refl _ _)
      refine' wpAnyH_take (i := 0) (v := ?vr1_0) rfl (by kernel_rfl) (by kernel_rfl) (by kernel_rfl) (fun _ _ _ h => h) (Or.inl ⟨by rfl, ?hyr1_0⟩) (by assumption) ?restr1_0
      case hyr1_0 => (intro w hSw; (try dsimp only at hSw); go_simp; try (with_reducible rfl))
      simp only [Act.put, List.getElem_toArray, List.getElem_cons_succ, List.getElem_cons_zero, List.setIfInBounds_toArray, List.set_cons_zero, List.set_cons_succ]
      refine' wpAnyH_take (i := 1) (v := ?vr1_1) rfl (by kernel_rfl) (by kernel_rfl) (by kernel_rfl) (fun _ _ _ h => h) (Or.inl ⟨by rfl, ?hyr1_1⟩) (by assumption) ?restr1_1
      case hyr1_1 => (intro w hSw; (try dsimp only at hSw); go_simp; try (with_reducible rfl))
      simp only [Act.put, List.getElem_toArray, List.getElem_cons_succ, List.getElem_cons_zero, List.setIfInBounds_toArray, List.set_cons_zero, List.set_cons_succ]
      refine' wpAnyH_take (i := 2) (v := ?vr1_2) rfl (by kernel_rfl) (by kernel_rfl) (by kernel_rfl) (fun _ _ _ h => h) (Or.inl ⟨by rfl, ?hyr1_2⟩) (by assumption) ?restr1_2
      case hyr1_2 => (intro w hSw; (try dsimp only at hSw); go_simp; try (with_reducible rfl))
      simp only [Act.put, List.getElem_toArray, List.getElem_cons_succ, List.getElem_cons_zero, List.setIfInBounds_toArray, List.set_cons_zero, List.set_cons_succ]
      refine' wpAnyH_take (i := 3) (v := ?vr1_3) rfl (by kernel_rfl) (by kernel_rfl) (by kernel_rfl) (fun _ _ _ h => h) (Or.inl ⟨by rfl, ?hyr1_3⟩) (by assumption) ?restr1_3
      case hyr1_3 => (intro w hSw; (try dsimp only at hSw); go_simp; try (with_reducible rfl))
      simp only [Act.put, List.getElem_toArray, List.getElem_cons_succ, List.getElem_cons_zero, List.setIfInBounds_toArray, List.set_cons_zero, List.set_cons_succ]
      refine' wpAnyH_take (i := 4) (v := ?vr1_4) rfl (by kernel_rfl) (by kernel_rfl) (by kernel_rfl) (fun _ _ _ h => h) (Or.inl ⟨by rfl, ?hyr1_4⟩) (by assumption) ?restr1_4
      case hyr1_4 => (intro w hSw; (try dsimp only at hSw); go_simp; try (with_reducible rfl))
      simp only [Act.put, List.getElem_toArray, List.getElem_cons_succ, List.getElem_cons_zero, List.setIfInBounds_toArray, List.set_cons_zero, List.set_cons_succ]
      refine' wpAnyH_take (i := 6) (v := ?vr1_6) rfl (by kernel_rfl) (by kernel_rfl) (by kernel_rfl) (fun _ _ _ h => h) (Or.inl ⟨by rfl, ?hyr1_6⟩) (by assumption) ?restr1_6
      case hyr1_6 => (intro w hSw; (try dsimp only at hSw); go_simp; try (with_reducible rfl))
      simp only [Act.put, List.getElem_toArray, List.getElem_cons_succ, List.getElem_cons_zero, List.setIfInBounds_toArray, List.set_cons_zero, List.set_cons_succ]
      refine' wpAnyH_take (i := 7) (v := ?vr1_7) rfl (by kernel_rfl) (by kernel_rfl) (by kernel_rfl) (fun _ _ _ h => h) (Or.inl ⟨by rfl, ?hyr1_7⟩) (by assumption) ?restr1_7
      case hyr1_7 => (intro w hSw; (try dsimp only at hSw); go_simp; try (with_reducible rfl))
      simp only [Act.put, List.getElem_toArray, List.getElem_cons_succ, List.getElem_cons_zero, List.setIfInBounds_toArray, List.set_cons_zero, List.set_cons_succ]
      refine' wpAnyH_take (i := 8) (v := ?vr1_8) rfl (by kernel_rfl) (by kernel_rfl) (by kernel_rfl) (fun _ _ _ h => h) (Or.inl ⟨by rfl, ?hyr1_8⟩) (by assumption) ?restr1_8
      case hyr1_8 => (intro w hSw; (try dsimp only at hSw); go_simp; try (with_reducible rfl))
      simp only [Act.put, List.getElem_toArray, List.getElem_cons_succ, List.getElem_cons_zero, List.setIfInBounds_toArray, List.set_cons_zero, List.set_cons_succ]
      refine' wpAnyH_take (i := 9) (v := ?vr1_9) rfl (by kernel_rfl) (by kernel_rfl) (by kernel_rfl) (fun _ _ _ h => h) (Or.inl ⟨by rfl, ?hyr1_9⟩) (by assumption) ?restr1_9
      case hyr1_9 => (intro w hSw; (try dsimp only at hSw); go_simp; try (with_reducible rfl))
      simp only [Act.put, List.getElem_toArray, List.getElem_cons_succ, List.getElem_cons_zero, List.setIfInBounds_toArray, List.set_cons_zero, List.set_cons_succ]
      refine' wpAnyH_take (i := 10) (v := ?vr1_10) rfl (by kernel_rfl) (by kernel_rfl) (by kernel_rfl) (fun _ _ _ h => h) (Or.inl ⟨by rfl, ?hyr1_10⟩) (by assumption) ?restr1_10
      case hyr1_10 => (intro w hSw; (try dsimp only at hSw); go_simp; try (with_reducible rfl))
      simp only [Act.put, List.getElem_toArray, List.getElem_cons_succ, List.getElem_cons_zero, List.setIfInBounds_toArray, List.set_cons_zero, List.set_cons_succ]
      refine wpAnyH_ready (rs := [5]) (by kernel_rfl) (by simp) ?_
      refine AllReadyH.cons rfl (fun K hK => ?_) AllReadyH.nil
      go_simp
      refine (ph.dist_any R d _ HDD lR).mono ?_
      rintro e w5 ⟨rfl, rfl⟩
      refine hK.out _ _ (hHeld) (fun hHeld1 => ?_)
      clear hK K hHeld
      have hHeld := hHeld1
      clear hHeld1
      try simp only [Act.put, List.getElem_toArray, List.getElem_cons_succ, List.getElem_cons_zero, List.setIfInBounds_toArray, List.set_cons_zero, List.set_cons_succ]
      refine wpAnyH_ready (rs := [11]) (by kernel_rfl) (by simp) ?_
      refine AllReadyH.cons rfl (fun K hK => ?_) AllReadyH.nil
      go_simp
      refine (ph.dist_any R2 d2 _ HDD2 lR2).mono ?_
      rintro e w6 ⟨rfl, rfl⟩
      refine hK.out _ _ (hHeld) (fun hHeld1 => ?_)
      clear hK K hHeld
      have hHeld := hHeld1
      clear hHeld1
      try simp only [Act.put, List.getElem_toArray, List.getElem_cons_succ, List.getElem_cons_zero, List.setIfInBounds_toArray, List.set_cons_zero, List.set_cons_succ]
      refine' wpAnyH_take (i := 12) (v := ?vr1_12) rfl (by kernel_rfl) (by kernel_rfl) (by kernel_rfl) (fun _ _ _ h => h) (Or.inl ⟨by rfl, ?hyr1_12⟩) (by assumption) ?restr1_12
      case hyr1_12 => (intro w hSw; (try dsimp only at hSw); go_simp; try (with_reducible rfl))
      simp only [Act.put, List.getElem_toArray, List.getElem_cons_succ, List.getElem_cons_zero, List.setIfInBounds_toArray, List.set_cons_zero, List.set_cons_succ]
      refine wpAnyH_done (by kernel_rfl) ?_ _
      have HB6 := Lib.hid (HBQ.out.trans (hHeld.2.mono (by rw [← HBB.out]; exact HBQ.out.size)))
      by_cases hc : d2 < d
      · have hcd : decide (d2 < d) = true := by simpa using hc
        have hcd2 : decide ((d2 : Int) < (d : Int)) = true := by simpa using hc
        have hcd3 : (d2 : Int) < (d : Int) := by omega
        go_wp2_with fail
        go_roundw
        case rel => exact ⟨k + 1, by omega, by go_num, by rw [HST.out, if_pos hc], HB6.out⟩
        case measure => simp [intOf]; omega
      · have hcd : decide (d2 < d) = false := by simpa using hc
        have hcd2 : decide ((d2 : Int) < (d : Int)) = false := by simpa using hc
        have hcd3 : ¬ (d2 : Int) < (d : Int) := by omega
        go_wp2_with fail
        go_roundw
        case rel => exact ⟨k + 1, by omega, by go_num, by rw [HST.out, if_neg hc], HB6.out⟩
        case measure => simp [intOf]; omega
    · have hkd : decide (k < nu) = false := by simpa using hlt
      obtain rfl : k = nu := by omega
      go_wp2_with fail
      go_ret2
      exact ⟨by rw [HF.out, lgst_end h0]; rfl, HBA.out.trans (HBQ.out.mono HBA.out.size)⟩
#print axioms largest_model
#print axioms largest_impl
end Go.Proofs.YtgfopehceojahaaDoor.ph
