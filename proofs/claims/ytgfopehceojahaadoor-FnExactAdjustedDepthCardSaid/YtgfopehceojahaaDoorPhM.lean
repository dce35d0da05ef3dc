/-
  The depth of the adjusted coordinates, by the model and by the program.
  Conditions: those that each theorem names.
-/
import Derived.Test.YtgfopehceojahaaDoorPhA
import Derived.Test.YtgfopehceojahaaDoorMost
namespace Go.Proofs.YtgfopehceojahaaDoor.ph
open Go.RowKit
open reads base ty lg lgi win hs nt nq rowi sn mt ml dt pg mst
set_option linter.unusedVariables false
set_option linter.unusedSimpArgs false

def mn (a b : Int) : Int := if a < b then a else b
theorem least_is (a b v : Int) (h : Hid (mn a b = v)) (w : World) : Calls Tryd.prog 58 #[.int .i64 a, .int .i64 b] w fun e w' => e = .returned (.int .i64 v) ∧ w = w' := by
  have hh := h.out
  clear h
  by_cases c : a < b
  · obtain rfl : v = a := by rw [← hh]; exact if_pos c
    clear hh
    go_enter Tryd.func58, Tryd.ntmps58
    go_wp2_with fail
    go_ret
    exact ⟨rfl, rfl⟩
  · obtain rfl : v = b := by rw [← hh]; exact if_neg c
    have hd : decide (a < v) = false := by simpa using c
    clear hh c
    go_enter Tryd.func58, Tryd.ntmps58
    go_wp2_with fail
    go_ret
    exact ⟨rfl, rfl⟩
/-- the largest and the least of the first numbers and 0 -/
def hiF (xs : List Int) (k : Nat) : Int := (xs.take k).foldl mx 0
def loF (xs : List Int) (k : Nat) : Int := (xs.take k).foldl mn 0
theorem hiF_step {xs : List Int} {k : Nat} {x : Int} (h : xs[k]? = some x) : hiF xs (k + 1) = mx (hiF xs k) x := by
  unfold hiF; rw [take_snoc h, List.foldl_append]; rfl
theorem loF_step {xs : List Int} {k : Nat} {x : Int} (h : xs[k]? = some x) : loF xs (k + 1) = mn (loF xs k) x := by
  unfold loF; rw [take_snoc h, List.foldl_append]; rfl
theorem hl_bd {xs : List Int} (h : CBd xs) : ∀ k, k ≤ 8 → (-2000000000 ≤ hiF xs k ∧ hiF xs k ≤ 2000000000) ∧ (-2000000000 ≤ loF xs k ∧ loF xs k ≤ 2000000000)
  | 0, _ => by simp [hiF, loF]
  | k + 1, hk => by
    obtain ⟨x, hx⟩ := at_lt h.1 (show k < 8 by omega)
    have hb := h.2 x (List.mem_of_getElem? hx)
    have ih := hl_bd h k (by omega)
    rw [hiF_step hx, loF_step hx]
    unfold mx mn
    split <;> split <;> omega
set_option maxHeartbeats 4000000 in
theorem max_any (A : Option Addr) (c : Nat) (xs : List Int) (v : Int) (w : World) (hv : Hid (hiF xs 8 = v)) (hz : Hid (xs[0]? = some 0)) (hx : Hid (IO w w.heap.size A 8 xs)) :
    Calls Tryd.prog 60 #[.slice A 8 c] w fun e w' => e = .returned (.int .i64 v) ∧ w = w' := by
  have hL : Hid (xs.length = 8) := Lib.hid hx.out.1
  obtain ⟨g, o, rfl, hg, e0⟩ := hx.out.2 0 _ hz.out
  rw [Nat.add_zero] at e0
  have H1 := Lib.hid (show hiF xs 1 = 0 by rw [hiF_step hz.out]; rfl)
  go_enter Tryd.func60, Tryd.ntmps60
  go_wp2_with fail
  go_loop [3, 4] (fun v i => ∃ k : Nat, k ≤ 8 ∧ 1 ≤ k ∧ i = .int .i64 k ∧ v = .int .i64 (hiF xs k)) (fun _ i => 8 - (intOf i).toNat)
  case atStart => exact ⟨1, by omega, by omega, rfl, by rw [H1.out]⟩
  case round =>
    obtain ⟨k, hk, hk1, rfl, rfl⟩ := hrel
    have hk0 : 0 ≤ (k : Int) := by omega
    by_cases h1 : k < 8
    · have hki : (k : Int) < 8 := by omega
      have hkd : decide (k < 8) = true := by simpa using h1
      obtain ⟨x, hxk⟩ := at_lt hL.out h1
      obtain ⟨g', o', eg, -, ex⟩ := hx.out.2 k x hxk
      obtain ⟨rfl, rfl⟩ : g = g' ∧ o = o' := by injection eg with eg; injection eg with e1 e2; exact ⟨e1, e2⟩
      have HST := Lib.hid (hiF_step hxk)
      obtain ⟨m, HM⟩ : ∃ q, Hid (hiF xs k = q) := ⟨_, Lib.hid rfl⟩
      rw [HM.out] at HST ⊢
      clear hxk
      go_wp2_with fail
      go_round
      case rel => exact ⟨k + 1, by omega, by omega, by go_num, by rw [HST.out]; unfold mx; simp; try omega⟩
      case measure => simp [intOf]; omega
    · have hkd : decide (k < 8) = false := by simpa using h1
      obtain rfl : k = 8 := by omega
      rw [hv.out]
      go_wp2_with fail
      go_ret
      exact ⟨rfl, rfl⟩
set_option maxHeartbeats 4000000 in
theorem min_any (A : Option Addr) (c : Nat) (xs : List Int) (v : Int) (w : World) (hv : Hid (loF xs 8 = v)) (hz : Hid (xs[0]? = some 0)) (hx : Hid (IO w w.heap.size A 8 xs)) :
    Calls Tryd.prog 61 #[.slice A 8 c] w fun e w' => e = .returned (.int .i64 v) ∧ w = w' := by
  have hL : Hid (xs.length = 8) := Lib.hid hx.out.1
  obtain ⟨g, o, rfl, hg, e0⟩ := hx.out.2 0 _ hz.out
  rw [Nat.add_zero] at e0
  have H1 := Lib.hid (show loF xs 1 = 0 by rw [loF_step hz.out]; rfl)
  go_enter Tryd.func61, Tryd.ntmps61
  go_wp2_with fail
  go_loop [3, 4] (fun v i => ∃ k : Nat, k ≤ 8 ∧ 1 ≤ k ∧ i = .int .i64 k ∧ v = .int .i64 (loF xs k)) (fun _ i => 8 - (intOf i).toNat)
  case atStart => exact ⟨1, by omega, by omega, rfl, by rw [H1.out]⟩
  case round =>
    obtain ⟨k, hk, hk1, rfl, rfl⟩ := hrel
    have hk0 : 0 ≤ (k : Int) := by omega
    by_cases h1 : k < 8
    · have hki : (k : Int) < 8 := by omega
      have hkd : decide (k < 8) = true := by simpa using h1
      obtain ⟨x, hxk⟩ := at_lt hL.out h1
      obtain ⟨g', o', eg, -, ex⟩ := hx.out.2 k x hxk
      obtain ⟨rfl, rfl⟩ : g = g' ∧ o = o' := by injection eg with eg; injection eg with e1 e2; exact ⟨e1, e2⟩
      have HST := Lib.hid (loF_step hxk)
      obtain ⟨m, HM⟩ : ∃ q, Hid (loF xs k = q) := ⟨_, Lib.hid rfl⟩
      rw [HM.out] at HST ⊢
      clear hxk
      go_wp2_with fail
      go_round
      case rel => exact ⟨k + 1, by omega, by omega, by go_num, by rw [HST.out]; unfold mn; simp; try (split <;> split <;> omega)⟩
      case measure => simp [intOf]; omega
    · have hkd : decide (k < 8) = false := by simpa using h1
      obtain rfl : k = 8 := by omega
      rw [hv.out]
      go_wp2_with fail
      go_ret
      exact ⟨rfl, rfl⟩
-- REST
theorem xc_zero {ts : List Lg} (hg : goodLg ts = true) (ax : Int) : (xcN ts ax)[0]? = some 0 := by
  unfold xcN
  rw [List.getElem?_map, List.getElem?_range (by decide)]
  show some (XC ts ax 0) = some 0
  rw [XC_out (nw_net hg ax).h0]
/-- AdjustedDepth's answer -/
def ansDp (ts : List Lg) : Value := if goodLg ts then .tuple #[.int .i64 (redN (hiF (xcN ts 2) 8 - loF (xcN ts 2) 8) (TC ts)), .int .i64 (redD (hiF (xcN ts 2) 8 - loF (xcN ts 2) 8) (TC ts)), .bool true] else .tuple #[.int .i64 0, .int .i64 0, .bool false]
set_option maxHeartbeats 16000000 in
set_option maxRecDepth 100000 in
theorem depth_model (A : Option Addr) (n cap : Nat) (ts : List Lg) (w : World) (hn : n ≤ 2000000) (hts : Hid (LgAt w w.heap.size A n ts)) :
    Calls Tryd.prog 31 #[.slice A n cap] w (APost (ansDp ts) w) := by
  obtain ⟨t, HT⟩ : ∃ t, Hid (goodLg ts = t) := ⟨_, Lib.hid rfl⟩
  cases t
  · have HF := Lib.hid (show ansDp ts = .tuple #[.int .i64 0, .int .i64 0, .bool false] by unfold ansDp; rw [HT.out]; rfl)
    go_enter Tryd.func31, Tryd.ntmps31
    go_wp2_with fail
    refine (legs_is A n cap ts false _ hn hts HT).mono ?_
    rintro e w1 ⟨rfl, b1⟩
    have HB := Lib.hid b1
    clear b1
    go_wp2_with fail
    go_ret3
    exact ⟨by rw [HF.out]; rfl, HB.out⟩
  have HG := Lib.hid HT.out
  have btr := tc_bd HG.out
  have btr1 := TC_pos HG.out
  have hbd := hl_bd (xcN_bd HG.out 2) 8 (Nat.le_refl _)
  obtain ⟨xs, HXS⟩ : ∃ q, Hid (xcN ts 2 = q) := ⟨_, Lib.hid rfl⟩
  have HXB := Lib.hid (show CBd xs by rw [← HXS.out]; exact xcN_bd HG.out 2)
  obtain ⟨hv, HHI⟩ : ∃ q, Hid (hiF xs 8 = q) := ⟨_, Lib.hid rfl⟩
  obtain ⟨lv, HLO⟩ : ∃ q, Hid (loF xs 8 = q) := ⟨_, Lib.hid rfl⟩
  obtain ⟨tr, HTR⟩ : ∃ q, Hid (TC ts = q) := ⟨_, Lib.hid rfl⟩
  rw [HXS.out, HHI.out, HLO.out] at hbd
  rw [HTR.out] at btr btr1
  have lR : lim62 (hv - lv) := by unfold lim62; omega
  have ltr : lim62 tr := by unfold lim62; omega
  have x1 : IntKind.i64.wrap (hv - lv) = hv - lv := IntWalk.i64_in _ (by omega)
  obtain ⟨rn, HRN⟩ : ∃ q, Hid (redN (hv - lv) tr = q) := ⟨_, Lib.hid rfl⟩
  obtain ⟨rd, HRD⟩ : ∃ q, Hid (redD (hv - lv) tr = q) := ⟨_, Lib.hid rfl⟩
  have HF := Lib.hid (show ansDp ts = .tuple #[.int .i64 rn, .int .i64 rd, .bool true] by unfold ansDp; rw [HT.out, HXS.out, HHI.out, HLO.out, HTR.out, HRN.out, HRD.out]; rfl)
  clear btr hbd
  go_enter Tryd.func31, Tryd.ntmps31
  go_wp2_with fail
  refine (legs_is A n cap ts true _ hn hts HT).mono ?_
  rintro e w1 ⟨rfl, b1⟩
  have HB := Lib.hid b1
  clear b1
  go_wp2_with fail
  refine (adjust_any A n cap ts 2 _ (by decide) (by decide) HG (Lib.hid (hts.out.step HB.out))).mono ?_
  rintro e w5 ⟨v7, rfl, hO7, b7⟩
  rw [xcN_len, HXS.out] at hO7
  obtain ⟨A8, c8, rfl⟩ := row_slice hO7
  have HO5 := Lib.hid (IO.of_own hO7)
  have HB5 := Lib.hid (HB.out.trans (b7.mono HB.out.size))
  clear hO7 b7
  go_wp2_with fail
  go_loopw [6, 7, 8] (fun v6 v7 i wr => ∃ k : Nat, k ≤ 8 ∧ i = .int .i64 (k : Nat) ∧ v6 = .int .i64 (loF xs k) ∧ v7 = .int .i64 (hiF xs k) ∧ wr = w5) (fun _ _ i _ => 8 - (intOf i).toNat)
  case atStart => exact ⟨0, Nat.zero_le _, rfl, rfl, rfl, rfl⟩
  case round =>
    obtain ⟨k, hk, rfl, rfl, rfl, rfl⟩ := hrel
    have hk0 : (0 : Int) ≤ (k : Int) := by omega
    by_cases hlt : k < 8
    · have hki : (k : Int) < 8 := by omega
      have hkd : decide (k < 8) = true := by simpa using hlt
      obtain ⟨x, hxk⟩ := at_lt HXB.out.1 hlt
      obtain ⟨gC, oC, rfl, hgC, ex⟩ := HO5.out.2 k _ hxk
      have HS1 := Lib.hid (hiF_step hxk)
      have HS2 := Lib.hid (loF_step hxk)
      obtain ⟨m1, HM1⟩ : ∃ q, Hid (hiF xs k = q) := ⟨_, Lib.hid rfl⟩
      obtain ⟨m2, HM2⟩ : ∃ q, Hid (loF xs k = q) := ⟨_, Lib.hid rfl⟩
      rw [HM1.out] at HS1 ⊢
      rw [HM2.out] at HS2 ⊢
      clear hxk
      go_wp2_with fail
      refine (least_is m2 x _ (Lib.hid HS2.out.symm) _).mono ?_
      rintro e w6 ⟨rfl, rfl⟩
      go_wp2_with fail
      refine (most_is m1 x _ (Lib.hid HS1.out.symm) _).mono ?_
      rintro e w7 ⟨rfl, rfl⟩
      go_wp2_with fail
      go_roundw
      case rel => exact ⟨k + 1, by omega, by go_num, rfl, rfl, by first | rfl | trivial⟩
      case measure => simp [intOf]; omega
    · have hkd : decide (k < 8) = false := by simpa using hlt
      obtain rfl : k = 8 := by omega
      rw [HHI.out, HLO.out]
      go_wp2_with fail
      refine (trees_any A n cap ts _ HG (Lib.hid (hts.out.step HB5.out))).mono ?_
      rintro e w6 ⟨rfl, b6⟩
      rw [HTR.out]
      have HB6 := Lib.hid (HB5.out.trans (b6.mono HB5.out.size))
      clear b6
      go_wp2_with fail
      refine (reduce_any (hv - lv) tr rn rd _ lR ltr btr1 HRN HRD).mono ?_
      rintro e w7 ⟨rfl, b7⟩
      have HB7 := Lib.hid (HB6.out.trans (b7.mono HB6.out.size))
      clear b7
      go_wp2_with fail
      go_ret3
      exact ⟨by rw [HF.out]; rfl, HB7.out⟩
set_option maxHeartbeats 16000000 in
set_option maxRecDepth 100000 in
theorem depth_impl (A : Option Addr) (n cap : Nat) (ts : List Lg) (w : World) (hn : n ≤ 2000000) (hts : Hid (LgAt w w.heap.size A n ts)) (hT : Hid (Tab w)) :
    Calls Tryd.prog 32 #[.slice A n cap] w (APost (ansDp ts) w) := by
  obtain ⟨t, HTT⟩ : ∃ t, Hid (goodLg ts = t) := ⟨_, Lib.hid rfl⟩
  cases t
  · have HF := Lib.hid (show ansDp ts = .tuple #[.int .i64 0, .int .i64 0, .bool false] by unfold ansDp; rw [HTT.out]; rfl)
    have HO := Lib.hid (show axOk ts 2 = false by unfold axOk; rw [HTT.out]; rfl)
    go_enter Tryd.func32, Tryd.ntmps32
    go_wp2_with fail
    refine (adjOf_no A n cap ts 2 _ hn hts hT HO).mono ?_
    rintro e w1 ⟨rfl, b1⟩
    have HB := Lib.hid b1
    clear b1
    go_wp2_with fail
    go_ret3
    exact ⟨by rw [HF.out]; rfl, HB.out.alloc HB.out.size _⟩
  have HG := Lib.hid HTT.out
  have HO := Lib.hid (show axOk ts 2 = true by unfold axOk; rw [HTT.out]; rfl)
  have btr := tc_bd HG.out
  have btr1 := TC_pos HG.out
  have hbd := hl_bd (xcN_bd HG.out 2) 8 (Nat.le_refl _)
  obtain ⟨xs, HXS⟩ : ∃ q, Hid (xcN ts 2 = q) := ⟨_, Lib.hid rfl⟩
  have HZ := Lib.hid (show xs[0]? = some 0 by rw [← HXS.out]; exact xc_zero HG.out 2)
  obtain ⟨hv, HHI⟩ : ∃ q, Hid (hiF xs 8 = q) := ⟨_, Lib.hid rfl⟩
  obtain ⟨lv, HLO⟩ : ∃ q, Hid (loF xs 8 = q) := ⟨_, Lib.hid rfl⟩
  obtain ⟨tr, HTR⟩ : ∃ q, Hid (TC ts = q) := ⟨_, Lib.hid rfl⟩
  rw [HXS.out, HHI.out, HLO.out] at hbd
  rw [HTR.out] at btr btr1
  have lR : lim62 (hv - lv) := by unfold lim62; omega
  have ltr : lim62 tr := by unfold lim62; omega
  have x1 : IntKind.i64.wrap (hv - lv) = hv - lv := IntWalk.i64_in _ (by omega)
  obtain ⟨rn, HRN⟩ : ∃ q, Hid (redN (hv - lv) tr = q) := ⟨_, Lib.hid rfl⟩
  obtain ⟨rd, HRD⟩ : ∃ q, Hid (redD (hv - lv) tr = q) := ⟨_, Lib.hid rfl⟩
  have HF := Lib.hid (show ansDp ts = .tuple #[.int .i64 rn, .int .i64 rd, .bool true] by unfold ansDp; rw [HTT.out, HXS.out, HHI.out, HLO.out, HTR.out, HRN.out, HRD.out]; rfl)
  clear btr hbd
  go_enter Tryd.func32, Tryd.ntmps32
  go_wp2_with fail
  refine (adjOf_yes A n cap ts 2 _ hn hts hT HO).mono ?_
  rintro e w1 ⟨AU, cU, Ax, cx, Ar, cr, rfl, -, hOX, -, b1⟩
  rw [HXS.out] at hOX
  rw [HTR.out]
  obtain ⟨zU, HZU⟩ : ∃ q, Hid ((plIds ts).length = q) := ⟨_, Lib.hid rfl⟩
  rw [HZU.out]
  obtain ⟨zr, HZR⟩ : ∃ q, Hid (ts.length = q) := ⟨_, Lib.hid rfl⟩
  rw [HZR.out]
  have HB := Lib.hid b1
  have HIX := Lib.hid (IO.of_own (hOX.alloc (.cells #[.slice AU zU cU, .int .i64 tr, .slice Ax 8 cx, .slice Ar zr cr] 56)))
  have HXB := Lib.hid (Blk.new w1 56 #[.slice AU zU cU, .int .i64 tr, .slice Ax 8 cx, .slice Ar zr cr])
  have HBA := Lib.hid (HB.out.alloc HB.out.size (.cells #[.slice AU zU cU, .int .i64 tr, .slice Ax 8 cx, .slice Ar zr cr] 56))
  obtain ⟨gC, oC, eAx, -, -⟩ := HIX.out.2 0 _ HZ.out
  subst eAx
  clear b1 hOX
  go_upto_region 4 with fail
  obtain ⟨W0, HV0⟩ : ∃ W, Hid (w1.alloc (.cells #[.slice AU zU cU, .int .i64 tr, .slice (some ⟨gC, oC, none⟩) 8 cx, .slice Ar zr cr] 56) = W) := ⟨_, Lib.hid rfl⟩
  obtain ⟨X, HXX⟩ : ∃ X, Hid (w1.heap.size = X) := ⟨_, Lib.hid rfl⟩
  rw [HXX.out] at HXB
  rw [HV0.out] at HXB HBA HIX ⊢
  try simp only [HXX.out]
  clear HV0 HB
  have q1 := HXB.out.cell 1
  have q2 := HXB.out.cell 2
  have qX := HXB.out.lt
  simp at q1 q2
  obtain ⟨B, HBB⟩ : ∃ B, Hid (W0.heap.size = B) := ⟨_, Lib.hid rfl⟩
  have HWB := Lib.hid (show B ≤ W0.heap.size by rw [HBB.out]; exact Nat.le_refl _)
  rw [HBB.out] at qX HIX
  refine wp_region_held_drew (S := (fun v => (∀ b o, b < B → v.cell? ⟨b, o, none⟩ = W0.cell? ⟨b, o, none⟩) ∧ Below B W0 v)) (by kernel_rfl) ?_ (fun hHeld => ?_)
  · exact sb_start (Below.refl _ _)
  refine' wpAnyH_take (i := 0) (v := ?vr1_0) rfl (by kernel_rfl) (by kernel_rfl) (by kernel_rfl) (fun _ _ _ h => h) (Or.inl ⟨by rfl, ?hyr1_0⟩) (by assumption) ?restr1_0
  case hyr1_0 => (intro w hSw; (try dsimp only at hSw); go_simp; try (with_reducible rfl))
  simp only [Act.put, List.getElem_toArray, List.getElem_cons_succ, List.getElem_cons_zero, List.setIfInBounds_toArray, List.set_cons_zero, List.set_cons_succ]
  refine' wpAnyH_take (i := 1) (v := ?vr1_1) rfl (by kernel_rfl) (by kernel_rfl) (by kernel_rfl) (fun _ _ _ h => h) (Or.inl ⟨by rfl, ?hyr1_1⟩) (by assumption) ?restr1_1
  case hyr1_1 => (intro w hSw; (try dsimp only at hSw); go_simp; try (with_reducible rfl))
  simp only [Act.put, List.getElem_toArray, List.getElem_cons_succ, List.getElem_cons_zero, List.setIfInBounds_toArray, List.set_cons_zero, List.set_cons_succ]
  refine' wpAnyH_take (i := 3) (v := ?vr1_3) rfl (by kernel_rfl) (by kernel_rfl) (by kernel_rfl) (fun _ _ _ h => h) (Or.inl ⟨by rfl, ?hyr1_3⟩) (by assumption) ?restr1_3
  case hyr1_3 => (intro w hSw; (try dsimp only at hSw); go_simp; try (with_reducible rfl))
  simp only [Act.put, List.getElem_toArray, List.getElem_cons_succ, List.getElem_cons_zero, List.setIfInBounds_toArray, List.set_cons_zero, List.set_cons_succ]
  refine' wpAnyH_take (i := 4) (v := ?vr1_4) rfl (by kernel_rfl) (by kernel_rfl) (by kernel_rfl) (fun _ _ _ h => h) (Or.inl ⟨by rfl, ?hyr1_4⟩) (by assumption) ?restr1_4
  case hyr1_4 => (intro w hSw; (try dsimp only at hSw); go_simp; try (with_reducible rfl))
  simp only [Act.put, List.getElem_toArray, List.getElem_cons_succ, List.getElem_cons_zero, List.setIfInBounds_toArray, List.set_cons_zero, List.set_cons_succ]
  refine' wpAnyH_take (i := 7) (v := ?vr1_7) rfl (by kernel_rfl) (by kernel_rfl) (by kernel_rfl) (fun _ _ _ h => h) (Or.inl ⟨by rfl, ?hyr1_7⟩) (by assumption) ?restr1_7
  case hyr1_7 => (intro w hSw; (try dsimp only at hSw); go_simp; try (with_reducible rfl))
  simp only [Act.put, List.getElem_toArray, List.getElem_cons_succ, List.getElem_cons_zero, List.setIfInBounds_toArray, List.set_cons_zero, List.set_cons_succ]
  refine' wpAnyH_take (i := 8) (v := ?vr1_8) rfl (by kernel_rfl) (by kernel_rfl) (by kernel_rfl) (fun _ _ _ h => h) (Or.inl ⟨by rfl, ?hyr1_8⟩) (by assumption) ?restr1_8
  case hyr1_8 => (intro w hSw; (try dsimp only at hSw); go_simp; try (with_reducible rfl))
  simp only [Act.put, List.getElem_toArray, List.getElem_cons_succ, List.getElem_cons_zero, List.setIfInBounds_toArray, List.set_cons_zero, List.set_cons_succ]
  refine wpAnyH_ready (rs := [2]) (by kernel_rfl) (by simp) ?_
  refine AllReadyH.cons rfl (fun K hK => ?_) AllReadyH.nil
  go_simp
  refine (max_any (some ⟨gC, oC, none⟩) cx xs hv _ HHI HZ (Lib.hid ((HIX.out.below hHeld.2).more (Nat.le_trans HWB.out hHeld.2.size)))).mono ?_
  rintro e w5 ⟨rfl, rfl⟩
  refine hK.out _ _ (hHeld) (fun hHeld1 => ?_)
  clear hK K hHeld
  have hHeld := hHeld1
  clear hHeld1
  try simp only [Act.put, List.getElem_toArray, List.getElem_cons_succ, List.getElem_cons_zero, List.setIfInBounds_toArray, List.set_cons_zero, List.set_cons_succ]
  refine wpAnyH_ready (rs := [5]) (by kernel_rfl) (by simp) ?_
  refine AllReadyH.cons rfl (fun K hK => ?_) AllReadyH.nil
  go_simp
  refine (min_any (some ⟨gC, oC, none⟩) cx xs lv _ HLO HZ (Lib.hid ((HIX.out.below hHeld.2).more (Nat.le_trans HWB.out hHeld.2.size)))).mono ?_
  rintro e w6 ⟨rfl, rfl⟩
  refine hK.out _ _ (hHeld) (fun hHeld1 => ?_)
  clear hK K hHeld
  have hHeld := hHeld1
  clear hHeld1
  try simp only [Act.put, List.getElem_toArray, List.getElem_cons_succ, List.getElem_cons_zero, List.setIfInBounds_toArray, List.set_cons_zero, List.set_cons_succ]
  refine' wpAnyH_take (i := 6) (v := ?vr1_6) rfl (by kernel_rfl) (by kernel_rfl) (by kernel_rfl) (fun _ _ _ h => h) (Or.inl ⟨by rfl, ?hyr1_6⟩) (by assumption) ?restr1_6
  case hyr1_6 => (intro w hSw; (try dsimp only at hSw); go_simp; try (with_reducible rfl))
  simp only [Act.put, List.getElem_toArray, List.getElem_cons_succ, List.getElem_cons_zero, List.setIfInBounds_toArray, List.set_cons_zero, List.set_cons_succ]
  refine wpAnyH_ready (rs := [9]) (by kernel_rfl) (by simp) ?_
  refine AllReadyH.cons rfl (fun K hK => ?_) AllReadyH.nil
  go_simp
  refine (reduced_any (hv - lv) tr rn rd _ lR ltr btr1 HRN HRD).mono ?_
  rintro e w9 ⟨rfl, b9⟩
  refine hK.out _ _ (sb_step hHeld HWB.out b9) (fun hHeld1 => ?_)
  clear hK K hHeld
  have hHeld := hHeld1
  clear hHeld1
  try simp only [Act.put, List.getElem_toArray, List.getElem_cons_succ, List.getElem_cons_zero, List.setIfInBounds_toArray, List.set_cons_zero, List.set_cons_succ]
  refine' wpAnyH_take (i := 10) (v := ?vr1_10) rfl (by kernel_rfl) (by kernel_rfl) (by kernel_rfl) (fun _ _ _ h => h) (Or.inl ⟨by rfl, ?hyr1_10⟩) (by assumption) ?restr1_10
  case hyr1_10 => (intro w hSw; (try dsimp only at hSw); go_simp; try (with_reducible rfl))
  simp only [Act.put, List.getElem_toArray, List.getElem_cons_succ, List.getElem_cons_zero, List.setIfInBounds_toArray, List.set_cons_zero, List.set_cons_succ]
  refine' wpAnyH_take (i := 11) (v := ?vr1_11) rfl (by kernel_rfl) (by kernel_rfl) (by kernel_rfl) (fun _ _ _ h => h) (Or.inl ⟨by rfl, ?hyr1_11⟩) (by assumption) ?restr1_11
  case hyr1_11 => (intro w hSw; (try dsimp only at hSw); go_simp; try (with_reducible rfl))
  simp only [Act.put, List.getElem_toArray, List.getElem_cons_succ, List.getElem_cons_zero, List.setIfInBounds_toArray, List.set_cons_zero, List.set_cons_succ]
  refine' wpAnyH_take (i := 12) (v := ?vr1_12) rfl (by kernel_rfl) (by kernel_rfl) (by kernel_rfl) (fun _ _ _ h => h) (Or.inl ⟨by rfl, ?hyr1_12⟩) (by assumption) ?restr1_12
  case hyr1_12 => (intro w hSw; (try dsimp only at hSw); go_simp; try (with_reducible rfl))
  simp only [Act.put, List.getElem_toArray, List.getElem_cons_succ, List.getElem_cons_zero, List.setIfInBounds_toArray, List.set_cons_zero, List.set_cons_succ]
  refine' wpAnyH_take (i := 13) (v := ?vr1_13) rfl (by kernel_rfl) (by kernel_rfl) (by kernel_rfl) (fun _ _ _ h => h) (Or.inl ⟨by rfl, ?hyr1_13⟩) (by assumption) ?restr1_13
  case hyr1_13 => (intro w hSw; (try dsimp only at hSw); go_simp; try (with_reducible rfl))
  simp only [Act.put, List.getElem_toArray, List.getElem_cons_succ, List.getElem_cons_zero, List.setIfInBounds_toArray, List.set_cons_zero, List.set_cons_succ]
  refine' wpAnyH_take (i := 14) (v := ?vr1_14) rfl (by kernel_rfl) (by kernel_rfl) (by kernel_rfl) (fun _ _ _ h => h) (Or.inl ⟨by rfl, ?hyr1_14⟩) (by assumption) ?restr1_14
  case hyr1_14 => (intro w hSw; (try dsimp only at hSw); go_simp; try (with_reducible rfl))
  simp only [Act.put, List.getElem_toArray, List.getElem_cons_succ, List.getElem_cons_zero, List.setIfInBounds_toArray, List.set_cons_zero, List.set_cons_succ]
  refine wpAnyH_done (by kernel_rfl) ?_ _
  go_wp2_with fail
  go_ret3
  exact ⟨by rw [HF.out]; rfl, HBA.out.trans (hHeld.2.mono (by rw [← HBB.out]; exact HBA.out.size))⟩
#print axioms depth_model
#print axioms depth_impl
end Go.Proofs.YtgfopehceojahaaDoor.ph
