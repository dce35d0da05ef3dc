/-
  The error of a leg, by the program.
  Conditions: the legs lie in one block, at most 2000000 of them; the variable holds the table of the sines.
-/
import Derived.Test.YtnoieboiklmkaaaDoorNqI
import Derived.Deep.RegionHeld3
namespace Go.Proofs.YtnoieboiklmkaaaDoor.nq
open Go.RowKit
open reads base ty lg lgi win hs nt rowi sn
set_option linter.unusedVariables false
set_option linter.unusedSimpArgs false

theorem sf_ext' {a b : Sf} (h1 : a.east = b.east) (h2 : a.north = b.north) (h3 : a.up = b.up) : a = b := by cases a; cases b; simp_all
theorem err_eq (s h p q : Sf) (hq : sub3 q p = s) : sub3 h s = add3 (sub3 h q) p := by
  subst hq
  exact sf_ext' (by unfold sub3 add3; simp only []; omega) (by unfold sub3 add3; simp only []; omega) (by unfold sub3 add3; simp only []; omega)
set_option maxHeartbeats 16000000 in
set_option maxRecDepth 100000 in
theorem err_in (A : Option Addr) (n cap k : Nat) (x : Lg) (t : Bool) (ts : List Lg) (C : Array Value) (w : World) (hn : n ≤ 2000000) (HC : Hid (nv (netS ts) (clS ts) = C)) (hts : Hid (LgAt w w.heap.size A n ts)) (hT : Hid (Tab w)) (HG : Hid (goodLg ts = true)) (HX : Hid (ts[k]? = some x)) (HM : Hid (mem (net ts).ps x.frm = t)) (VV : Value) (HV : Hid ((if t then .tuple #[.agg #[.int .i64 (errV ts x).east, .int .i64 (errV ts x).north, .int .i64 (errV ts x).up], .bool true] else .tuple #[.agg #[.int .i64 0, .int .i64 0, .int .i64 0], .bool false]) = VV)) :
    Calls Tryd.prog 31 #[.slice A n cap, .int .i64 (k : Int)] w (APost VV w) := by
  have hL := hts.out.1
  have hn12 : n ≤ 12 := by rw [← hL]; exact goodLg_len HG.out
  have hkn : k < n := by rw [← hL]; exact (List.getElem?_eq_some_iff.1 HX.out).1
  have hk0 : (0 : Int) ≤ (k : Int) := by omega
  have hkn' : (k : Int) < (n : Int) := by omega
  have hkd : decide (k < n) = true := by simpa using hkn
  clear hL
  have H1 := Lib.hid (one_in (show btw 0 (k : Int) ((n : Int) - 1) = true from btw_mk (by omega) (by omega)))
  have HOK := Lib.hid (goodLg_at HG.out HX.out)
  have HNS := Lib.hid (show netS ts = net ts by unfold netS; rw [HG.out]; rfl)
  have HP1 := Lib.hid (show mem (netS ts).ps x.frm = t by rw [HNS.out]; exact HM.out)
  have HP2 := Lib.hid (show mem (netS ts).ps x.to_ = t by rw [HNS.out, ← net_ends HG.out HX.out]; exact HM.out)
  obtain ⟨gL, hA0, hgL, e0, e1, e2, e3, e4⟩ := hts.out.2 k x HX.out
  have HLL := Lib.hid (show (w.cell? ⟨gL, k * 5, none⟩ = some (.int .i64 x.frm) ∧ w.cell? ⟨gL, k * 5 + 1, none⟩ = some (.int .i64 x.to_) ∧ w.cell? ⟨gL, k * 5 + 2, none⟩ = some (.int .i64 x.tape) ∧ w.cell? ⟨gL, k * 5 + 3, none⟩ = some (.int .i64 x.comp) ∧ w.cell? ⟨gL, k * 5 + 4, none⟩ = some (.int .i64 x.slope)) ∧ gL < w.heap.size from ⟨⟨e0, e1, e2, e3, e4⟩, hgL⟩)
  clear e0 e1 e2 e3 e4 hgL
  subst hA0
  have hcz : C.size = 56 := by rw [← HC.out]; exact nv_size (nok_S ts)
  have HC1 := Lib.hid (show C.all (·.oneCell') = true by rw [← HC.out]; exact nv_one)
  have HA := Lib.hid (hts.out.alloc (.cells #[.int .i64 0, .int .i64 0, .int .i64 0] 35))
  have HT0 := Lib.hid (hT.out.alloc (.cells #[.int .i64 0, .int .i64 0, .int .i64 0] 35))
  go_enter Tryd.func31, Tryd.ntmps31
  go_wp2_with fail
  refine (net_any (some ⟨gL, 0, none⟩) n cap ts C true HC HG _ hn HA HT0).mono ?_
  rintro e w1 ⟨rfl, b1⟩
  have HR := Lib.hid ((Blk.new w 35 #[.int .i64 0, .int .i64 0, .int .i64 0]).below b1 (by simp))
  have HB := Lib.hid (((Below.refl w.heap.size w).alloc (Nat.le_refl _) (.cells #[.int .i64 0, .int .i64 0, .int .i64 0] 35)).trans (b1.mono (by simp)))
  clear b1
  have hst := lay_net hcz HC1.out w1
  have HR2 := Lib.hid (HR.out.alloc (.cells C 66))
  have HB2 := Lib.hid (HB.out.alloc HB.out.size (.cells C 66))
  have HG2 := Lib.hid (Blk.new w1 66 C)
  obtain ⟨W, HW⟩ : ∃ W, Hid (w1.alloc (.cells C 66) = W) := ⟨_, Lib.hid rfl⟩
  obtain ⟨G, HGG⟩ : ∃ G, Hid (w1.heap.size = G) := ⟨_, Lib.hid rfl⟩
  go_upto_region 2 with fail
  clear hst
  rw [HGG.out] at HG2
  try rw [HGG.out]
  try simp only [HGG.out]
  rw [HW.out] at HR2 HB2 HG2 ⊢
  clear HW HR HB HGG
  have HLW := Lib.hid (show LW gL k G x C W by
    obtain ⟨⟨e0, e1, e2, e3, e4⟩, l⟩ := HLL.out
    have A : ∀ o, W.cell? ⟨gL, o, none⟩ = w.cell? ⟨gL, o, none⟩ := fun o => HB2.out.cell (p := ⟨gL, o, none⟩) l
    exact ⟨⟨(A _).trans e0, (A _).trans e1, (A _).trans e2, (A _).trans e3, (A _).trans e4⟩, by have := HB2.out.size; omega, HG2.out⟩)
  clear HLL HG2
  refine wp_region_held_drew (S := (fun v => v.cell? ⟨gL, k * 5, none⟩ = some (.int .i64 x.frm) ∧ v.cell? ⟨gL, k * 5 + 1, none⟩ = some (.int .i64 x.to_) ∧ v.cell? ⟨gL, k * 5 + 2, none⟩ = some (.int .i64 x.tape) ∧ v.cell? ⟨gL, k * 5 + 3, none⟩ = some (.int .i64 x.comp) ∧ v.cell? ⟨gL, k * 5 + 4, none⟩ = some (.int .i64 x.slope) ∧ LW gL k G x C v)) (by kernel_rfl) ?_ (fun hHeld => ?_)
  · exact (HLW.out.step (Below.refl _ _).drew).mk6
  refine' wpAnyH_take (i := 0) (v := ?vr3_0) rfl (by kernel_rfl) (by kernel_rfl) (by kernel_rfl) (fun _ _ _ h => h) (Or.inl ⟨by rfl, ?hyr3_0⟩) (by assumption) ?restr3_0
  case hyr3_0 => (intro w hSw; (try dsimp only at hSw); go_simp; try (with_reducible rfl))
  simp only [Act.put, List.getElem_toArray, List.getElem_cons_succ, List.getElem_cons_zero, List.setIfInBounds_toArray, List.set_cons_zero, List.set_cons_succ]
  refine' wpAnyH_take (i := 1) (v := ?vr3_1) rfl (by kernel_rfl) (by kernel_rfl) (by kernel_rfl) (fun _ _ _ h => h) (Or.inl ⟨by rfl, ?hyr3_1⟩) (by assumption) ?restr3_1
  case hyr3_1 => (intro w hSw; (try dsimp only at hSw); go_simp; try (with_reducible rfl))
  simp only [Act.put, List.getElem_toArray, List.getElem_cons_succ, List.getElem_cons_zero, List.setIfInBounds_toArray, List.set_cons_zero, List.set_cons_succ]
  refine' wpAnyH_take (i := 2) (v := ?vr3_2) rfl (by kernel_rfl) (by kernel_rfl) (by kernel_rfl) (fun _ _ _ h => h) (Or.inl ⟨by rfl, ?hyr3_2⟩) (by assumption) ?restr3_2
  case hyr3_2 => (intro w hSw; (try dsimp only at hSw); go_simp; try (with_reducible rfl))
  simp only [Act.put, List.getElem_toArray, List.getElem_cons_succ, List.getElem_cons_zero, List.setIfInBounds_toArray, List.set_cons_zero, List.set_cons_succ]
  refine' wpAnyH_take (i := 3) (v := ?vr3_3) rfl (by kernel_rfl) (by kernel_rfl) (by kernel_rfl) (fun _ _ _ h => h) (Or.inl ⟨by rfl, ?hyr3_3⟩) (by assumption) ?restr3_3
  case hyr3_3 => (intro w hSw; (try dsimp only at hSw); go_simp; try (with_reducible rfl))
  simp only [Act.put, List.getElem_toArray, List.getElem_cons_succ, List.getElem_cons_zero, List.setIfInBounds_toArray, List.set_cons_zero, List.set_cons_succ]
  refine' wpAnyH_take (i := 4) (v := ?vr3_4) rfl (by kernel_rfl) (by kernel_rfl) (by kernel_rfl) (fun _ _ _ h => h) (Or.inl ⟨by rfl, ?hyr3_4⟩) (by assumption) ?restr3_4
  case hyr3_4 => (intro w hSw; (try dsimp only at hSw); go_simp; try (with_reducible rfl))
  simp only [Act.put, List.getElem_toArray, List.getElem_cons_succ, List.getElem_cons_zero, List.setIfInBounds_toArray, List.set_cons_zero, List.set_cons_succ]
  refine' wpAnyH_take (i := 5) (v := .int .i64 ((n : Int) - 1)) rfl (by kernel_rfl) (by kernel_rfl) (by kernel_rfl) (fun _ _ _ h => h) (Or.inl ⟨by rfl, ?hyn5⟩) (by assumption) ?restn5
  case hyn5 =>
    intro v hSv
    go_simp
    exact IntWalk.i64_in _ (by omega)
  simp only [Act.put, List.getElem_toArray, List.getElem_cons_succ, List.getElem_cons_zero, List.setIfInBounds_toArray, List.set_cons_zero, List.set_cons_succ]
  refine' wpAnyH_take (i := 6) (v := ?vr3_6) rfl (by kernel_rfl) (by kernel_rfl) (by kernel_rfl) (fun _ _ _ h => h) (Or.inl ⟨by rfl, ?hyr3_6⟩) (by assumption) ?restr3_6
  case hyr3_6 => (intro w hSw; (try dsimp only at hSw); go_simp; try (with_reducible rfl))
  simp only [Act.put, List.getElem_toArray, List.getElem_cons_succ, List.getElem_cons_zero, List.setIfInBounds_toArray, List.set_cons_zero, List.set_cons_succ]
  refine wpAnyH_ready (rs := [7]) (by kernel_rfl) (by simp) ?_
  refine AllReadyH.cons rfl (fun K hK => ?_) AllReadyH.nil
  go_simp
  refine hK.out _ _ ((hHeld.2.2.2.2.2.step (((Below.refl _ _).alloc (Nat.le_refl _) _).drew)).mk6) (fun hHeld1 => ?_)
  clear hK K hHeld
  have hHeld := hHeld1
  clear hHeld1
  try simp only [Act.put, List.getElem_toArray, List.getElem_cons_succ, List.getElem_cons_zero, List.setIfInBounds_toArray, List.set_cons_zero, List.set_cons_succ]
  refine wpAnyH_ready (rs := [8]) (by kernel_rfl) (by simp) ?_
  refine AllReadyH.cons rfl (fun K hK => ?_) AllReadyH.nil
  go_simp
  refine (within_dr _ _ (k : Int) true _ _ rfl H1.out).mono ?_
  rintro e w3 ⟨rfl, hw⟩
  have HW3 := Lib.hid hw
  clear hw
  have HR4 := Lib.hid (show Blk w3 w.heap.size 35 #[.int .i64 0, .int .i64 0, .int .i64 0] by rw [← HW3.out]; exact (HR2.out.alloc _).drew)
  have HB4 := Lib.hid (show Below w.heap.size w w3 by rw [← HW3.out]; exact (HB2.out.alloc HB2.out.size _).drew)
  have HL4 := Lib.hid (show LW gL k G x C w3 by rw [← HW3.out]; exact hHeld.2.2.2.2.2)
  refine hK.out _ _ ((by rw [← HW3.out]; exact hHeld)) (fun hHeld1 => ?_)
  clear hK K hHeld
  have hHeld := hHeld1
  clear hHeld1
  try simp only [Act.put, List.getElem_toArray, List.getElem_cons_succ, List.getElem_cons_zero, List.setIfInBounds_toArray, List.set_cons_zero, List.set_cons_succ]
  refine' wpAnyH_take (i := 9) (v := ?vr3_9) rfl (by kernel_rfl) (by kernel_rfl) (by kernel_rfl) (fun _ _ _ h => h) (Or.inl ⟨by rfl, ?hyr3_9⟩) (by assumption) ?restr3_9
  case hyr3_9 => (intro w hSw; (try dsimp only at hSw); go_simp; try (with_reducible rfl))
  simp only [Act.put, List.getElem_toArray, List.getElem_cons_succ, List.getElem_cons_zero, List.setIfInBounds_toArray, List.set_cons_zero, List.set_cons_succ]
  refine' wpAnyH_take (i := 10) (v := ?vr3_10) rfl (by kernel_rfl) (by kernel_rfl) (by kernel_rfl) (fun _ _ _ h => h) (Or.inl ⟨by rfl, ?hyr3_10⟩) (by assumption) ?restr3_10
  case hyr3_10 => (intro w hSw; (try dsimp only at hSw); go_simp; try (with_reducible rfl))
  simp only [Act.put, List.getElem_toArray, List.getElem_cons_succ, List.getElem_cons_zero, List.setIfInBounds_toArray, List.set_cons_zero, List.set_cons_succ]
  refine' wpAnyH_take (i := 11) (v := ?vr3_11) rfl (by kernel_rfl) (by kernel_rfl) (by kernel_rfl) (fun _ _ _ h => h) (Or.inl ⟨by rfl, ?hyr3_11⟩) (by assumption) ?restr3_11
  case hyr3_11 => (intro w hSw; (try dsimp only at hSw); go_simp; try (with_reducible rfl))
  simp only [Act.put, List.getElem_toArray, List.getElem_cons_succ, List.getElem_cons_zero, List.setIfInBounds_toArray, List.set_cons_zero, List.set_cons_succ]
  refine' wpAnyH_take (i := 12) (v := .agg C) rfl (by kernel_rfl) (by kernel_rfl) (by kernel_rfl) (fun _ _ _ h => h) (Or.inl ⟨by rfl, fun v hSv => exec_load rfl rfl hSv.2.2.2.2.2.2.2 hcz⟩) (by assumption) ?_
  simp only [Act.put, List.getElem_toArray, List.getElem_cons_succ, List.getElem_cons_zero, List.setIfInBounds_toArray, List.set_cons_zero, List.set_cons_succ]
  refine' wpAnyH_take (i := 13) (v := ?vr3_13) rfl (by kernel_rfl) (by kernel_rfl) (by kernel_rfl) (fun _ _ _ h => h) (Or.inl ⟨by rfl, ?hyr3_13⟩) (by assumption) ?restr3_13
  case hyr3_13 => (intro w hSw; (try dsimp only at hSw); go_simp; try (with_reducible rfl))
  simp only [Act.put, List.getElem_toArray, List.getElem_cons_succ, List.getElem_cons_zero, List.setIfInBounds_toArray, List.set_cons_zero, List.set_cons_succ]
  refine' wpAnyH_take (i := 14) (v := ?vr3_14) rfl (by kernel_rfl) (by kernel_rfl) (by kernel_rfl) (fun _ _ _ h => h) (Or.inl ⟨by rfl, ?hyr3_14⟩) (by assumption) ?restr3_14
  case hyr3_14 => (intro w hSw; (try dsimp only at hSw); go_simp; try (with_reducible rfl))
  simp only [Act.put, List.getElem_toArray, List.getElem_cons_succ, List.getElem_cons_zero, List.setIfInBounds_toArray, List.set_cons_zero, List.set_cons_succ]
  refine' wpAnyH_take (i := 15) (v := ?vr3_15) rfl (by kernel_rfl) (by kernel_rfl) (by kernel_rfl) (fun _ _ _ h => h) (Or.inl ⟨by rfl, ?hyr3_15⟩) (by assumption) ?restr3_15
  case hyr3_15 => (intro w hSw; (try dsimp only at hSw); go_simp; try (with_reducible rfl))
  simp only [Act.put, List.getElem_toArray, List.getElem_cons_succ, List.getElem_cons_zero, List.setIfInBounds_toArray, List.set_cons_zero, List.set_cons_succ]
  refine' wpAnyH_take (i := 16) (v := ?vr3_16) rfl (by kernel_rfl) (by kernel_rfl) (by kernel_rfl) (fun _ _ _ h => h) (Or.inl ⟨by rfl, ?hyr3_16⟩) (by assumption) ?restr3_16
  case hyr3_16 => (intro w hSw; (try dsimp only at hSw); go_simp; try (with_reducible rfl))
  simp only [Act.put, List.getElem_toArray, List.getElem_cons_succ, List.getElem_cons_zero, List.setIfInBounds_toArray, List.set_cons_zero, List.set_cons_succ]
  refine wpAnyH_ready (rs := [17]) (by kernel_rfl) (by simp) ?_
  refine AllReadyH.cons rfl (fun K hK => ?_) AllReadyH.nil
  go_simp
  refine (ends_c HC x t t _ HOK HP1 HP2).mono ?_
  rintro e w5 ⟨rfl, b5⟩
  have HR5 := Lib.hid (HR4.out.below b5 HR4.out.lt)
  have HB5 := Lib.hid (HB4.out.trans (b5.mono HB4.out.size))
  have HL5 := Lib.hid (HL4.out.step b5)
  refine hK.out _ _ ((hHeld.2.2.2.2.2.step b5).mk6) (fun hHeld1 => ?_)
  clear hK K hHeld
  have hHeld := hHeld1
  clear hHeld1
  try simp only [Act.put, List.getElem_toArray, List.getElem_cons_succ, List.getElem_cons_zero, List.setIfInBounds_toArray, List.set_cons_zero, List.set_cons_succ]
  refine' wpAnyH_take (i := 18) (v := ?vr3_18) rfl (by kernel_rfl) (by kernel_rfl) (by kernel_rfl) (fun _ _ _ h => h) (Or.inl ⟨by rfl, ?hyr3_18⟩) (by assumption) ?restr3_18
  case hyr3_18 => (intro w hSw; (try dsimp only at hSw); go_simp; try (with_reducible rfl))
  simp only [Act.put, List.getElem_toArray, List.getElem_cons_succ, List.getElem_cons_zero, List.setIfInBounds_toArray, List.set_cons_zero, List.set_cons_succ]
  refine' wpAnyH_take (i := 19) (v := ?vr3_19) rfl (by kernel_rfl) (by kernel_rfl) (by kernel_rfl) (fun _ _ _ h => h) (Or.inl ⟨by rfl, ?hyr3_19⟩) (by assumption) ?restr3_19
  case hyr3_19 => (intro w hSw; (try dsimp only at hSw); go_simp; try (with_reducible rfl))
  simp only [Act.put, List.getElem_toArray, List.getElem_cons_succ, List.getElem_cons_zero, List.setIfInBounds_toArray, List.set_cons_zero, List.set_cons_succ]
  refine wpAnyH_done (by kernel_rfl) ?_ _
  clear hHeld HR4 HB4 HL4 HR2 HB2 HLW HW3
  cases t
  · have HRZ := Lib.hid HR5.out
    have HBZ := Lib.hid HB5.out
    have c0 := HRZ.out.cell 0
    have c1 := HRZ.out.cell 1
    have c2 := HRZ.out.cell 2
    have f0 := HRZ.out.frozen 0
    have f1 := HRZ.out.frozen 1
    have f2 := HRZ.out.frozen 2
    have hl := HRZ.out.lt
    go_wp2_with fail
    refine bodyPost_ret (v := .tuple #[.agg #[.int .i64 0, .int .i64 0, .int .i64 0], .bool false]) (by simp [results, Tryd.results31, go_sem, c0, c1, c2, hl]) rfl ⟨by rw [← HV.out]; rfl, ?_⟩
    exact ((HBZ.out.setCell (by simp) _).setCell (by simp) _).setCell (by simp) _
  · obtain ⟨⟨q0, q1, q2, q3, q4⟩, hgl, HGB⟩ := HL5.out
    have HGG5 := Lib.hid HGB
    clear HGB HL5
    obtain ⟨X, HXX⟩ : ∃ X, Hid (w5.heap.size = X) := ⟨_, Lib.hid rfl⟩
    obtain ⟨W6, HW6⟩ : ∃ W, Hid (w5.alloc (.cells #[.int .i64 x.frm, .int .i64 x.to_, .int .i64 x.tape, .int .i64 x.comp, .int .i64 x.slope] 59) = W) := ⟨_, Lib.hid rfl⟩
    have HLB := Lib.hid (show LB X G x C W6 by rw [← HW6.out, ← HXX.out]; exact ⟨Blk.new _ _ _, HGG5.out.alloc _⟩)
    have HR6 := Lib.hid (show Blk W6 w.heap.size 35 #[.int .i64 0, .int .i64 0, .int .i64 0] by rw [← HW6.out]; exact HR5.out.alloc _)
    have HB6 := Lib.hid (show Below w.heap.size w W6 by rw [← HW6.out]; exact HB5.out.alloc HB5.out.size _)
    go_upto_region 5 with fail
    try rw [HXX.out]
    try simp only [HXX.out]
    rw [HW6.out]
    clear HW6 HXX HGG5 HR5 HB5 q0 q1 q2 q3 q4 hgl
    obtain ⟨l1, l2, -⟩ := okLg_lim HOK.out
    obtain ⟨a, ha⟩ := Int.eq_ofNat_of_zero_le l1.1
    obtain ⟨b, hb⟩ := Int.eq_ofNat_of_zero_le l2.1
    have ha8 : a < 8 := by omega
    have hb8 : b < 8 := by omega
    clear l1 l2
    obtain ⟨p, HP⟩ : ∃ p, Hid (at_ (netS ts).pl (a : Int) = p) := ⟨_, Lib.hid rfl⟩
    obtain ⟨q, HQ⟩ : ∃ q, Hid (at_ (netS ts).pl (b : Int) = q) := ⟨_, Lib.hid rfl⟩
    obtain ⟨d, HD⟩ : ∃ d, Hid (sub3 q p = d) := ⟨_, Lib.hid rfl⟩
    obtain ⟨h, HH⟩ : ∃ h, Hid (shf x = h) := ⟨_, Lib.hid rfl⟩
    obtain ⟨r, HR⟩ : ∃ r, Hid (sub3 h d = r) := ⟨_, Lib.hid rfl⟩
    have HPB := Lib.hid (show BdS p by rw [← HP.out]; have k := (q6 ts).2.2.2 (a : Int); unfold Bd4 at k; unfold BdS; omega)
    have HQB := Lib.hid (show BdS q by rw [← HQ.out]; have k := (q6 ts).2.2.2 (b : Int); unfold Bd4 at k; unfold BdS; omega)
    have HDB := Lib.hid (show BdS d by rw [← HD.out, ← HP.out, ← HQ.out]; have k := (q6 ts).2.2.2 (a : Int); have j := (q6 ts).2.2.2 (b : Int); unfold Bd4 at k j; unfold BdS sub3; simp only []; omega)
    have HHB := Lib.hid (show BdS h by rw [← HH.out]; exact bd_shf HOK.out)
    have HE := Lib.hid (show errV ts x = r by
      unfold errV
      rw [← HR.out, HH.out, ha, hb, ← HNS.out, HP.out, HQ.out]
      exact (err_eq d h p q HD.out).symm)
    obtain ⟨xf, xt, tp, cp, sl⟩ := x
    simp only [] at ha hb
    subst ha hb
    refine wp_region_held_drew (S := (fun v => v.cell? ⟨X, 0, none⟩ = some (.int .i64 (a : Int)) ∧ v.cell? ⟨X, 1, none⟩ = some (.int .i64 (b : Int)) ∧ v.cell? ⟨X, 2, none⟩ = some (.int .i64 tp) ∧ v.cell? ⟨X, 3, none⟩ = some (.int .i64 cp) ∧ v.cell? ⟨X, 4, none⟩ = some (.int .i64 sl) ∧ LB X G ⟨(a : Int), (b : Int), tp, cp, sl⟩ C v)) (by kernel_rfl) ?_ (fun hHeld => ?_)
    · exact (HLB.out.step (Below.refl _ _).drew).mk6
    refine' wpAnyH_take (i := 0) (v := ?vr4_0) rfl (by kernel_rfl) (by kernel_rfl) (by kernel_rfl) (fun _ _ _ h => h) (Or.inl ⟨by rfl, ?hyr4_0⟩) (by assumption) ?restr4_0
    case hyr4_0 => (intro w hSw; (try dsimp only at hSw); go_simp; try (with_reducible rfl))
    simp only [Act.put, List.getElem_toArray, List.getElem_cons_succ, List.getElem_cons_zero, List.setIfInBounds_toArray, List.set_cons_zero, List.set_cons_succ]
    refine' wpAnyH_take (i := 2) (v := .agg C) rfl (by kernel_rfl) (by kernel_rfl) (by kernel_rfl) (fun _ _ _ h => h) (Or.inl ⟨by rfl, fun v hSv => exec_load rfl rfl hSv.2.2.2.2.2.2 hcz⟩) (by assumption) ?_
    simp only [Act.put, List.getElem_toArray, List.getElem_cons_succ, List.getElem_cons_zero, List.setIfInBounds_toArray, List.set_cons_zero, List.set_cons_succ]
    refine' wpAnyH_take (i := 3) (v := ?vr4_3) rfl (by kernel_rfl) (by kernel_rfl) (by kernel_rfl) (fun _ _ _ h => h) (Or.inl ⟨by rfl, ?hyr4_3⟩) (by assumption) ?restr4_3
    case hyr4_3 => (intro w hSw; (try dsimp only at hSw); go_simp; try (with_reducible rfl))
    simp only [Act.put, List.getElem_toArray, List.getElem_cons_succ, List.getElem_cons_zero, List.setIfInBounds_toArray, List.set_cons_zero, List.set_cons_succ]
    refine' wpAnyH_take (i := 4) (v := ?vr4_4) rfl (by kernel_rfl) (by kernel_rfl) (by kernel_rfl) (fun _ _ _ h => h) (Or.inl ⟨by rfl, ?hyr4_4⟩) (by assumption) ?restr4_4
    case hyr4_4 => (intro w hSw; (try dsimp only at hSw); go_simp; try (with_reducible rfl))
    simp only [Act.put, List.getElem_toArray, List.getElem_cons_succ, List.getElem_cons_zero, List.setIfInBounds_toArray, List.set_cons_zero, List.set_cons_succ]
    refine' wpAnyH_take (i := 5) (v := ?vr4_5) rfl (by kernel_rfl) (by kernel_rfl) (by kernel_rfl) (fun _ _ _ h => h) (Or.inl ⟨by rfl, ?hyr4_5⟩) (by assumption) ?restr4_5
    case hyr4_5 => (intro w hSw; (try dsimp only at hSw); go_simp; try (with_reducible rfl))
    simp only [Act.put, List.getElem_toArray, List.getElem_cons_succ, List.getElem_cons_zero, List.setIfInBounds_toArray, List.set_cons_zero, List.set_cons_succ]
    refine' wpAnyH_take (i := 6) (v := ?vr4_6) rfl (by kernel_rfl) (by kernel_rfl) (by kernel_rfl) (fun _ _ _ h => h) (Or.inl ⟨by rfl, ?hyr4_6⟩) (by assumption) ?restr4_6
    case hyr4_6 => (intro w hSw; (try dsimp only at hSw); go_simp; try (with_reducible rfl))
    simp only [Act.put, List.getElem_toArray, List.getElem_cons_succ, List.getElem_cons_zero, List.setIfInBounds_toArray, List.set_cons_zero, List.set_cons_succ]
    refine wpAnyH_ready (rs := [1]) (by kernel_rfl) (by simp) ?_
    refine AllReadyH.cons rfl (fun K hK => ?_) AllReadyH.nil
    go_simp
    refine (along_is ⟨(a : Int), (b : Int), tp, cp, sl⟩ h HH _ HOK (Lib.hid (hT.out.below HB6.out.drew))).mono ?_
    rintro e w7 ⟨rfl, b7⟩
    have HR7 := Lib.hid (HR6.out.drew.below b7 HR6.out.lt)
    have HB7 := Lib.hid (HB6.out.drew.trans (b7.mono HB6.out.size))
    refine hK.out _ _ ((hHeld.2.2.2.2.2.step b7).mk6) (fun hHeld1 => ?_)
    clear hK K hHeld
    have hHeld := hHeld1
    clear hHeld1
    try simp only [Act.put, List.getElem_toArray, List.getElem_cons_succ, List.getElem_cons_zero, List.setIfInBounds_toArray, List.set_cons_zero, List.set_cons_succ]
    refine wpAnyH_ready (rs := [7]) (by kernel_rfl) (by simp) ?_
    refine AllReadyH.cons rfl (fun K hK => ?_) AllReadyH.nil
    go_simp
    refine (between_c HC a b p q d _ (Lib.hid (nok_S ts)) ha8 hb8 HP HQ HD HPB HQB).mono ?_
    rintro e w8 ⟨rfl, b8⟩
    have HR8 := Lib.hid (HR7.out.below b8 HR7.out.lt)
    have HB8 := Lib.hid (HB7.out.trans (b8.mono HB7.out.size))
    refine hK.out _ _ ((hHeld.2.2.2.2.2.step b8).mk6) (fun hHeld1 => ?_)
    clear hK K hHeld
    have hHeld := hHeld1
    clear hHeld1
    try simp only [Act.put, List.getElem_toArray, List.getElem_cons_succ, List.getElem_cons_zero, List.setIfInBounds_toArray, List.set_cons_zero, List.set_cons_succ]
    refine wpAnyH_ready (rs := [8]) (by kernel_rfl) (by simp) ?_
    refine AllReadyH.cons rfl (fun K hK => ?_) AllReadyH.nil
    go_simp
    refine (diff_q h d r HR _ HHB HDB).mono ?_
    rintro e w9 ⟨rfl, b9⟩
    have HR9 := Lib.hid (HR8.out.below b9 HR8.out.lt)
    have HB9 := Lib.hid (HB8.out.trans (b9.mono HB8.out.size))
    have HL9 := Lib.hid (hHeld.2.2.2.2.2.step b9)
    refine hK.out _ _ ((hHeld.2.2.2.2.2.step b9).mk6) (fun hHeld1 => ?_)
    clear hK K hHeld
    have hHeld := hHeld1
    clear hHeld1
    try simp only [Act.put, List.getElem_toArray, List.getElem_cons_succ, List.getElem_cons_zero, List.setIfInBounds_toArray, List.set_cons_zero, List.set_cons_succ]
    clear HR6 HB6 HR7 HB7 HR8 HB8
    have c0 := HR9.out.cell 0
    have c1 := HR9.out.cell 1
    have c2 := HR9.out.cell 2
    have f0 := HR9.out.frozen 0
    have f1 := HR9.out.frozen 1
    have f2 := HR9.out.frozen 2
    have hl := HR9.out.lt
    have hn1 := Blk.ne_ HL9.out.1 HR9.out (by decide)
    have hn2 := Blk.ne_ HL9.out.2 HR9.out (by decide)
    refine wpAnyH_ready (rs := [9]) (by kernel_rfl) (by simp) ?_
    refine AllReadyH.cons rfl (fun K hK => ?_) AllReadyH.nil
    go_simp
    refine hK.out _ _ ((show LB X G ⟨(a : Int), (b : Int), tp, cp, sl⟩ C _ from ⟨((HL9.out.1.far hn1 _).far hn1 _).far hn1 _, ((HL9.out.2.far hn2 _).far hn2 _).far hn2 _⟩).mk6) (fun hHeld1 => ?_)
    clear hK K hHeld
    have hHeld := hHeld1
    clear hHeld1
    try simp only [Act.put, List.getElem_toArray, List.getElem_cons_succ, List.getElem_cons_zero, List.setIfInBounds_toArray, List.set_cons_zero, List.set_cons_succ]
    refine' wpAnyH_take (i := 10) (v := ?vr4_10) rfl (by kernel_rfl) (by kernel_rfl) (by kernel_rfl) (fun _ _ _ h => h) (Or.inl ⟨by rfl, ?hyr4_10⟩) (by assumption) ?restr4_10
    case hyr4_10 => (intro w hSw; (try dsimp only at hSw); go_simp; try (with_reducible rfl))
    simp only [Act.put, List.getElem_toArray, List.getElem_cons_succ, List.getElem_cons_zero, List.setIfInBounds_toArray, List.set_cons_zero, List.set_cons_succ]
    refine wpAnyH_done (by kernel_rfl) ?_ _
    clear hHeld
    go_wp2_with fail
    refine bodyPost_ret (v := .tuple #[.agg #[.int .i64 r.east, .int .i64 r.north, .int .i64 r.up], .bool true]) (by simp [results, Tryd.results31, go_sem, c0, c1, c2, hl]) rfl ⟨by rw [← HV.out, HE.out]; rfl, ?_⟩
    exact ((HB9.out.setCell (by simp) _).setCell (by simp) _).setCell (by simp) _
end Go.Proofs.YtnoieboiklmkaaaDoor.nq
