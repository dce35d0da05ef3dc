/-
  The program: fitting stations.
  Conditions: the passages lie in one block, at most 2000000 of them.
-/
import Derived.Test.YtnpghhpcloljeaaPwH
import Derived.BigQuiet
import Derived.Deep.QuietTactic
import Derived.Deep.Cut
import Derived.Deep.DeepCutAuto
import Derived.RegionTactic
import Derived.Deep.RegionWith
import Derived.OwnWalk
import Derived.Deep.RegionHeld3
namespace Go.Proofs.Ytnpghhpcloljeaa.pw
open Go.RowKit
open reads base ty rowi win lg lgi
set_option linter.unusedVariables false
set_option linter.unusedSimpArgs false

/-- and a passage in a box -/
def IX (w : World) (A : Option Addr) (m c : Nat) (xs : List Int) (X : Nat) (x : Pg) (v : World) : Prop := IR w A m c xs v ∧ Blk v X 53 #[.int .i64 x.st, .int .i64 x.lf, .int .i64 x.rt, .int .i64 x.ab, .int .i64 x.be]
theorem IX.step {w v v' : World} {A : Option Addr} {m c : Nat} {xs : List Int} {X : Nat} {x : Pg} (h : IX w A m c xs X x v) (hb : Below v.heap.size v v') : IX w A m c xs X x v' := ⟨h.1.step hb, h.2.below hb h.2.lt⟩
set_option maxHeartbeats 8000000 in
set_option maxRecDepth 100000 in
theorem fitting_impl (A : Option Addr) (n cap : Nat) (ts : List Pg) (a h : Int) (w : World) (hn : n ≤ 2000000) (hts : Hid (PgAt w w.heap.size A n ts)) :
    Calls Try.prog 27 #[.slice A n cap, .int .i64 a, .int .i64 h] w (LPost (ftV a h ts) (ftOk a h ts) w) := by
  obtain ⟨i0, hi, hz0, hz1, hz2⟩ := info_parts infoI
  have hL : Hid (ts.length = n) := Lib.hid hts.out.1
  obtain ⟨G, HG⟩ : ∃ G, Hid (goodPg ts = G) := ⟨_, Lib.hid rfl⟩
  obtain ⟨t0, h0⟩ : ∃ t, decide (a < 1) = t := ⟨_, rfl⟩
  obtain ⟨t1, h1⟩ : ∃ t, decide (h < 1) = t := ⟨_, rfl⟩
  have HA := Lib.hid (show ftOk a h ts = (G && !t0 && !t1) by unfold ftOk; rw [HG.out, h0, h1])
  go_enter Try.func27, Try.ntmps27
  go_wp2_with fail
  refine (arePassages_is A n cap ts G HG _ hn hts).mono ?_
  rintro e w1 ⟨rfl, b1⟩
  have HB1 := Lib.hid b1
  clear b1
  cases G
  case false =>
    have HX := Lib.hid (show ftV a h ts = [] by unfold ftV; rw [HA.out]; rfl)
    go_wp2_with fail
    go_ret2
    exact ⟨_, by rw [HA.out]; rfl, by rw [HX.out]; exact made1 w w1 HB1.out.size 3 1, HB1.out.alloc HB1.out.size _⟩
  cases t0
  case true =>
    have HX := Lib.hid (show ftV a h ts = [] by unfold ftV; rw [HA.out]; rfl)
    go_wp2_with fail
    go_ret2
    exact ⟨_, by rw [HA.out]; rfl, by rw [HX.out]; exact made1 w w1 HB1.out.size 3 1, HB1.out.alloc HB1.out.size _⟩
  cases t1
  case true =>
    have HX := Lib.hid (show ftV a h ts = [] by unfold ftV; rw [HA.out]; rfl)
    go_wp2_with fail
    go_ret2
    exact ⟨_, by rw [HA.out]; rfl, by rw [HX.out]; exact made1 w w1 HB1.out.size 3 1, HB1.out.alloc HB1.out.size _⟩
  have hn8 : n ≤ 8 := by rw [← hL.out]; exact good_len HG.out
  have HX := Lib.hid (show ftV a h ts = fitK a h ts n by unfold ftV; rw [HA.out, hL.out]; rfl)
  have HN1 := Lib.hid (IR.mk0 HB1.out)
  go_wp2_with fail
  go_loopw [8, 26] (fun v i wr => ∃ (k m c2 : Nat) (A2 : Option Addr) (xs : List Int), k ≤ n ∧ i = .int .i64 (k : Nat) ∧ v = .slice A2 m c2 ∧ m ≤ k ∧ Hid (fitK a h ts k = xs) ∧ IR w A2 m c2 xs wr) (fun _ i _ => n - (intOf i).toNat)
  case atStart => exact ⟨0, 0, 0, _, [], Nat.zero_le _, rfl, rfl, Nat.le_refl _, Lib.hid rfl, HN1.out⟩
  case round =>
    clear HN1
    obtain ⟨k, m, c2, A2, xs, hk, rfl, rfl, hmk, HXS, hN⟩ := hrel
    have HN := Lib.hid hN
    clear hN
    have hk0 : (0 : Int) ≤ (k : Int) := by omega
    by_cases hlt : k < n
    · have hki : (k : Int) < (n : Int) := by omega
      have hkd : decide (k < n) = true := by simpa using hlt
      obtain ⟨x, hx⟩ := at_lt hL.out hlt
      obtain ⟨g, rfl, hg, c0, c1, c2', c3, c4⟩ := (hts.out.below HN.out.1).2 k x hx
      have HO := Lib.hid (good_at HG.out hx)
      obtain ⟨-, ⟨p0, p1⟩, ⟨p2, p3⟩, ⟨p4, p5⟩, p6, p7⟩ := okPg_lim HO.out
      obtain ⟨u0, hu0⟩ : ∃ t, decide (a ≤ x.lf + x.rt) = t := ⟨_, rfl⟩
      obtain ⟨u1, hu1⟩ : ∃ t, decide (h ≤ x.ab + x.be) = t := ⟨_, rfl⟩
      have HF := Lib.hid (show fits a h x = (u0 && u1) by unfold fits; rw [hu0, hu1])
      have HK := Lib.hid hx
      clear hx
      go_upto_region 7 with fail
      obtain ⟨V, HVV⟩ : ∃ V, Hid (wr.alloc (.cells #[.int .i64 x.st, .int .i64 x.lf, .int .i64 x.rt, .int .i64 x.ab, .int .i64 x.be] 53) = V) := ⟨_, Lib.hid rfl⟩
      obtain ⟨X, HXX⟩ : ∃ X, Hid (wr.heap.size = X) := ⟨_, Lib.hid rfl⟩
      have HI1 := Lib.hid (show IX w A2 m c2 xs X x V by rw [← HVV.out, ← HXX.out]; exact ⟨HN.out.step ((Below.refl _ _).alloc (Nat.le_refl _) _), Blk.new _ _ _⟩)
      rw [HVV.out]
      try simp only [HXX.out]
      clear HVV HXX c0 c1 c2' c3 c4 HN
      have d0 := HI1.out.2.cell 0
      have d1 := HI1.out.2.cell 1
      have d2 := HI1.out.2.cell 2
      have d3 := HI1.out.2.cell 3
      have d4 := HI1.out.2.cell 4
      have hxl := HI1.out.2.lt
      simp at d0 d1 d2 d3 d4
      go_wp2_with fail
      refine (width_any x _ HO).mono ?_
      rintro e w8 ⟨rfl, b8⟩
      have HI2 := Lib.hid (HI1.out.step b8)
      clear b8 HI1 d0 d1 d2 d3 d4 hxl
      cases u0
      · have HE := Lib.hid (fitK_no HK.out (show fits a h x = false by rw [HF.out]; rfl))
        go_wp2_with fail
        go_roundw
        case rel => exact ⟨k + 1, m, c2, A2, xs, by omega, by go_num, rfl, by omega, Lib.hid (by rw [HE.out]; exact HXS.out), HI2.out.1⟩
        case measure => simp [intOf]; omega
      have d0 := HI2.out.2.cell 0
      have d1 := HI2.out.2.cell 1
      have d2 := HI2.out.2.cell 2
      have d3 := HI2.out.2.cell 3
      have d4 := HI2.out.2.cell 4
      have hxl := HI2.out.2.lt
      simp at d0 d1 d2 d3 d4
      go_wp2_with fail
      refine (height_any x _ HO).mono ?_
      rintro e w9 ⟨rfl, b9⟩
      have HI3 := Lib.hid (HI2.out.step b9)
      clear b9 HI2 d0 d1 d2 d3 d4 hxl
      cases u1
      · have HE := Lib.hid (fitK_no HK.out (show fits a h x = false by rw [HF.out]; rfl))
        go_wp2_with fail
        go_roundw
        case rel => exact ⟨k + 1, m, c2, A2, xs, by omega, by go_num, rfl, by omega, Lib.hid (by rw [HE.out]; exact HXS.out), HI3.out.1⟩
        case measure => simp [intOf]; omega
      · have HE := Lib.hid (fitK_yes HK.out (show fits a h x = true by rw [HF.out]; rfl))
        have hsz := HI3.out.1.1.size
        have d0 := HI3.out.2.cell 0
        have hxl := HI3.out.2.lt
        simp at d0
        go_wp2_with (at_builtin; refine wpList_append_own _ rfl _ _ 41 rfl w.heap.size 3 i0 (.int .i64 0) 1 8 Try.underlying41 hi hz0 hz1 hz2 rfl (by decide) _ _ _ rfl (HI3.out.1.2.1.alloc _) ⟨_, 0, none⟩ 1 1 [.int .i64 x.st] rfl rfl (World.news_of_block (alloc_at rfl)) (by simp [Value.oneCell']) (by unfold maxLen; omega) (by omega) (by simp; omega) ?_; intro v' w9 hown' hgrow _; obtain ⟨A9, c9, rfl⟩ := row_slice hown')
        go_roundw
        case rel => exact ⟨k + 1, m + 1, c9, A9, xs ++ [x.st], by omega, by go_num, rfl, by omega, Lib.hid (by rw [HE.out, HXS.out]), (HI3.out.1.1.alloc hsz _).grown hgrow (by simp; omega) (fun q eq => (HI3.out.1.2.1.lt q eq).1), by rw [intsV_app]; exact hown', by rw [List.length_append, HI3.out.1.2.2]; rfl⟩
        case measure => simp [intOf]; omega
    · have hkd : decide (k < n) = false := by simpa using hlt
      obtain rfl : k = n := by omega
      have HE := Lib.hid (show ftV a h ts = xs by rw [HX.out, HXS.out])
      go_wp2_with fail
      go_ret2
      exact ⟨_, by rw [HA.out]; rfl, by rw [HE.out, HN.out.2.2]; exact HN.out.2.1, HN.out.1⟩
end Go.Proofs.Ytnpghhpcloljeaa.pw
