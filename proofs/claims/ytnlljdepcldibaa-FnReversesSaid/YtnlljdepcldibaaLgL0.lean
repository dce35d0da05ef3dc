/-
  The program's test whether two legs agree.
  Conditions: none but those that a theorem names.
-/
import Derived.Test.YtnlljdepcldibaaLgC0
import Derived.Test.YtnlljdepcldibaaLgK0
import Derived.Test.YtnlljdepcldibaaTurnI0
import Derived.Deep.DeepCutAuto
import Derived.Deep.RegionWith
import Derived.Deep.QuietTactic
import Derived.BigQuiet
namespace Go.Proofs.Ytnlljdepcldibaa.lgi
open Go.RowKit
open reads base ty win mst lg
set_option linter.unusedVariables false
set_option linter.unusedSimpArgs false

theorem b2_mk {w v : World} {a y : Lg} (h : B2 w a y v) : v.cell? ⟨w.heap.size, 0, none⟩ = some (.int .i64 a.frm) ∧ v.cell? ⟨w.heap.size, 1, none⟩ = some (.int .i64 a.to_) ∧ v.cell? ⟨w.heap.size, 2, none⟩ = some (.int .i64 a.tape) ∧ v.cell? ⟨w.heap.size, 3, none⟩ = some (.int .i64 a.comp) ∧ v.cell? ⟨w.heap.size, 4, none⟩ = some (.int .i64 a.slope) ∧ v.cell? ⟨w.heap.size + 1, 0, none⟩ = some (.int .i64 y.frm) ∧ v.cell? ⟨w.heap.size + 1, 1, none⟩ = some (.int .i64 y.to_) ∧ v.cell? ⟨w.heap.size + 1, 2, none⟩ = some (.int .i64 y.tape) ∧ v.cell? ⟨w.heap.size + 1, 3, none⟩ = some (.int .i64 y.comp) ∧ v.cell? ⟨w.heap.size + 1, 4, none⟩ = some (.int .i64 y.slope) ∧ B2 w a y v :=
  ⟨h.1.cell 0, h.1.cell 1, h.1.cell 2, h.1.cell 3, h.1.cell 4, h.2.1.cell 0, h.2.1.cell 1, h.2.1.cell 2, h.2.1.cell 3, h.2.1.cell 4, h⟩
theorem B2.drew {w v : World} {a y : Lg} (h : lg.B2 w a y v) : lg.B2 w a y v.drew := h.step (drewN_below v 1)
theorem B2.alloc {w v : World} {a y : Lg} (h : lg.B2 w a y v) (o : Obj) : lg.B2 w a y (v.alloc o) := h.step ((Below.refl _ _).alloc (Nat.le_refl _) o)
theorem turn_bd (a b : Int) : 0 ≤ tn.turn a b := by unfold tn.turn; split <;> omega
theorem within_d {d tt s1 : Int} (t0 : 0 ≤ tt) (s0 : 0 ≤ s1) : allIn 0 d [tt, s1] = (decide (tt ≤ d) && decide (s1 ≤ d)) := by simp [allIn, btw, t0, s0]
set_option maxHeartbeats 4000000 in
set_option maxRecDepth 100000 in
theorem doAgree_impl (a b : Lg) (d q : Int) (w : World) : Calls Try.prog 61 #[.agg #[.int .i64 a.frm, .int .i64 a.to_, .int .i64 a.tape, .int .i64 a.comp, .int .i64 a.slope], .agg #[.int .i64 b.frm, .int .i64 b.to_, .int .i64 b.tape, .int .i64 b.comp, .int .i64 b.slope], .int .i64 d, .int .i64 q] w (APost (ansAgree a b d q) w) := by
  have HS0 := Lib.hid (B2.start w a b)
  by_cases hok : agOk a b d q = true
  · have hparts : okLg a = true ∧ okLg b = true ∧ 0 ≤ d ∧ 0 ≤ q := by
      simp only [agOk, Bool.and_eq_true, decide_eq_true_eq] at hok
      exact ⟨hok.1.1.1, hok.1.1.2, hok.1.2, hok.2⟩
    obtain ⟨ka, kb, kd, kq⟩ := hparts
    obtain ⟨⟨a0, a1⟩, ⟨a2, a3⟩, -, ⟨a4, a5⟩, ⟨a6, a7⟩, a8, a9⟩ := okLg_lim ka
    obtain ⟨⟨b0, b1⟩, ⟨b2, b3⟩, -, ⟨b4, b5⟩, ⟨b6, b7⟩, b8, b9⟩ := okLg_lim kb
    have HKA := Lib.hid ka
    have HKB := Lib.hid kb
    have HOK := Lib.hid hok
    obtain ⟨y, hy⟩ : ∃ y, aim a b = y := ⟨_, rfl⟩
    have ky := aim_ok (a := a) kb
    rw [hy] at ky
    have HKY := Lib.hid ky
    have HY := Lib.hid hy
    obtain ⟨ra, hra⟩ : ∃ r, revLg a = r := ⟨_, rfl⟩
    have HRA := Lib.hid hra
    obtain ⟨rv, hrv⟩ : ∃ rv, (b.frm == ra.frm && b.to_ == ra.to_) = rv := ⟨_, rfl⟩
    have HRD := Lib.hid (show decide (a.frm = b.to_ ∧ a.to_ = b.frm) = rv by rw [← hrv, ← hra, revLg, Bool.eq_iff_iff]; simp; omega)
    have HRV := Lib.hid hrv
    clear ka kb hok hy ky hra hrv
    have d0 : decide (d < 0) = false := by simp; omega
    have q0 : decide (q < 0) = false := by simp; omega
    go_enter Try.func61, Try.ntmps61
    go_wp2_with fail
    refine (isLeg_is a true HKA _).mono ?_
    rintro e w1 ⟨rfl, bb⟩
    have HS1 := Lib.hid (HS0.out.step bb)
    clear bb HS0
    obtain ⟨y0, y1, y2, y3, y4⟩ := HS1.out.cb
    go_wp2_with fail
    refine (isLeg_is b true HKB _).mono ?_
    rintro e w2 ⟨rfl, bb⟩
    have HS2 := Lib.hid (HS1.out.step bb)
    clear bb HS1 y0 y1 y2 y3 y4
    go_wp2_with fail
    refine wp_region_held_drew (S := (fun v => v.cell? ⟨w.heap.size, 0, none⟩ = some (.int .i64 a.frm) ∧ v.cell? ⟨w.heap.size, 1, none⟩ = some (.int .i64 a.to_) ∧ v.cell? ⟨w.heap.size, 2, none⟩ = some (.int .i64 a.tape) ∧ v.cell? ⟨w.heap.size, 3, none⟩ = some (.int .i64 a.comp) ∧ v.cell? ⟨w.heap.size, 4, none⟩ = some (.int .i64 a.slope) ∧ v.cell? ⟨w.heap.size + 1, 0, none⟩ = some (.int .i64 b.frm) ∧ v.cell? ⟨w.heap.size + 1, 1, none⟩ = some (.int .i64 b.to_) ∧ v.cell? ⟨w.heap.size + 1, 2, none⟩ = some (.int .i64 b.tape) ∧ v.cell? ⟨w.heap.size + 1, 3, none⟩ = some (.int .i64 b.comp) ∧ v.cell? ⟨w.heap.size + 1, 4, none⟩ = some (.int .i64 b.slope) ∧ B2 w a b v)) (by kernel_rfl) ?_ (fun hHeld => ?_)
    · exact b2_mk (B2.drew HS2.out)
    refine' wpAnyH_take (i := 0) (v := ?vr1_0) rfl (by kernel_rfl) (by kernel_rfl) (by kernel_rfl) (fun _ _ _ h => h) (Or.inl ⟨by rfl, ?hyr1_0⟩) (by assumption) ?restr1_0
    case hyr1_0 => (intro w hSw; (try dsimp only at hSw); go_simp; try (with_reducible rfl))
    simp only [Act.put, List.getElem_toArray, List.getElem_cons_succ, List.getElem_cons_zero, List.setIfInBounds_toArray, List.set_cons_zero, List.set_cons_succ]
    refine' wpAnyH_take (i := 2) (v := ?vr1_2) rfl (by kernel_rfl) (by kernel_rfl) (by kernel_rfl) (fun _ _ _ h => h) (Or.inl ⟨by rfl, ?hyr1_2⟩) (by assumption) ?restr1_2
    case hyr1_2 => (intro w hSw; (try dsimp only at hSw); go_simp; try (with_reducible rfl))
    simp only [Act.put, List.getElem_toArray, List.getElem_cons_succ, List.getElem_cons_zero, List.setIfInBounds_toArray, List.set_cons_zero, List.set_cons_succ]
    refine wpAnyH_ready (rs := [1]) (by kernel_rfl) (by simp) ?_
    refine AllReadyH.cons rfl (fun K hK => ?_) AllReadyH.nil
    go_simp
    refine (ends_is b _).mono ?_
    rintro e v1 ⟨rfl, bb⟩
    refine hK.out _ _ (b2_mk (hHeld.2.2.2.2.2.2.2.2.2.2.step bb)) (fun hHeld1 => ?_)
    clear hK K hHeld
    have hHeld := hHeld1
    clear hHeld1
    try simp only [Act.put, List.getElem_toArray, List.getElem_cons_succ, List.getElem_cons_zero, List.setIfInBounds_toArray, List.set_cons_zero, List.set_cons_succ]
    refine wpAnyH_ready (rs := [3]) (by kernel_rfl) (by simp) ?_
    refine AllReadyH.cons rfl (fun K hK => ?_) AllReadyH.nil
    go_simp
    refine (rev_is a ra HRA _ a6 (by omega) (by omega) (by omega)).mono ?_
    rintro e v2 ⟨rfl, bb⟩
    refine hK.out _ _ (b2_mk (hHeld.2.2.2.2.2.2.2.2.2.2.step bb)) (fun hHeld1 => ?_)
    clear hK K hHeld
    have hHeld := hHeld1
    clear hHeld1
    try simp only [Act.put, List.getElem_toArray, List.getElem_cons_succ, List.getElem_cons_zero, List.setIfInBounds_toArray, List.set_cons_zero, List.set_cons_succ]
    refine wpAnyH_ready (rs := [4]) (by kernel_rfl) (by simp) ?_
    refine AllReadyH.cons rfl (fun K hK => ?_) AllReadyH.nil
    go_simp
    refine (ends_is ra _).mono ?_
    rintro e v3 ⟨rfl, bb⟩
    refine hK.out _ _ (b2_mk (hHeld.2.2.2.2.2.2.2.2.2.2.step bb)) (fun hHeld1 => ?_)
    clear hK K hHeld
    have hHeld := hHeld1
    clear hHeld1
    try simp only [Act.put, List.getElem_toArray, List.getElem_cons_succ, List.getElem_cons_zero, List.setIfInBounds_toArray, List.set_cons_zero, List.set_cons_succ]
    refine' wpAnyH_take (i := 5) (v := .bool rv) rfl (by kernel_rfl) (by kernel_rfl) (by kernel_rfl) (fun _ _ _ h => h) (Or.inl ⟨by rfl, ?hyea⟩) (by assumption) ?restea
    case hyea =>
      intro w hSw
      rw [← HRV.out]
      (try dsimp only at hSw)
      go_simp
      by_cases p : b.frm = ra.frm <;> by_cases p2 : b.to_ = ra.to_ <;> simp [p, p2]
    simp only [Act.put, List.getElem_toArray, List.getElem_cons_succ, List.getElem_cons_zero, List.setIfInBounds_toArray, List.set_cons_zero, List.set_cons_succ]
    refine wpAnyH_done (by kernel_rfl) ?_ _
    have HS3 := Lib.hid hHeld.2.2.2.2.2.2.2.2.2.2
    have hlt3 := HS3.out.2.1.lt
    clear hHeld HS2 d0 q0
    obtain ⟨y0, y1, y2, y3, y4⟩ := HS3.out.cb
    obtain ⟨f0, f1, f2, f3, f4⟩ := HS3.out.fb
    go_upto_if 34 with fail
    go_cut [35] (fun _ wx => B2 w a y wx)
    case first =>
      as_aux_lemma =>
        cases rv
        · have hyb : b = y := by have hc := HRD.out; simp only [decide_eq_false_iff_not] at hc; rw [← HY.out]; unfold aim; rw [if_neg hc]
          have HYB := Lib.hid hyb
          clear hyb
          go_wp2_with fail
          go_meet
          case rel => exact HYB.out ▸ HS3.out
        · have HR := Lib.hid (show revLg b = y by have hc := HRD.out; simp only [decide_eq_true_eq] at hc; rw [← HY.out]; unfold aim; rw [if_pos hc])
          go_wp2_with fail
          refine (rev_is b y HR _ b6 (by omega) (by omega) (by omega)).mono ?_
          rintro e w4 ⟨rfl, bb⟩
          have HS4 := Lib.hid (HS3.out.step bb)
          clear bb HS3 y0 y1 y2 y3 y4 f0 f1 f2 f3 f4
          obtain ⟨y0, y1, y2, y3, y4⟩ := HS4.out.cb
          obtain ⟨f0, f1, f2, f3, f4⟩ := HS4.out.fb
          go_wp2_with fail
          go_meet
          case rel => exact HS4.out.put y
    case rest =>
      as_aux_lemma =>
        have HS4 := Lib.hid hcut
        have hlt4 := hcut.2.1.lt
        clear hcut HS3 y0 y1 y2 y3 y4 f0 f1 f2 f3 f4 hlt3
        obtain ⟨nv, hnv⟩ : ∃ nv, (!(a.frm == y.frm && a.to_ == y.to_)) = nv := ⟨_, rfl⟩
        have HNV := Lib.hid hnv
        clear hnv
        go_wp2_with fail
        refine wp_region_held_drew (S := (fun v => v.cell? ⟨w.heap.size, 0, none⟩ = some (.int .i64 a.frm) ∧ v.cell? ⟨w.heap.size, 1, none⟩ = some (.int .i64 a.to_) ∧ v.cell? ⟨w.heap.size, 2, none⟩ = some (.int .i64 a.tape) ∧ v.cell? ⟨w.heap.size, 3, none⟩ = some (.int .i64 a.comp) ∧ v.cell? ⟨w.heap.size, 4, none⟩ = some (.int .i64 a.slope) ∧ v.cell? ⟨w.heap.size + 1, 0, none⟩ = some (.int .i64 y.frm) ∧ v.cell? ⟨w.heap.size + 1, 1, none⟩ = some (.int .i64 y.to_) ∧ v.cell? ⟨w.heap.size + 1, 2, none⟩ = some (.int .i64 y.tape) ∧ v.cell? ⟨w.heap.size + 1, 3, none⟩ = some (.int .i64 y.comp) ∧ v.cell? ⟨w.heap.size + 1, 4, none⟩ = some (.int .i64 y.slope) ∧ B2 w a y v)) (by kernel_rfl) ?_ (fun hHeld => ?_)
        · exact b2_mk (B2.drew HS4.out)
        refine' wpAnyH_take (i := 0) (v := ?vr2_0) rfl (by kernel_rfl) (by kernel_rfl) (by kernel_rfl) (fun _ _ _ h => h) (Or.inl ⟨by rfl, ?hyr2_0⟩) (by assumption) ?restr2_0
        case hyr2_0 => (intro w hSw; (try dsimp only at hSw); go_simp; try (with_reducible rfl))
        simp only [Act.put, List.getElem_toArray, List.getElem_cons_succ, List.getElem_cons_zero, List.setIfInBounds_toArray, List.set_cons_zero, List.set_cons_succ]
        refine' wpAnyH_take (i := 2) (v := ?vr2_2) rfl (by kernel_rfl) (by kernel_rfl) (by kernel_rfl) (fun _ _ _ h => h) (Or.inl ⟨by rfl, ?hyr2_2⟩) (by assumption) ?restr2_2
        case hyr2_2 => (intro w hSw; (try dsimp only at hSw); go_simp; try (with_reducible rfl))
        simp only [Act.put, List.getElem_toArray, List.getElem_cons_succ, List.getElem_cons_zero, List.setIfInBounds_toArray, List.set_cons_zero, List.set_cons_succ]
        refine wpAnyH_ready (rs := [1]) (by kernel_rfl) (by simp) ?_
        refine AllReadyH.cons rfl (fun K hK => ?_) AllReadyH.nil
        go_simp
        refine (ends_is a _).mono ?_
        rintro e v1 ⟨rfl, bb⟩
        refine hK.out _ _ (b2_mk (hHeld.2.2.2.2.2.2.2.2.2.2.step bb)) (fun hHeld1 => ?_)
        clear hK K hHeld
        have hHeld := hHeld1
        clear hHeld1
        try simp only [Act.put, List.getElem_toArray, List.getElem_cons_succ, List.getElem_cons_zero, List.setIfInBounds_toArray, List.set_cons_zero, List.set_cons_succ]
        refine wpAnyH_ready (rs := [3]) (by kernel_rfl) (by simp) ?_
        refine AllReadyH.cons rfl (fun K hK => ?_) AllReadyH.nil
        go_simp
        refine (ends_is y _).mono ?_
        rintro e v2 ⟨rfl, bb⟩
        refine hK.out _ _ (b2_mk (hHeld.2.2.2.2.2.2.2.2.2.2.step bb)) (fun hHeld1 => ?_)
        clear hK K hHeld
        have hHeld := hHeld1
        clear hHeld1
        try simp only [Act.put, List.getElem_toArray, List.getElem_cons_succ, List.getElem_cons_zero, List.setIfInBounds_toArray, List.set_cons_zero, List.set_cons_succ]
        refine' wpAnyH_take (i := 4) (v := .bool nv) rfl (by kernel_rfl) (by kernel_rfl) (by kernel_rfl) (fun _ _ _ h => h) (Or.inl ⟨by rfl, ?hyeb⟩) (by assumption) ?resteb
        case hyeb =>
          intro w hSw
          rw [← HNV.out]
          (try dsimp only at hSw)
          go_simp
          by_cases p : a.frm = y.frm <;> by_cases p2 : a.to_ = y.to_ <;> simp [p, p2]
        simp only [Act.put, List.getElem_toArray, List.getElem_cons_succ, List.getElem_cons_zero, List.setIfInBounds_toArray, List.set_cons_zero, List.set_cons_succ]
        refine wpAnyH_done (by kernel_rfl) ?_ _
        have HS5 := Lib.hid hHeld.2.2.2.2.2.2.2.2.2.2
        have hlt5 := HS5.out.2.1.lt
        clear hHeld HS4 hlt4
        obtain ⟨y0, y1, y2, y3, y4⟩ := HS5.out.cb
        obtain ⟨x0, x1, x2, x3, x4⟩ := HS5.out.ca
        obtain ⟨-, -, -, ⟨c4, c5⟩, ⟨c6, c7⟩, c8, c9⟩ := okLg_lim HKY.out
        by_cases hm : a.frm = y.frm ∧ a.to_ = y.to_
        · have HA := Lib.hid (show ansAgree a b d q = .tuple #[.bool (near a y d q), .bool true] by unfold ansAgree; rw [HY.out, if_pos ⟨HOK.out, hm⟩])
          obtain rfl : nv = false := by rw [← HNV.out]; simp [hm.1, hm.2]
          obtain ⟨tt, HT⟩ : ∃ tt, Hid (tn.turn a.comp y.comp = tt) := ⟨_, Lib.hid rfl⟩
          have HTA := Lib.hid (show tn.ansTurn a.comp y.comp = .tuple #[.int .i64 tt, .bool true] by unfold tn.ansTurn; rw [if_pos ⟨⟨a6, a7⟩, c6, c7⟩, HT.out])
          have tb := turn_bd a.comp y.comp
          rw [HT.out] at tb
          obtain ⟨s1, HS⟩ : ∃ s, Hid (mx (a.slope - y.slope) (y.slope - a.slope) = s) := ⟨_, Lib.hid rfl⟩
          obtain ⟨s2, HU⟩ : ∃ s, Hid (mx (a.tape - y.tape) (y.tape - a.tape) = s) := ⟨_, Lib.hid rfl⟩
          have sb := (mx_abs a.slope y.slope).1
          rw [HS.out] at sb
          have HN := Lib.hid (show near a y d q = (decide (tt ≤ d) && decide (s1 ≤ d) && decide (s2 ≤ q)) by unfold near; rw [HT.out, HS.out, HU.out])
          obtain ⟨z1, hz1⟩ : ∃ z, (decide (tt ≤ d) && decide (s1 ≤ d)) = z := ⟨_, rfl⟩
          have HW := Lib.hid (show allIn 0 d [tt, s1] = z1 by rw [within_d tb sb, hz1])
          have HZ := Lib.hid hz1
          clear hm hz1
          go_wp2_with fail
          refine (turn_impl a.comp y.comp _).mono ?_
          rintro e w5 ⟨rfl, bb⟩
          rw [HTA.out]
          have HS6 := Lib.hid (HS5.out.step bb)
          clear bb HS5 y0 y1 y2 y3 y4 x0 x1 x2 x3 x4
          obtain ⟨y0, y1, y2, y3, y4⟩ := HS6.out.cb
          obtain ⟨x0, x1, x2, x3, x4⟩ := HS6.out.ca
          go_wp2_with fail
          refine (dist_is _ _ s1 HS _ (by omega) (by omega) (by omega) (by omega)).mono ?_
          rintro e w' ⟨rfl, rfl⟩
          go_wp2_with fail
          refine (within_new _ _ _ [tt, s1] _ _ _ z1 _ _ rfl rfl (by simp) rfl HW.out).mono ?_
          rintro e w6 ⟨rfl, hw⟩
          have HS7 := Lib.hid (show B2 w a y w6 by rw [← hw]; exact B2.alloc HS6.out _)
          clear hw HS6 y0 y1 y2 y3 y4 x0 x1 x2 x3 x4
          cases z1
          · go_wp2_with fail
            go_ret2
            exact ⟨by rw [HA.out, HN.out, HZ.out]; rfl, HS7.out.2.2⟩
          obtain ⟨y0, y1, y2, y3, y4⟩ := HS7.out.cb
          obtain ⟨x0, x1, x2, x3, x4⟩ := HS7.out.ca
          go_wp2_with fail
          refine (dist_is _ _ s2 HU _ (by omega) (by omega) (by omega) (by omega)).mono ?_
          rintro e w' ⟨rfl, rfl⟩
          go_wp2_with fail
          go_ret2
          exact ⟨by rw [HA.out, HN.out, HZ.out]; rfl, HS7.out.2.2⟩
        · have HA := Lib.hid (show ansAgree a b d q = .tuple #[.bool false, .bool false] by unfold ansAgree; rw [HY.out, if_neg (fun k => hm k.2)])
          obtain rfl : nv = true := by rw [← HNV.out]; simp; omega
          clear hm
          go_wp2_with fail
          go_ret2
          exact ⟨by rw [HA.out]; rfl, HS5.out.2.2⟩
  · have HA := Lib.hid (show ansAgree a b d q = .tuple #[.bool false, .bool false] by unfold ansAgree; rw [if_neg (fun k => hok k.1)])
    rw [HA.out]
    cases ka : okLg a
    · have HKA := Lib.hid ka
      clear ka hok
      go_enter Try.func61, Try.ntmps61
      go_wp2_with fail
      refine (isLeg_is a false HKA _).mono ?_
      rintro e w1 ⟨rfl, bb⟩
      have HS1 := Lib.hid (HS0.out.step bb)
      clear bb HS0
      go_wp2_with fail
      go_ret2
      exact ⟨rfl, HS1.out.2.2⟩
    cases kb : okLg b
    · have HKA := Lib.hid ka
      have HKB := Lib.hid kb
      clear ka kb hok
      go_enter Try.func61, Try.ntmps61
      go_wp2_with fail
      refine (isLeg_is a true HKA _).mono ?_
      rintro e w1 ⟨rfl, bb⟩
      have HS1 := Lib.hid (HS0.out.step bb)
      clear bb HS0
      obtain ⟨y0, y1, y2, y3, y4⟩ := HS1.out.cb
      go_wp2_with fail
      refine (isLeg_is b false HKB _).mono ?_
      rintro e w2 ⟨rfl, bb⟩
      have HS2 := Lib.hid (HS1.out.step bb)
      clear bb
      go_wp2_with fail
      go_ret2
      exact ⟨rfl, HS2.out.2.2⟩
    have hneg : d < 0 ∨ q < 0 := by
      simp only [agOk, ka, kb, Bool.true_and, Bool.and_eq_true, decide_eq_true_eq] at hok
      omega
    have HKA := Lib.hid ka
    have HKB := Lib.hid kb
    clear ka kb hok
    go_enter Try.func61, Try.ntmps61
    go_wp2_with fail
    refine (isLeg_is a true HKA _).mono ?_
    rintro e w1 ⟨rfl, bb⟩
    have HS1 := Lib.hid (HS0.out.step bb)
    clear bb HS0
    obtain ⟨y0, y1, y2, y3, y4⟩ := HS1.out.cb
    go_wp2_with fail
    refine (isLeg_is b true HKB _).mono ?_
    rintro e w2 ⟨rfl, bb⟩
    have HS2 := Lib.hid (HS1.out.step bb)
    clear bb
    by_cases hd : d < 0
    · have d0 : decide (d < 0) = true := by simpa using hd
      go_wp2_with fail
      go_ret2
      exact ⟨rfl, HS2.out.2.2⟩
    · have d0 : decide (d < 0) = false := by simpa using hd
      have q0 : decide (q < 0) = true := by simp; omega
      go_wp2_with fail
      go_ret2
      exact ⟨rfl, HS2.out.2.2⟩
end Go.Proofs.Ytnlljdepcldibaa.lgi
