/-
  The model of bearings corrected, each on its day.
  Conditions: the points lie in one block, at most 2000000 of them.
-/
import Derived.Test.YtiimegmaokfpgaaVaD
import Derived.Test.YtiimegmaokfpgaaInA
import Derived.Test.YtiimegmaokfpgaaRowI
import Derived.BigQuiet
import Derived.Deep.QuietTactic
import Derived.Deep.Cut
import Derived.Deep.DeepCutAuto
import Derived.RegionTactic
import Derived.Deep.RegionWith
import Derived.OwnWalk
import Derived.Deep.RegionHeld3
namespace Go.Proofs.Ytiimegmaokfpgaa.va
open Go.RowKit
open reads base ty rowi inn
set_option linter.unusedVariables false
set_option linter.unusedSimpArgs false

/-- what a correction answers over points -/
theorem ansTb_form {ts : List Dp} (hg : goodDp ts = true) (d m : Int) (p : Bool) (h : (dayOk d && fineOk m) = p) : ansTb ts d m = .tuple #[.int .i64 (if p = true then tru ts d m else 0), .bool p] := by
  unfold ansTb; rw [hg, ← h]; cases dayOk d <;> cases fineOk m <;> rfl
theorem crV_len (ts : List Dp) (ds ms : List Int) : (crV ts ds ms).length ≤ 20 := by
  unfold crV
  split
  · rename_i h
    unfold crGood at h
    rw [Bool.and_eq_true, Bool.and_eq_true] at h
    rw [crK_len]; simpa using h.1.2
  · simp
theorem crGood_no {ts : List Dp} {ds ms : List Int} (h : goodDp ts = false ∨ ¬ ds.length = ms.length ∨ 20 < ds.length) : crGood ts ds ms = false := by
  unfold crGood
  rcases h with h | h | h
  · rw [h]; rfl
  · rw [decide_eq_false h, Bool.and_false]; rfl
  · rw [decide_eq_false (by omega : ¬ ds.length ≤ 20), Bool.and_false]; rfl
theorem crV_no {ts : List Dp} {ds ms : List Int} (h : crGood ts ds ms = false) : crV ts ds ms = [] := by unfold crV; rw [h]; rfl
theorem crGood_yes {ts : List Dp} {ds ms : List Int} (hg : goodDp ts = true) (h1 : ds.length = ms.length) (h2 : ds.length ≤ 20) : crGood ts ds ms = crOk ds ms ds.length := by
  unfold crGood; rw [hg, decide_eq_true h1, decide_eq_true h2]; rfl
/-- numbers of one's own under way -/
def CR (w : World) (A : Option Addr) (k c : Nat) (xs : List Int) (v : World) : Prop := Below w.heap.size w v ∧ v.ownsRow w.heap.size 3 1 (.slice A k c) k (ints.intsV xs)
theorem CR.step {w v v' : World} {A : Option Addr} {k c : Nat} {xs : List Int} (h : CR w A k c xs v) (hb : Below v.heap.size v v') : CR w A k c xs v' := ⟨h.1.trans (hb.mono h.1.size), row_below h.2 hb⟩
theorem cr_mk {w v : World} {A : Option Addr} {k c : Nat} {xs : List Int} (h : CR w A k c xs v) {g1 g2 o1 o2 : Nat} {x y : Value} (h1 : w.cell? ⟨g1, o1, none⟩ = some x ∧ g1 < w.heap.size) (h2 : w.cell? ⟨g2, o2, none⟩ = some y ∧ g2 < w.heap.size) :
    v.cell? ⟨g1, o1, none⟩ = some x ∧ v.cell? ⟨g2, o2, none⟩ = some y ∧ CR w A k c xs v := ⟨(h.1.cell (p := ⟨g1, o1, none⟩) h1.2).trans h1.1, (h.1.cell (p := ⟨g2, o2, none⟩) h2.2).trans h2.1, h⟩
/-- an empty list that the call has just made -/
theorem made0 (w v : World) (h : w.heap.size ≤ v.heap.size) (e : TypeId) (size : Nat) : (v.alloc (.cells #[] e)).ownsRow w.heap.size e size (.slice (some ⟨v.heap.size, 0, none⟩) 0 0) 0 [] := World.ownsRow_made v #[] 0 h (by decide) (by simp)
theorem trueBearing_model_is (A : Option Addr) (n cap : Nat) (ts : List Dp) (d m v : Int) (ok : Bool) (h : Hid (ansTb ts d m = .tuple #[.int .i64 v, .bool ok])) (w : World) (hn : n ≤ 2000000) (hts : Hid (DpAt w w.heap.size A n ts)) :
    Calls Try.prog 17 #[.slice A n cap, .int .i64 d, .int .i64 m] w (APost (.tuple #[.int .i64 v, .bool ok]) w) := by rw [← h.out]; exact trueBearing_model A n cap ts d m w hn hts
set_option maxHeartbeats 8000000 in
set_option maxRecDepth 100000 in
theorem correctAll_model (A : Option Addr) (n cap : Nat) (ts : List Dp) (A1 : Option Addr) (n1 c1 : Nat) (ds : List Int) (A2 : Option Addr) (n2 c2 : Nat) (ms : List Int) (w : World) (hn : n ≤ 2000000) (hn1 : n1 ≤ 2000000) (hn2 : n2 ≤ 2000000) (hts : Hid (DpAt w w.heap.size A n ts)) (h1 : Hid (InAt w w.heap.size A1 n1 ds)) (h2 : Hid (InAt w w.heap.size A2 n2 ms)) :
    Calls Try.prog 23 #[.slice A n cap, .slice A1 n1 c1, .slice A2 n2 c2] w (LPost (crV ts ds ms) (crGood ts ds ms) w) := by
  have HL1 := Lib.hid h1.out.1
  have HL2 := Lib.hid h2.out.1
  obtain ⟨i0, hi, hz0, hz1, hz2⟩ := info_parts infoI
  obtain ⟨G, HG⟩ : ∃ G, Hid (goodDp ts = G) := ⟨_, Lib.hid rfl⟩
  have HB0 := Lib.hid ((Below.refl w.heap.size w).alloc (Nat.le_refl _) (.cells #[] 3))
  have HR0 := Lib.hid (made0 w w (Nat.le_refl _) 3 1)
  cases G
  · have HNO := Lib.hid (crGood_no (ts := ts) (ds := ds) (ms := ms) (.inl HG.out))
    go_enter Try.func23, Try.ntmps23
    go_wp2_with fail
    refine (good_is A n cap ts _ HG _ hn (Lib.hid (hts.out.step HB0.out))).mono ?_
    rintro e w1 ⟨rfl, b1⟩
    have HC1 := Lib.hid (show CR w (some ⟨w.heap.size, 0, none⟩) 0 0 [] w1 from ⟨HB0.out.trans (b1.mono HB0.out.size), row_below HR0.out b1⟩)
    clear b1 HB0 HR0
    go_wp2_with fail
    go_ret2
    exact ⟨_, by rw [HNO.out]; rfl, by rw [crV_no HNO.out]; exact HC1.out.2, HC1.out.1⟩
  by_cases hq : ¬ n1 = n2
  · have HNO := Lib.hid (crGood_no (ts := ts) (ds := ds) (ms := ms) (.inr (.inl (by rw [HL1.out, HL2.out]; exact hq))))
    have q1 : ((n1 : Int) != (n2 : Int)) = true := by simp [bne]; omega
    have q2 : ((n1 : Int) == (n2 : Int)) = false := by simp; omega
    have q3 : decide ((n1 : Int) = (n2 : Int)) = false := by simp; omega
    have q4 : decide (n1 = n2) = false := by simp; omega
    have q5 : (n1 == n2) = false := by simp; omega
    have q6 : (n1 != n2) = true := by simp; omega
    go_enter Try.func23, Try.ntmps23
    go_wp2_with fail
    refine (good_is A n cap ts _ HG _ hn (Lib.hid (hts.out.step HB0.out))).mono ?_
    rintro e w1 ⟨rfl, b1⟩
    have HC1 := Lib.hid (show CR w (some ⟨w.heap.size, 0, none⟩) 0 0 [] w1 from ⟨HB0.out.trans (b1.mono HB0.out.size), row_below HR0.out b1⟩)
    clear b1 HB0 HR0
    go_wp2_with fail
    go_ret2
    exact ⟨_, by rw [HNO.out]; rfl, by rw [crV_no HNO.out]; exact HC1.out.2, HC1.out.1⟩
  have hq : n1 = n2 := by omega
  by_cases h20 : 20 < n1
  · have HNO := Lib.hid (crGood_no (ts := ts) (ds := ds) (ms := ms) (.inr (.inr (by rw [HL1.out]; exact h20))))
    have q1 : ((n1 : Int) != (n2 : Int)) = false := by simp [bne]; omega
    have q2 : ((n1 : Int) == (n2 : Int)) = true := by simp; omega
    have q3 : decide ((n1 : Int) = (n2 : Int)) = true := by simp; omega
    have q4 : decide (n1 = n2) = true := by simp; omega
    have q5 : (n1 == n2) = true := by simp; omega
    have q6 : (n1 != n2) = false := by simp; omega
    have r1 : decide ((20 : Int) < (n1 : Int)) = true := by simp; omega
    have r2 : decide (20 < n1) = true := by simp; omega
    go_enter Try.func23, Try.ntmps23
    go_wp2_with fail
    refine (good_is A n cap ts _ HG _ hn (Lib.hid (hts.out.step HB0.out))).mono ?_
    rintro e w1 ⟨rfl, b1⟩
    have HC1 := Lib.hid (show CR w (some ⟨w.heap.size, 0, none⟩) 0 0 [] w1 from ⟨HB0.out.trans (b1.mono HB0.out.size), row_below HR0.out b1⟩)
    clear b1 HB0 HR0
    go_wp2_with fail
    go_ret2
    exact ⟨_, by rw [HNO.out]; rfl, by rw [crV_no HNO.out]; exact HC1.out.2, HC1.out.1⟩
  have q1 : ((n1 : Int) != (n2 : Int)) = false := by simp [bne]; omega
  have q2 : ((n1 : Int) == (n2 : Int)) = true := by simp; omega
  have q3 : decide ((n1 : Int) = (n2 : Int)) = true := by simp; omega
  have q4 : decide (n1 = n2) = true := by simp; omega
  have q5 : (n1 == n2) = true := by simp; omega
  have q6 : (n1 != n2) = false := by simp; omega
  have r1 : decide ((20 : Int) < (n1 : Int)) = false := by simp; omega
  have r2 : decide (20 < n1) = false := by simp; omega
  have HGD := Lib.hid (crGood_yes (ts := ts) (ds := ds) (ms := ms) HG.out (by rw [HL1.out, HL2.out]; exact hq) (show ds.length ≤ 20 by rw [HL1.out]; omega))
  go_enter Try.func23, Try.ntmps23
  go_wp2_with fail
  refine (good_is A n cap ts _ HG _ hn (Lib.hid (hts.out.step HB0.out))).mono ?_
  rintro e w1 ⟨rfl, b1⟩
  have HC1 := Lib.hid (show CR w (some ⟨w.heap.size, 0, none⟩) 0 0 [] w1 from ⟨HB0.out.trans (b1.mono HB0.out.size), row_below HR0.out b1⟩)
  clear b1 HB0 HR0
  go_wp2_with fail
  clear q1 q2 q3 q4 q5 q6 r1 r2
  go_loopw [8, 9] (fun v i wr => ∃ (k c3 : Nat) (A3 : Option Addr) (xs : List Int), k ≤ n1 ∧ i = .int .i64 (k : Nat) ∧ v = .slice A3 k c3 ∧ Hid (crK ts ds ms k = xs) ∧ Hid (crOk ds ms k = true) ∧ CR w A3 k c3 xs wr) (fun _ i _ => n1 - (intOf i).toNat)
  case atStart => exact ⟨0, 0, _, [], Nat.zero_le _, rfl, rfl, Lib.hid rfl, Lib.hid rfl, HC1.out⟩
  case round =>
    clear HC1
    obtain ⟨k, c3, A3, xs, hk, rfl, rfl, HXS, HOK, hC⟩ := hrel
    have HC := Lib.hid hC
    clear hC
    have hk0 : (0 : Int) ≤ (k : Int) := by omega
    by_cases hlt : k < n1
    · have hki : (k : Int) < (n1 : Int) := by omega
      have hki2 : (k : Int) < (n2 : Int) := by omega
      have hkd : decide (k < n1) = true := by simpa using hlt
      obtain ⟨d, hd⟩ := at_lt HL1.out hlt
      obtain ⟨m, hm⟩ := at_lt HL2.out (show k < n2 by omega)
      obtain ⟨g1, rfl, hg1, e1⟩ := h1.out.2 k d hd
      obtain ⟨g2, rfl, hg2, e2⟩ := h2.out.2 k m hm
      have HE1 := Lib.hid (show w.cell? ⟨g1, k, none⟩ = some (.int .i64 d) ∧ g1 < w.heap.size from ⟨e1, hg1⟩)
      have HE2 := Lib.hid (show w.cell? ⟨g2, k, none⟩ = some (.int .i64 m) ∧ g2 < w.heap.size from ⟨e2, hg2⟩)
      have HD := Lib.hid hd
      have HM := Lib.hid hm
      obtain ⟨p, HP⟩ : ∃ p, Hid ((dayOk d && fineOk m) = p) := ⟨_, Lib.hid rfl⟩
      obtain ⟨r, HR⟩ : ∃ r, Hid ((if p = true then tru ts d m else 0) = r) := ⟨_, Lib.hid rfl⟩
      have HTB := Lib.hid (show ansTb ts d m = .tuple #[.int .i64 r, .bool p] by rw [ansTb_form HG.out d m p HP.out, HR.out])
      clear hd hm e1 e2 hg1 hg2
      go_upto_region 7 with fail
      refine wp_region_held_drew (S := (fun v : World => v.cell? ⟨g1, k, none⟩ = some (.int .i64 d) ∧ v.cell? ⟨g2, k, none⟩ = some (.int .i64 m) ∧ CR w A3 k c3 xs v)) (by kernel_rfl) ?_ (fun hHeld => ?_)
      · exact cr_mk (HC.out.step (Below.refl _ _).drew) HE1.out HE2.out
      refine' wpAnyH_take (i := 0) (v := ?vr1_0) rfl (by kernel_rfl) (by kernel_rfl) (by kernel_rfl) (fun _ _ _ h => h) (Or.inl ⟨by rfl, ?hyr1_0⟩) (by assumption) ?restr1_0
      case hyr1_0 => (intro w hSw; (try dsimp only at hSw); go_simp; try (with_reducible rfl))
      simp only [Act.put, List.getElem_toArray, List.getElem_cons_succ, List.getElem_cons_zero, List.setIfInBounds_toArray, List.set_cons_zero, List.set_cons_succ]
      refine' wpAnyH_take (i := 1) (v := ?vr1_1) rfl (by kernel_rfl) (by kernel_rfl) (by kernel_rfl) (fun _ _ _ h => h) (Or.inl ⟨by rfl, ?hyr1_1⟩) (by assumption) ?restr1_1
      case hyr1_1 => (intro w hSw; (try dsimp only at hSw); go_simp; try (with_reducible rfl))
      simp only [Act.put, List.getElem_toArray, List.getElem_cons_succ, List.getElem_cons_zero, List.setIfInBounds_toArray, List.set_cons_zero, List.set_cons_succ]
      refine' wpAnyH_take (i := 2) (v := ?vr1_2) rfl (by kernel_rfl) (by kernel_rfl) (by kernel_rfl) (fun _ _ _ h => h) (Or.inl ⟨by rfl, ?hyr1_2⟩) (by assumption) ?restr1_2
      case hyr1_2 => (intro w hSw; (try dsimp only at hSw); go_simp; try (with_reducible rfl))
      simp only [Act.put, List.getElem_toArray, List.getElem_cons_succ, List.getElem_cons_zero, List.setIfInBounds_toArray, List.set_cons_zero, List.set_cons_succ]
      refine' wpAnyH_take (i := 3) (v := ?vr1_3) rfl (by kernel_rfl) (by kernel_rfl) (by kernel_rfl) (fun _ _ _ h => h) (Or.inl ⟨by rfl, ?hyr1_3⟩) (by assumption) ?restr1_3
      case hyr1_3 => (intro w hSw; (try dsimp only at hSw); go_simp; try (with_reducible rfl))
      simp only [Act.put, List.getElem_toArray, List.getElem_cons_succ, List.getElem_cons_zero, List.setIfInBounds_toArray, List.set_cons_zero, List.set_cons_succ]
      refine' wpAnyH_take (i := 4) (v := ?vr1_4) rfl (by kernel_rfl) (by kernel_rfl) (by kernel_rfl) (fun _ _ _ h => h) (Or.inl ⟨by rfl, ?hyr1_4⟩) (by assumption) ?restr1_4
      case hyr1_4 => (intro w hSw; (try dsimp only at hSw); go_simp; try (with_reducible rfl))
      simp only [Act.put, List.getElem_toArray, List.getElem_cons_succ, List.getElem_cons_zero, List.setIfInBounds_toArray, List.set_cons_zero, List.set_cons_succ]
      refine' wpAnyH_take (i := 5) (v := ?vr1_5) rfl (by kernel_rfl) (by kernel_rfl) (by kernel_rfl) (fun _ _ _ h => h) (Or.inl ⟨by rfl, ?hyr1_5⟩) (by assumption) ?restr1_5
      case hyr1_5 => (intro w hSw; (try dsimp only at hSw); go_simp; try (with_reducible rfl))
      simp only [Act.put, List.getElem_toArray, List.getElem_cons_succ, List.getElem_cons_zero, List.setIfInBounds_toArray, List.set_cons_zero, List.set_cons_succ]
      refine' wpAnyH_take (i := 6) (v := ?vr1_6) rfl (by kernel_rfl) (by kernel_rfl) (by kernel_rfl) (fun _ _ _ h => h) (Or.inl ⟨by rfl, ?hyr1_6⟩) (by assumption) ?restr1_6
      case hyr1_6 => (intro w hSw; (try dsimp only at hSw); go_simp; try (with_reducible rfl))
      simp only [Act.put, List.getElem_toArray, List.getElem_cons_succ, List.getElem_cons_zero, List.setIfInBounds_toArray, List.set_cons_zero, List.set_cons_succ]
      refine' wpAnyH_take (i := 7) (v := ?vr1_7) rfl (by kernel_rfl) (by kernel_rfl) (by kernel_rfl) (fun _ _ _ h => h) (Or.inl ⟨by rfl, ?hyr1_7⟩) (by assumption) ?restr1_7
      case hyr1_7 => (intro w hSw; (try dsimp only at hSw); go_simp; try (with_reducible rfl))
      simp only [Act.put, List.getElem_toArray, List.getElem_cons_succ, List.getElem_cons_zero, List.setIfInBounds_toArray, List.set_cons_zero, List.set_cons_succ]
      refine' wpAnyH_take (i := 8) (v := ?vr1_8) rfl (by kernel_rfl) (by kernel_rfl) (by kernel_rfl) (fun _ _ _ h => h) (Or.inl ⟨by rfl, ?hyr1_8⟩) (by assumption) ?restr1_8
      case hyr1_8 => (intro w hSw; (try dsimp only at hSw); go_simp; try (with_reducible rfl))
      simp only [Act.put, List.getElem_toArray, List.getElem_cons_succ, List.getElem_cons_zero, List.setIfInBounds_toArray, List.set_cons_zero, List.set_cons_succ]
      refine wpAnyH_ready (rs := [9]) (by kernel_rfl) (by simp) ?_
      refine AllReadyH.cons rfl (fun K hK => ?_) AllReadyH.nil
      go_simp
      refine (trueBearing_model_is A n cap ts d m r p HTB _ hn (Lib.hid (hts.out.step hHeld.2.2.1))).mono ?_
      rintro e w8 ⟨rfl, b8⟩
      refine hK.out _ _ (cr_mk (hHeld.2.2.step b8) HE1.out HE2.out) (fun hHeld1 => ?_)
      clear hK K hHeld
      have hHeld := hHeld1
      clear hHeld1
      try simp only [Act.put, List.getElem_toArray, List.getElem_cons_succ, List.getElem_cons_zero, List.setIfInBounds_toArray, List.set_cons_zero, List.set_cons_succ]
      refine' wpAnyH_take (i := 10) (v := ?vr1_10) rfl (by kernel_rfl) (by kernel_rfl) (by kernel_rfl) (fun _ _ _ h => h) (Or.inl ⟨by rfl, ?hyr1_10⟩) (by assumption) ?restr1_10
      case hyr1_10 => (intro w hSw; (try dsimp only at hSw); go_simp; try (with_reducible rfl))
      simp only [Act.put, List.getElem_toArray, List.getElem_cons_succ, List.getElem_cons_zero, List.setIfInBounds_toArray, List.set_cons_zero, List.set_cons_succ]
      refine' wpAnyH_take (i := 11) (v := ?vr1_11) rfl (by kernel_rfl) (by kernel_rfl) (by kernel_rfl) (fun _ _ _ h => h) (Or.inl ⟨by rfl, ?hyr1_11⟩) (by assumption) ?restr1_11
      case hyr1_11 => (intro w hSw; (try dsimp only at hSw); go_simp; try (with_reducible rfl))
      simp only [Act.put, List.getElem_toArray, List.getElem_cons_succ, List.getElem_cons_zero, List.setIfInBounds_toArray, List.set_cons_zero, List.set_cons_succ]
      refine' wpAnyH_take (i := 12) (v := ?vr1_12) rfl (by kernel_rfl) (by kernel_rfl) (by kernel_rfl) (fun _ _ _ h => h) (Or.inl ⟨by rfl, ?hyr1_12⟩) (by assumption) ?restr1_12
      case hyr1_12 => (intro w hSw; (try dsimp only at hSw); go_simp; try (with_reducible rfl))
      simp only [Act.put, List.getElem_toArray, List.getElem_cons_succ, List.getElem_cons_zero, List.setIfInBounds_toArray, List.set_cons_zero, List.set_cons_succ]
      refine' wpAnyH_take (i := 13) (v := ?vr1_13) rfl (by kernel_rfl) (by kernel_rfl) (by kernel_rfl) (fun _ _ _ h => h) (Or.inl ⟨by rfl, ?hyr1_13⟩) (by assumption) ?restr1_13
      case hyr1_13 => (intro w hSw; (try dsimp only at hSw); go_simp; try (with_reducible rfl))
      simp only [Act.put, List.getElem_toArray, List.getElem_cons_succ, List.getElem_cons_zero, List.setIfInBounds_toArray, List.set_cons_zero, List.set_cons_succ]
      refine' wpAnyH_take (i := 14) (v := ?vr1_14) rfl (by kernel_rfl) (by kernel_rfl) (by kernel_rfl) (fun _ _ _ h => h) (Or.inl ⟨by rfl, ?hyr1_14⟩) (by assumption) ?restr1_14
      case hyr1_14 => (intro w hSw; (try dsimp only at hSw); go_simp; try (with_reducible rfl))
      simp only [Act.put, List.getElem_toArray, List.getElem_cons_succ, List.getElem_cons_zero, List.setIfInBounds_toArray, List.set_cons_zero, List.set_cons_succ]
      refine wpAnyH_done (by kernel_rfl) ?_ _
      have HC8 := Lib.hid hHeld.2.2
      clear hHeld HC
      cases p
      · have HNO := Lib.hid (show crGood ts ds ms = false by rw [HGD.out]; exact crOk_no (by rw [HL1.out]; exact hlt) HD.out HM.out HP.out)
        go_wp2_with fail
        go_ret2
        exact ⟨_, by rw [HNO.out]; rfl, by rw [crV_no HNO.out]; exact made0 w _ HC8.out.1.size 3 1, HC8.out.1.alloc HC8.out.1.size _⟩
      · have HN := Lib.hid (show crK ts ds ms (k + 1) = xs ++ [r] by rw [crK_succ HD.out HM.out, HXS.out, ← HR.out]; rfl)
        have HN2 := Lib.hid (show crOk ds ms (k + 1) = true by rw [crOk_succ HD.out HM.out, HOK.out, HP.out]; rfl)
        have hsz := HC8.out.1.size
        go_wp2_with (at_builtin; refine wpList_append_own _ rfl _ _ 32 rfl w.heap.size 3 i0 (.int .i64 0) 1 8 Try.underlying32 hi hz0 hz1 hz2 rfl (by decide) _ _ _ rfl (HC8.out.2.alloc _) ⟨_, 0, none⟩ 1 1 [.int .i64 r] rfl rfl (World.news_of_block (alloc_at rfl)) (by simp [Value.oneCell']) (by unfold maxLen; omega) (by omega) (by simp; omega) ?_; intro v' w9 hown' hgrow _; obtain ⟨A9, c9, rfl⟩ := row_slice hown')
        go_roundw
        case rel => exact ⟨k + 1, c9, A9, xs ++ [r], by omega, by go_num, rfl, HN, HN2, (HC8.out.1.alloc hsz _).grown hgrow (by simp; omega) (fun q eq => (HC8.out.2.lt q eq).1), by rw [intsV_app]; exact hown'⟩
        case measure => simp [intOf]; omega
    · have hkd : decide (k < n1) = false := by simpa using hlt
      obtain rfl : k = n1 := by omega
      have HFG := Lib.hid (show crGood ts ds ms = true by rw [HGD.out, HL1.out]; exact HOK.out)
      have HFV := Lib.hid (show crV ts ds ms = xs by unfold crV; rw [HFG.out, HL1.out]; exact HXS.out)
      have HLX := Lib.hid (show xs.length = k by rw [← HXS.out, crK_len])
      go_wp2_with fail
      go_ret2
      exact ⟨_, by rw [HFG.out]; rfl, by rw [HFV.out, HLX.out]; exact HC.out.2, HC.out.1⟩
end Go.Proofs.Ytiimegmaokfpgaa.va
