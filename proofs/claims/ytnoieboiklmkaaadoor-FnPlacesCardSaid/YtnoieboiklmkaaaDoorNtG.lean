/-
  The error of a leg, by the model.
  Conditions: the legs lie in one block; at most 2000000 of them.
-/
import Derived.Test.YtnoieboiklmkaaaDoorNtD
import Derived.Deep.RegionHeld3
import Derived.Deep.DeepCutAuto
namespace Go.Proofs.YtnoieboiklmkaaaDoor.nt
open Go.RowKit
open reads base inn ty lg rowi hs
set_option linter.unusedVariables false
set_option linter.unusedSimpArgs false

/-- the error of a leg -/
def errV (ts : List Lg) (x : Lg) : Sf := add3 (sub3 (shf x) (at_ (net ts).pl x.to_)) (at_ (net ts).pl x.frm)
def ES (X g1 a b : Nat) (tp cp sl : Int) (p q : Sf) (v : World) : Prop :=
  (v.cell? ⟨X, 0, none⟩ = some (.int .i64 (a : Int)) ∧ v.cell? ⟨X, 1, none⟩ = some (.int .i64 (b : Int)) ∧ v.cell? ⟨X, 2, none⟩ = some (.int .i64 tp) ∧ v.cell? ⟨X, 3, none⟩ = some (.int .i64 cp) ∧ v.cell? ⟨X, 4, none⟩ = some (.int .i64 sl)) ∧ (v.cell? ⟨g1, a * 3, none⟩ = some (.int .i64 p.east) ∧ v.cell? ⟨g1, a * 3 + 1, none⟩ = some (.int .i64 p.north) ∧ v.cell? ⟨g1, a * 3 + 2, none⟩ = some (.int .i64 p.up)) ∧ (v.cell? ⟨g1, b * 3, none⟩ = some (.int .i64 q.east) ∧ v.cell? ⟨g1, b * 3 + 1, none⟩ = some (.int .i64 q.north) ∧ v.cell? ⟨g1, b * 3 + 2, none⟩ = some (.int .i64 q.up)) ∧ X < v.heap.size ∧ g1 < v.heap.size
section
variable {X g1 a b : Nat} {tp cp sl : Int} {p q : Sf} {v v' : World}
theorem ES.keep (h : ES X g1 a b tp cp sl p q v) (hX : ∀ o, v'.cell? ⟨X, o, none⟩ = v.cell? ⟨X, o, none⟩) (hg : ∀ o, v'.cell? ⟨g1, o, none⟩ = v.cell? ⟨g1, o, none⟩) (hs : v.heap.size ≤ v'.heap.size) : ES X g1 a b tp cp sl p q v' := by
  obtain ⟨⟨x0, x1, x2, x3, x4⟩, ⟨p0, p1, p2⟩, ⟨q0, q1, q2⟩, l1, l2⟩ := h
  exact ⟨⟨(hX _).trans x0, (hX _).trans x1, (hX _).trans x2, (hX _).trans x3, (hX _).trans x4⟩, ⟨(hg _).trans p0, (hg _).trans p1, (hg _).trans p2⟩, ⟨(hg _).trans q0, (hg _).trans q1, (hg _).trans q2⟩, by omega, by omega⟩
theorem ES.step (h : ES X g1 a b tp cp sl p q v) (hb : Below v.heap.size v v') : ES X g1 a b tp cp sl p q v' :=
  h.keep (fun o => hb.cell (p := ⟨X, o, none⟩) h.2.2.2.1) (fun o => hb.cell (p := ⟨g1, o, none⟩) h.2.2.2.2) hb.size
theorem ES.set (h : ES X g1 a b tp cp sl p q v) {Z : Nat} (hZ : ¬ Z = X ∧ ¬ Z = g1) (i : Nat) (u : Value) : ES X g1 a b tp cp sl p q (v.setCell ⟨Z, i, none⟩ u) :=
  h.keep (fun o => World.cell?_setCell_other _ _ _ _ (by intro e; injection e with e1; exact hZ.1 e1)) (fun o => World.cell?_setCell_other _ _ _ _ (by intro e; injection e with e1; exact hZ.2 e1)) (by simp [World.setCell])
theorem ES.mk11 (h : ES X g1 a b tp cp sl p q v) : v.cell? ⟨X, 0, none⟩ = some (.int .i64 (a : Int)) ∧ v.cell? ⟨X, 1, none⟩ = some (.int .i64 (b : Int)) ∧ v.cell? ⟨X, 2, none⟩ = some (.int .i64 tp) ∧ v.cell? ⟨X, 3, none⟩ = some (.int .i64 cp) ∧ v.cell? ⟨X, 4, none⟩ = some (.int .i64 sl) ∧ v.cell? ⟨g1, a * 3, none⟩ = some (.int .i64 p.east) ∧ v.cell? ⟨g1, a * 3 + 1, none⟩ = some (.int .i64 p.north) ∧ v.cell? ⟨g1, a * 3 + 2, none⟩ = some (.int .i64 p.up) ∧ v.cell? ⟨g1, b * 3, none⟩ = some (.int .i64 q.east) ∧ v.cell? ⟨g1, b * 3 + 1, none⟩ = some (.int .i64 q.north) ∧ v.cell? ⟨g1, b * 3 + 2, none⟩ = some (.int .i64 q.up) ∧ ES X g1 a b tp cp sl p q v :=
  ⟨h.1.1, h.1.2.1, h.1.2.2.1, h.1.2.2.2.1, h.1.2.2.2.2, h.2.1.1, h.2.1.2.1, h.2.1.2.2, h.2.2.1.1, h.2.2.1.2.1, h.2.2.1.2.2, h⟩
end
set_option maxHeartbeats 8000000 in
set_option maxRecDepth 100000 in
theorem error_any (A : Option Addr) (n cap : Nat) (ts : List Lg) (j : Nat) (x : Lg) (r : Sf) (w : World) (hr : Hid (errV ts x = r)) (hg : Hid (goodLg ts = true)) (hx : Hid (ts[j]? = some x)) (hts : Hid (LgAt w w.heap.size A n ts)) :
    Calls Tryd.prog 61 #[.slice A n cap, .int .i64 (j : Int)] w (APost (.agg #[.int .i64 r.east, .int .i64 r.north, .int .i64 r.up]) w) := by
  have HL := Lib.hid hts.out.1
  have hjn : j < n := by rw [← HL.out]; exact (List.getElem?_eq_some_iff.1 hx.out).1
  have hn12 := len12 HL.out hg.out
  have HON := Lib.hid (ok_net hg.out)
  have HA := Lib.hid (hts.out.alloc (.cells #[.int .i64 0, .int .i64 0, .int .i64 0] 35))
  have HB0 := Lib.hid ((Below.refl w.heap.size w).alloc (Nat.le_refl _) (.cells #[.int .i64 0, .int .i64 0, .int .i64 0] 35))
  have HZ0 := Lib.hid (Blk.new w 35 #[.int .i64 0, .int .i64 0, .int .i64 0])
  have hok := goodLg_at hg.out hx.out
  obtain ⟨l1, l2, l3, -⟩ := okLg_lim hok
  obtain ⟨fr, to_, tp, cp, sl⟩ := x
  simp only [] at l1 l2 l3
  obtain ⟨a, rfl⟩ : ∃ a : Nat, fr = (a : Int) := ⟨fr.toNat, by omega⟩
  obtain ⟨b, rfl⟩ : ∃ b : Nat, to_ = (b : Int) := ⟨to_.toNat, by omega⟩
  have ha7 : a ≤ 7 := by omega
  have hb7 : b ≤ 7 := by omega
  have ha0 : (0 : Int) ≤ (a : Int) := by omega
  have hb0 : (0 : Int) ≤ (b : Int) := by omega
  have ha8 : (a : Int) < 8 := by omega
  have hb8 : (b : Int) < 8 := by omega
  have HOK := Lib.hid hok
  obtain ⟨p, HPP⟩ : ∃ p, Hid (at_ (net ts).pl (a : Int) = p) := ⟨_, Lib.hid rfl⟩
  obtain ⟨q, HQQ⟩ : ∃ q, Hid (at_ (net ts).pl (b : Int) = q) := ⟨_, Lib.hid rfl⟩
  obtain ⟨d, HDD⟩ : ∃ d, Hid (shf ⟨(a : Int), (b : Int), tp, cp, sl⟩ = d) := ⟨_, Lib.hid rfl⟩
  obtain ⟨f, HFF⟩ : ∃ f, Hid (sub3 d q = f) := ⟨_, Lib.hid rfl⟩
  have HRR := Lib.hid (show add3 f p = r by rw [← hr.out, ← HFF.out, ← HDD.out, ← HPP.out, ← HQQ.out]; rfl)
  have HBP := Lib.hid (show BdS p by rw [← HPP.out]; exact bd_at HON.out _)
  have HBQ := Lib.hid (show BdS q by rw [← HQQ.out]; exact bd_at HON.out _)
  have HBD := Lib.hid (show BdS d by rw [← HDD.out]; exact bd_shf hok)
  have HBF := Lib.hid (show BdS f by
    have h1 := shf_bd hok
    have h2 := at_bd HON.out (b : Int)
    have h3 := HON.out.ps_len
    rw [HDD.out] at h1
    rw [HQQ.out] at h2
    rw [← HFF.out]; unfold BdS sub3; simp only []; omega)
  have hji : (j : Int) < (n : Int) := by omega
  have hj0 : (0 : Int) ≤ (j : Int) := by omega
  clear l1 l2 l3 hok
  go_enter Tryd.func61, Tryd.ntmps61
  go_wp2_with fail
  refine (place_any A n cap ts _ hg HA).mono ?_
  rintro e w2 ⟨g1, g2, c2, g3, c3, rfl, hN⟩
  have HB2 := Lib.hid (HB0.out.trans (hN.1.mono HB0.out.size))
  have HZ2 := Lib.hid (HZ0.out.below hN.1 HZ0.out.lt)
  have HA2 := Lib.hid (HA.out.step hN.1)
  have HCA := Lib.hid (hN.cells HON.out.1 ha7)
  have HCB := Lib.hid (hN.cells HON.out.1 hb7)
  rw [HPP.out] at HCA
  rw [HQQ.out] at HCB
  have HG1 := Lib.hid (show w.heap.size + 1 ≤ g1 ∧ g1 < w2.heap.size by have h := hN.2.1.lt g1 rfl; simpa using h)
  clear hN HB0 HZ0 HA
  obtain ⟨gL, rfl, hgL, e0, e1, e2, e3, e4⟩ := HA2.out.2 j _ hx.out
  simp only [] at e0 e1 e2 e3 e4
  go_upto_region 3 with fail
  obtain ⟨w3, HW3, HX3⟩ : ∃ V, Hid (w2.alloc (.cells #[.int .i64 (a : Int), .int .i64 (b : Int), .int .i64 tp, .int .i64 cp, .int .i64 sl] 59) = V) ∧ Hid (Blk V w2.heap.size 59 #[.int .i64 (a : Int), .int .i64 (b : Int), .int .i64 tp, .int .i64 cp, .int .i64 sl]) := ⟨_, Lib.hid rfl, Lib.hid (Blk.new _ _ _)⟩
  have HST := Lib.hid (show Below w2.heap.size w2 w3 by rw [← HW3.out]; exact (Below.refl _ _).alloc (Nat.le_refl _) _)
  obtain ⟨X, HX⟩ : ∃ X, Hid (w2.heap.size = X) := ⟨_, Lib.hid rfl⟩
  have HNE := Lib.hid (show ¬ w.heap.size = X ∧ ¬ w.heap.size = g1 by have h := HG1.out; rw [← HX.out]; omega)
  have HG3 := Lib.hid (show g1 < w3.heap.size by have h1 := HG1.out; have h2 := HST.out.size; omega)
  have cc := fun o => HST.out.cell (p := ⟨g1, o, none⟩) HG1.out.2
  have HC1 := Lib.hid (show (w3.cell? ⟨g1, a * 3, none⟩ = some (.int .i64 p.east) ∧ w3.cell? ⟨g1, a * 3 + 1, none⟩ = some (.int .i64 p.north) ∧ w3.cell? ⟨g1, a * 3 + 2, none⟩ = some (.int .i64 p.up)) ∧ (w3.cell? ⟨g1, b * 3, none⟩ = some (.int .i64 q.east) ∧ w3.cell? ⟨g1, b * 3 + 1, none⟩ = some (.int .i64 q.north) ∧ w3.cell? ⟨g1, b * 3 + 2, none⟩ = some (.int .i64 q.up)) from
    ⟨⟨(cc _).trans HCA.out.1, (cc _).trans HCA.out.2.1, (cc _).trans HCA.out.2.2⟩, ⟨(cc _).trans HCB.out.1, (cc _).trans HCB.out.2.1, (cc _).trans HCB.out.2.2⟩⟩)
  have HZ3' := Lib.hid (HZ2.out.below HST.out HZ2.out.lt)
  have HB3' := Lib.hid (HB2.out.trans (HST.out.mono HB2.out.size))
  rw [HX.out] at HX3
  rw [HW3.out]
  try rw [HX.out]
  have HES := Lib.hid ((show ES X g1 a b tp cp sl p q w3 from ⟨⟨HX3.out.cell 0, HX3.out.cell 1, HX3.out.cell 2, HX3.out.cell 3, HX3.out.cell 4⟩, HC1.out.1, HC1.out.2, HX3.out.lt, HG3.out⟩).step (Below.refl _ _).drew)
  have HZ3 := Lib.hid (HZ3'.out.below (Below.refl _ _).drew HZ3'.out.lt)
  have HB3 := Lib.hid (HB3'.out.drew)
  clear cc HW3 HX HZ3' HB3' HST HC1 HCA HCB HX3 HB2 HZ2 HA2 e0 e1 e2 e3 e4 HG1 HG3
  refine wp_region_held_drew (S := (fun v => v.cell? ⟨X, 0, none⟩ = some (.int .i64 (a : Int)) ∧ v.cell? ⟨X, 1, none⟩ = some (.int .i64 (b : Int)) ∧ v.cell? ⟨X, 2, none⟩ = some (.int .i64 tp) ∧ v.cell? ⟨X, 3, none⟩ = some (.int .i64 cp) ∧ v.cell? ⟨X, 4, none⟩ = some (.int .i64 sl) ∧ v.cell? ⟨g1, a * 3, none⟩ = some (.int .i64 p.east) ∧ v.cell? ⟨g1, a * 3 + 1, none⟩ = some (.int .i64 p.north) ∧ v.cell? ⟨g1, a * 3 + 2, none⟩ = some (.int .i64 p.up) ∧ v.cell? ⟨g1, b * 3, none⟩ = some (.int .i64 q.east) ∧ v.cell? ⟨g1, b * 3 + 1, none⟩ = some (.int .i64 q.north) ∧ v.cell? ⟨g1, b * 3 + 2, none⟩ = some (.int .i64 q.up) ∧ ES X g1 a b tp cp sl p q v)) (by kernel_rfl) ?_ (fun hHeld => ?_)
  · exact HES.out.mk11
  refine' wpAnyH_take (i := 0) (v := ?vr1_0) rfl (by kernel_rfl) (by kernel_rfl) (by kernel_rfl) (fun _ _ _ h => h) (Or.inl ⟨by rfl, ?hyr1_0⟩) (by assumption) ?restr1_0
  case hyr1_0 => (intro w hSw; (try dsimp only at hSw); go_simp; try (with_reducible rfl))
  simp only [Act.put, List.getElem_toArray, List.getElem_cons_succ, List.getElem_cons_zero, List.setIfInBounds_toArray, List.set_cons_zero, List.set_cons_succ]
  refine' wpAnyH_take (i := 2) (v := ?vr1_2) rfl (by kernel_rfl) (by kernel_rfl) (by kernel_rfl) (fun _ _ _ h => h) (Or.inl ⟨by rfl, ?hyr1_2⟩) (by assumption) ?restr1_2
  case hyr1_2 => (intro w hSw; (try dsimp only at hSw); go_simp; try (with_reducible rfl))
  simp only [Act.put, List.getElem_toArray, List.getElem_cons_succ, List.getElem_cons_zero, List.setIfInBounds_toArray, List.set_cons_zero, List.set_cons_succ]
  refine' wpAnyH_take (i := 3) (v := ?vr1_3) rfl (by kernel_rfl) (by kernel_rfl) (by kernel_rfl) (fun _ _ _ h => h) (Or.inl ⟨by rfl, ?hyr1_3⟩) (by assumption) ?restr1_3
  case hyr1_3 => (intro w hSw; (try dsimp only at hSw); go_simp; try (with_reducible rfl))
  simp only [Act.put, List.getElem_toArray, List.getElem_cons_succ, List.getElem_cons_zero, List.setIfInBounds_toArray, List.set_cons_zero, List.set_cons_succ]
  refine' wpAnyH_take (i := 4) (v := ?vr1_4) rfl (by kernel_rfl) (by kernel_rfl) (by kernel_rfl) (fun _ _ _ h => h) (Or.inl ⟨by rfl, ?hyr1_4⟩) (by assumption) ?restr1_4
  case hyr1_4 => (intro w hSw; (try dsimp only at hSw); go_simp; try (with_reducible rfl))
  simp only [Act.put, List.getElem_toArray, List.getElem_cons_succ, List.getElem_cons_zero, List.setIfInBounds_toArray, List.set_cons_zero, List.set_cons_succ]
  refine' wpAnyH_take (i := 5) (v := ?vr1_5) rfl (by kernel_rfl) (by kernel_rfl) (by kernel_rfl) (fun _ _ _ h => h) (Or.inl ⟨by rfl, ?hyr1_5⟩) (by assumption) ?restr1_5
  case hyr1_5 => (intro w hSw; (try dsimp only at hSw); go_simp; try (with_reducible rfl))
  simp only [Act.put, List.getElem_toArray, List.getElem_cons_succ, List.getElem_cons_zero, List.setIfInBounds_toArray, List.set_cons_zero, List.set_cons_succ]
  refine' wpAnyH_take (i := 6) (v := ?vr1_6) rfl (by kernel_rfl) (by kernel_rfl) (by kernel_rfl) (fun _ _ _ h => h) (Or.inl ⟨by rfl, ?hyr1_6⟩) (by assumption) ?restr1_6
  case hyr1_6 => (intro w hSw; (try dsimp only at hSw); go_simp; try (with_reducible rfl))
  simp only [Act.put, List.getElem_toArray, List.getElem_cons_succ, List.getElem_cons_zero, List.setIfInBounds_toArray, List.set_cons_zero, List.set_cons_succ]
  refine' wpAnyH_take (i := 8) (v := ?vr1_8) rfl (by kernel_rfl) (by kernel_rfl) (by kernel_rfl) (fun _ _ _ h => h) (Or.inl ⟨by rfl, ?hyr1_8⟩) (by assumption) ?restr1_8
  case hyr1_8 => (intro w hSw; (try dsimp only at hSw); go_simp; try (with_reducible rfl))
  simp only [Act.put, List.getElem_toArray, List.getElem_cons_succ, List.getElem_cons_zero, List.setIfInBounds_toArray, List.set_cons_zero, List.set_cons_succ]
  refine' wpAnyH_take (i := 9) (v := ?vr1_9) rfl (by kernel_rfl) (by kernel_rfl) (by kernel_rfl) (fun _ _ _ h => h) (Or.inl ⟨by rfl, ?hyr1_9⟩) (by assumption) ?restr1_9
  case hyr1_9 => (intro w hSw; (try dsimp only at hSw); go_simp; try (with_reducible rfl))
  simp only [Act.put, List.getElem_toArray, List.getElem_cons_succ, List.getElem_cons_zero, List.setIfInBounds_toArray, List.set_cons_zero, List.set_cons_succ]
  refine' wpAnyH_take (i := 10) (v := ?vr1_10) rfl (by kernel_rfl) (by kernel_rfl) (by kernel_rfl) (fun _ _ _ h => h) (Or.inl ⟨by rfl, ?hyr1_10⟩) (by assumption) ?restr1_10
  case hyr1_10 => (intro w hSw; (try dsimp only at hSw); go_simp; try (with_reducible rfl))
  simp only [Act.put, List.getElem_toArray, List.getElem_cons_succ, List.getElem_cons_zero, List.setIfInBounds_toArray, List.set_cons_zero, List.set_cons_succ]
  refine' wpAnyH_take (i := 11) (v := ?vr1_11) rfl (by kernel_rfl) (by kernel_rfl) (by kernel_rfl) (fun _ _ _ h => h) (Or.inl ⟨by rfl, ?hyr1_11⟩) (by assumption) ?restr1_11
  case hyr1_11 => (intro w hSw; (try dsimp only at hSw); go_simp; try (with_reducible rfl))
  simp only [Act.put, List.getElem_toArray, List.getElem_cons_succ, List.getElem_cons_zero, List.setIfInBounds_toArray, List.set_cons_zero, List.set_cons_succ]
  refine' wpAnyH_take (i := 12) (v := ?vr1_12) rfl (by kernel_rfl) (by kernel_rfl) (by kernel_rfl) (fun _ _ _ h => h) (Or.inl ⟨by rfl, ?hyr1_12⟩) (by assumption) ?restr1_12
  case hyr1_12 => (intro w hSw; (try dsimp only at hSw); go_simp; try (with_reducible rfl))
  simp only [Act.put, List.getElem_toArray, List.getElem_cons_succ, List.getElem_cons_zero, List.setIfInBounds_toArray, List.set_cons_zero, List.set_cons_succ]
  refine wpAnyH_ready (rs := [1]) (by kernel_rfl) (by simp) ?_
  refine AllReadyH.cons rfl (fun K hK => ?_) AllReadyH.nil
  go_simp
  refine (shift_l ⟨(a : Int), (b : Int), tp, cp, sl⟩ d HDD _ HOK).mono ?_
  rintro e w4 ⟨rfl, b1⟩
  have HZ4 := Lib.hid (HZ3.out.below b1 HZ3.out.lt)
  have HB4 := Lib.hid (HB3.out.trans (b1.mono HB3.out.size))
  refine hK.out _ _ ((hHeld.2.2.2.2.2.2.2.2.2.2.2.step b1).mk11) (fun hHeld1 => ?_)
  clear hK K hHeld
  have hHeld := hHeld1
  clear hHeld1
  try simp only [Act.put, List.getElem_toArray, List.getElem_cons_succ, List.getElem_cons_zero, List.setIfInBounds_toArray, List.set_cons_zero, List.set_cons_succ]
  refine wpAnyH_ready (rs := [7]) (by kernel_rfl) (by simp) ?_
  refine AllReadyH.cons rfl (fun K hK => ?_) AllReadyH.nil
  go_simp
  refine (plus_m d q f HFF _ HBD HBQ).mono ?_
  rintro e w5 ⟨rfl, b2⟩
  have HZ5 := Lib.hid (HZ4.out.below b2 HZ4.out.lt)
  have HB5 := Lib.hid (HB4.out.trans (b2.mono HB4.out.size))
  refine hK.out _ _ ((hHeld.2.2.2.2.2.2.2.2.2.2.2.step b2).mk11) (fun hHeld1 => ?_)
  clear hK K hHeld
  have hHeld := hHeld1
  clear hHeld1
  try simp only [Act.put, List.getElem_toArray, List.getElem_cons_succ, List.getElem_cons_zero, List.setIfInBounds_toArray, List.set_cons_zero, List.set_cons_succ]
  refine wpAnyH_ready (rs := [13]) (by kernel_rfl) (by simp) ?_
  refine AllReadyH.cons rfl (fun K hK => ?_) AllReadyH.nil
  go_simp
  refine (plus_p f p r HRR _ HBF HBP).mono ?_
  rintro e w6 ⟨rfl, b3⟩
  have HZ6 := Lib.hid (HZ5.out.below b3 HZ5.out.lt)
  have HB6 := Lib.hid (HB5.out.trans (b3.mono HB5.out.size))
  refine hK.out _ _ ((hHeld.2.2.2.2.2.2.2.2.2.2.2.step b3).mk11) (fun hHeld1 => ?_)
  clear hK K hHeld
  have hHeld := hHeld1
  clear hHeld1
  try simp only [Act.put, List.getElem_toArray, List.getElem_cons_succ, List.getElem_cons_zero, List.setIfInBounds_toArray, List.set_cons_zero, List.set_cons_succ]
  clear b1 b2 b3
  have z0 := HZ6.out.cell 0
  have z1 := HZ6.out.cell 1
  have z2 := HZ6.out.cell 2
  have f0 := HZ6.out.frozen 0
  have f1 := HZ6.out.frozen 1
  have f2 := HZ6.out.frozen 2
  simp only [List.getElem?_toArray, List.getElem?_cons_zero, List.getElem?_cons_succ] at z0 z1 z2
  refine wpAnyH_ready (rs := [14]) (by kernel_rfl) (by simp) ?_
  refine AllReadyH.cons rfl (fun K hK => ?_) AllReadyH.nil
  go_simp
  refine hK.out _ _ ((((hHeld.2.2.2.2.2.2.2.2.2.2.2.set HNE.out _ _).set HNE.out _ _).set HNE.out _ _).mk11) (fun hHeld1 => ?_)
  clear hK K hHeld
  have hHeld := hHeld1
  clear hHeld1
  try simp only [Act.put, List.getElem_toArray, List.getElem_cons_succ, List.getElem_cons_zero, List.setIfInBounds_toArray, List.set_cons_zero, List.set_cons_succ]
  refine wpAnyH_done (by kernel_rfl) ?_ _
  clear hHeld
  go_wp2_with fail
  refine bodyPost_ret (v := .agg #[.int .i64 r.east, .int .i64 r.north, .int .i64 r.up]) (by simp [results, Tryd.results61, go_sem, *]) rfl ⟨rfl, ?_⟩
  exact ((HB6.out.setCell (Nat.le_refl _) _).setCell (Nat.le_refl _) _).setCell (Nat.le_refl _) _
def erAt (ts : List Lg) (q : Int) : Bool := match ts[q.toNat]? with
  | some x => mem (net ts).ps x.frm
  | none => false
def erOk (ts : List Lg) (q : Int) : Bool := goodLg ts && (btw 0 q ((ts.length : Int) - 1) && erAt ts q)
def erV (ts : List Lg) (q : Int) : Sf := match ts[q.toNat]? with
  | some x => errV ts x
  | none => zero3
/-- ErrorOf's answer -/
def ansEr (ts : List Lg) (q : Int) : Value := if erOk ts q then .tuple #[.agg #[.int .i64 (erV ts q).east, .int .i64 (erV ts q).north, .int .i64 (erV ts q).up], .bool true] else .tuple #[.agg #[.int .i64 0, .int .i64 0, .int .i64 0], .bool false]
set_option maxHeartbeats 8000000 in
set_option maxRecDepth 100000 in
theorem errorOf_model (A : Option Addr) (n cap : Nat) (ts : List Lg) (q : Int) (w : World) (hn : n ≤ 2000000) (hts : Hid (LgAt w w.heap.size A n ts)) :
    Calls Tryd.prog 30 #[.slice A n cap, .int .i64 q] w (APost (ansEr ts q) w) := by
  have HL := Lib.hid hts.out.1
  have HA := Lib.hid (hts.out.alloc (.cells #[.int .i64 0, .int .i64 0, .int .i64 0] 35))
  have HB0 := Lib.hid ((Below.refl w.heap.size w).alloc (Nat.le_refl _) (.cells #[.int .i64 0, .int .i64 0, .int .i64 0] 35))
  have HZ0 := Lib.hid (Blk.new w 35 #[.int .i64 0, .int .i64 0, .int .i64 0])
  cases hg : goodLg ts
  · have HG := Lib.hid hg
    have HF := Lib.hid (show ansEr ts q = .tuple #[.agg #[.int .i64 0, .int .i64 0, .int .i64 0], .bool false] by unfold ansEr erOk; rw [hg]; rfl)
    clear hg
    go_enter Tryd.func30, Tryd.ntmps30
    go_wp2_with fail
    refine (legs_is A n cap ts false _ hn HA HG).mono ?_
    rintro e w1 ⟨rfl, b1⟩
    have HZ1 := Lib.hid (HZ0.out.below b1 HZ0.out.lt)
    have HB1 := Lib.hid (HB0.out.trans (b1.mono HB0.out.size))
    clear b1 HB0 HZ0
    have z0 := HZ1.out.cell 0
    have z1 := HZ1.out.cell 1
    have z2 := HZ1.out.cell 2
    have f0 := HZ1.out.frozen 0
    have f1 := HZ1.out.frozen 1
    have f2 := HZ1.out.frozen 2
    have hl := HZ1.out.lt
    simp at z0 z1 z2
    go_wp2_with fail
    refine bodyPost_ret (v := .tuple #[.agg #[.int .i64 0, .int .i64 0, .int .i64 0], .bool false]) (by simp [results, Tryd.results30, go_sem, *]) rfl ⟨by rw [HF.out], ?_⟩
    exact ((HB1.out.setCell (by simp) _).setCell (by simp) _).setCell (by simp) _
  cases hq : btw 0 q ((ts.length : Int) - 1)
  · have HG := Lib.hid hg
    have HQ := Lib.hid (show btw 0 q ((n : Int) - 1) = false by rw [← HL.out]; exact hq)
    have HF := Lib.hid (show ansEr ts q = .tuple #[.agg #[.int .i64 0, .int .i64 0, .int .i64 0], .bool false] by unfold ansEr erOk; rw [hg, hq]; rfl)
    clear hg hq
    go_enter Tryd.func30, Tryd.ntmps30
    go_wp2_with fail
    refine (legs_is A n cap ts true _ hn HA HG).mono ?_
    rintro e w1 ⟨rfl, b1⟩
    go_wp2_with fail
    refine (in_is q 0 ((n : Int) - 1) false HQ _).mono ?_
    rintro e w9 ⟨rfl, rfl⟩
    have HZ1 := Lib.hid (HZ0.out.below b1 HZ0.out.lt)
    have HB1 := Lib.hid (HB0.out.trans (b1.mono HB0.out.size))
    clear b1 HB0 HZ0
    have z0 := HZ1.out.cell 0
    have z1 := HZ1.out.cell 1
    have z2 := HZ1.out.cell 2
    have f0 := HZ1.out.frozen 0
    have f1 := HZ1.out.frozen 1
    have f2 := HZ1.out.frozen 2
    have hl := HZ1.out.lt
    simp at z0 z1 z2
    go_wp2_with fail
    refine bodyPost_ret (v := .tuple #[.agg #[.int .i64 0, .int .i64 0, .int .i64 0], .bool false]) (by simp [results, Tryd.results30, go_sem, *]) rfl ⟨by rw [HF.out], ?_⟩
    exact ((HB1.out.setCell (by simp) _).setCell (by simp) _).setCell (by simp) _
  obtain ⟨q1, q2⟩ := btw_yes hq
  obtain ⟨j, rfl⟩ : ∃ j : Nat, q = (j : Int) := ⟨q.toNat, by omega⟩
  have hjn : j < n := by rw [← HL.out]; omega
  obtain ⟨x, hx⟩ := at_lt HL.out hjn
  have HX := Lib.hid hx
  have HQ := Lib.hid (show btw 0 (j : Int) ((n : Int) - 1) = true by rw [← HL.out]; exact hq)
  have HG := Lib.hid hg
  have hji : (j : Int) < (n : Int) := by omega
  have hj0 : (0 : Int) ≤ (j : Int) := by omega
  have hea : erAt ts (j : Int) = mem (net ts).ps x.frm := by unfold erAt; rw [Int.toNat_natCast, hx]
  have hev : erV ts (j : Int) = errV ts x := by unfold erV; rw [Int.toNat_natCast, hx]
  cases hm : mem (net ts).ps x.frm
  · have HF := Lib.hid (show ansEr ts (j : Int) = .tuple #[.agg #[.int .i64 0, .int .i64 0, .int .i64 0], .bool false] by unfold ansEr erOk; rw [hg, hq, hea, hm]; rfl)
    have HH := Lib.hid (show has6 ts x.frm = false by unfold has6; rw [hg, hm]; rfl)
    clear hg hq hm hea hev hx q1 q2
    go_enter Tryd.func30, Tryd.ntmps30
    go_wp2_with fail
    refine (legs_is A n cap ts true _ hn HA HG).mono ?_
    rintro e w1 ⟨rfl, b1⟩
    go_wp2_with fail
    refine (in_is (j : Int) 0 ((n : Int) - 1) true HQ _).mono ?_
    rintro e w9 ⟨rfl, rfl⟩
    have HB9 := Lib.hid b1
    obtain ⟨gL, rfl, hgL, e0, e1, e2, e3, e4⟩ := (HA.out.step b1).2 j x HX.out
    clear b1
    go_wp2_with fail
    refine (has6_any _ n cap ts x.frm false _ HH hn (Lib.hid (HA.out.step HB9.out))).mono ?_
    rintro e w5 ⟨rfl, b5⟩
    have b1 := HB9.out.trans (b5.mono HB9.out.size)
    clear b5 HB9 e0 e1 e2 e3 e4 hgL
    have HZ1 := Lib.hid (HZ0.out.below b1 HZ0.out.lt)
    have HB1 := Lib.hid (HB0.out.trans (b1.mono HB0.out.size))
    clear b1 HB0 HZ0
    have z0 := HZ1.out.cell 0
    have z1 := HZ1.out.cell 1
    have z2 := HZ1.out.cell 2
    have f0 := HZ1.out.frozen 0
    have f1 := HZ1.out.frozen 1
    have f2 := HZ1.out.frozen 2
    have hl := HZ1.out.lt
    simp at z0 z1 z2
    go_wp2_with fail
    refine bodyPost_ret (v := .tuple #[.agg #[.int .i64 0, .int .i64 0, .int .i64 0], .bool false]) (by simp [results, Tryd.results30, go_sem, *]) rfl ⟨by rw [HF.out], ?_⟩
    exact ((HB1.out.setCell (by simp) _).setCell (by simp) _).setCell (by simp) _
  · obtain ⟨r, HRR⟩ : ∃ r, Hid (errV ts x = r) := ⟨_, Lib.hid rfl⟩
    have HF := Lib.hid (show ansEr ts (j : Int) = .tuple #[.agg #[.int .i64 r.east, .int .i64 r.north, .int .i64 r.up], .bool true] by unfold ansEr erOk; rw [hg, hq, hea, hm, hev, HRR.out]; rfl)
    have HH := Lib.hid (show has6 ts x.frm = true by unfold has6; rw [hg, hm]; rfl)
    clear hg hq hm hea hev hx q1 q2
    go_enter Tryd.func30, Tryd.ntmps30
    go_wp2_with fail
    refine (legs_is A n cap ts true _ hn HA HG).mono ?_
    rintro e w1 ⟨rfl, b1⟩
    go_wp2_with fail
    refine (in_is (j : Int) 0 ((n : Int) - 1) true HQ _).mono ?_
    rintro e w9 ⟨rfl, rfl⟩
    have HB9 := Lib.hid b1
    obtain ⟨gL, rfl, hgL, e0, e1, e2, e3, e4⟩ := (HA.out.step b1).2 j x HX.out
    clear b1
    go_wp2_with fail
    refine (has6_any _ n cap ts x.frm true _ HH hn (Lib.hid (HA.out.step HB9.out))).mono ?_
    rintro e w5 ⟨rfl, b5⟩
    have HB5 := Lib.hid (HB9.out.trans (b5.mono HB9.out.size))
    clear b5 HB9 e0 e1 e2 e3 e4 hgL
    go_wp2_with fail
    refine (error_any _ n cap ts j x r _ HRR HG HX (Lib.hid (HA.out.step HB5.out))).mono ?_
    rintro e w6 ⟨rfl, b6⟩
    have b1 := HB5.out.trans (b6.mono HB5.out.size)
    clear b6 HB5
    have HZ1 := Lib.hid (HZ0.out.below b1 HZ0.out.lt)
    have HB1 := Lib.hid (HB0.out.trans (b1.mono HB0.out.size))
    clear b1 HB0 HZ0
    have z0 := HZ1.out.cell 0
    have z1 := HZ1.out.cell 1
    have z2 := HZ1.out.cell 2
    have f0 := HZ1.out.frozen 0
    have f1 := HZ1.out.frozen 1
    have f2 := HZ1.out.frozen 2
    have hl := HZ1.out.lt
    simp at z0 z1 z2
    go_wp2_with fail
    refine bodyPost_ret (v := .tuple #[.agg #[.int .i64 r.east, .int .i64 r.north, .int .i64 r.up], .bool true]) (by simp [results, Tryd.results30, go_sem, *]) rfl ⟨by rw [HF.out], ?_⟩
    exact ((HB1.out.setCell (by simp) _).setCell (by simp) _).setCell (by simp) _
#print axioms error_any
#print axioms errorOf_model
end Go.Proofs.YtnoieboiklmkaaaDoor.nt
