/-
  The model of the legs: their shifts.
  Conditions: those that each theorem names.
-/
import Derived.Test.YtnpghhpcloljeabGreatDoorTyLegq
import Derived.Test.YtnpghhpcloljeabGreatDoorTySft
import Derived.Test.YtnpghhpcloljeabGreatDoorSin
namespace Go.Proofs.YtnpghhpcloljeabGreatDoor.lg
open Go.RowKit
open reads base ty inn
set_option linter.unusedVariables false
set_option linter.unusedSimpArgs false

def level (x : Lg) : Int := sn.rdiv (x.tape * sn.cosZ x.slope) 1000
def shf (x : Lg) : Sf := ⟨sn.rdiv (level x * sn.sinZ x.comp) 1000, sn.rdiv (level x * sn.cosZ x.comp) 1000, sn.rdiv (x.tape * sn.sinZ x.slope) 1000⟩
theorem div_is (a b r : Int) (h : Hid (sn.rdiv a b = r)) (w : World) (a0 : -1000000000 ≤ a) (a1 : a ≤ 1000000000) (b0 : 1 ≤ b) (b1 : b ≤ 1000000) :
    Calls Tryz.prog 168 #[.int .i64 a, .int .i64 b] w fun e w' => e = .returned (.int .i64 r) ∧ w = w' := by rw [← h.out]; exact sn.div_any a b w a0 a1 b0 b1
theorem mul_bd (a s m : Int) (hm : 0 ≤ m) (a0 : -m ≤ a) (a1 : a ≤ m) (s0 : -1000 ≤ s) (s1 : s ≤ 1000) : -(m * 1000) ≤ a * s ∧ a * s ≤ m * 1000 := by
  have h : (a * s).natAbs ≤ m.toNat * 1000 := by rw [Int.natAbs_mul]; exact Nat.mul_le_mul (by omega) (by omega)
  have : (m.toNat : Int) = m := by omega
  omega
theorem rdiv_k {a : Int} (m : Int) (h0 : -(m * 1000) ≤ a) (h1 : a ≤ m * 1000) (hm : 0 ≤ m) : -m ≤ sn.rdiv a 1000 ∧ sn.rdiv a 1000 ≤ m := by unfold sn.rdiv; split <;> omega
theorem level_bd {x : Lg} (h : okLg x = true) : -500 ≤ level x ∧ level x ≤ 500 := by
  obtain ⟨-, -, -, ⟨a4, a5⟩, -, -⟩ := okLg_lim h
  have c := sn.cosZ_bd x.slope
  obtain ⟨p0, p1⟩ := mul_bd x.tape (sn.cosZ x.slope) 500 (by decide) (by omega) (by omega) c.1 c.2
  exact rdiv_k 500 p0 p1 (by decide)
theorem shf_bd {x : Lg} (h : okLg x = true) : (-500 ≤ (shf x).east ∧ (shf x).east ≤ 500) ∧ (-500 ≤ (shf x).north ∧ (shf x).north ≤ 500) ∧ (-500 ≤ (shf x).up ∧ (shf x).up ≤ 500) := by
  obtain ⟨-, -, -, ⟨a4, a5⟩, -, -⟩ := okLg_lim h
  have l := level_bd h
  have s1 := sn.sinZ_bd x.comp
  have c1 := sn.cosZ_bd x.comp
  have s2 := sn.sinZ_bd x.slope
  obtain ⟨p0, p1⟩ := mul_bd (level x) (sn.sinZ x.comp) 500 (by decide) l.1 l.2 s1.1 s1.2
  obtain ⟨q0, q1⟩ := mul_bd (level x) (sn.cosZ x.comp) 500 (by decide) l.1 l.2 c1.1 c1.2
  obtain ⟨r0, r1⟩ := mul_bd x.tape (sn.sinZ x.slope) 500 (by decide) (by omega) (by omega) s2.1 s2.2
  exact ⟨rdiv_k 500 p0 p1 (by decide), rdiv_k 500 q0 q1 (by decide), rdiv_k 500 r0 r1 (by decide)⟩
/-- a leg in a box beside an answer in the making, and nothing old has turned -/
def SR (w : World) (x : Lg) (v : World) : Prop := Blk v w.heap.size 87 #[.int .i64 x.frm, .int .i64 x.to_, .int .i64 x.tape, .int .i64 x.comp, .int .i64 x.slope] ∧ (∃ u0 u1 u2, Blk v (w.heap.size + 1) 72 #[u0, u1, u2]) ∧ Below w.heap.size w v
theorem SR.start (w : World) (x : Lg) : SR w x ((w.alloc (.cells #[.int .i64 x.frm, .int .i64 x.to_, .int .i64 x.tape, .int .i64 x.comp, .int .i64 x.slope] 87)).alloc (.cells #[.int .i64 0, .int .i64 0, .int .i64 0] 72)) := by
  refine ⟨(Blk.new w _ _).alloc _, ⟨.int .i64 0, .int .i64 0, .int .i64 0, ?_⟩, ((Below.refl _ _).alloc (Nat.le_refl _) _).alloc (by simp) _⟩
  have h := Blk.new (w.alloc (.cells #[.int .i64 x.frm, .int .i64 x.to_, .int .i64 x.tape, .int .i64 x.comp, .int .i64 x.slope] 87)) 72 #[.int .i64 0, .int .i64 0, .int .i64 0]
  simpa using h
theorem SR.step {w v v' : World} {x : Lg} (h : SR w x v) (hb : Below v.heap.size v v') : SR w x v' := by
  obtain ⟨h1, ⟨u0, u1, u2, h2⟩, h3⟩ := h
  exact ⟨h1.below hb h1.lt, ⟨u0, u1, u2, h2.below hb h2.lt⟩, h3.trans (hb.mono h3.size)⟩
theorem SR.drew {w v : World} {x : Lg} (h : SR w x v) : SR w x v.drew := by
  obtain ⟨h1, ⟨u0, u1, u2, h2⟩, h3⟩ := h
  exact ⟨h1.drew, ⟨u0, u1, u2, h2.drew⟩, h3.drew⟩
theorem SR.put {w v : World} {x : Lg} (h : SR w x v) (a b c : Value) : SR w x (((v.setCell ⟨w.heap.size + 1, 0, none⟩ a).setCell ⟨w.heap.size + 1, 1, none⟩ b).setCell ⟨w.heap.size + 1, 2, none⟩ c) := by
  obtain ⟨h1, ⟨u0, u1, u2, h2⟩, h3⟩ := h
  refine ⟨((h1.far (by show _ ≠ _; simp) _).far (by show _ ≠ _; simp) _).far (by show _ ≠ _; simp) _, ⟨a, b, c, ?_⟩, ((h3.setCell (by simp) _).setCell (by simp) _).setCell (by simp) _⟩
  have k := ((h2.set_ 0 a).set_ 1 b).set_ 2 c
  simpa using k
theorem SR.zs {w v : World} {x : Lg} (h : SR w x v) : (∃ u0 u1 u2, v.cell? ⟨w.heap.size + 1, 0, none⟩ = some u0 ∧ v.cell? ⟨w.heap.size + 1, 1, none⟩ = some u1 ∧ v.cell? ⟨w.heap.size + 1, 2, none⟩ = some u2) ∧ v.frozen? ⟨w.heap.size + 1, 0, none⟩ = false ∧ v.frozen? ⟨w.heap.size + 1, 1, none⟩ = false ∧ v.frozen? ⟨w.heap.size + 1, 2, none⟩ = false ∧ w.heap.size + 1 < v.heap.size := by
  obtain ⟨h1, ⟨u0, u1, u2, h2⟩, h3⟩ := h
  exact ⟨⟨u0, u1, u2, h2.cell 0, h2.cell 1, h2.cell 2⟩, h2.frozen 0, h2.frozen 1, h2.frozen 2, h2.lt⟩
theorem sr_mk {w v : World} {x : Lg} (h : SR w x v) : v.cell? ⟨w.heap.size, 2, none⟩ = some (.int .i64 x.tape) ∧ v.cell? ⟨w.heap.size, 3, none⟩ = some (.int .i64 x.comp) ∧ v.cell? ⟨w.heap.size, 4, none⟩ = some (.int .i64 x.slope) ∧ SR w x v := ⟨h.1.cell 2, h.1.cell 3, h.1.cell 4, h⟩
set_option maxHeartbeats 4000000 in
set_option maxRecDepth 100000 in
theorem shift_any (x : Lg) (w : World) (hx : Hid (okLg x = true)) : Calls Tryz.prog 146 #[.agg #[.int .i64 x.frm, .int .i64 x.to_, .int .i64 x.tape, .int .i64 x.comp, .int .i64 x.slope]] w (APost (.agg #[.int .i64 (shf x).east, .int .i64 (shf x).north, .int .i64 (shf x).up]) w) := by
  have HS0 := Lib.hid (SR.start w x)
  obtain ⟨-, -, -, ⟨a4, a5⟩, ⟨a6, a7⟩, a8, a9⟩ := okLg_lim hx.out
  obtain ⟨cs, hcs⟩ : ∃ v, sn.cosZ x.slope = v := ⟨_, rfl⟩
  obtain ⟨ss, hss⟩ : ∃ v, sn.sinZ x.slope = v := ⟨_, rfl⟩
  obtain ⟨sc, hsc⟩ : ∃ v, sn.sinZ x.comp = v := ⟨_, rfl⟩
  obtain ⟨cc, hcc⟩ : ∃ v, sn.cosZ x.comp = v := ⟨_, rfl⟩
  obtain ⟨lv, hlv⟩ : ∃ v, sn.rdiv (x.tape * cs) 1000 = v := ⟨_, rfl⟩
  have hl : level x = lv := by unfold level; rw [hcs]; exact hlv
  have lb := level_bd hx.out
  rw [hl] at lb
  obtain ⟨lb0, lb1⟩ := lb
  have k1 := sn.cosZ_bd x.slope
  have k2 := sn.sinZ_bd x.slope
  have k3 := sn.sinZ_bd x.comp
  have k4 := sn.cosZ_bd x.comp
  rw [hcs] at k1
  rw [hss] at k2
  rw [hsc] at k3
  rw [hcc] at k4
  obtain ⟨m0, m1⟩ := mul_bd x.tape cs 500 (by decide) (by omega) (by omega) k1.1 k1.2
  obtain ⟨m2, m3⟩ := mul_bd x.tape ss 500 (by decide) (by omega) (by omega) k2.1 k2.2
  obtain ⟨m4, m5⟩ := mul_bd lv sc 500 (by decide) lb0 lb1 k3.1 k3.2
  obtain ⟨m6, m7⟩ := mul_bd lv cc 500 (by decide) lb0 lb1 k4.1 k4.2
  obtain ⟨ee, he⟩ : ∃ v, sn.rdiv (lv * sc) 1000 = v := ⟨_, rfl⟩
  obtain ⟨nn, hn⟩ : ∃ v, sn.rdiv (lv * cc) 1000 = v := ⟨_, rfl⟩
  obtain ⟨uu, hu⟩ : ∃ v, sn.rdiv (x.tape * ss) 1000 = v := ⟨_, rfl⟩
  have HA := Lib.hid (show shf x = ⟨ee, nn, uu⟩ by unfold shf; rw [hl, hsc, hcc, hss, he, hn, hu])
  have HLV := Lib.hid hlv
  have HE := Lib.hid he
  have HN := Lib.hid hn
  have HU := Lib.hid hu
  have HCS := Lib.hid hcs
  have HSS := Lib.hid hss
  have HSC := Lib.hid hsc
  have HCC := Lib.hid hcc
  have w1 : IntKind.i64.wrap (x.tape * cs) = x.tape * cs := IntWalk.i64_in _ (by omega)
  have w2 : IntKind.i64.wrap (x.tape * ss) = x.tape * ss := IntWalk.i64_in _ (by omega)
  have w3 : IntKind.i64.wrap (lv * sc) = lv * sc := IntWalk.i64_in _ (by omega)
  have w4 : IntKind.i64.wrap (lv * cc) = lv * cc := IntWalk.i64_in _ (by omega)
  have W1 := Lib.hid w1
  have W2 := Lib.hid w2
  have W3 := Lib.hid w3
  have W4 := Lib.hid w4
  clear hl hlv he hn hu k1 k2 k3 k4 hcs hss hsc hcc w1 w2 w3 w4 hx
  rw [HA.out]
  go_enter Tryz.func146, Tryz.ntmps146
  go_wp2_with fail
  refine wp_region_held_drew (S := (fun v => v.cell? ⟨w.heap.size, 2, none⟩ = some (.int .i64 x.tape) ∧ v.cell? ⟨w.heap.size, 3, none⟩ = some (.int .i64 x.comp) ∧ v.cell? ⟨w.heap.size, 4, none⟩ = some (.int .i64 x.slope) ∧ SR w x v)) (by kernel_rfl) ?_ (fun hHeld => ?_)
  · exact sr_mk HS0.out.drew
  refine' wpAnyH_take (i := 0) (v := ?vr1_0) rfl (by kernel_rfl) (by kernel_rfl) (by kernel_rfl) (fun _ _ _ h => h) (Or.inl ⟨by rfl, ?hyr1_0⟩) (by assumption) ?restr1_0
  case hyr1_0 => (intro w hSw; (try dsimp only at hSw); go_simp; try (with_reducible rfl))
  simp only [Act.put, List.getElem_toArray, List.getElem_cons_succ, List.getElem_cons_zero, List.setIfInBounds_toArray, List.set_cons_zero, List.set_cons_succ]
  refine' wpAnyH_take (i := 1) (v := ?vr1_1) rfl (by kernel_rfl) (by kernel_rfl) (by kernel_rfl) (fun _ _ _ h => h) (Or.inl ⟨by rfl, ?hyr1_1⟩) (by assumption) ?restr1_1
  case hyr1_1 => (intro w hSw; (try dsimp only at hSw); go_simp; try (with_reducible rfl))
  simp only [Act.put, List.getElem_toArray, List.getElem_cons_succ, List.getElem_cons_zero, List.setIfInBounds_toArray, List.set_cons_zero, List.set_cons_succ]
  refine' wpAnyH_take (i := 2) (v := ?vr1_2) rfl (by kernel_rfl) (by kernel_rfl) (by kernel_rfl) (fun _ _ _ h => h) (Or.inl ⟨by rfl, ?hyr1_2⟩) (by assumption) ?restr1_2
  case hyr1_2 => (intro w hSw; (try dsimp only at hSw); go_simp; try (with_reducible rfl))
  simp only [Act.put, List.getElem_toArray, List.getElem_cons_succ, List.getElem_cons_zero, List.setIfInBounds_toArray, List.set_cons_zero, List.set_cons_succ]
  refine' wpAnyH_take (i := 3) (v := ?vr1_3) rfl (by kernel_rfl) (by kernel_rfl) (by kernel_rfl) (fun _ _ _ h => h) (Or.inl ⟨by rfl, ?hyr1_3⟩) (by assumption) ?restr1_3
  case hyr1_3 => (intro w hSw; (try dsimp only at hSw); go_simp; try (with_reducible rfl))
  simp only [Act.put, List.getElem_toArray, List.getElem_cons_succ, List.getElem_cons_zero, List.setIfInBounds_toArray, List.set_cons_zero, List.set_cons_succ]
  refine wpAnyH_ready (rs := [4]) (by kernel_rfl) (by simp) ?_
  refine AllReadyH.cons rfl (fun K hK => ?_) AllReadyH.nil
  go_simp
  refine (sn.cosine_is x.slope cs HCS.out _ (by omega) (by omega)).mono ?_
  rintro e w5 ⟨rfl, b⟩
  refine hK.out _ _ (sr_mk (hHeld.2.2.2.step b)) (fun hHeld1 => ?_)
  clear hK K hHeld
  have hHeld := hHeld1
  clear hHeld1
  try simp only [Act.put, List.getElem_toArray, List.getElem_cons_succ, List.getElem_cons_zero, List.setIfInBounds_toArray, List.set_cons_zero, List.set_cons_succ]
  have hw := W1.out
  refine' wpAnyH_take (i := 5) (v := ?vr1_5) rfl (by kernel_rfl) (by kernel_rfl) (by kernel_rfl) (fun _ _ _ h => h) (Or.inl ⟨by rfl, ?hyr1_5⟩) (by assumption) ?restr1_5
  case hyr1_5 => (intro w hSw; (try dsimp only at hSw); go_simp; try (with_reducible rfl))
  simp only [Act.put, List.getElem_toArray, List.getElem_cons_succ, List.getElem_cons_zero, List.setIfInBounds_toArray, List.set_cons_zero, List.set_cons_succ]
  clear hw
  refine wpAnyH_ready (rs := [6]) (by kernel_rfl) (by simp) ?_
  refine AllReadyH.cons rfl (fun K hK => ?_) AllReadyH.nil
  go_simp
  refine (div_is (x.tape * cs) 1000 lv HLV _ (by omega) (by omega) (by decide) (by decide)).mono ?_
  rintro e w' ⟨rfl, rfl⟩
  refine hK.out _ _ (hHeld) (fun hHeld1 => ?_)
  clear hK K hHeld
  have hHeld := hHeld1
  clear hHeld1
  try simp only [Act.put, List.getElem_toArray, List.getElem_cons_succ, List.getElem_cons_zero, List.setIfInBounds_toArray, List.set_cons_zero, List.set_cons_succ]
  refine' wpAnyH_take (i := 7) (v := ?vr1_7) rfl (by kernel_rfl) (by kernel_rfl) (by kernel_rfl) (fun _ _ _ h => h) (Or.inl ⟨by rfl, ?hyr1_7⟩) (by assumption) ?restr1_7
  case hyr1_7 => (intro w hSw; (try dsimp only at hSw); go_simp; try (with_reducible rfl))
  simp only [Act.put, List.getElem_toArray, List.getElem_cons_succ, List.getElem_cons_zero, List.setIfInBounds_toArray, List.set_cons_zero, List.set_cons_succ]
  refine wpAnyH_done (by kernel_rfl) ?_ _
  have HS1 := Lib.hid hHeld.2.2.2
  clear hHeld HS0
  go_wp2_with fail
  refine wp_region_held_drew (S := (fun v => v.cell? ⟨w.heap.size, 2, none⟩ = some (.int .i64 x.tape) ∧ v.cell? ⟨w.heap.size, 3, none⟩ = some (.int .i64 x.comp) ∧ v.cell? ⟨w.heap.size, 4, none⟩ = some (.int .i64 x.slope) ∧ SR w x v)) (by kernel_rfl) ?_ (fun hHeld => ?_)
  · exact sr_mk HS1.out.drew
  refine' wpAnyH_take (i := 0) (v := ?vr2_0) rfl (by kernel_rfl) (by kernel_rfl) (by kernel_rfl) (fun _ _ _ h => h) (Or.inl ⟨by rfl, ?hyr2_0⟩) (by assumption) ?restr2_0
  case hyr2_0 => (intro w hSw; (try dsimp only at hSw); go_simp; try (with_reducible rfl))
  simp only [Act.put, List.getElem_toArray, List.getElem_cons_succ, List.getElem_cons_zero, List.setIfInBounds_toArray, List.set_cons_zero, List.set_cons_succ]
  refine' wpAnyH_take (i := 1) (v := ?vr2_1) rfl (by kernel_rfl) (by kernel_rfl) (by kernel_rfl) (fun _ _ _ h => h) (Or.inl ⟨by rfl, ?hyr2_1⟩) (by assumption) ?restr2_1
  case hyr2_1 => (intro w hSw; (try dsimp only at hSw); go_simp; try (with_reducible rfl))
  simp only [Act.put, List.getElem_toArray, List.getElem_cons_succ, List.getElem_cons_zero, List.setIfInBounds_toArray, List.set_cons_zero, List.set_cons_succ]
  refine' wpAnyH_take (i := 2) (v := ?vr2_2) rfl (by kernel_rfl) (by kernel_rfl) (by kernel_rfl) (fun _ _ _ h => h) (Or.inl ⟨by rfl, ?hyr2_2⟩) (by assumption) ?restr2_2
  case hyr2_2 => (intro w hSw; (try dsimp only at hSw); go_simp; try (with_reducible rfl))
  simp only [Act.put, List.getElem_toArray, List.getElem_cons_succ, List.getElem_cons_zero, List.setIfInBounds_toArray, List.set_cons_zero, List.set_cons_succ]
  refine' wpAnyH_take (i := 6) (v := ?vr2_6) rfl (by kernel_rfl) (by kernel_rfl) (by kernel_rfl) (fun _ _ _ h => h) (Or.inl ⟨by rfl, ?hyr2_6⟩) (by assumption) ?restr2_6
  case hyr2_6 => (intro w hSw; (try dsimp only at hSw); go_simp; try (with_reducible rfl))
  simp only [Act.put, List.getElem_toArray, List.getElem_cons_succ, List.getElem_cons_zero, List.setIfInBounds_toArray, List.set_cons_zero, List.set_cons_succ]
  refine' wpAnyH_take (i := 7) (v := ?vr2_7) rfl (by kernel_rfl) (by kernel_rfl) (by kernel_rfl) (fun _ _ _ h => h) (Or.inl ⟨by rfl, ?hyr2_7⟩) (by assumption) ?restr2_7
  case hyr2_7 => (intro w hSw; (try dsimp only at hSw); go_simp; try (with_reducible rfl))
  simp only [Act.put, List.getElem_toArray, List.getElem_cons_succ, List.getElem_cons_zero, List.setIfInBounds_toArray, List.set_cons_zero, List.set_cons_succ]
  refine' wpAnyH_take (i := 8) (v := ?vr2_8) rfl (by kernel_rfl) (by kernel_rfl) (by kernel_rfl) (fun _ _ _ h => h) (Or.inl ⟨by rfl, ?hyr2_8⟩) (by assumption) ?restr2_8
  case hyr2_8 => (intro w hSw; (try dsimp only at hSw); go_simp; try (with_reducible rfl))
  simp only [Act.put, List.getElem_toArray, List.getElem_cons_succ, List.getElem_cons_zero, List.setIfInBounds_toArray, List.set_cons_zero, List.set_cons_succ]
  refine' wpAnyH_take (i := 12) (v := ?vr2_12) rfl (by kernel_rfl) (by kernel_rfl) (by kernel_rfl) (fun _ _ _ h => h) (Or.inl ⟨by rfl, ?hyr2_12⟩) (by assumption) ?restr2_12
  case hyr2_12 => (intro w hSw; (try dsimp only at hSw); go_simp; try (with_reducible rfl))
  simp only [Act.put, List.getElem_toArray, List.getElem_cons_succ, List.getElem_cons_zero, List.setIfInBounds_toArray, List.set_cons_zero, List.set_cons_succ]
  refine' wpAnyH_take (i := 13) (v := ?vr2_13) rfl (by kernel_rfl) (by kernel_rfl) (by kernel_rfl) (fun _ _ _ h => h) (Or.inl ⟨by rfl, ?hyr2_13⟩) (by assumption) ?restr2_13
  case hyr2_13 => (intro w hSw; (try dsimp only at hSw); go_simp; try (with_reducible rfl))
  simp only [Act.put, List.getElem_toArray, List.getElem_cons_succ, List.getElem_cons_zero, List.setIfInBounds_toArray, List.set_cons_zero, List.set_cons_succ]
  refine' wpAnyH_take (i := 14) (v := ?vr2_14) rfl (by kernel_rfl) (by kernel_rfl) (by kernel_rfl) (fun _ _ _ h => h) (Or.inl ⟨by rfl, ?hyr2_14⟩) (by assumption) ?restr2_14
  case hyr2_14 => (intro w hSw; (try dsimp only at hSw); go_simp; try (with_reducible rfl))
  simp only [Act.put, List.getElem_toArray, List.getElem_cons_succ, List.getElem_cons_zero, List.setIfInBounds_toArray, List.set_cons_zero, List.set_cons_succ]
  refine' wpAnyH_take (i := 15) (v := ?vr2_15) rfl (by kernel_rfl) (by kernel_rfl) (by kernel_rfl) (fun _ _ _ h => h) (Or.inl ⟨by rfl, ?hyr2_15⟩) (by assumption) ?restr2_15
  case hyr2_15 => (intro w hSw; (try dsimp only at hSw); go_simp; try (with_reducible rfl))
  simp only [Act.put, List.getElem_toArray, List.getElem_cons_succ, List.getElem_cons_zero, List.setIfInBounds_toArray, List.set_cons_zero, List.set_cons_succ]
  refine wpAnyH_ready (rs := [3]) (by kernel_rfl) (by simp) ?_
  refine AllReadyH.cons rfl (fun K hK => ?_) AllReadyH.nil
  go_simp
  refine (sn.sine_is x.comp sc HSC.out _ (by omega) (by omega)).mono ?_
  rintro e w4 ⟨rfl, b⟩
  refine hK.out _ _ (sr_mk (hHeld.2.2.2.step b)) (fun hHeld1 => ?_)
  clear hK K hHeld
  have hHeld := hHeld1
  clear hHeld1
  try simp only [Act.put, List.getElem_toArray, List.getElem_cons_succ, List.getElem_cons_zero, List.setIfInBounds_toArray, List.set_cons_zero, List.set_cons_succ]
  have hw := W3.out
  refine' wpAnyH_take (i := 4) (v := ?vr2_4) rfl (by kernel_rfl) (by kernel_rfl) (by kernel_rfl) (fun _ _ _ h => h) (Or.inl ⟨by rfl, ?hyr2_4⟩) (by assumption) ?restr2_4
  case hyr2_4 => (intro w hSw; (try dsimp only at hSw); go_simp; try (with_reducible rfl))
  simp only [Act.put, List.getElem_toArray, List.getElem_cons_succ, List.getElem_cons_zero, List.setIfInBounds_toArray, List.set_cons_zero, List.set_cons_succ]
  clear hw
  refine wpAnyH_ready (rs := [5]) (by kernel_rfl) (by simp) ?_
  refine AllReadyH.cons rfl (fun K hK => ?_) AllReadyH.nil
  go_simp
  refine (div_is (lv * sc) 1000 ee HE _ (by omega) (by omega) (by decide) (by decide)).mono ?_
  rintro e w' ⟨rfl, rfl⟩
  refine hK.out _ _ (hHeld) (fun hHeld1 => ?_)
  clear hK K hHeld
  have hHeld := hHeld1
  clear hHeld1
  try simp only [Act.put, List.getElem_toArray, List.getElem_cons_succ, List.getElem_cons_zero, List.setIfInBounds_toArray, List.set_cons_zero, List.set_cons_succ]
  refine wpAnyH_ready (rs := [9]) (by kernel_rfl) (by simp) ?_
  refine AllReadyH.cons rfl (fun K hK => ?_) AllReadyH.nil
  go_simp
  refine (sn.cosine_is x.comp cc HCC.out _ (by omega) (by omega)).mono ?_
  rintro e w10 ⟨rfl, b⟩
  refine hK.out _ _ (sr_mk (hHeld.2.2.2.step b)) (fun hHeld1 => ?_)
  clear hK K hHeld
  have hHeld := hHeld1
  clear hHeld1
  try simp only [Act.put, List.getElem_toArray, List.getElem_cons_succ, List.getElem_cons_zero, List.setIfInBounds_toArray, List.set_cons_zero, List.set_cons_succ]
  have hw := W4.out
  refine' wpAnyH_take (i := 10) (v := ?vr2_10) rfl (by kernel_rfl) (by kernel_rfl) (by kernel_rfl) (fun _ _ _ h => h) (Or.inl ⟨by rfl, ?hyr2_10⟩) (by assumption) ?restr2_10
  case hyr2_10 => (intro w hSw; (try dsimp only at hSw); go_simp; try (with_reducible rfl))
  simp only [Act.put, List.getElem_toArray, List.getElem_cons_succ, List.getElem_cons_zero, List.setIfInBounds_toArray, List.set_cons_zero, List.set_cons_succ]
  clear hw
  refine wpAnyH_ready (rs := [11]) (by kernel_rfl) (by simp) ?_
  refine AllReadyH.cons rfl (fun K hK => ?_) AllReadyH.nil
  go_simp
  refine (div_is (lv * cc) 1000 nn HN _ (by omega) (by omega) (by decide) (by decide)).mono ?_
  rintro e w' ⟨rfl, rfl⟩
  refine hK.out _ _ (hHeld) (fun hHeld1 => ?_)
  clear hK K hHeld
  have hHeld := hHeld1
  clear hHeld1
  try simp only [Act.put, List.getElem_toArray, List.getElem_cons_succ, List.getElem_cons_zero, List.setIfInBounds_toArray, List.set_cons_zero, List.set_cons_succ]
  refine wpAnyH_ready (rs := [16]) (by kernel_rfl) (by simp) ?_
  refine AllReadyH.cons rfl (fun K hK => ?_) AllReadyH.nil
  go_simp
  refine (sn.sine_is x.slope ss HSS.out _ (by omega) (by omega)).mono ?_
  rintro e w17 ⟨rfl, b⟩
  refine hK.out _ _ (sr_mk (hHeld.2.2.2.step b)) (fun hHeld1 => ?_)
  clear hK K hHeld
  have hHeld := hHeld1
  clear hHeld1
  try simp only [Act.put, List.getElem_toArray, List.getElem_cons_succ, List.getElem_cons_zero, List.setIfInBounds_toArray, List.set_cons_zero, List.set_cons_succ]
  have hw := W2.out
  refine' wpAnyH_take (i := 17) (v := ?vr2_17) rfl (by kernel_rfl) (by kernel_rfl) (by kernel_rfl) (fun _ _ _ h => h) (Or.inl ⟨by rfl, ?hyr2_17⟩) (by assumption) ?restr2_17
  case hyr2_17 => (intro w hSw; (try dsimp only at hSw); go_simp; try (with_reducible rfl))
  simp only [Act.put, List.getElem_toArray, List.getElem_cons_succ, List.getElem_cons_zero, List.setIfInBounds_toArray, List.set_cons_zero, List.set_cons_succ]
  clear hw
  refine wpAnyH_ready (rs := [18]) (by kernel_rfl) (by simp) ?_
  refine AllReadyH.cons rfl (fun K hK => ?_) AllReadyH.nil
  go_simp
  refine (div_is (x.tape * ss) 1000 uu HU _ (by omega) (by omega) (by decide) (by decide)).mono ?_
  rintro e w' ⟨rfl, rfl⟩
  refine hK.out _ _ (hHeld) (fun hHeld1 => ?_)
  clear hK K hHeld
  have hHeld := hHeld1
  clear hHeld1
  try simp only [Act.put, List.getElem_toArray, List.getElem_cons_succ, List.getElem_cons_zero, List.setIfInBounds_toArray, List.set_cons_zero, List.set_cons_succ]
  refine' wpAnyH_take (i := 19) (v := ?vr2_19) rfl (by kernel_rfl) (by kernel_rfl) (by kernel_rfl) (fun _ _ _ h => h) (Or.inl ⟨by rfl, ?hyr2_19⟩) (by assumption) ?restr2_19
  case hyr2_19 => (intro w hSw; (try dsimp only at hSw); go_simp; try (with_reducible rfl))
  simp only [Act.put, List.getElem_toArray, List.getElem_cons_succ, List.getElem_cons_zero, List.setIfInBounds_toArray, List.set_cons_zero, List.set_cons_succ]
  have HQ := Lib.hid hHeld.2.2.2
  obtain ⟨⟨u0, u1, u2, z0, z1, z2⟩, f0, f1, f2, hz⟩ := HQ.out.zs
  refine wpAnyH_ready (rs := [20]) (by kernel_rfl) (by simp) ?_
  refine AllReadyH.cons rfl (fun K hK => ?_) AllReadyH.nil
  go_simp
  refine hK.out _ _ (sr_mk (HQ.out.put _ _ _)) (fun hHeld1 => ?_)
  clear hK K hHeld
  have hHeld := hHeld1
  clear hHeld1
  try simp only [Act.put, List.getElem_toArray, List.getElem_cons_succ, List.getElem_cons_zero, List.setIfInBounds_toArray, List.set_cons_zero, List.set_cons_succ]
  refine wpAnyH_done (by kernel_rfl) ?_ _
  go_wp2_with fail
  refine bodyPost_ret (v := .agg #[.int .i64 ee, .int .i64 nn, .int .i64 uu]) (by simp [results, Tryz.results146, go_sem, *]) rfl ⟨rfl, ?_⟩
  exact ((HQ.out.2.2.setCell (by simp) _).setCell (by simp) _).setCell (by simp) _
end Go.Proofs.YtnpghhpcloljeabGreatDoor.lg
