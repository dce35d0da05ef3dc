/-
  The model's text of a leg.
  Conditions: the leg is valid.
-/
import Derived.Test.YtiojgmojnnbpiaaDoorLgA
import Derived.Test.YtiojgmojnnbpiaaDoorTxt
import Derived.Deep.RegionHeld3
namespace Go.Proofs.YtiojgmojnnbpiaaDoor.lg
open Go.RowKit
open reads base ty inn pow txt
set_option linter.unusedVariables false
set_option linter.unusedSimpArgs false

/-- the text of a leg, piece by piece -/
def t0 (x : Lg) : ByteArray := (⟨#[108, 101, 103, 32]⟩ : ByteArray) ++ num x.frm
def t1 (x : Lg) : ByteArray := t0 x ++ (⟨#[45]⟩ : ByteArray)
def t2 (x : Lg) : ByteArray := t1 x ++ num x.to_
def t3 (x : Lg) : ByteArray := t2 x ++ (⟨#[32, 116, 97, 112, 101, 32]⟩ : ByteArray)
def t4 (x : Lg) : ByteArray := t3 x ++ num x.tape
def t5 (x : Lg) : ByteArray := t4 x ++ (⟨#[32, 99, 111, 109, 112, 97, 115, 115, 32]⟩ : ByteArray)
def t6 (x : Lg) : ByteArray := t5 x ++ num x.comp
def t7 (x : Lg) : ByteArray := t6 x ++ (⟨#[32, 115, 108, 111, 112, 101, 32]⟩ : ByteArray)
def t8 (x : Lg) : ByteArray := t7 x ++ num x.slope
def ltx (x : Lg) : ByteArray := t8 x
/-- a leg in a box, and nothing old has turned -/
def TX (w : World) (x : Lg) (v : World) : Prop := Blk v w.heap.size 41 #[.int .i64 x.frm, .int .i64 x.to_, .int .i64 x.tape, .int .i64 x.comp, .int .i64 x.slope] ∧ Below w.heap.size w v
theorem TX.start (w : World) (x : Lg) : TX w x (w.alloc (.cells #[.int .i64 x.frm, .int .i64 x.to_, .int .i64 x.tape, .int .i64 x.comp, .int .i64 x.slope] 41)) := ⟨Blk.new w _ _, (Below.refl _ _).alloc (Nat.le_refl _) _⟩
theorem TX.step {w v v' : World} {x : Lg} (h : TX w x v) (hb : Below v.heap.size v v') : TX w x v' := ⟨h.1.below hb h.1.lt, h.2.trans (hb.mono h.2.size)⟩
theorem tx_mk {w v : World} {x : Lg} (h : TX w x v) : v.cell? ⟨w.heap.size, 0, none⟩ = some (.int .i64 x.frm) ∧ v.cell? ⟨w.heap.size, 1, none⟩ = some (.int .i64 x.to_) ∧ v.cell? ⟨w.heap.size, 2, none⟩ = some (.int .i64 x.tape) ∧ v.cell? ⟨w.heap.size, 3, none⟩ = some (.int .i64 x.comp) ∧ v.cell? ⟨w.heap.size, 4, none⟩ = some (.int .i64 x.slope) ∧ TX w x v := ⟨h.1.cell 0, h.1.cell 1, h.1.cell 2, h.1.cell 3, h.1.cell 4, h⟩
/-- the numbers of a leg and the texts on the way -/
structure Pc (x : Lg) (n0 n1 n2 n3 n4 p0 p1 p2 p3 p4 p5 p6 p7 p8 : ByteArray) : Prop where
  m0 : num x.frm = n0
  m1 : num x.to_ = n1
  m2 : num x.tape = n2
  m3 : num x.comp = n3
  m4 : num x.slope = n4
  a0 : ∀ W : World, (Op.stringOp .add (⟨#[108, 101, 103, 32]⟩ : ByteArray) n0).run Tryd.prog W = .ok (.string p0) W
  a1 : ∀ W : World, (Op.stringOp .add p0 (⟨#[45]⟩ : ByteArray)).run Tryd.prog W = .ok (.string p1) W
  a2 : ∀ W : World, (Op.stringOp .add p1 n1).run Tryd.prog W = .ok (.string p2) W
  a3 : ∀ W : World, (Op.stringOp .add p2 (⟨#[32, 116, 97, 112, 101, 32]⟩ : ByteArray)).run Tryd.prog W = .ok (.string p3) W
  a4 : ∀ W : World, (Op.stringOp .add p3 n2).run Tryd.prog W = .ok (.string p4) W
  a5 : ∀ W : World, (Op.stringOp .add p4 (⟨#[32, 99, 111, 109, 112, 97, 115, 115, 32]⟩ : ByteArray)).run Tryd.prog W = .ok (.string p5) W
  a6 : ∀ W : World, (Op.stringOp .add p5 n3).run Tryd.prog W = .ok (.string p6) W
  a7 : ∀ W : World, (Op.stringOp .add p6 (⟨#[32, 115, 108, 111, 112, 101, 32]⟩ : ByteArray)).run Tryd.prog W = .ok (.string p7) W
  a8 : ∀ W : World, (Op.stringOp .add p7 n4).run Tryd.prog W = .ok (.string p8) W
  last : ltx x = p8
  z7 : t7 x = p7
  sz : p7.size ≤ 60
theorem pieces (x : Lg) (hx : okLg x = true) : ∃ n0 n1 n2 n3 n4 p0 p1 p2 p3 p4 p5 p6 p7 p8, Pc x n0 n1 n2 n3 n4 p0 p1 p2 p3 p4 p5 p6 p7 p8 := by
  obtain ⟨⟨a0, a1⟩, ⟨a2, a3⟩, -, ⟨a4, a5⟩, ⟨a6, a7⟩, a8, a9⟩ := okLg_lim hx
  have s0 := num_size x.frm (by omega) (by omega)
  have s1 := num_size x.to_ (by omega) (by omega)
  have s2 := num_size x.tape (by omega) (by omega)
  have s3 := num_size x.comp (by omega) (by omega)
  have s4 := num_size x.slope (by omega) (by omega)
  have e0 : (⟨#[108, 101, 103, 32]⟩ : ByteArray).size = 4 := rfl
  have e1 : (⟨#[45]⟩ : ByteArray).size = 1 := rfl
  have e2 : (⟨#[32, 116, 97, 112, 101, 32]⟩ : ByteArray).size = 6 := rfl
  have e3 : (⟨#[32, 99, 111, 109, 112, 97, 115, 115, 32]⟩ : ByteArray).size = 9 := rfl
  have e4 : (⟨#[32, 115, 108, 111, 112, 101, 32]⟩ : ByteArray).size = 7 := rfl
  have z0 := add_size (show (⟨#[108, 101, 103, 32]⟩ : ByteArray) ++ num x.frm = t0 x from rfl)
  have z1 := add_size (show t0 x ++ (⟨#[45]⟩ : ByteArray) = t1 x from rfl)
  have z2 := add_size (show t1 x ++ num x.to_ = t2 x from rfl)
  have z3 := add_size (show t2 x ++ (⟨#[32, 116, 97, 112, 101, 32]⟩ : ByteArray) = t3 x from rfl)
  have z4 := add_size (show t3 x ++ num x.tape = t4 x from rfl)
  have z5 := add_size (show t4 x ++ (⟨#[32, 99, 111, 109, 112, 97, 115, 115, 32]⟩ : ByteArray) = t5 x from rfl)
  have z6 := add_size (show t5 x ++ num x.comp = t6 x from rfl)
  have z7 := add_size (show t6 x ++ (⟨#[32, 115, 108, 111, 112, 101, 32]⟩ : ByteArray) = t7 x from rfl)
  have z8 := add_size (show t7 x ++ num x.slope = t8 x from rfl)
  refine ⟨_, _, _, _, _, _, _, _, _, _, _, _, _, _, rfl, rfl, rfl, rfl, rfl, fun W => add_run (show (⟨#[108, 101, 103, 32]⟩ : ByteArray) ++ num x.frm = t0 x from rfl) 100 (by omega) (by decide) W, fun W => add_run (show t0 x ++ (⟨#[45]⟩ : ByteArray) = t1 x from rfl) 100 (by omega) (by decide) W, fun W => add_run (show t1 x ++ num x.to_ = t2 x from rfl) 100 (by omega) (by decide) W, fun W => add_run (show t2 x ++ (⟨#[32, 116, 97, 112, 101, 32]⟩ : ByteArray) = t3 x from rfl) 100 (by omega) (by decide) W, fun W => add_run (show t3 x ++ num x.tape = t4 x from rfl) 100 (by omega) (by decide) W, fun W => add_run (show t4 x ++ (⟨#[32, 99, 111, 109, 112, 97, 115, 115, 32]⟩ : ByteArray) = t5 x from rfl) 100 (by omega) (by decide) W, fun W => add_run (show t5 x ++ num x.comp = t6 x from rfl) 100 (by omega) (by decide) W, fun W => add_run (show t6 x ++ (⟨#[32, 115, 108, 111, 112, 101, 32]⟩ : ByteArray) = t7 x from rfl) 100 (by omega) (by decide) W, fun W => add_run (show t7 x ++ num x.slope = t8 x from rfl) 100 (by omega) (by decide) W, rfl, rfl, by omega⟩
set_option maxHeartbeats 4000000 in
set_option maxRecDepth 100000 in
theorem l4Text_any (x : Lg) (w : World) (hx : Hid (okLg x = true)) : Calls Tryd.prog 55 #[.agg #[.int .i64 x.frm, .int .i64 x.to_, .int .i64 x.tape, .int .i64 x.comp, .int .i64 x.slope]] w (APost (.string (ltx x)) w) := by
  obtain ⟨⟨a0, a1⟩, ⟨a2, a3⟩, -, ⟨a4, a5⟩, ⟨a6, a7⟩, a8, a9⟩ := okLg_lim hx.out
  obtain ⟨n0, n1, n2, n3, n4, p0, p1, p2, p3, p4, p5, p6, p7, p8, hp⟩ := pieces x hx.out
  have N0 := Lib.hid hp.m0
  have N1 := Lib.hid hp.m1
  have N2 := Lib.hid hp.m2
  have N3 := Lib.hid hp.m3
  have N4 := Lib.hid hp.m4
  have A0 := Lib.hid hp.a0
  have A1 := Lib.hid hp.a1
  have A2 := Lib.hid hp.a2
  have A3 := Lib.hid hp.a3
  have A4 := Lib.hid hp.a4
  have A5 := Lib.hid hp.a5
  have A6 := Lib.hid hp.a6
  have A7 := Lib.hid hp.a7
  have A8 := Lib.hid hp.a8
  have HL := Lib.hid hp.last
  have H7 := Lib.hid hp.z7
  have HZ := Lib.hid hp.sz
  clear hp
  rw [HL.out]
  have HS0 := Lib.hid (TX.start w x)
  go_enter Tryd.func55, Tryd.ntmps55
  go_wp2_with fail
  refine wp_region_held_drew (S := (fun v => v.cell? ⟨w.heap.size, 0, none⟩ = some (.int .i64 x.frm) ∧ v.cell? ⟨w.heap.size, 1, none⟩ = some (.int .i64 x.to_) ∧ v.cell? ⟨w.heap.size, 2, none⟩ = some (.int .i64 x.tape) ∧ v.cell? ⟨w.heap.size, 3, none⟩ = some (.int .i64 x.comp) ∧ v.cell? ⟨w.heap.size, 4, none⟩ = some (.int .i64 x.slope) ∧ TX w x v)) (by kernel_rfl) ?_ (fun hHeld => ?_)
  · exact tx_mk (HS0.out.step (drewN_below _ 1))
  refine' wpAnyH_take (i := 0) (v := ?vr1_0) rfl (by kernel_rfl) (by kernel_rfl) (by kernel_rfl) (fun _ _ _ h => h) (Or.inl ⟨by rfl, ?hyr1_0⟩) (by assumption) ?restr1_0
  case hyr1_0 => (intro w hSw; (try dsimp only at hSw); go_simp; try (with_reducible rfl))
  simp only [Act.put, List.getElem_toArray, List.getElem_cons_succ, List.getElem_cons_zero, List.setIfInBounds_toArray, List.set_cons_zero, List.set_cons_succ]
  refine' wpAnyH_take (i := 1) (v := ?vr1_1) rfl (by kernel_rfl) (by kernel_rfl) (by kernel_rfl) (fun _ _ _ h => h) (Or.inl ⟨by rfl, ?hyr1_1⟩) (by assumption) ?restr1_1
  case hyr1_1 => (intro w hSw; (try dsimp only at hSw); go_simp; try (with_reducible rfl))
  simp only [Act.put, List.getElem_toArray, List.getElem_cons_succ, List.getElem_cons_zero, List.setIfInBounds_toArray, List.set_cons_zero, List.set_cons_succ]
  refine' wpAnyH_take (i := 5) (v := ?vr1_5) rfl (by kernel_rfl) (by kernel_rfl) (by kernel_rfl) (fun _ _ _ h => h) (Or.inl ⟨by rfl, ?hyr1_5⟩) (by assumption) ?restr1_5
  case hyr1_5 => (intro w hSw; (try dsimp only at hSw); go_simp; try (with_reducible rfl))
  simp only [Act.put, List.getElem_toArray, List.getElem_cons_succ, List.getElem_cons_zero, List.setIfInBounds_toArray, List.set_cons_zero, List.set_cons_succ]
  refine' wpAnyH_take (i := 6) (v := ?vr1_6) rfl (by kernel_rfl) (by kernel_rfl) (by kernel_rfl) (fun _ _ _ h => h) (Or.inl ⟨by rfl, ?hyr1_6⟩) (by assumption) ?restr1_6
  case hyr1_6 => (intro w hSw; (try dsimp only at hSw); go_simp; try (with_reducible rfl))
  simp only [Act.put, List.getElem_toArray, List.getElem_cons_succ, List.getElem_cons_zero, List.setIfInBounds_toArray, List.set_cons_zero, List.set_cons_succ]
  refine' wpAnyH_take (i := 10) (v := ?vr1_10) rfl (by kernel_rfl) (by kernel_rfl) (by kernel_rfl) (fun _ _ _ h => h) (Or.inl ⟨by rfl, ?hyr1_10⟩) (by assumption) ?restr1_10
  case hyr1_10 => (intro w hSw; (try dsimp only at hSw); go_simp; try (with_reducible rfl))
  simp only [Act.put, List.getElem_toArray, List.getElem_cons_succ, List.getElem_cons_zero, List.setIfInBounds_toArray, List.set_cons_zero, List.set_cons_succ]
  refine' wpAnyH_take (i := 11) (v := ?vr1_11) rfl (by kernel_rfl) (by kernel_rfl) (by kernel_rfl) (fun _ _ _ h => h) (Or.inl ⟨by rfl, ?hyr1_11⟩) (by assumption) ?restr1_11
  case hyr1_11 => (intro w hSw; (try dsimp only at hSw); go_simp; try (with_reducible rfl))
  simp only [Act.put, List.getElem_toArray, List.getElem_cons_succ, List.getElem_cons_zero, List.setIfInBounds_toArray, List.set_cons_zero, List.set_cons_succ]
  refine' wpAnyH_take (i := 15) (v := ?vr1_15) rfl (by kernel_rfl) (by kernel_rfl) (by kernel_rfl) (fun _ _ _ h => h) (Or.inl ⟨by rfl, ?hyr1_15⟩) (by assumption) ?restr1_15
  case hyr1_15 => (intro w hSw; (try dsimp only at hSw); go_simp; try (with_reducible rfl))
  simp only [Act.put, List.getElem_toArray, List.getElem_cons_succ, List.getElem_cons_zero, List.setIfInBounds_toArray, List.set_cons_zero, List.set_cons_succ]
  refine' wpAnyH_take (i := 16) (v := ?vr1_16) rfl (by kernel_rfl) (by kernel_rfl) (by kernel_rfl) (fun _ _ _ h => h) (Or.inl ⟨by rfl, ?hyr1_16⟩) (by assumption) ?restr1_16
  case hyr1_16 => (intro w hSw; (try dsimp only at hSw); go_simp; try (with_reducible rfl))
  simp only [Act.put, List.getElem_toArray, List.getElem_cons_succ, List.getElem_cons_zero, List.setIfInBounds_toArray, List.set_cons_zero, List.set_cons_succ]
  refine wpAnyH_ready (rs := [2]) (by kernel_rfl) (by simp) ?_
  refine AllReadyH.cons rfl (fun K hK => ?_) AllReadyH.nil
  go_simp
  refine (num_is x.frm n0 N0 _ (by omega) (by omega)).mono ?_
  rintro e v0 ⟨rfl, bb⟩
  refine hK.out _ _ (tx_mk (hHeld.2.2.2.2.2.step bb)) (fun hHeld1 => ?_)
  clear hK K hHeld
  have hHeld := hHeld1
  clear hHeld1
  try simp only [Act.put, List.getElem_toArray, List.getElem_cons_succ, List.getElem_cons_zero, List.setIfInBounds_toArray, List.set_cons_zero, List.set_cons_succ]
  have hw := A0.out
  refine' wpAnyH_take (i := 3) (v := ?vr1_3) rfl (by kernel_rfl) (by kernel_rfl) (by kernel_rfl) (fun _ _ _ h => h) (Or.inl ⟨by rfl, ?hyr1_3⟩) (by assumption) ?restr1_3
  case hyr1_3 => (intro w hSw; (try dsimp only at hSw); go_simp; try (with_reducible rfl))
  simp only [Act.put, List.getElem_toArray, List.getElem_cons_succ, List.getElem_cons_zero, List.setIfInBounds_toArray, List.set_cons_zero, List.set_cons_succ]
  clear hw
  have hw := A1.out
  refine' wpAnyH_take (i := 4) (v := ?vr1_4) rfl (by kernel_rfl) (by kernel_rfl) (by kernel_rfl) (fun _ _ _ h => h) (Or.inl ⟨by rfl, ?hyr1_4⟩) (by assumption) ?restr1_4
  case hyr1_4 => (intro w hSw; (try dsimp only at hSw); go_simp; try (with_reducible rfl))
  simp only [Act.put, List.getElem_toArray, List.getElem_cons_succ, List.getElem_cons_zero, List.setIfInBounds_toArray, List.set_cons_zero, List.set_cons_succ]
  clear hw
  refine wpAnyH_ready (rs := [7]) (by kernel_rfl) (by simp) ?_
  refine AllReadyH.cons rfl (fun K hK => ?_) AllReadyH.nil
  go_simp
  refine (num_is x.to_ n1 N1 _ (by omega) (by omega)).mono ?_
  rintro e v1 ⟨rfl, bb⟩
  refine hK.out _ _ (tx_mk (hHeld.2.2.2.2.2.step bb)) (fun hHeld1 => ?_)
  clear hK K hHeld
  have hHeld := hHeld1
  clear hHeld1
  try simp only [Act.put, List.getElem_toArray, List.getElem_cons_succ, List.getElem_cons_zero, List.setIfInBounds_toArray, List.set_cons_zero, List.set_cons_succ]
  have hw := A2.out
  refine' wpAnyH_take (i := 8) (v := ?vr1_8) rfl (by kernel_rfl) (by kernel_rfl) (by kernel_rfl) (fun _ _ _ h => h) (Or.inl ⟨by rfl, ?hyr1_8⟩) (by assumption) ?restr1_8
  case hyr1_8 => (intro w hSw; (try dsimp only at hSw); go_simp; try (with_reducible rfl))
  simp only [Act.put, List.getElem_toArray, List.getElem_cons_succ, List.getElem_cons_zero, List.setIfInBounds_toArray, List.set_cons_zero, List.set_cons_succ]
  clear hw
  have hw := A3.out
  refine' wpAnyH_take (i := 9) (v := ?vr1_9) rfl (by kernel_rfl) (by kernel_rfl) (by kernel_rfl) (fun _ _ _ h => h) (Or.inl ⟨by rfl, ?hyr1_9⟩) (by assumption) ?restr1_9
  case hyr1_9 => (intro w hSw; (try dsimp only at hSw); go_simp; try (with_reducible rfl))
  simp only [Act.put, List.getElem_toArray, List.getElem_cons_succ, List.getElem_cons_zero, List.setIfInBounds_toArray, List.set_cons_zero, List.set_cons_succ]
  clear hw
  refine wpAnyH_ready (rs := [12]) (by kernel_rfl) (by simp) ?_
  refine AllReadyH.cons rfl (fun K hK => ?_) AllReadyH.nil
  go_simp
  refine (num_is x.tape n2 N2 _ (by omega) (by omega)).mono ?_
  rintro e v2 ⟨rfl, bb⟩
  refine hK.out _ _ (tx_mk (hHeld.2.2.2.2.2.step bb)) (fun hHeld1 => ?_)
  clear hK K hHeld
  have hHeld := hHeld1
  clear hHeld1
  try simp only [Act.put, List.getElem_toArray, List.getElem_cons_succ, List.getElem_cons_zero, List.setIfInBounds_toArray, List.set_cons_zero, List.set_cons_succ]
  have hw := A4.out
  refine' wpAnyH_take (i := 13) (v := ?vr1_13) rfl (by kernel_rfl) (by kernel_rfl) (by kernel_rfl) (fun _ _ _ h => h) (Or.inl ⟨by rfl, ?hyr1_13⟩) (by assumption) ?restr1_13
  case hyr1_13 => (intro w hSw; (try dsimp only at hSw); go_simp; try (with_reducible rfl))
  simp only [Act.put, List.getElem_toArray, List.getElem_cons_succ, List.getElem_cons_zero, List.setIfInBounds_toArray, List.set_cons_zero, List.set_cons_succ]
  clear hw
  have hw := A5.out
  refine' wpAnyH_take (i := 14) (v := ?vr1_14) rfl (by kernel_rfl) (by kernel_rfl) (by kernel_rfl) (fun _ _ _ h => h) (Or.inl ⟨by rfl, ?hyr1_14⟩) (by assumption) ?restr1_14
  case hyr1_14 => (intro w hSw; (try dsimp only at hSw); go_simp; try (with_reducible rfl))
  simp only [Act.put, List.getElem_toArray, List.getElem_cons_succ, List.getElem_cons_zero, List.setIfInBounds_toArray, List.set_cons_zero, List.set_cons_succ]
  clear hw
  refine wpAnyH_ready (rs := [17]) (by kernel_rfl) (by simp) ?_
  refine AllReadyH.cons rfl (fun K hK => ?_) AllReadyH.nil
  go_simp
  refine (num_is x.comp n3 N3 _ (by omega) (by omega)).mono ?_
  rintro e v3 ⟨rfl, bb⟩
  refine hK.out _ _ (tx_mk (hHeld.2.2.2.2.2.step bb)) (fun hHeld1 => ?_)
  clear hK K hHeld
  have hHeld := hHeld1
  clear hHeld1
  try simp only [Act.put, List.getElem_toArray, List.getElem_cons_succ, List.getElem_cons_zero, List.setIfInBounds_toArray, List.set_cons_zero, List.set_cons_succ]
  have hw := A6.out
  refine' wpAnyH_take (i := 18) (v := ?vr1_18) rfl (by kernel_rfl) (by kernel_rfl) (by kernel_rfl) (fun _ _ _ h => h) (Or.inl ⟨by rfl, ?hyr1_18⟩) (by assumption) ?restr1_18
  case hyr1_18 => (intro w hSw; (try dsimp only at hSw); go_simp; try (with_reducible rfl))
  simp only [Act.put, List.getElem_toArray, List.getElem_cons_succ, List.getElem_cons_zero, List.setIfInBounds_toArray, List.set_cons_zero, List.set_cons_succ]
  clear hw
  have hw := A7.out
  refine' wpAnyH_take (i := 19) (v := ?vr1_19) rfl (by kernel_rfl) (by kernel_rfl) (by kernel_rfl) (fun _ _ _ h => h) (Or.inl ⟨by rfl, ?hyr1_19⟩) (by assumption) ?restr1_19
  case hyr1_19 => (intro w hSw; (try dsimp only at hSw); go_simp; try (with_reducible rfl))
  simp only [Act.put, List.getElem_toArray, List.getElem_cons_succ, List.getElem_cons_zero, List.setIfInBounds_toArray, List.set_cons_zero, List.set_cons_succ]
  clear hw
  refine' wpAnyH_take (i := 20) (v := ?vr1_20) rfl (by kernel_rfl) (by kernel_rfl) (by kernel_rfl) (fun _ _ _ h => h) (Or.inl ⟨by rfl, ?hyr1_20⟩) (by assumption) ?restr1_20
  case hyr1_20 => (intro w hSw; (try dsimp only at hSw); go_simp; try (with_reducible rfl))
  simp only [Act.put, List.getElem_toArray, List.getElem_cons_succ, List.getElem_cons_zero, List.setIfInBounds_toArray, List.set_cons_zero, List.set_cons_succ]
  refine wpAnyH_done (by kernel_rfl) ?_ _
  have HS1 := Lib.hid hHeld.2.2.2.2.2
  clear hHeld HS0
  obtain ⟨y0, y1, y2, y3, y4, -⟩ := tx_mk HS1.out
  by_cases hs : x.slope < 0
  · have ds : decide (x.slope < 0) = true := by simpa using hs
    obtain ⟨m, HM⟩ : ∃ m, Hid (num (-x.slope) = m) := ⟨_, Lib.hid rfl⟩
    have k4 := num_size (-x.slope) (by omega) (by omega)
    rw [HM.out] at k4
    obtain ⟨q, hq⟩ : ∃ q, p7 ++ (⟨#[45]⟩ : ByteArray) = q := ⟨_, rfl⟩
    have zq := add_size hq
    have z1 : (⟨#[45]⟩ : ByteArray).size = 1 := rfl
    have z7 := HZ.out
    have hl : q ++ m = p8 := by
      rw [← hq, ← HM.out, ByteArray.append_assoc, ← num_neg x.slope hs, ← H7.out, ← HL.out]; rfl
    have hw1 : ∀ W : World, (Op.stringOp .add p7 (⟨#[45]⟩ : ByteArray)).run Tryd.prog W = .ok (.string q) W := fun W => add_run hq 100 (by omega) (by decide) W
    have hw2 : ∀ W : World, (Op.stringOp .add q m).run Tryd.prog W = .ok (.string p8) W := fun W => add_run hl 100 (by omega) (by decide) W
    clear hq zq z1 z7 hl k4
    go_wp2_with fail
    refine (num_is (-x.slope) m HM _ (by omega) (by omega)).mono ?_
    rintro e w2 ⟨rfl, b2⟩
    have HB := Lib.hid (HS1.out.2.trans (b2.mono HS1.out.2.size))
    clear b2
    go_wp2_with fail
    go_ret
    exact ⟨rfl, HB.out⟩
  · have ds : decide (x.slope < 0) = false := by simpa using hs
    have hw2 := A8.out
    go_wp2_with fail
    refine (num_is x.slope n4 N4 _ (by omega) (by omega)).mono ?_
    rintro e w2 ⟨rfl, b2⟩
    have HB := Lib.hid (HS1.out.2.trans (b2.mono HS1.out.2.size))
    clear b2
    go_wp2_with fail
    go_ret
    exact ⟨rfl, HB.out⟩
theorem l4Text_is (x : Lg) (s : ByteArray) (h : Hid (ltx x = s)) (w : World) (hx : Hid (okLg x = true)) : Calls Tryd.prog 55 #[.agg #[.int .i64 x.frm, .int .i64 x.to_, .int .i64 x.tape, .int .i64 x.comp, .int .i64 x.slope]] w (APost (.string s) w) := by rw [← h.out]; exact l4Text_any x w hx
def ansText (x : Lg) : Value := if okLg x = true then .tuple #[.string (ltx x), .bool true] else .tuple #[.string ⟨#[]⟩, .bool false]
set_option maxHeartbeats 4000000 in
set_option maxRecDepth 100000 in
theorem legText_model (x : Lg) (w : World) : Calls Tryd.prog 27 #[.agg #[.int .i64 x.frm, .int .i64 x.to_, .int .i64 x.tape, .int .i64 x.comp, .int .i64 x.slope]] w (APost (ansText x) w) := by
  have HS0 := Lib.hid (TX.start w x)
  cases hx : okLg x
  · have HA := Lib.hid (show ansText x = .tuple #[.string ⟨#[]⟩, .bool false] by unfold ansText; rw [hx]; rfl)
    have HX := Lib.hid hx
    clear hx
    rw [HA.out]
    go_enter Tryd.func27, Tryd.ntmps27
    go_wp2_with fail
    refine (leg_is x false HX _).mono ?_
    rintro e w1 ⟨rfl, b1⟩
    have HB := Lib.hid (HS0.out.step b1)
    clear b1
    go_wp2_with fail
    go_ret2
    exact ⟨rfl, HB.out.2⟩
  · obtain ⟨s, hs⟩ : ∃ s, ltx x = s := ⟨_, rfl⟩
    have HA := Lib.hid (show ansText x = .tuple #[.string s, .bool true] by unfold ansText; rw [hx, hs]; rfl)
    have HX := Lib.hid hx
    have HS := Lib.hid hs
    clear hx hs
    rw [HA.out]
    go_enter Tryd.func27, Tryd.ntmps27
    go_wp2_with fail
    refine (leg_is x true HX _).mono ?_
    rintro e w1 ⟨rfl, b1⟩
    have HS1 := Lib.hid (HS0.out.step b1)
    clear b1
    obtain ⟨y0, y1, y2, y3, y4, -⟩ := tx_mk HS1.out
    go_wp2_with fail
    refine (l4Text_is x s HS _ HX).mono ?_
    rintro e w2 ⟨rfl, b2⟩
    have HB := Lib.hid (HS1.out.2.trans (b2.mono HS1.out.2.size))
    clear b2
    go_wp2_with fail
    go_ret2
    exact ⟨rfl, HB.out⟩
end Go.Proofs.YtiojgmojnnbpiaaDoor.lg
