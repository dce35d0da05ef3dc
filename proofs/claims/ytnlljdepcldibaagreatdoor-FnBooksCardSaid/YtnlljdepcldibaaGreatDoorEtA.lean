/-
  The model's line of an entry.
  Conditions: the entry is valid.
-/
import Derived.Test.YtnlljdepcldibaaGreatDoorEtM
import Derived.Deep.RegionHeld3
import Derived.Deep.DeepCutAuto
namespace Go.Proofs.YtnlljdepcldibaaGreatDoor.ent
open Go.RowKit
open reads base ty lg en pow txt strmath iterc ntx
set_option linter.unusedVariables false
set_option linter.unusedSimpArgs false

/-- a line, piece by piece -/
def u0 (x : En) : ByteArray := num (x.frm) ++ (⟨#[32]⟩ : ByteArray)
def u1 (x : En) : ByteArray := u0 x ++ num (x.to_)
def u2 (x : En) : ByteArray := u1 x ++ (⟨#[32]⟩ : ByteArray)
def u3 (x : En) : ByteArray := u2 x ++ num (x.tape / 10)
def u4 (x : En) : ByteArray := u3 x ++ (⟨#[46]⟩ : ByteArray)
def u5 (x : En) : ByteArray := u4 x ++ num (x.tape % 10)
def u6 (x : En) : ByteArray := u5 x ++ (⟨#[32]⟩ : ByteArray)
def u7 (x : En) : ByteArray := u6 x ++ num (x.comp)
def u8 (x : En) : ByteArray := u7 x ++ (⟨#[32]⟩ : ByteArray)
/-- an entry in a box, and nothing old has turned -/
def TE (w : World) (x : En) (v : World) : Prop := Blk v w.heap.size 25 #[.int .i64 x.frm, .int .i64 x.to_, .int .i64 x.tape, .int .i64 x.comp, .int .i64 x.slope, .bool x.back] ∧ Below w.heap.size w v
theorem TE.start (w : World) (x : En) : TE w x (w.alloc (.cells #[.int .i64 x.frm, .int .i64 x.to_, .int .i64 x.tape, .int .i64 x.comp, .int .i64 x.slope, .bool x.back] 25)) := ⟨Blk.new w _ _, (Below.refl _ _).alloc (Nat.le_refl _) _⟩
theorem TE.step {w v v' : World} {x : En} (h : TE w x v) (hb : Below v.heap.size v v') : TE w x v' := ⟨h.1.below hb h.1.lt, h.2.trans (hb.mono h.2.size)⟩
theorem te_mk {w v : World} {x : En} (h : TE w x v) : v.cell? ⟨w.heap.size, 0, none⟩ = some (.int .i64 x.frm) ∧ v.cell? ⟨w.heap.size, 1, none⟩ = some (.int .i64 x.to_) ∧ v.cell? ⟨w.heap.size, 2, none⟩ = some (.int .i64 x.tape) ∧ v.cell? ⟨w.heap.size, 3, none⟩ = some (.int .i64 x.comp) ∧ v.cell? ⟨w.heap.size, 4, none⟩ = some (.int .i64 x.slope) ∧ v.cell? ⟨w.heap.size, 5, none⟩ = some (.bool x.back) ∧ TE w x v := ⟨h.1.cell 0, h.1.cell 1, h.1.cell 2, h.1.cell 3, h.1.cell 4, h.1.cell 5, h⟩
theorem TE.cs {w v : World} {x : En} (h : TE w x v) : v.cell? ⟨w.heap.size, 0, none⟩ = some (.int .i64 x.frm) ∧ v.cell? ⟨w.heap.size, 1, none⟩ = some (.int .i64 x.to_) ∧ v.cell? ⟨w.heap.size, 2, none⟩ = some (.int .i64 x.tape) ∧ v.cell? ⟨w.heap.size, 3, none⟩ = some (.int .i64 x.comp) ∧ v.cell? ⟨w.heap.size, 4, none⟩ = some (.int .i64 x.slope) ∧ v.cell? ⟨w.heap.size, 5, none⟩ = some (.bool x.back) ∧ w.heap.size < v.heap.size := ⟨h.1.cell 0, h.1.cell 1, h.1.cell 2, h.1.cell 3, h.1.cell 4, h.1.cell 5, h.1.lt⟩
theorem etx_eq (x : En) : etx x = u8 x ++ slo x.slope ++ (if x.back = true then (⟨#[32, 98]⟩ : ByteArray) else ⟨#[]⟩) := by
  refine ByteArray.ext (Array.toList_inj.1 ?_)
  rw [etx_list]
  unfold ew
  cases x.back <;> simp [joinL, u8, u7, u6, u5, u4, u3, u2, u1, u0, met, num, ByteArray.data_append, List.append_assoc]
structure Pc (x : En) (n0 n1 n2 n3 n4 n5 p0 p1 p2 p3 p4 p5 p6 p7 p8 : ByteArray) : Prop where
  m0 : num (x.frm) = n0
  m1 : num (x.to_) = n1
  m2 : num (x.tape / 10) = n2
  m3 : num (x.tape % 10) = n3
  m4 : num (x.comp) = n4
  m5 : num (x.slope) = n5
  a0 : ∀ W : World, (Op.stringOp .add n0 (⟨#[32]⟩ : ByteArray)).run Tryz.prog W = .ok (.string p0) W
  a1 : ∀ W : World, (Op.stringOp .add p0 n1).run Tryz.prog W = .ok (.string p1) W
  a2 : ∀ W : World, (Op.stringOp .add p1 (⟨#[32]⟩ : ByteArray)).run Tryz.prog W = .ok (.string p2) W
  a3 : ∀ W : World, (Op.stringOp .add p2 n2).run Tryz.prog W = .ok (.string p3) W
  a4 : ∀ W : World, (Op.stringOp .add p3 (⟨#[46]⟩ : ByteArray)).run Tryz.prog W = .ok (.string p4) W
  a5 : ∀ W : World, (Op.stringOp .add p4 n3).run Tryz.prog W = .ok (.string p5) W
  a6 : ∀ W : World, (Op.stringOp .add p5 (⟨#[32]⟩ : ByteArray)).run Tryz.prog W = .ok (.string p6) W
  a7 : ∀ W : World, (Op.stringOp .add p6 n4).run Tryz.prog W = .ok (.string p7) W
  a8 : ∀ W : World, (Op.stringOp .add p7 (⟨#[32]⟩ : ByteArray)).run Tryz.prog W = .ok (.string p8) W
  last : u8 x = p8
  sz : p8.size ≤ 60
theorem pieces (x : En) (hx : okEn x = true) : ∃ n0 n1 n2 n3 n4 n5 p0 p1 p2 p3 p4 p5 p6 p7 p8, Pc x n0 n1 n2 n3 n4 n5 p0 p1 p2 p3 p4 p5 p6 p7 p8 := by
  obtain ⟨⟨a0, a1⟩, ⟨a2, a3⟩, -, ⟨a4, a5⟩, ⟨a6, a7⟩, a8, a9⟩ := okEn_lim hx
  have s0 := num_size (x.frm) (by omega) (by omega)
  have s1 := num_size (x.to_) (by omega) (by omega)
  have s2 := num_size (x.tape / 10) (by omega) (by omega)
  have s3 := num_size (x.tape % 10) (by omega) (by omega)
  have s4 := num_size (x.comp) (by omega) (by omega)
  have s5 := num_size (x.slope) (by omega) (by omega)
  have e0 : (⟨#[32]⟩ : ByteArray).size = 1 := rfl
  have e1 : (⟨#[46]⟩ : ByteArray).size = 1 := rfl
  have z0 := add_size (show num (x.frm) ++ (⟨#[32]⟩ : ByteArray) = u0 x from rfl)
  have z1 := add_size (show u0 x ++ num (x.to_) = u1 x from rfl)
  have z2 := add_size (show u1 x ++ (⟨#[32]⟩ : ByteArray) = u2 x from rfl)
  have z3 := add_size (show u2 x ++ num (x.tape / 10) = u3 x from rfl)
  have z4 := add_size (show u3 x ++ (⟨#[46]⟩ : ByteArray) = u4 x from rfl)
  have z5 := add_size (show u4 x ++ num (x.tape % 10) = u5 x from rfl)
  have z6 := add_size (show u5 x ++ (⟨#[32]⟩ : ByteArray) = u6 x from rfl)
  have z7 := add_size (show u6 x ++ num (x.comp) = u7 x from rfl)
  have z8 := add_size (show u7 x ++ (⟨#[32]⟩ : ByteArray) = u8 x from rfl)
  refine ⟨_, _, _, _, _, _, _, _, _, _, _, _, _, _, _, rfl, rfl, rfl, rfl, rfl, rfl, fun W => add_run (show num (x.frm) ++ (⟨#[32]⟩ : ByteArray) = u0 x from rfl) 100 (by omega) (by decide) W, fun W => add_run (show u0 x ++ num (x.to_) = u1 x from rfl) 100 (by omega) (by decide) W, fun W => add_run (show u1 x ++ (⟨#[32]⟩ : ByteArray) = u2 x from rfl) 100 (by omega) (by decide) W, fun W => add_run (show u2 x ++ num (x.tape / 10) = u3 x from rfl) 100 (by omega) (by decide) W, fun W => add_run (show u3 x ++ (⟨#[46]⟩ : ByteArray) = u4 x from rfl) 100 (by omega) (by decide) W, fun W => add_run (show u4 x ++ num (x.tape % 10) = u5 x from rfl) 100 (by omega) (by decide) W, fun W => add_run (show u5 x ++ (⟨#[32]⟩ : ByteArray) = u6 x from rfl) 100 (by omega) (by decide) W, fun W => add_run (show u6 x ++ num (x.comp) = u7 x from rfl) 100 (by omega) (by decide) W, fun W => add_run (show u7 x ++ (⟨#[32]⟩ : ByteArray) = u8 x from rfl) 100 (by omega) (by decide) W, rfl, by omega⟩
set_option maxHeartbeats 4000000 in
set_option maxRecDepth 100000 in
theorem l7Line_any (x : En) (w : World) (hx : Hid (okEn x = true)) : Calls Tryz.prog 25 #[.agg #[.int .i64 x.frm, .int .i64 x.to_, .int .i64 x.tape, .int .i64 x.comp, .int .i64 x.slope, .bool x.back]] w (APost (.string (etx x)) w) := by
  obtain ⟨⟨a0, a1⟩, ⟨a2, a3⟩, -, ⟨a4, a5⟩, ⟨a6, a7⟩, a8, a9⟩ := okEn_lim hx.out
  obtain ⟨tq, htq⟩ : ∃ q, x.tape / 10 = q := ⟨_, rfl⟩
  obtain ⟨tr, htr⟩ : ∃ q, x.tape % 10 = q := ⟨_, rfl⟩
  have tq0 : 0 ≤ tq ∧ tq ≤ 50 := by omega
  have tr0 : 0 ≤ tr ∧ tr ≤ 9 := by omega
  obtain ⟨tq0, tq1⟩ := tq0
  obtain ⟨tr0, tr1⟩ := tr0
  have hdq : x.tape.tdiv 10 = tq := by rw [Int.tdiv_eq_ediv_of_nonneg (by omega)]; exact htq
  have hdr : x.tape.tmod 10 = tr := by rw [Int.tmod_eq_emod_of_nonneg (by omega)]; exact htr
  have hwq : IntKind.i64.wrap tq = tq := IntWalk.i64_in _ ⟨by omega, by omega⟩
  have hwr : IntKind.i64.wrap tr = tr := IntWalk.i64_in _ ⟨by omega, by omega⟩
  obtain ⟨n0, n1, n2, n3, n4, n5, p0, p1, p2, p3, p4, p5, p6, p7, p8, hp⟩ := pieces x hx.out
  have N0 := Lib.hid (show num (x.frm) = n0 from hp.m0)
  have N1 := Lib.hid (show num (x.to_) = n1 from hp.m1)
  have N2 := Lib.hid (show num (tq) = n2 from by rw [← htq]; exact hp.m2)
  have N3 := Lib.hid (show num (tr) = n3 from by rw [← htr]; exact hp.m3)
  have N4 := Lib.hid (show num (x.comp) = n4 from hp.m4)
  have N5 := Lib.hid (show num (x.slope) = n5 from hp.m5)
  have A0 := Lib.hid hp.a0
  have A1 := Lib.hid hp.a1
  have A2 := Lib.hid hp.a2
  have A3 := Lib.hid hp.a3
  have A4 := Lib.hid hp.a4
  have A5 := Lib.hid hp.a5
  have A6 := Lib.hid hp.a6
  have A7 := Lib.hid hp.a7
  have A8 := Lib.hid hp.a8
  have HL := Lib.hid hp.last
  have HZ := Lib.hid hp.sz
  clear hp htq htr
  obtain ⟨p10, hp10⟩ : ∃ q, u8 x ++ slo x.slope = q := ⟨_, rfl⟩
  obtain ⟨p11, hp11⟩ : ∃ q, p10 ++ (⟨#[32, 98]⟩ : ByteArray) = q := ⟨_, rfl⟩
  have hs5 := num_size x.slope (by omega) (by omega)
  have hz8 := HZ.out
  have hz10 : p10.size ≤ 70 := by
    have h := add_size hp10
    have k : (slo x.slope).size ≤ 8 := slo_len a8 a9
    rw [HL.out] at h
    omega
  have hwb : ∀ W : World, (Op.stringOp .add p10 (⟨#[32, 98]⟩ : ByteArray)).run Tryz.prog W = .ok (.string p11) W := fun W => add_run hp11 100 (by have : (⟨#[32, 98]⟩ : ByteArray).size = 2 := rfl; omega) (by decide) W
  have HWB := Lib.hid hwb
  have HE0 := Lib.hid (show x.back = false → etx x = p10 from fun h => by rw [etx_eq, h, hp10]; exact ByteArray.ext (by simp [ByteArray.data_append]))
  have HE1 := Lib.hid (show x.back = true → etx x = p11 from fun h => by rw [etx_eq, h, hp10, ← hp11]; rfl)
  have HPS := Lib.hid (show 0 < x.slope → ∃ p9 : ByteArray, p8 ++ (⟨#[43]⟩ : ByteArray) = p9 ∧ p9 ++ n5 = p10 ∧ p9.size ≤ 61 from fun h => by
    refine ⟨_, rfl, ?_, ?_⟩
    · rw [← hp10, HL.out, slo, if_pos h, N5.out, ByteArray.append_assoc]
    · have := add_size (show p8 ++ (⟨#[43]⟩ : ByteArray) = p8 ++ (⟨#[43]⟩ : ByteArray) from rfl)
      have e : (⟨#[43]⟩ : ByteArray).size = 1 := rfl
      omega)
  have HPN := Lib.hid (show x.slope ≤ 0 → p8 ++ n5 = p10 from fun h => by rw [← hp10, HL.out, slo, if_neg (by omega), N5.out])
  have hn5 : n5.size ≤ 7 := by rw [← N5.out]; exact hs5
  clear hp10 hp11 hwb hs5
  have HS0 := Lib.hid (TE.start w x)
  go_enter Tryz.func25, Tryz.ntmps25
  go_wp2_with fail
  refine wp_region_held_drew (S := (fun v => v.cell? ⟨w.heap.size, 0, none⟩ = some (.int .i64 x.frm) ∧ v.cell? ⟨w.heap.size, 1, none⟩ = some (.int .i64 x.to_) ∧ v.cell? ⟨w.heap.size, 2, none⟩ = some (.int .i64 x.tape) ∧ v.cell? ⟨w.heap.size, 3, none⟩ = some (.int .i64 x.comp) ∧ v.cell? ⟨w.heap.size, 4, none⟩ = some (.int .i64 x.slope) ∧ v.cell? ⟨w.heap.size, 5, none⟩ = some (.bool x.back) ∧ TE w x v)) (by kernel_rfl) ?_ (fun hHeld => ?_)
  · exact te_mk (HS0.out.step (drewN_below _ 1))
  refine' wpAnyH_take (i := 0) (v := ?vr3_0) rfl (by kernel_rfl) (by kernel_rfl) (by kernel_rfl) (fun _ _ _ h => h) (Or.inl ⟨by rfl, ?hyr3_0⟩) (by assumption) ?restr3_0
  case hyr3_0 => (intro w hSw; (try dsimp only at hSw); go_simp; try (with_reducible rfl))
  simp only [Act.put, List.getElem_toArray, List.getElem_cons_succ, List.getElem_cons_zero, List.setIfInBounds_toArray, List.set_cons_zero, List.set_cons_succ]
  refine' wpAnyH_take (i := 1) (v := ?vr3_1) rfl (by kernel_rfl) (by kernel_rfl) (by kernel_rfl) (fun _ _ _ h => h) (Or.inl ⟨by rfl, ?hyr3_1⟩) (by assumption) ?restr3_1
  case hyr3_1 => (intro w hSw; (try dsimp only at hSw); go_simp; try (with_reducible rfl))
  simp only [Act.put, List.getElem_toArray, List.getElem_cons_succ, List.getElem_cons_zero, List.setIfInBounds_toArray, List.set_cons_zero, List.set_cons_succ]
  refine' wpAnyH_take (i := 4) (v := ?vr3_4) rfl (by kernel_rfl) (by kernel_rfl) (by kernel_rfl) (fun _ _ _ h => h) (Or.inl ⟨by rfl, ?hyr3_4⟩) (by assumption) ?restr3_4
  case hyr3_4 => (intro w hSw; (try dsimp only at hSw); go_simp; try (with_reducible rfl))
  simp only [Act.put, List.getElem_toArray, List.getElem_cons_succ, List.getElem_cons_zero, List.setIfInBounds_toArray, List.set_cons_zero, List.set_cons_succ]
  refine' wpAnyH_take (i := 5) (v := ?vr3_5) rfl (by kernel_rfl) (by kernel_rfl) (by kernel_rfl) (fun _ _ _ h => h) (Or.inl ⟨by rfl, ?hyr3_5⟩) (by assumption) ?restr3_5
  case hyr3_5 => (intro w hSw; (try dsimp only at hSw); go_simp; try (with_reducible rfl))
  simp only [Act.put, List.getElem_toArray, List.getElem_cons_succ, List.getElem_cons_zero, List.setIfInBounds_toArray, List.set_cons_zero, List.set_cons_succ]
  refine' wpAnyH_take (i := 9) (v := ?vr3_9) rfl (by kernel_rfl) (by kernel_rfl) (by kernel_rfl) (fun _ _ _ h => h) (Or.inl ⟨by rfl, ?hyr3_9⟩) (by assumption) ?restr3_9
  case hyr3_9 => (intro w hSw; (try dsimp only at hSw); go_simp; try (with_reducible rfl))
  simp only [Act.put, List.getElem_toArray, List.getElem_cons_succ, List.getElem_cons_zero, List.setIfInBounds_toArray, List.set_cons_zero, List.set_cons_succ]
  refine' wpAnyH_take (i := 10) (v := ?vr3_10) rfl (by kernel_rfl) (by kernel_rfl) (by kernel_rfl) (fun _ _ _ h => h) (Or.inl ⟨by rfl, ?hyr3_10⟩) (by assumption) ?restr3_10
  case hyr3_10 => (intro w hSw; (try dsimp only at hSw); go_simp; try (with_reducible rfl))
  simp only [Act.put, List.getElem_toArray, List.getElem_cons_succ, List.getElem_cons_zero, List.setIfInBounds_toArray, List.set_cons_zero, List.set_cons_succ]
  refine' wpAnyH_take (i := 11) (v := .int .i64 tq) rfl (by kernel_rfl) (by kernel_rfl) (by kernel_rfl) (fun _ _ _ h => h) (Or.inl ⟨by rfl, ?hyq1_11⟩) (by assumption) ?restq1_11
  case hyq1_11 => (intro w hSw; (try dsimp only at hSw); go_simp; (try simp only [hdq, hdr, hwq, hwr]); try (with_reducible rfl))
  simp only [Act.put, List.getElem_toArray, List.getElem_cons_succ, List.getElem_cons_zero, List.setIfInBounds_toArray, List.set_cons_zero, List.set_cons_succ]
  refine' wpAnyH_take (i := 15) (v := ?vr3_15) rfl (by kernel_rfl) (by kernel_rfl) (by kernel_rfl) (fun _ _ _ h => h) (Or.inl ⟨by rfl, ?hyr3_15⟩) (by assumption) ?restr3_15
  case hyr3_15 => (intro w hSw; (try dsimp only at hSw); go_simp; try (with_reducible rfl))
  simp only [Act.put, List.getElem_toArray, List.getElem_cons_succ, List.getElem_cons_zero, List.setIfInBounds_toArray, List.set_cons_zero, List.set_cons_succ]
  refine' wpAnyH_take (i := 16) (v := ?vr3_16) rfl (by kernel_rfl) (by kernel_rfl) (by kernel_rfl) (fun _ _ _ h => h) (Or.inl ⟨by rfl, ?hyr3_16⟩) (by assumption) ?restr3_16
  case hyr3_16 => (intro w hSw; (try dsimp only at hSw); go_simp; try (with_reducible rfl))
  simp only [Act.put, List.getElem_toArray, List.getElem_cons_succ, List.getElem_cons_zero, List.setIfInBounds_toArray, List.set_cons_zero, List.set_cons_succ]
  refine' wpAnyH_take (i := 17) (v := .int .i64 tr) rfl (by kernel_rfl) (by kernel_rfl) (by kernel_rfl) (fun _ _ _ h => h) (Or.inl ⟨by rfl, ?hyq2_17⟩) (by assumption) ?restq2_17
  case hyq2_17 => (intro w hSw; (try dsimp only at hSw); go_simp; (try simp only [hdq, hdr, hwq, hwr]); try (with_reducible rfl))
  simp only [Act.put, List.getElem_toArray, List.getElem_cons_succ, List.getElem_cons_zero, List.setIfInBounds_toArray, List.set_cons_zero, List.set_cons_succ]
  refine' wpAnyH_take (i := 21) (v := ?vr3_21) rfl (by kernel_rfl) (by kernel_rfl) (by kernel_rfl) (fun _ _ _ h => h) (Or.inl ⟨by rfl, ?hyr3_21⟩) (by assumption) ?restr3_21
  case hyr3_21 => (intro w hSw; (try dsimp only at hSw); go_simp; try (with_reducible rfl))
  simp only [Act.put, List.getElem_toArray, List.getElem_cons_succ, List.getElem_cons_zero, List.setIfInBounds_toArray, List.set_cons_zero, List.set_cons_succ]
  refine' wpAnyH_take (i := 22) (v := ?vr3_22) rfl (by kernel_rfl) (by kernel_rfl) (by kernel_rfl) (fun _ _ _ h => h) (Or.inl ⟨by rfl, ?hyr3_22⟩) (by assumption) ?restr3_22
  case hyr3_22 => (intro w hSw; (try dsimp only at hSw); go_simp; try (with_reducible rfl))
  simp only [Act.put, List.getElem_toArray, List.getElem_cons_succ, List.getElem_cons_zero, List.setIfInBounds_toArray, List.set_cons_zero, List.set_cons_succ]
  refine wpAnyH_ready (rs := [2]) (by kernel_rfl) (by simp) ?_
  refine AllReadyH.cons rfl (fun K hK => ?_) AllReadyH.nil
  go_simp
  refine (num_is x.frm n0 N0 _ (by omega) (by omega)).mono ?_
  rintro e v0 ⟨rfl, bb⟩
  refine hK.out _ _ (te_mk (hHeld.2.2.2.2.2.2.step bb)) (fun hHeld1 => ?_)
  clear hK K hHeld
  have hHeld := hHeld1
  clear hHeld1
  try simp only [Act.put, List.getElem_toArray, List.getElem_cons_succ, List.getElem_cons_zero, List.setIfInBounds_toArray, List.set_cons_zero, List.set_cons_succ]
  have hw := A0.out
  refine' wpAnyH_take (i := 3) (v := ?vr3_3) rfl (by kernel_rfl) (by kernel_rfl) (by kernel_rfl) (fun _ _ _ h => h) (Or.inl ⟨by rfl, ?hyr3_3⟩) (by assumption) ?restr3_3
  case hyr3_3 => (intro w hSw; (try dsimp only at hSw); go_simp; try (with_reducible rfl))
  simp only [Act.put, List.getElem_toArray, List.getElem_cons_succ, List.getElem_cons_zero, List.setIfInBounds_toArray, List.set_cons_zero, List.set_cons_succ]
  clear hw
  refine wpAnyH_ready (rs := [6]) (by kernel_rfl) (by simp) ?_
  refine AllReadyH.cons rfl (fun K hK => ?_) AllReadyH.nil
  go_simp
  refine (num_is x.to_ n1 N1 _ (by omega) (by omega)).mono ?_
  rintro e v1 ⟨rfl, bb⟩
  refine hK.out _ _ (te_mk (hHeld.2.2.2.2.2.2.step bb)) (fun hHeld1 => ?_)
  clear hK K hHeld
  have hHeld := hHeld1
  clear hHeld1
  try simp only [Act.put, List.getElem_toArray, List.getElem_cons_succ, List.getElem_cons_zero, List.setIfInBounds_toArray, List.set_cons_zero, List.set_cons_succ]
  have hw := A1.out
  refine' wpAnyH_take (i := 7) (v := ?vr3_7) rfl (by kernel_rfl) (by kernel_rfl) (by kernel_rfl) (fun _ _ _ h => h) (Or.inl ⟨by rfl, ?hyr3_7⟩) (by assumption) ?restr3_7
  case hyr3_7 => (intro w hSw; (try dsimp only at hSw); go_simp; try (with_reducible rfl))
  simp only [Act.put, List.getElem_toArray, List.getElem_cons_succ, List.getElem_cons_zero, List.setIfInBounds_toArray, List.set_cons_zero, List.set_cons_succ]
  clear hw
  have hw := A2.out
  refine' wpAnyH_take (i := 8) (v := ?vr3_8) rfl (by kernel_rfl) (by kernel_rfl) (by kernel_rfl) (fun _ _ _ h => h) (Or.inl ⟨by rfl, ?hyr3_8⟩) (by assumption) ?restr3_8
  case hyr3_8 => (intro w hSw; (try dsimp only at hSw); go_simp; try (with_reducible rfl))
  simp only [Act.put, List.getElem_toArray, List.getElem_cons_succ, List.getElem_cons_zero, List.setIfInBounds_toArray, List.set_cons_zero, List.set_cons_succ]
  clear hw
  refine wpAnyH_ready (rs := [12]) (by kernel_rfl) (by simp) ?_
  refine AllReadyH.cons rfl (fun K hK => ?_) AllReadyH.nil
  go_simp
  refine (num_is tq n2 N2 _ (by omega) (by omega)).mono ?_
  rintro e v2 ⟨rfl, bb⟩
  refine hK.out _ _ (te_mk (hHeld.2.2.2.2.2.2.step bb)) (fun hHeld1 => ?_)
  clear hK K hHeld
  have hHeld := hHeld1
  clear hHeld1
  try simp only [Act.put, List.getElem_toArray, List.getElem_cons_succ, List.getElem_cons_zero, List.setIfInBounds_toArray, List.set_cons_zero, List.set_cons_succ]
  have hw := A3.out
  refine' wpAnyH_take (i := 13) (v := ?vr3_13) rfl (by kernel_rfl) (by kernel_rfl) (by kernel_rfl) (fun _ _ _ h => h) (Or.inl ⟨by rfl, ?hyr3_13⟩) (by assumption) ?restr3_13
  case hyr3_13 => (intro w hSw; (try dsimp only at hSw); go_simp; try (with_reducible rfl))
  simp only [Act.put, List.getElem_toArray, List.getElem_cons_succ, List.getElem_cons_zero, List.setIfInBounds_toArray, List.set_cons_zero, List.set_cons_succ]
  clear hw
  have hw := A4.out
  refine' wpAnyH_take (i := 14) (v := ?vr3_14) rfl (by kernel_rfl) (by kernel_rfl) (by kernel_rfl) (fun _ _ _ h => h) (Or.inl ⟨by rfl, ?hyr3_14⟩) (by assumption) ?restr3_14
  case hyr3_14 => (intro w hSw; (try dsimp only at hSw); go_simp; try (with_reducible rfl))
  simp only [Act.put, List.getElem_toArray, List.getElem_cons_succ, List.getElem_cons_zero, List.setIfInBounds_toArray, List.set_cons_zero, List.set_cons_succ]
  clear hw
  refine wpAnyH_ready (rs := [18]) (by kernel_rfl) (by simp) ?_
  refine AllReadyH.cons rfl (fun K hK => ?_) AllReadyH.nil
  go_simp
  refine (num_is tr n3 N3 _ (by omega) (by omega)).mono ?_
  rintro e v3 ⟨rfl, bb⟩
  refine hK.out _ _ (te_mk (hHeld.2.2.2.2.2.2.step bb)) (fun hHeld1 => ?_)
  clear hK K hHeld
  have hHeld := hHeld1
  clear hHeld1
  try simp only [Act.put, List.getElem_toArray, List.getElem_cons_succ, List.getElem_cons_zero, List.setIfInBounds_toArray, List.set_cons_zero, List.set_cons_succ]
  have hw := A5.out
  refine' wpAnyH_take (i := 19) (v := ?vr3_19) rfl (by kernel_rfl) (by kernel_rfl) (by kernel_rfl) (fun _ _ _ h => h) (Or.inl ⟨by rfl, ?hyr3_19⟩) (by assumption) ?restr3_19
  case hyr3_19 => (intro w hSw; (try dsimp only at hSw); go_simp; try (with_reducible rfl))
  simp only [Act.put, List.getElem_toArray, List.getElem_cons_succ, List.getElem_cons_zero, List.setIfInBounds_toArray, List.set_cons_zero, List.set_cons_succ]
  clear hw
  have hw := A6.out
  refine' wpAnyH_take (i := 20) (v := ?vr3_20) rfl (by kernel_rfl) (by kernel_rfl) (by kernel_rfl) (fun _ _ _ h => h) (Or.inl ⟨by rfl, ?hyr3_20⟩) (by assumption) ?restr3_20
  case hyr3_20 => (intro w hSw; (try dsimp only at hSw); go_simp; try (with_reducible rfl))
  simp only [Act.put, List.getElem_toArray, List.getElem_cons_succ, List.getElem_cons_zero, List.setIfInBounds_toArray, List.set_cons_zero, List.set_cons_succ]
  clear hw
  refine wpAnyH_ready (rs := [23]) (by kernel_rfl) (by simp) ?_
  refine AllReadyH.cons rfl (fun K hK => ?_) AllReadyH.nil
  go_simp
  refine (num_is x.comp n4 N4 _ (by omega) (by omega)).mono ?_
  rintro e v4 ⟨rfl, bb⟩
  refine hK.out _ _ (te_mk (hHeld.2.2.2.2.2.2.step bb)) (fun hHeld1 => ?_)
  clear hK K hHeld
  have hHeld := hHeld1
  clear hHeld1
  try simp only [Act.put, List.getElem_toArray, List.getElem_cons_succ, List.getElem_cons_zero, List.setIfInBounds_toArray, List.set_cons_zero, List.set_cons_succ]
  have hw := A7.out
  refine' wpAnyH_take (i := 24) (v := ?vr3_24) rfl (by kernel_rfl) (by kernel_rfl) (by kernel_rfl) (fun _ _ _ h => h) (Or.inl ⟨by rfl, ?hyr3_24⟩) (by assumption) ?restr3_24
  case hyr3_24 => (intro w hSw; (try dsimp only at hSw); go_simp; try (with_reducible rfl))
  simp only [Act.put, List.getElem_toArray, List.getElem_cons_succ, List.getElem_cons_zero, List.setIfInBounds_toArray, List.set_cons_zero, List.set_cons_succ]
  clear hw
  have hw := A8.out
  refine' wpAnyH_take (i := 25) (v := ?vr3_25) rfl (by kernel_rfl) (by kernel_rfl) (by kernel_rfl) (fun _ _ _ h => h) (Or.inl ⟨by rfl, ?hyr3_25⟩) (by assumption) ?restr3_25
  case hyr3_25 => (intro w hSw; (try dsimp only at hSw); go_simp; try (with_reducible rfl))
  simp only [Act.put, List.getElem_toArray, List.getElem_cons_succ, List.getElem_cons_zero, List.setIfInBounds_toArray, List.set_cons_zero, List.set_cons_succ]
  clear hw
  refine' wpAnyH_take (i := 26) (v := ?vr3_26) rfl (by kernel_rfl) (by kernel_rfl) (by kernel_rfl) (fun _ _ _ h => h) (Or.inl ⟨by rfl, ?hyr3_26⟩) (by assumption) ?restr3_26
  case hyr3_26 => (intro w hSw; (try dsimp only at hSw); go_simp; try (with_reducible rfl))
  simp only [Act.put, List.getElem_toArray, List.getElem_cons_succ, List.getElem_cons_zero, List.setIfInBounds_toArray, List.set_cons_zero, List.set_cons_succ]
  refine wpAnyH_done (by kernel_rfl) ?_ _
  have HS1 := Lib.hid (hHeld.2.2.2.2.2.2)
  clear hHeld HS0 hdq hdr hwq hwr
  obtain ⟨y0, y1, y2, y3, y4, y5, yl⟩ := HS1.out.cs
  by_cases hs : 0 < x.slope
  · have ds : decide (0 < x.slope) = true := by simpa using hs
    obtain ⟨p9, h9, h10, hz9⟩ := HPS.out hs
    have hw1 : ∀ W : World, (Op.stringOp .add p8 (⟨#[43]⟩ : ByteArray)).run Tryz.prog W = .ok (.string p9) W := fun W => add_run h9 100 (by have : (⟨#[43]⟩ : ByteArray).size = 1 := rfl; omega) (by decide) W
    have HW2 := Lib.hid (show ∀ W : World, (Op.stringOp .add p9 n5).run Tryz.prog W = .ok (.string p10) W from fun W => add_run h10 100 (by omega) (by decide) W)
    clear h9 h10
    go_wp2_with fail
    refine (num_is x.slope n5 N5 _ (by omega) (by omega)).mono ?_
    rintro e w2 ⟨rfl, b2⟩
    have HS2 := Lib.hid (HS1.out.step b2)
    clear b2 y0 y1 y2 y3 y4 y5 yl
    obtain ⟨y0, y1, y2, y3, y4, y5, yl⟩ := HS2.out.cs
    have hw2 := HW2.out
    have hwb := HWB.out
    obtain hb | hb : x.back = false ∨ x.back = true := by cases x.back <;> simp
    · have HF := Lib.hid (HE0.out hb)
      go_wp2_with fail
      go_ret
      exact ⟨by rw [HF.out]; rfl, HS2.out.2⟩
    · have HF := Lib.hid (HE1.out hb)
      go_wp2_with fail
      go_ret
      exact ⟨by rw [HF.out]; rfl, HS2.out.2⟩
  · have ds : decide (0 < x.slope) = false := by simpa using hs
    have h10 := HPN.out (by omega)
    have HW2 := Lib.hid (show ∀ W : World, (Op.stringOp .add p8 n5).run Tryz.prog W = .ok (.string p10) W from fun W => add_run h10 100 (by omega) (by decide) W)
    clear h10
    go_wp2_with fail
    refine (num_is x.slope n5 N5 _ (by omega) (by omega)).mono ?_
    rintro e w2 ⟨rfl, b2⟩
    have HS2 := Lib.hid (HS1.out.step b2)
    clear b2 y0 y1 y2 y3 y4 y5 yl
    obtain ⟨y0, y1, y2, y3, y4, y5, yl⟩ := HS2.out.cs
    have hw2 := HW2.out
    have hwb := HWB.out
    obtain hb | hb : x.back = false ∨ x.back = true := by cases x.back <;> simp
    · have HF := Lib.hid (HE0.out hb)
      go_wp2_with fail
      go_ret
      exact ⟨by rw [HF.out]; rfl, HS2.out.2⟩
    · have HF := Lib.hid (HE1.out hb)
      go_wp2_with fail
      go_ret
      exact ⟨by rw [HF.out]; rfl, HS2.out.2⟩
theorem l7Line_is (x : En) (s : ByteArray) (h : Hid (etx x = s)) (w : World) (hx : Hid (okEn x = true)) : Calls Tryz.prog 25 #[.agg #[.int .i64 x.frm, .int .i64 x.to_, .int .i64 x.tape, .int .i64 x.comp, .int .i64 x.slope, .bool x.back]] w (APost (.string s) w) := by rw [← h.out]; exact l7Line_any x w hx
def ansLn (x : En) : Value := if okEn x = true then .tuple #[.string (etx x), .bool true] else .tuple #[.string ⟨#[]⟩, .bool false]
set_option maxHeartbeats 4000000 in
set_option maxRecDepth 100000 in
theorem entryLine_model (x : En) (w : World) : Calls Tryz.prog 7 #[.agg #[.int .i64 x.frm, .int .i64 x.to_, .int .i64 x.tape, .int .i64 x.comp, .int .i64 x.slope, .bool x.back]] w (APost (ansLn x) w) := by
  have HS0 := Lib.hid (TE.start w x)
  cases hx : okEn x
  · have HA := Lib.hid (show ansLn x = .tuple #[.string ⟨#[]⟩, .bool false] by unfold ansLn; rw [hx]; rfl)
    have HX := Lib.hid hx
    clear hx
    rw [HA.out]
    go_enter Tryz.func7, Tryz.ntmps7
    go_wp2_with fail
    refine (one_is x false HX _).mono ?_
    rintro e w1 ⟨rfl, b1⟩
    have HB := Lib.hid (HS0.out.step b1)
    clear b1
    go_wp2_with fail
    go_ret2
    exact ⟨rfl, HB.out.2⟩
  · obtain ⟨s, hs⟩ : ∃ s, etx x = s := ⟨_, rfl⟩
    have HA := Lib.hid (show ansLn x = .tuple #[.string s, .bool true] by unfold ansLn; rw [hx, hs]; rfl)
    have HX := Lib.hid hx
    have HS := Lib.hid hs
    clear hx hs
    rw [HA.out]
    go_enter Tryz.func7, Tryz.ntmps7
    go_wp2_with fail
    refine (one_is x true HX _).mono ?_
    rintro e w1 ⟨rfl, b1⟩
    have HS1 := Lib.hid (HS0.out.step b1)
    clear b1
    obtain ⟨y0, y1, y2, y3, y4, y5, yl⟩ := HS1.out.cs
    go_wp2_with fail
    refine (l7Line_is x s HS _ HX).mono ?_
    rintro e w2 ⟨rfl, b2⟩
    have HB := Lib.hid (HS1.out.2.trans (b2.mono HS1.out.2.size))
    clear b2
    go_wp2_with fail
    go_ret2
    exact ⟨rfl, HB.out⟩
end Go.Proofs.YtnlljdepcldibaaGreatDoor.ent
