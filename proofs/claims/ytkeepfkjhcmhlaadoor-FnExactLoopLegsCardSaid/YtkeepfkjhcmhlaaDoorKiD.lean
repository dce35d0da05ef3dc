/-
  A way from the one end of a leg to the other one by open legs, by the program.
  Conditions: the legs are valid and lie in one block.
-/
import Derived.Test.YtkeepfkjhcmhlaaDoorKiC
import Derived.Deep.MidRow
namespace Go.Proofs.YtkeepfkjhcmhlaaDoor.lpi
open Go.RowKit
open reads base ty lg rowi hs nt lp
set_option linter.unusedVariables false
set_option linter.unusedSimpArgs false

theorem sizeB12 : (Tryd.prog.info? 71).map (·.size) = some 12 := by kernel_rfl
/-- a way from To to From by open legs, and then along the leg; none if there is none -/
def LBo (ts : List Lg) (O : Int → Prop) (x : Lg) (k : Int) (w : World) (en : Ending) (w' : World) : Prop :=
  ∃ a', en = .returned (.pointer a') ∧ Below w.heap.size w w' ∧ ((∃ W g, a' = some ⟨g, 0, none⟩ ∧ WayAt w' w'.heap.size a' W ∧ Wy ts O x.frm k W ∧ hd W = x.to_) ∨ (a' = none ∧ ∀ W, Wy ts O x.frm k W → ¬ hd W = x.to_))
/-- what the region's loads read -/
def SL (X Bx : Nat) (x : Lg) (cs : List Value) (v : World) : Prop := (v.cell? ⟨X, 0, none⟩ = some (.int .i64 x.frm) ∧ v.cell? ⟨X, 1, none⟩ = some (.int .i64 x.to_)) ∧ v.rangeAt Bx 0 cs
theorem sl_mk {X Bx : Nat} {x : Lg} {cs : List Value} {C : Array Value} {v : World} (hX : Blk v X 51 #[.int .i64 x.frm, .int .i64 x.to_, .int .i64 x.tape, .int .i64 x.comp, .int .i64 x.slope]) (hC : Blk v Bx 71 C) (hcs : cs.toArray = C) : SL X Bx x cs v :=
  ⟨⟨hX.cell 0, hX.cell 1⟩, fun j u hu => by
    rw [Nat.zero_add, hC.cell, ← hcs]; simpa using hu⟩
theorem lb_fin {ts : List Lg} {O : Int → Prop} {x : Lg} {k : Int} {w w' : World} {a' : Option Addr} (hb : Below w.heap.size w w') (h : (∃ W g, a' = some ⟨g, 0, none⟩ ∧ WayAt w' w'.heap.size a' W ∧ Wy ts O x.frm k W ∧ hd W = x.to_) ∨ (a' = none ∧ NoWay ts O x.frm k x.to_ [(x.frm, k)])) : LBo ts O x k w (.returned (.pointer a')) w' := by
  refine ⟨a', rfl, hb, ?_⟩
  rcases h with h | ⟨h1, h2⟩
  · exact .inl h
  · refine .inr ⟨h1, fun W hW => ?_⟩
    obtain ⟨Q, hQ⟩ := hW.last
    rw [hQ] at hW ⊢
    exact h2 Q hW
set_option maxHeartbeats 16000000 in
set_option maxRecDepth 100000 in
theorem loopBy_any (A : Option Addr) (n cap : Nat) (ts : List Lg) (bs : List Bool) (C : Array Value) (k : Nat) (x : Lg) (w : World) (hg : Hid (goodLg ts = true)) (hbs : Hid (bs.length = 12)) (hC : Hid ((bs.map Value.bool).toArray = C)) (hx : Hid (ts[k]? = some x)) (hts : Hid (LgAt w w.heap.size A n ts)) :
    Calls Tryd.prog 93 #[.slice A n cap, .agg C, .int .i64 (k : Int)] w (LBo ts (Opn bs) x (k : Int) w) := by
  have HL := Lib.hid hts.out.1
  have hn12 := len12 HL.out hg.out
  have hkn : k < n := by have := lt_at hx.out; rw [HL.out] at this; exact this
  have hki : (k : Int) < (n : Int) := by omega
  have hk0 : (0 : Int) ≤ (k : Int) := by omega
  obtain ⟨cs, HCS0⟩ : ∃ cs, Hid (bs.map Value.bool = cs) := ⟨_, Lib.hid rfl⟩
  have HCL := Lib.hid (show cs.length = 12 by rw [← HCS0.out, List.length_map, hbs.out])
  have HCS := Lib.hid (show cs.toArray = C by rw [← HCS0.out]; exact hC.out)
  have hC12 : C.size = 12 := by rw [← HCS.out]; simp [HCL.out]
  have HCI := Lib.hid (Lib.hid (show ∀ (k : Nat) (b : Bool), bs[k]? = some b → C[k]? = some (Value.bool b) from fun k b hb => by rw [← hC.out]; simp [hb]))
  have hok := okLg_lim (goodLg_at hg.out hx.out)
  have HZ := Lib.hid hok.1
  have HRR := Lib.hid (show ∀ (s : Nat) j t, (j, t) ∈ (fun s : Int => exR ts bs ts.length (s.toNat : Int)) (s : Int) ↔ (Opn bs j ∧ Jn ts j (s : Int) t) from fun s j t => by
    show (j, t) ∈ exR ts bs ts.length ((((s : Int)).toNat : Nat) : Int) ↔ _
    rw [Int.toNat_natCast, exR_mem (good_ne hg.out) _ (Nat.le_refl _)]
    constructor
    · rintro ⟨a, -, c⟩; exact ⟨a, c⟩
    · rintro ⟨a, c⟩
      refine ⟨a, ?_, c⟩
      obtain ⟨h0, y, hy, -⟩ := c
      have := lt_at hy
      omega)
  obtain ⟨gL, rfl, hgL, e0, e1, e2, e3, e4⟩ := (hts.out.alloc (.cells C 71)).2 k x hx.out
  clear hok
  go_enter Tryd.func93, Tryd.ntmps93
  go_upto_region 2 with fail
  obtain ⟨V, HV⟩ : ∃ Z, Hid ((w.alloc (.cells C 71)).alloc (.cells #[.int .i64 x.frm, .int .i64 x.to_, .int .i64 x.tape, .int .i64 x.comp, .int .i64 x.slope] 51) = Z) := ⟨_, Lib.hid rfl⟩
  obtain ⟨Bx, HBX⟩ : ∃ Z, Hid (w.heap.size = Z) := ⟨_, Lib.hid rfl⟩
  obtain ⟨X, HXX⟩ : ∃ Z, Hid (w.heap.size + 1 = Z) := ⟨_, Lib.hid rfl⟩
  have HXV := Lib.hid (show Blk V X 51 #[.int .i64 x.frm, .int .i64 x.to_, .int .i64 x.tape, .int .i64 x.comp, .int .i64 x.slope] by rw [← HV.out, ← HXX.out]; have h := Blk.new (w.alloc (.cells C 71)) 51 #[.int .i64 x.frm, .int .i64 x.to_, .int .i64 x.tape, .int .i64 x.comp, .int .i64 x.slope]; simpa using h)
  have HCV := Lib.hid (show Blk V Bx 71 C by rw [← HV.out, ← HBX.out]; exact (Blk.new w _ _).alloc _)
  have HBV := Lib.hid (show Below w.heap.size w V by rw [← HV.out]; exact ((Below.refl _ _).alloc (Nat.le_refl _) _).alloc (by simp) _)
  try rw [HXX.out]
  try simp only [HXX.out]
  try rw [HBX.out]
  try simp only [HBX.out]
  rw [HV.out]
  clear HV HXX e0 e1 e2 e3 e4
  obtain ⟨V0, HV0⟩ : ∃ Z, Hid (V.drew = Z) := ⟨_, Lib.hid rfl⟩
  have HX0 := Lib.hid (show Blk V0 X 51 #[.int .i64 x.frm, .int .i64 x.to_, .int .i64 x.tape, .int .i64 x.comp, .int .i64 x.slope] by rw [← HV0.out]; exact HXV.out.below (Below.refl _ _).drew HXV.out.lt)
  have HC0 := Lib.hid (show Blk V0 Bx 71 C by rw [← HV0.out]; exact HCV.out.below (Below.refl _ _).drew HCV.out.lt)
  have HB0 := Lib.hid (show Below w.heap.size w V0 by rw [← HV0.out]; exact HBV.out.drew)
  refine wp_region_held_drew (S := (fun v => (v.cell? ⟨X, 0, none⟩ = some (.int .i64 x.frm) ∧ v.cell? ⟨X, 1, none⟩ = some (.int .i64 x.to_)) ∧ v.rangeAt Bx 0 cs)) (by kernel_rfl) ?_ (fun hHeld => ?_)
  · rw [HV0.out]; exact sl_mk HX0.out HC0.out HCS.out
  rw [HV0.out] at hHeld ⊢
  clear HV0 HBX HXV HCV HBV
  refine' wpAnyH_take (i := 0) (v := ?vl3_0) rfl (by kernel_rfl) (by kernel_rfl) (by kernel_rfl) (fun _ _ _ h => h) (Or.inl ⟨by rfl, ?hyl3_0⟩) (by assumption) ?restl3_0
  case hyl3_0 => (intro w hSw; (try dsimp only at hSw); go_simp; try (with_reducible rfl))
  simp only [Act.put, List.getElem_toArray, List.getElem_cons_succ, List.getElem_cons_zero, List.setIfInBounds_toArray, List.set_cons_zero, List.set_cons_succ]
  refine' wpAnyH_take (i := 1) (v := ?vl4_1) rfl (by kernel_rfl) (by kernel_rfl) (by kernel_rfl) (fun _ _ _ h => h) (Or.inl ⟨by rfl, ?hyl4_1⟩) (by assumption) ?restl4_1
  case hyl4_1 => (intro w hSw; (try dsimp only at hSw); go_simp; try (with_reducible rfl))
  simp only [Act.put, List.getElem_toArray, List.getElem_cons_succ, List.getElem_cons_zero, List.setIfInBounds_toArray, List.set_cons_zero, List.set_cons_succ]
  refine' wpAnyH_take (i := 2) (v := ?vl5_2) rfl (by kernel_rfl) (by kernel_rfl) (by kernel_rfl) (fun _ _ _ h => h) (Or.inl ⟨by rfl, ?hyl5_2⟩) (by assumption) ?restl5_2
  case hyl5_2 => (intro w hSw; (try dsimp only at hSw); go_simp; try (with_reducible rfl))
  simp only [Act.put, List.getElem_toArray, List.getElem_cons_succ, List.getElem_cons_zero, List.setIfInBounds_toArray, List.set_cons_zero, List.set_cons_succ]
  refine' wpAnyH_take (i := 3) (v := ?vl6_3) rfl (by kernel_rfl) (by kernel_rfl) (by kernel_rfl) (fun _ _ _ h => h) (Or.inl ⟨by rfl, ?hyl6_3⟩) (by assumption) ?restl6_3
  case hyl6_3 => (intro w hSw; (try dsimp only at hSw); go_simp; try (with_reducible rfl))
  simp only [Act.put, List.getElem_toArray, List.getElem_cons_succ, List.getElem_cons_zero, List.setIfInBounds_toArray, List.set_cons_zero, List.set_cons_succ]
  refine' wpAnyH_take (i := 4) (v := ?vl7_4) rfl (by kernel_rfl) (by kernel_rfl) (by kernel_rfl) (fun _ _ _ h => h) (Or.inl ⟨by rfl, ?hyl7_4⟩) (by assumption) ?restl7_4
  case hyl7_4 => (intro w hSw; (try dsimp only at hSw); go_simp; try (with_reducible rfl))
  simp only [Act.put, List.getElem_toArray, List.getElem_cons_succ, List.getElem_cons_zero, List.setIfInBounds_toArray, List.set_cons_zero, List.set_cons_succ]
  refine' wpAnyH_take (i := 5) (v := ?vl8_5) rfl (by kernel_rfl) (by kernel_rfl) (by kernel_rfl) (fun _ _ _ h => h) (Or.inl ⟨by rfl, ?hyl8_5⟩) (by assumption) ?restl8_5
  case hyl8_5 => (intro w hSw; (try dsimp only at hSw); go_simp; try (with_reducible rfl))
  simp only [Act.put, List.getElem_toArray, List.getElem_cons_succ, List.getElem_cons_zero, List.setIfInBounds_toArray, List.set_cons_zero, List.set_cons_succ]
  refine' wpAnyH_take (i := 7) (v := ?vl9_7) rfl (by kernel_rfl) (by kernel_rfl) (by kernel_rfl) (fun _ _ _ h => h) (Or.inl ⟨by rfl, ?hyl9_7⟩) (by assumption) ?restl9_7
  case hyl9_7 => (intro w hSw; (try dsimp only at hSw); go_simp; try (with_reducible rfl))
  simp only [Act.put, List.getElem_toArray, List.getElem_cons_succ, List.getElem_cons_zero, List.setIfInBounds_toArray, List.set_cons_zero, List.set_cons_succ]
  refine wpAnyH_take (i := 8) (v := .agg cs.toArray) rfl (by kernel_rfl) (by kernel_rfl) (by kernel_rfl) (fun _ _ _ h => h) (yieldsIf_load_mid (by rfl) _ _ rfl Bx 0 rfl cs _ (fun v hv => hv.2) Tryd.underlying71 rfl (by rw [sizeB12, HCL.out])) (by assumption) ?_
  simp only [Act.put, List.getElem_toArray, List.getElem_cons_succ, List.getElem_cons_zero, List.setIfInBounds_toArray, List.set_cons_zero, List.set_cons_succ]
  rw [HCS.out]
  refine wpAnyH_ready (rs := [6, 9]) (by kernel_rfl) (by simp) ?_
  refine AllReadyH.cons rfl (fun K hK => ?_) (AllReadyH.cons rfl (fun K hK => ?_) AllReadyH.nil)
  · obtain ⟨V1, HV1⟩ : ∃ Z, Hid (V0.alloc (.cells #[.int .i64 x.frm, .int .i64 (k : Int), .pointer none] 61) = Z) := ⟨_, Lib.hid rfl⟩
    obtain ⟨Y, HY⟩ : ∃ Z, Hid (V0.heap.size = Z) := ⟨_, Lib.hid rfl⟩
    have HBB := Lib.hid (show Below V0.heap.size V0 V1 by rw [← HV1.out]; exact (Below.refl _ _).alloc (Nat.le_refl _) _)
    have HY1 := Lib.hid (show WayAt V1 V1.heap.size (some ⟨Y, 0, none⟩) [(x.frm, (k : Int))] by rw [← HV1.out, ← HY.out]; exact WayAt.cons (W := []) (a := none) rfl x.frm (k : Int))
    have HX1 := Lib.hid (HX0.out.below HBB.out HX0.out.lt)
    have HC1 := Lib.hid (HC0.out.below HBB.out HC0.out.lt)
    have HB1 := Lib.hid (HB0.out.trans (HBB.out.mono HB0.out.size))
    have hhb : SL X Bx x cs (V0.alloc (.cells #[.int .i64 x.frm, .int .i64 (k : Int), .pointer none] 61)) := by rw [HV1.out]; exact sl_mk HX1.out HC1.out HCS.out
    go_simp
    refine hK.out _ _ hhb (fun hHeld1 => ?_)
    clear hhb
    clear hK K hHeld
    have hHeld := hHeld1
    clear hHeld1
    try simp only [Act.put, List.getElem_toArray, List.getElem_cons_succ, List.getElem_cons_zero, List.setIfInBounds_toArray, List.set_cons_zero, List.set_cons_succ]
    rw [HV1.out] at hHeld
    try rw [HY.out]
    try simp only [HY.out]
    rw [HV1.out]
    clear HV1
    refine wpAnyH_ready (rs := [9]) (by kernel_rfl) (by simp) ?_
    refine AllReadyH.cons rfl (fun K hK => ?_) AllReadyH.nil
    go_simp
    refine (exits_any (some ⟨gL, 0, none⟩) n cap ts bs C V1 hg hbs HCI.out hC12 (Lib.hid (hts.out.step HB1.out))).mono ?_
    rintro en V2 ⟨g, rfl, hb, hex⟩
    have HBE := Lib.hid hb
    have HX2 := Lib.hid (HX1.out.below hb HX1.out.lt)
    have HC2 := Lib.hid (HC1.out.below hb HC1.out.lt)
    have HB2 := Lib.hid (HB1.out.trans (hb.mono HB1.out.size))
    have HE2 := Lib.hid hex
    clear hb hex
    have HY2 := Lib.hid (HY1.out.step HBE.out)
    refine hK.out _ _ (sl_mk HX2.out HC2.out HCS.out) (fun hHeld1 => ?_)
    clear hK K hHeld
    have hHeld := hHeld1
    clear hHeld1
    try simp only [Act.put, List.getElem_toArray, List.getElem_cons_succ, List.getElem_cons_zero, List.setIfInBounds_toArray, List.set_cons_zero, List.set_cons_succ]
    refine wpAnyH_ready (rs := [10]) (by kernel_rfl) (by simp) ?_
    refine AllReadyH.cons rfl (fun K hK => ?_) AllReadyH.nil
    go_simp
    refine (wayFrom_any ts (Opn bs) x.frm (k : Int) x.to_ g _ hg HZ HRR 8 [(x.frm, (k : Int))] (some ⟨Y, 0, none⟩) V2 (by simp) (Lib.hid Wy.one) HY2 HE2).mono ?_
    rintro en V5 ⟨a5, rfl, hb, hres⟩
    have HX5 := Lib.hid (HX2.out.below hb HX2.out.lt)
    have HC5 := Lib.hid (HC2.out.below hb HC2.out.lt)
    have HB5 := Lib.hid (HB2.out.trans (hb.mono HB2.out.size))
    have HRES := Lib.hid hres
    clear hb hres
    refine hK.out _ _ (sl_mk HX5.out HC5.out HCS.out) (fun hHeld1 => ?_)
    clear hK K hHeld
    have hHeld := hHeld1
    clear hHeld1
    try simp only [Act.put, List.getElem_toArray, List.getElem_cons_succ, List.getElem_cons_zero, List.setIfInBounds_toArray, List.set_cons_zero, List.set_cons_succ]
    refine' wpAnyH_take (i := 11) (v := ?vl1_11) rfl (by kernel_rfl) (by kernel_rfl) (by kernel_rfl) (fun _ _ _ h => h) (Or.inl ⟨by rfl, ?hyl1_11⟩) (by assumption) ?restl1_11
    case hyl1_11 => (intro w hSw; (try dsimp only at hSw); go_simp; try (with_reducible rfl))
    simp only [Act.put, List.getElem_toArray, List.getElem_cons_succ, List.getElem_cons_zero, List.setIfInBounds_toArray, List.set_cons_zero, List.set_cons_succ]
    refine wpAnyH_done (by kernel_rfl) ?_ _
    clear hHeld
    go_wp2_with fail
    go_ret
    exact lb_fin HB5.out HRES.out
  · go_simp
    refine (exits_any (some ⟨gL, 0, none⟩) n cap ts bs C V0 hg hbs HCI.out hC12 (Lib.hid (hts.out.step HB0.out))).mono ?_
    rintro en V1 ⟨g, rfl, hb, hex⟩
    have HBE := Lib.hid hb
    have HX1 := Lib.hid (HX0.out.below hb HX0.out.lt)
    have HC1 := Lib.hid (HC0.out.below hb HC0.out.lt)
    have HB1 := Lib.hid (HB0.out.trans (hb.mono HB0.out.size))
    have HE1 := Lib.hid hex
    clear hb hex
    refine hK.out _ _ (sl_mk HX1.out HC1.out HCS.out) (fun hHeld1 => ?_)
    clear hK K hHeld
    have hHeld := hHeld1
    clear hHeld1
    try simp only [Act.put, List.getElem_toArray, List.getElem_cons_succ, List.getElem_cons_zero, List.setIfInBounds_toArray, List.set_cons_zero, List.set_cons_succ]
    refine wpAnyH_ready (rs := [6]) (by kernel_rfl) (by simp) ?_
    refine AllReadyH.cons rfl (fun K hK => ?_) AllReadyH.nil
    obtain ⟨V2, HV2⟩ : ∃ Z, Hid (V1.alloc (.cells #[.int .i64 x.frm, .int .i64 (k : Int), .pointer none] 61) = Z) := ⟨_, Lib.hid rfl⟩
    obtain ⟨Y, HY⟩ : ∃ Z, Hid (V1.heap.size = Z) := ⟨_, Lib.hid rfl⟩
    have HBB := Lib.hid (show Below V1.heap.size V1 V2 by rw [← HV2.out]; exact (Below.refl _ _).alloc (Nat.le_refl _) _)
    have HY2 := Lib.hid (show WayAt V2 V2.heap.size (some ⟨Y, 0, none⟩) [(x.frm, (k : Int))] by rw [← HV2.out, ← HY.out]; exact WayAt.cons (W := []) (a := none) rfl x.frm (k : Int))
    have HX2 := Lib.hid (HX1.out.below HBB.out HX1.out.lt)
    have HC2 := Lib.hid (HC1.out.below HBB.out HC1.out.lt)
    have HB2 := Lib.hid (HB1.out.trans (HBB.out.mono HB1.out.size))
    have hhb : SL X Bx x cs (V1.alloc (.cells #[.int .i64 x.frm, .int .i64 (k : Int), .pointer none] 61)) := by rw [HV2.out]; exact sl_mk HX2.out HC2.out HCS.out
    have HE2 := Lib.hid (HE1.out.step HBB.out)
    go_simp
    refine hK.out _ _ hhb (fun hHeld1 => ?_)
    clear hhb
    clear hK K hHeld
    have hHeld := hHeld1
    clear hHeld1
    try simp only [Act.put, List.getElem_toArray, List.getElem_cons_succ, List.getElem_cons_zero, List.setIfInBounds_toArray, List.set_cons_zero, List.set_cons_succ]
    rw [HV2.out] at hHeld
    try rw [HY.out]
    try simp only [HY.out]
    rw [HV2.out]
    clear HV2
    refine wpAnyH_ready (rs := [10]) (by kernel_rfl) (by simp) ?_
    refine AllReadyH.cons rfl (fun K hK => ?_) AllReadyH.nil
    go_simp
    refine (wayFrom_any ts (Opn bs) x.frm (k : Int) x.to_ g _ hg HZ HRR 8 [(x.frm, (k : Int))] (some ⟨Y, 0, none⟩) V2 (by simp) (Lib.hid Wy.one) HY2 HE2).mono ?_
    rintro en V5 ⟨a5, rfl, hb, hres⟩
    have HX5 := Lib.hid (HX2.out.below hb HX2.out.lt)
    have HC5 := Lib.hid (HC2.out.below hb HC2.out.lt)
    have HB5 := Lib.hid (HB2.out.trans (hb.mono HB2.out.size))
    have HRES := Lib.hid hres
    clear hb hres
    refine hK.out _ _ (sl_mk HX5.out HC5.out HCS.out) (fun hHeld1 => ?_)
    clear hK K hHeld
    have hHeld := hHeld1
    clear hHeld1
    try simp only [Act.put, List.getElem_toArray, List.getElem_cons_succ, List.getElem_cons_zero, List.setIfInBounds_toArray, List.set_cons_zero, List.set_cons_succ]
    refine' wpAnyH_take (i := 11) (v := ?vl2_11) rfl (by kernel_rfl) (by kernel_rfl) (by kernel_rfl) (fun _ _ _ h => h) (Or.inl ⟨by rfl, ?hyl2_11⟩) (by assumption) ?restl2_11
    case hyl2_11 => (intro w hSw; (try dsimp only at hSw); go_simp; try (with_reducible rfl))
    simp only [Act.put, List.getElem_toArray, List.getElem_cons_succ, List.getElem_cons_zero, List.setIfInBounds_toArray, List.set_cons_zero, List.set_cons_succ]
    refine wpAnyH_done (by kernel_rfl) ?_ _
    clear hHeld
    go_wp2_with fail
    go_ret
    exact lb_fin HB5.out HRES.out
#print axioms loopBy_any
end Go.Proofs.YtkeepfkjhcmhlaaDoor.lpi
