/-
  The draws of FnWalls.
  Conditions: the code has at most 65536 bytes.
-/
import Derived.Test.YtnpghhpcloljeaaDoorPwD
import Derived.Test.YtnpghhpcloljeaaDoorDrA
import Derived.RegionTactic
namespace Go.Proofs.YtnpghhpcloljeaaDoor.drg
open Go.RowKit
open reads base curs curd cure ty
set_option linter.unusedVariables false
set_option linter.unusedSimpArgs false

theorem gcell (v : World) (R i : Nat) (u : Value) : v.grownBy (v.setCell ⟨R, i, none⟩ u) (some R) := curs.grown_cell (drl.grown_refl v _) i u
/-- drawn passages and a leg -/
def DWq (w : World) (e : Ending) (w' : World) : Prop := ∃ (v : Value) (ts : List Pg) (x : Lg), e = .returned (.tuple #[v, .agg #[.int .i64 x.frm, .int .i64 x.to_, .int .i64 x.tape, .int .i64 x.comp, .int .i64 x.slope]]) ∧ w'.ownsRow w.heap.size 43 5 v ts.length (flatPg ts) ∧ ts.length ≤ 8 ∧ drl.okD x ∧ Below w.heap.size w w'
set_option maxHeartbeats 8000000 in
set_option maxRecDepth 100000 in
theorem wallsAt_draw (A : Option Addr) (n cap : Nat) (zs : List UInt8) (w : World) (h : Hid (curs.Code w A n zs)) : Calls Tryd.prog 13 #[.slice A n cap] w (DWq w) := by
  obtain ⟨W0, HW0, hs0, HB0, HR⟩ : ∃ W0, Hid (w.alloc (.cells #[.int .i64 0, .int .i64 0, .int .i64 0, .int .i64 0, .int .i64 0] 33) = W0) ∧ W0.heap.size = w.heap.size + 1 ∧ Hid (Below w.heap.size w W0) ∧ Hid (Blk W0 w.heap.size 33 #[.int .i64 0, .int .i64 0, .int .i64 0, .int .i64 0, .int .i64 0]) :=
    ⟨_, Lib.hid rfl, by simp, Lib.hid ((Below.refl w.heap.size w).alloc (Nat.le_refl _) _), Lib.hid (Blk.new w _ _)⟩
  have HC0 := Lib.hid (cur_new cap (h.out.below HB0.out))
  rw [hs0] at HC0
  obtain ⟨W1, HW1⟩ : ∃ W, Hid (W0.alloc (.cells #[.slice A n cap, .int .i64 0, .int .u64 0] 72) = W) := ⟨_, Lib.hid rfl⟩
  have hs1 : W1.heap.size = w.heap.size + 2 := by rw [← HW1.out]; simp [hs0]
  rw [HW1.out] at HC0
  have HR1 := Lib.hid (show Blk W1 w.heap.size 33 #[.int .i64 0, .int .i64 0, .int .i64 0, .int .i64 0, .int .i64 0] by rw [← HW1.out]; exact HR.out.alloc _)
  have HLW := Lib.hid (show ∀ u, W1.grownBy u (some (w.heap.size + 1)) → Below w.heap.size w u from fun u hu => by
    rw [← HW1.out] at hu
    exact (HB0.out.alloc (by omega) _).grown hu (by simp; omega) (fun k hk => by injection hk with hk; omega))
  go_enter Tryd.func13, Tryd.ntmps13
  go_upto_region 1 with fail
  rw [HW0.out]
  go_upto_region 2 with fail
  try rw [hs0]
  rw [HW1.out]
  clear HW0 HW1 HR
  go_wp2_with fail
  refine (passages_any (w.heap.size + 1) (w.heap.size + 1) 0 A n cap zs _ (by omega) HC0).mono ?_
  rintro e w1 ⟨v, ts, rfl, hl, hG⟩
  have HG := Lib.hid hG
  have HR2 := Lib.hid (HR1.out.grown hG.2.1 (by intro e; injection e with e; omega))
  clear hG HC0 HR1
  go_wp2_with fail
  refine (drl.leg_any (w.heap.size + 1) (w.heap.size + 1) 60 A n cap zs _ (by omega) (Lib.hid HG.out.1)).mono ?_
  rintro e w2 ⟨x, rfl, hok, hC, hg⟩
  have HOK := Lib.hid hok
  have HG2 := Lib.hid (HG.out.step hC hg)
  have HR3 := Lib.hid (HR2.out.grown hg (by intro e; injection e with e; omega))
  clear hC hg hok HG HR2
  have z0 := HR3.out.cell 0
  have z1 := HR3.out.cell 1
  have z2 := HR3.out.cell 2
  have z3 := HR3.out.cell 3
  have z4 := HR3.out.cell 4
  have f0 := HR3.out.frozen 0
  have f1 := HR3.out.frozen 1
  have f2 := HR3.out.frozen 2
  have f3 := HR3.out.frozen 3
  have f4 := HR3.out.frozen 4
  have zl := HR3.out.lt
  simp at z0 z1 z2 z3 z4
  have HRW := Lib.hid (show (((((w2.setCell ⟨w.heap.size, 0, none⟩ (.int .i64 x.frm)).setCell ⟨w.heap.size, 1, none⟩ (.int .i64 x.to_)).setCell ⟨w.heap.size, 2, none⟩ (.int .i64 x.tape)).setCell ⟨w.heap.size, 3, none⟩ (.int .i64 x.comp)).setCell ⟨w.heap.size, 4, none⟩ (.int .i64 x.slope)).ownsRow w.heap.size 43 5 v ts.length (flatPg ts) from own_base (by omega) (((((HG2.out.2.2.1.kept (row := some w.heap.size) (gcell _ _ _ _) (.inr (fun q => by have := (HG2.out.2.2.1.lt _ q).1; omega))).kept (row := some w.heap.size) (gcell _ _ _ _) (.inr (fun q => by have := (HG2.out.2.2.1.lt _ q).1; omega))).kept (row := some w.heap.size) (gcell _ _ _ _) (.inr (fun q => by have := (HG2.out.2.2.1.lt _ q).1; omega))).kept (row := some w.heap.size) (gcell _ _ _ _) (.inr (fun q => by have := (HG2.out.2.2.1.lt _ q).1; omega))).kept (row := some w.heap.size) (gcell _ _ _ _) (.inr (fun q => by have := (HG2.out.2.2.1.lt _ q).1; omega))))
  have HBL := Lib.hid (show Below w.heap.size w (((((w2.setCell ⟨w.heap.size, 0, none⟩ (.int .i64 x.frm)).setCell ⟨w.heap.size, 1, none⟩ (.int .i64 x.to_)).setCell ⟨w.heap.size, 2, none⟩ (.int .i64 x.tape)).setCell ⟨w.heap.size, 3, none⟩ (.int .i64 x.comp)).setCell ⟨w.heap.size, 4, none⟩ (.int .i64 x.slope)) from (((((HLW.out w2 HG2.out.2.1).setCell (Nat.le_refl _) _).setCell (Nat.le_refl _) _).setCell (Nat.le_refl _) _).setCell (Nat.le_refl _) _).setCell (Nat.le_refl _) _)
  have HR7 := Lib.hid (show Blk (((((w2.setCell ⟨w.heap.size, 0, none⟩ (.int .i64 x.frm)).setCell ⟨w.heap.size, 1, none⟩ (.int .i64 x.to_)).setCell ⟨w.heap.size, 2, none⟩ (.int .i64 x.tape)).setCell ⟨w.heap.size, 3, none⟩ (.int .i64 x.comp)).setCell ⟨w.heap.size, 4, none⟩ (.int .i64 x.slope)) w.heap.size 33 #[.int .i64 x.frm, .int .i64 x.to_, .int .i64 x.tape, .int .i64 x.comp, .int .i64 x.slope] by have k := ((((HR3.out.set_ 0 (.int .i64 x.frm)).set_ 1 (.int .i64 x.to_)).set_ 2 (.int .i64 x.tape)).set_ 3 (.int .i64 x.comp)).set_ 4 (.int .i64 x.slope); simpa using k)
  go_wp2_with fail
  refine bodyPost_ret (v := .tuple #[v, .agg #[.int .i64 x.frm, .int .i64 x.to_, .int .i64 x.tape, .int .i64 x.comp, .int .i64 x.slope]]) (by simp [results, Tryd.results13, go_sem, *]) rfl ⟨v, ts, x, rfl, HRW.out, hl, HOK.out, HBL.out⟩
/-- drawn passages and a station -/
def DAq (w : World) (e : Ending) (w' : World) : Prop := ∃ (v : Value) (ts : List Pg) (q : Int), e = .returned (.tuple #[v, .int .i64 q]) ∧ w'.ownsRow w.heap.size 43 5 v ts.length (flatPg ts) ∧ ts.length ≤ 8 ∧ (-1 ≤ q ∧ q ≤ 8) ∧ Below w.heap.size w w'
/-- a drawn station, behind its function -/
def SQo (B b k : Nat) (A : Option Addr) (n cap : Nat) (zs : List UInt8) (w : World) (e : Ending) (w' : World) : Prop := ∃ q : Int, e = .returned (.int .i64 q) ∧ (-1 ≤ q ∧ q ≤ 8) ∧ Cur w' B b (k + 1) A n cap zs ∧ w.grownBy w' (some b)
set_option maxHeartbeats 4000000 in
set_option maxRecDepth 100000 in
theorem station_any (B b k : Nat) (A : Option Addr) (n cap : Nat) (zs : List UInt8) (w : World) (hk : k ≤ 60000) (h : Hid (Cur w B b k A n cap zs)) : Calls Tryd.prog 45 #[.pointer (some ⟨b, 0, none⟩)] w (SQo B b k A n cap zs w) := by
  go_enter Tryd.func45, Tryd.ntmps45
  go_wp2_with fail
  refine (among_new B b k A n cap zs w 12 _ [0, 0, 1, 1, 2, 2, 3, 4, 5, 7, 8, -1] (by omega) h.out rfl (by decide) (by decide)).mono ?_
  rintro e w2 ⟨q, hq, rfl, hC, hg⟩
  have HC := Lib.hid hC
  have HG := Lib.hid hg
  have hb : -1 ≤ q ∧ q ≤ 8 := by simp at hq; omega
  clear hC hg hq h
  go_wp2_with fail
  go_ret
  exact ⟨q, rfl, hb, HC.out, HG.out⟩
set_option maxHeartbeats 8000000 in
set_option maxRecDepth 100000 in
theorem areaAt_draw (A : Option Addr) (n cap : Nat) (zs : List UInt8) (w : World) (h : Hid (curs.Code w A n zs)) : Calls Tryd.prog 19 #[.slice A n cap] w (DAq w) := by
  have HC0 := Lib.hid (cur_new cap h.out)
  go_enter Tryd.func19, Tryd.ntmps19
  go_wp2_with fail
  refine (passages_any w.heap.size w.heap.size 0 A n cap zs _ (by omega) HC0).mono ?_
  rintro e w1 ⟨v, ts, rfl, hl, hG⟩
  have HG := Lib.hid hG
  clear hG HC0 h
  go_wp2_with fail
  refine (station_any w.heap.size w.heap.size 60 A n cap zs _ (by omega) (Lib.hid HG.out.1)).mono ?_
  rintro e w2 ⟨q, rfl, hq, hC, hg⟩
  have HG2 := Lib.hid (HG.out.step hC hg)
  clear hC hg HG
  go_wp2_with fail
  go_ret2
  exact ⟨v, ts, q, rfl, own_base (by simp) HG2.out.2.2.1, hl, hq, low HG2.out.2.1⟩
/-- a drawn passage -/
def DMp (w : World) (e : Ending) (w' : World) : Prop := ∃ (p : Pg), e = .returned (.agg #[.int .i64 p.st, .int .i64 p.lf, .int .i64 p.rt, .int .i64 p.ab, .int .i64 p.be]) ∧ Below w.heap.size w w'
set_option maxHeartbeats 8000000 in
set_option maxRecDepth 100000 in
theorem mirror_draw (A : Option Addr) (n cap : Nat) (zs : List UInt8) (w : World) (h : Hid (curs.Code w A n zs)) : Calls Tryd.prog 17 #[.slice A n cap] w (DMp w) := by
  obtain ⟨W0, HW0, hs0, HB0, HR⟩ : ∃ W0, Hid (w.alloc (.cells #[.int .i64 0, .int .i64 0, .int .i64 0, .int .i64 0, .int .i64 0] 43) = W0) ∧ W0.heap.size = w.heap.size + 1 ∧ Hid (Below w.heap.size w W0) ∧ Hid (Blk W0 w.heap.size 43 #[.int .i64 0, .int .i64 0, .int .i64 0, .int .i64 0, .int .i64 0]) :=
    ⟨_, Lib.hid rfl, by simp, Lib.hid ((Below.refl w.heap.size w).alloc (Nat.le_refl _) _), Lib.hid (Blk.new w _ _)⟩
  have HC0 := Lib.hid (cur_new cap (h.out.below HB0.out))
  rw [hs0] at HC0
  obtain ⟨W1, HW1⟩ : ∃ W, Hid (W0.alloc (.cells #[.slice A n cap, .int .i64 0, .int .u64 0] 72) = W) := ⟨_, Lib.hid rfl⟩
  have hs1 : W1.heap.size = w.heap.size + 2 := by rw [← HW1.out]; simp [hs0]
  rw [HW1.out] at HC0
  have HR1 := Lib.hid (show Blk W1 w.heap.size 43 #[.int .i64 0, .int .i64 0, .int .i64 0, .int .i64 0, .int .i64 0] by rw [← HW1.out]; exact HR.out.alloc _)
  have HLW := Lib.hid (show ∀ u, W1.grownBy u (some (w.heap.size + 1)) → Below w.heap.size w u from fun u hu => by
    rw [← HW1.out] at hu
    exact (HB0.out.alloc (by omega) _).grown hu (by simp; omega) (fun k hk => by injection hk with hk; omega))
  go_enter Tryd.func17, Tryd.ntmps17
  go_upto_region 1 with fail
  rw [HW0.out]
  go_upto_region 2 with fail
  try rw [hs0]
  rw [HW1.out]
  clear HW0 HW1 HR
  go_wp2_with fail
  refine (passages_any (w.heap.size + 1) (w.heap.size + 1) 0 A n cap zs _ (by omega) HC0).mono ?_
  rintro e w1 ⟨v, ts, rfl, hl, hG⟩
  have HG := Lib.hid hG
  have HR2 := Lib.hid (HR1.out.grown hG.2.1 (by intro e; injection e with e; omega))
  clear hG HC0 HR1
  have z0 := HR2.out.cell 0
  have z1 := HR2.out.cell 1
  have z2 := HR2.out.cell 2
  have z3 := HR2.out.cell 3
  have z4 := HR2.out.cell 4
  have f0 := HR2.out.frozen 0
  have f1 := HR2.out.frozen 1
  have f2 := HR2.out.frozen 2
  have f3 := HR2.out.frozen 3
  have f4 := HR2.out.frozen 4
  have zl := HR2.out.lt
  simp at z0 z1 z2 z3 z4
  obtain ⟨L, HL⟩ : ∃ L, Hid (ts.length = L) := ⟨_, Lib.hid rfl⟩
  obtain ⟨A2, c2, rfl⟩ := base.row_slice HG.out.2.2.1
  rw [HL.out]
  by_cases hL : L = 0
  · subst hL
    obtain ⟨p, HP⟩ : ∃ p : Pg, Hid (p = ⟨9, 0, 0, 0, 0⟩) := ⟨_, Lib.hid rfl⟩
    have HBL := Lib.hid (show Below w.heap.size w (((((w1.setCell ⟨w.heap.size, 0, none⟩ (.int .i64 9)).setCell ⟨w.heap.size, 1, none⟩ (.int .i64 0)).setCell ⟨w.heap.size, 2, none⟩ (.int .i64 0)).setCell ⟨w.heap.size, 3, none⟩ (.int .i64 0)).setCell ⟨w.heap.size, 4, none⟩ (.int .i64 0)) from (((((HLW.out w1 HG.out.2.1).setCell (Nat.le_refl _) _).setCell (Nat.le_refl _) _).setCell (Nat.le_refl _) _).setCell (Nat.le_refl _) _).setCell (Nat.le_refl _) _)
    go_wp2_with fail
    refine bodyPost_ret (v := .agg #[.int .i64 9, .int .i64 0, .int .i64 0, .int .i64 0, .int .i64 0]) (by simp [results, Tryd.results17, go_sem, *]) rfl ⟨⟨9, 0, 0, 0, 0⟩, rfl, HBL.out⟩
  · have hk0 : ((L : Int) == 0) = false := by simp; omega
    obtain ⟨m, rfl⟩ : ∃ m, L = m + 1 := ⟨L - 1, by omega⟩
    have hm8 : m ≤ 7 := by have := HL.out; omega
    have HAT := Lib.hid (own_Pg HL.out (by have q := HG.out.2.2.1; rw [HL.out] at q; exact q))
    obtain ⟨p, hp⟩ : ∃ p, ts[m]? = some p := at_lt HL.out (by omega)
    obtain ⟨g, rfl, hg, q0, q1, q2, q3, q4⟩ := HAT.out.2 m p hp
    have e1 : IntKind.i64.wrap (((m + 1 : Nat) : Int) - 1) = (m : Int) := by rw [IntWalk.i64_in _ (by omega)]; omega
    have HBL := Lib.hid (show Below w.heap.size w (((((w1.setCell ⟨w.heap.size, 0, none⟩ (.int .i64 p.st)).setCell ⟨w.heap.size, 1, none⟩ (.int .i64 p.lf)).setCell ⟨w.heap.size, 2, none⟩ (.int .i64 p.rt)).setCell ⟨w.heap.size, 3, none⟩ (.int .i64 p.ab)).setCell ⟨w.heap.size, 4, none⟩ (.int .i64 p.be)) from (((((HLW.out w1 HG.out.2.1).setCell (Nat.le_refl _) _).setCell (Nat.le_refl _) _).setCell (Nat.le_refl _) _).setCell (Nat.le_refl _) _).setCell (Nat.le_refl _) _)
    go_wp2_with fail
    refine bodyPost_ret (v := .agg #[.int .i64 p.st, .int .i64 p.lf, .int .i64 p.rt, .int .i64 p.ab, .int .i64 p.be]) (by simp [results, Tryd.results17, go_sem, *]) rfl ⟨p, rfl, HBL.out⟩
end Go.Proofs.YtnpghhpcloljeaaDoor.drg
