/-
  The walk of FnWalls.
  Conditions: the code has at most 65536 bytes.
-/
import Derived.Test.YtnpghhpcloljeaaDoorPwU
import Derived.Test.YtnpghhpcloljeaaDoorPwW
import Derived.Test.YtnpghhpcloljeaaDoorPwD2
import Derived.Test.YtnpghhpcloljeaaDoorVs
import Derived.Test.YtnpghhpcloljeaaDoorEnd
import Derived.Deep.DeepCutAuto
import Derived.Deep.Cut
import Derived.Deep.RegionHeld3
namespace Go.Proofs.YtnpghhpcloljeaaDoor.wpx
open Go.RowKit
open reads base curs curd ty lg pw drg wpw
set_option linter.unusedVariables false
set_option linter.unusedSimpArgs false

def LawPost (w : World) (e : Ending) (w' : World) : Prop := e = .returned (.bool true) ∧ Below w.heap.size w w'
/-- where the law stands: nothing old has turned, the code reads -/
def St (w : World) (A : Option Addr) (n : Nat) (zs : List UInt8) (v : World) : Prop := Below w.heap.size w v ∧ curs.Code v A n zs
theorem St.step {w v v' : World} {A : Option Addr} {n : Nat} {zs : List UInt8} (h : St w A n zs v) (hb : Below v.heap.size v v') : St w A n zs v' := ⟨h.1.trans (hb.mono h.1.size), h.2.below hb⟩
theorem St.alloc {w v : World} {A : Option Addr} {n : Nat} {zs : List UInt8} (h : St w A n zs v) (o : Obj) : St w A n zs (v.alloc o) := h.step ((Below.refl _ _).alloc (Nat.le_refl _) o)
theorem St.drew {w v : World} {A : Option Addr} {n : Nat} {zs : List UInt8} (h : St w A n zs v) : St w A n zs v.drew := h.step (drewN_below _ 1)
theorem two_mk (ps qs : Array Value) (v : World) : Blk ((v.alloc (.cells ps 27)).alloc (.cells qs 27)).drew v.heap.size 27 ps ∧ Blk ((v.alloc (.cells ps 27)).alloc (.cells qs 27)).drew (v.heap.size + 1) 27 qs ∧ Below v.heap.size v ((v.alloc (.cells ps 27)).alloc (.cells qs 27)).drew := by
  have h := Blk.new (v.alloc (.cells ps 27)) 27 qs
  have k : Blk ((v.alloc (.cells ps 27)).alloc (.cells qs 27)) (v.heap.size + 1) 27 qs := by simpa using h
  have b : Below v.heap.size v ((v.alloc (.cells ps 27)).alloc (.cells qs 27)) := ((Below.refl _ _).alloc (Nat.le_refl _) _).alloc (by simp) _
  exact ⟨((Blk.new _ _ _).alloc _).drew, k.drew, b.trans ((drewN_below _ 1).mono b.size)⟩
set_option maxHeartbeats 64000000 in
set_option maxRecDepth 100000 in
theorem walk (A : Option Addr) (n cap : Nat) (zs : List UInt8) (w : World) (hn : n ≤ 65536) (hS : Hid (St w A n zs w)) (hT : Hid (win.Tab w)) :
    Calls Tryd.prog 4 #[.slice A n cap] w (LawPost w) := by
  have HB := Lib.hid (vs.big_no A n cap w hn)
  clear hn
  go_enter Tryd.func4, Tryd.ntmps4
  go_wp2_with fail
  refine HB.out.mono ?_
  rintro e w' ⟨rfl, rfl⟩
  clear HB
  go_wp2_with fail
  refine (wallsAt_draw A n cap zs _ (Lib.hid hS.out.2)).mono ?_
  rintro e W1 ⟨v1, t1, x1, rfl, ho1, hle1, hok1, b⟩
  obtain ⟨L1, hl1⟩ : ∃ L, t1.length = L := ⟨_, rfl⟩
  rw [hl1] at ho1 hle1
  obtain ⟨A1, c1, rfl⟩ := row_slice ho1
  have HR1 := Lib.hid ho1
  have HL1 := Lib.hid hl1
  clear ho1 hl1
  have H1 := Lib.hid (show St w A n zs W1 from hS.out.step b)
  have H2 := Lib.hid (show win.Tab W1 from hT.out.below b)
  clear b hS hT
  obtain ⟨y1, ok1, hf, hk⟩ := wa_form2 t1 x1
  have HF := Lib.hid hf
  have HK := Lib.hid hk
  clear hf hk
  go_upto_region 4 with fail
  obtain ⟨W2, HW⟩ : ∃ W2, Hid (W1.alloc (.cells #[.int .i64 x1.frm, .int .i64 x1.to_, .int .i64 x1.tape, .int .i64 x1.comp, .int .i64 x1.slope] 33) = W2) := ⟨_, Lib.hid rfl⟩
  have H3 := Lib.hid (show St w A n zs W2 by rw [← HW.out]; exact (H1.out.alloc _))
  have H4 := Lib.hid (show win.Tab W2 by rw [← HW.out]; exact (H2.out.alloc _))
  have H5 := Lib.hid (show W2.ownsRow (w.heap.size) 43 5 (.slice A1 L1 c1) L1 (flatPg t1) by rw [← HW.out]; exact (HR1.out.alloc _))
  have H6 := Lib.hid (show Blk W2 (W1.heap.size) 33 #[.int .i64 x1.frm, .int .i64 x1.to_, .int .i64 x1.tape, .int .i64 x1.comp, .int .i64 x1.slope] by rw [← HW.out]; exact Blk.new _ _ _)
  rw [HW.out]
  clear HW H1 H2 HR1
  have q_x1l := H6.out.lt
  have q_x10 : W2.cell? ⟨W1.heap.size, 0, none⟩ = some (.int .i64 x1.frm) := H6.out.cell 0
  have q_x11 : W2.cell? ⟨W1.heap.size, 1, none⟩ = some (.int .i64 x1.to_) := H6.out.cell 1
  have q_x12 : W2.cell? ⟨W1.heap.size, 2, none⟩ = some (.int .i64 x1.tape) := H6.out.cell 2
  have q_x13 : W2.cell? ⟨W1.heap.size, 3, none⟩ = some (.int .i64 x1.comp) := H6.out.cell 3
  have q_x14 : W2.cell? ⟨W1.heap.size, 4, none⟩ = some (.int .i64 x1.slope) := H6.out.cell 4
  go_wp2_with fail
  clear q_x1l q_x10 q_x11 q_x12 q_x13 q_x14
  refine (wa_i HF (by omega) (Lib.hid (own_Pg HL1.out H5.out)) H4).mono ?_
  rintro e W3 ⟨rfl, b⟩
  have H7 := Lib.hid (show St w A n zs W3 from H3.out.step b)
  have H8 := Lib.hid (show win.Tab W3 from H4.out.below b)
  have H9 := Lib.hid (show W3.ownsRow (w.heap.size) 43 5 (.slice A1 L1 c1) L1 (flatPg t1) from row_below H5.out b)
  have H10 := Lib.hid (show Blk W3 (W1.heap.size) 33 #[.int .i64 x1.frm, .int .i64 x1.to_, .int .i64 x1.tape, .int .i64 x1.comp, .int .i64 x1.slope] from H6.out.below b H6.out.lt)
  clear b H3 H4 H5 H6
  go_upto_region 5 with fail
  obtain ⟨W4, HW⟩ : ∃ W4, Hid (W3.alloc (.cells #[.int .i64 y1.a.east, .int .i64 y1.a.north, .int .i64 y1.a.up, .int .i64 y1.b.east, .int .i64 y1.b.north, .int .i64 y1.b.up, .int .i64 y1.c.east, .int .i64 y1.c.north, .int .i64 y1.c.up, .int .i64 y1.d.east, .int .i64 y1.d.north, .int .i64 y1.d.up] 28) = W4) := ⟨_, Lib.hid rfl⟩
  have H11 := Lib.hid (show St w A n zs W4 by rw [← HW.out]; exact (H7.out.alloc _))
  have H12 := Lib.hid (show win.Tab W4 by rw [← HW.out]; exact (H8.out.alloc _))
  have H13 := Lib.hid (show W4.ownsRow (w.heap.size) 43 5 (.slice A1 L1 c1) L1 (flatPg t1) by rw [← HW.out]; exact (H9.out.alloc _))
  have H14 := Lib.hid (show Blk W4 (W1.heap.size) 33 #[.int .i64 x1.frm, .int .i64 x1.to_, .int .i64 x1.tape, .int .i64 x1.comp, .int .i64 x1.slope] by rw [← HW.out]; exact (H10.out.alloc _))
  have H15 := Lib.hid (show Blk W4 (W3.heap.size) 28 #[.int .i64 y1.a.east, .int .i64 y1.a.north, .int .i64 y1.a.up, .int .i64 y1.b.east, .int .i64 y1.b.north, .int .i64 y1.b.up, .int .i64 y1.c.east, .int .i64 y1.c.north, .int .i64 y1.c.up, .int .i64 y1.d.east, .int .i64 y1.d.north, .int .i64 y1.d.up] by rw [← HW.out]; exact Blk.new _ _ _)
  rw [HW.out]
  clear HW H7 H8 H9 H10
  have q_x1l := H14.out.lt
  have q_x10 : W4.cell? ⟨W1.heap.size, 0, none⟩ = some (.int .i64 x1.frm) := H14.out.cell 0
  have q_x11 : W4.cell? ⟨W1.heap.size, 1, none⟩ = some (.int .i64 x1.to_) := H14.out.cell 1
  have q_x12 : W4.cell? ⟨W1.heap.size, 2, none⟩ = some (.int .i64 x1.tape) := H14.out.cell 2
  have q_x13 : W4.cell? ⟨W1.heap.size, 3, none⟩ = some (.int .i64 x1.comp) := H14.out.cell 3
  have q_x14 : W4.cell? ⟨W1.heap.size, 4, none⟩ = some (.int .i64 x1.slope) := H14.out.cell 4
  go_wp2_with fail
  clear q_x1l q_x10 q_x11 q_x12 q_x13 q_x14
  refine (wa_m HF (by omega) (Lib.hid (own_Pg HL1.out H13.out))).mono ?_
  rintro e W5 ⟨rfl, b⟩
  have H16 := Lib.hid (show St w A n zs W5 from H11.out.step b)
  have H17 := Lib.hid (show win.Tab W5 from H12.out.below b)
  have H18 := Lib.hid (show W5.ownsRow (w.heap.size) 43 5 (.slice A1 L1 c1) L1 (flatPg t1) from row_below H13.out b)
  have H19 := Lib.hid (show Blk W5 (W1.heap.size) 33 #[.int .i64 x1.frm, .int .i64 x1.to_, .int .i64 x1.tape, .int .i64 x1.comp, .int .i64 x1.slope] from H14.out.below b H14.out.lt)
  have H20 := Lib.hid (show Blk W5 (W3.heap.size) 28 #[.int .i64 y1.a.east, .int .i64 y1.a.north, .int .i64 y1.a.up, .int .i64 y1.b.east, .int .i64 y1.b.north, .int .i64 y1.b.up, .int .i64 y1.c.east, .int .i64 y1.c.north, .int .i64 y1.c.up, .int .i64 y1.d.east, .int .i64 y1.d.north, .int .i64 y1.d.up] from H15.out.below b H15.out.lt)
  clear b H11 H12 H13 H14 H15
  go_upto_region 6 with fail
  obtain ⟨W6, HW⟩ : ∃ W6, Hid (W5.alloc (.cells #[.int .i64 y1.a.east, .int .i64 y1.a.north, .int .i64 y1.a.up, .int .i64 y1.b.east, .int .i64 y1.b.north, .int .i64 y1.b.up, .int .i64 y1.c.east, .int .i64 y1.c.north, .int .i64 y1.c.up, .int .i64 y1.d.east, .int .i64 y1.d.north, .int .i64 y1.d.up] 28) = W6) := ⟨_, Lib.hid rfl⟩
  have H21 := Lib.hid (show St w A n zs W6 by rw [← HW.out]; exact (H16.out.alloc _))
  have H22 := Lib.hid (show win.Tab W6 by rw [← HW.out]; exact (H17.out.alloc _))
  have H23 := Lib.hid (show W6.ownsRow (w.heap.size) 43 5 (.slice A1 L1 c1) L1 (flatPg t1) by rw [← HW.out]; exact (H18.out.alloc _))
  have H24 := Lib.hid (show Blk W6 (W1.heap.size) 33 #[.int .i64 x1.frm, .int .i64 x1.to_, .int .i64 x1.tape, .int .i64 x1.comp, .int .i64 x1.slope] by rw [← HW.out]; exact (H19.out.alloc _))
  have H25 := Lib.hid (show Blk W6 (W3.heap.size) 28 #[.int .i64 y1.a.east, .int .i64 y1.a.north, .int .i64 y1.a.up, .int .i64 y1.b.east, .int .i64 y1.b.north, .int .i64 y1.b.up, .int .i64 y1.c.east, .int .i64 y1.c.north, .int .i64 y1.c.up, .int .i64 y1.d.east, .int .i64 y1.d.north, .int .i64 y1.d.up] by rw [← HW.out]; exact (H20.out.alloc _))
  have H26 := Lib.hid (show Blk W6 (W5.heap.size) 28 #[.int .i64 y1.a.east, .int .i64 y1.a.north, .int .i64 y1.a.up, .int .i64 y1.b.east, .int .i64 y1.b.north, .int .i64 y1.b.up, .int .i64 y1.c.east, .int .i64 y1.c.north, .int .i64 y1.c.up, .int .i64 y1.d.east, .int .i64 y1.d.north, .int .i64 y1.d.up] by rw [← HW.out]; exact Blk.new _ _ _)
  rw [HW.out]
  clear HW H16 H17 H18 H19 H20
  have hq4 := eq_four y1.a.east y1.a.north y1.a.up y1.b.east y1.b.north y1.b.up y1.c.east y1.c.north y1.c.up y1.d.east y1.d.north y1.d.up W6
  have q_wil := H25.out.lt
  have q_wi0 : W6.cell? ⟨W3.heap.size, 0, none⟩ = some (.int .i64 y1.a.east) := H25.out.cell 0
  have q_wi1 : W6.cell? ⟨W3.heap.size, 1, none⟩ = some (.int .i64 y1.a.north) := H25.out.cell 1
  have q_wi2 : W6.cell? ⟨W3.heap.size, 2, none⟩ = some (.int .i64 y1.a.up) := H25.out.cell 2
  have q_wi3 : W6.cell? ⟨W3.heap.size, 3, none⟩ = some (.int .i64 y1.b.east) := H25.out.cell 3
  have q_wi4 : W6.cell? ⟨W3.heap.size, 4, none⟩ = some (.int .i64 y1.b.north) := H25.out.cell 4
  have q_wi5 : W6.cell? ⟨W3.heap.size, 5, none⟩ = some (.int .i64 y1.b.up) := H25.out.cell 5
  have q_wi6 : W6.cell? ⟨W3.heap.size, 6, none⟩ = some (.int .i64 y1.c.east) := H25.out.cell 6
  have q_wi7 : W6.cell? ⟨W3.heap.size, 7, none⟩ = some (.int .i64 y1.c.north) := H25.out.cell 7
  have q_wi8 : W6.cell? ⟨W3.heap.size, 8, none⟩ = some (.int .i64 y1.c.up) := H25.out.cell 8
  have q_wi9 : W6.cell? ⟨W3.heap.size, 9, none⟩ = some (.int .i64 y1.d.east) := H25.out.cell 9
  have q_wi10 : W6.cell? ⟨W3.heap.size, 10, none⟩ = some (.int .i64 y1.d.north) := H25.out.cell 10
  have q_wi11 : W6.cell? ⟨W3.heap.size, 11, none⟩ = some (.int .i64 y1.d.up) := H25.out.cell 11
  have q_wml := H26.out.lt
  have q_wm0 : W6.cell? ⟨W5.heap.size, 0, none⟩ = some (.int .i64 y1.a.east) := H26.out.cell 0
  have q_wm1 : W6.cell? ⟨W5.heap.size, 1, none⟩ = some (.int .i64 y1.a.north) := H26.out.cell 1
  have q_wm2 : W6.cell? ⟨W5.heap.size, 2, none⟩ = some (.int .i64 y1.a.up) := H26.out.cell 2
  have q_wm3 : W6.cell? ⟨W5.heap.size, 3, none⟩ = some (.int .i64 y1.b.east) := H26.out.cell 3
  have q_wm4 : W6.cell? ⟨W5.heap.size, 4, none⟩ = some (.int .i64 y1.b.north) := H26.out.cell 4
  have q_wm5 : W6.cell? ⟨W5.heap.size, 5, none⟩ = some (.int .i64 y1.b.up) := H26.out.cell 5
  have q_wm6 : W6.cell? ⟨W5.heap.size, 6, none⟩ = some (.int .i64 y1.c.east) := H26.out.cell 6
  have q_wm7 : W6.cell? ⟨W5.heap.size, 7, none⟩ = some (.int .i64 y1.c.north) := H26.out.cell 7
  have q_wm8 : W6.cell? ⟨W5.heap.size, 8, none⟩ = some (.int .i64 y1.c.up) := H26.out.cell 8
  have q_wm9 : W6.cell? ⟨W5.heap.size, 9, none⟩ = some (.int .i64 y1.d.east) := H26.out.cell 9
  have q_wm10 : W6.cell? ⟨W5.heap.size, 10, none⟩ = some (.int .i64 y1.d.north) := H26.out.cell 10
  have q_wm11 : W6.cell? ⟨W5.heap.size, 11, none⟩ = some (.int .i64 y1.d.up) := H26.out.cell 11
  go_upto_if 67 with fail
  clear q_wil q_wi0 q_wi1 q_wi2 q_wi3 q_wi4 q_wi5 q_wi6 q_wi7 q_wi8 q_wi9 q_wi10 q_wi11 q_wml q_wm0 q_wm1 q_wm2 q_wm3 q_wm4 q_wm5 q_wm6 q_wm7 q_wm8 q_wm9 q_wm10 q_wm11
  clear hq4
  go_cut [9] (fun _ wx => St w A n zs wx ∧ win.Tab wx)
  case first =>
    cases ok1
    · go_wp2_with fail
      go_meet
      case rel => exact ⟨H21.out, H22.out⟩
    · obtain ⟨hg, z, s, r, ez, er, es, w0, w1, w2, w3⟩ := HK.out rfl
      have HGD := Lib.hid hg
      have HER := Lib.hid er
      have HES := Lib.hid es
      have HEZ := Lib.hid ez
      have HW0 := Lib.hid w0
      have HW1 := Lib.hid w1
      have HW2 := Lib.hid w2
      have HW3 := Lib.hid w3
      clear hg ez er es w0 w1 w2 w3 HK HF
      obtain ⟨i0, hi, hz0, hz1, hz2⟩ := info_parts infoPg
      go_upto_region 10 with fail
      obtain ⟨M0, HM⟩ : ∃ M0, Hid (W6.alloc (.cells #[] 43) = M0) := ⟨_, Lib.hid rfl⟩
      have HP0 := Lib.hid (show PR W6 (some ⟨W6.heap.size, 0, none⟩) 0 0 [] M0 by rw [← HM.out]; exact PR.mk0 (Below.refl _ _))
      rw [HM.out]
      clear HM
      go_wp2_with fail
      go_loopw [9, 10] (fun v i wr => ∃ (k c2 : Nat) (A2 : Option Addr) (us : List Pg), k ≤ L1 ∧ i = .int .i64 (k : Nat) ∧ v = .slice A2 k c2 ∧ Hid ((t1.take k).map mirPg = us) ∧ PR W6 A2 k c2 us wr) (fun _ i _ => L1 - (intOf i).toNat)
      case atStart => exact ⟨0, 0, _, [], Nat.zero_le _, rfl, rfl, Lib.hid rfl, HP0.out⟩
      case round =>
        clear HP0
        obtain ⟨k, c2, A2, us, hk, rfl, rfl, HUS, hP⟩ := hrel
        have HP := Lib.hid hP
        have hsz := hP.1.size
        clear hP
        have hk0 : (0 : Int) ≤ (k : Int) := by omega
        by_cases hlt : k < L1
        · obtain ⟨p, hp⟩ := at_lt HL1.out hlt
          obtain ⟨q, HQ⟩ : ∃ q, Hid (mirPg p = q) := ⟨_, Lib.hid rfl⟩
          have HMI := Lib.hid (show ansMi p = .tuple #[.agg #[.int .i64 q.st, .int .i64 q.lf, .int .i64 q.rt, .int .i64 q.ab, .int .i64 q.be], .bool true] by unfold ansMi; rw [if_pos (good_at HGD.out hp), HQ.out])
          have HU2 := Lib.hid (show (t1.take (k + 1)).map mirPg = us ++ [q] by rw [take_snoc hp, List.map_append, HUS.out]; simp [HQ.out])
          obtain ⟨g, rfl, hgl, q0, q1, q2, q3, q4⟩ := (own_Pg HL1.out (row_below H23.out HP.out.1)).2 k p hp
          have hki : (k : Int) < (L1 : Int) := by omega
          have hkd : decide (k < L1) = true := by simpa using hlt
          clear hp
          go_wp2_with fail
          refine (mi_i HMI).mono ?_
          rintro e w2 ⟨rfl, b⟩
          have HP2 := Lib.hid (HP.out.step b)
          clear b HP q0 q1 q2 q3 q4
          go_upto_region 14 with fail
          obtain ⟨V, HV⟩ : ∃ V, Hid (w2.alloc (.cells #[.int .i64 q.st, .int .i64 q.lf, .int .i64 q.rt, .int .i64 q.ab, .int .i64 q.be] 43) = V) := ⟨_, Lib.hid rfl⟩
          have HP3 := Lib.hid (show PR W6 A2 k c2 us V by rw [← HV.out]; exact HP2.out.alloc _)
          have HB3 := Lib.hid (show Blk V w2.heap.size 43 #[.int .i64 q.st, .int .i64 q.lf, .int .i64 q.rt, .int .i64 q.ab, .int .i64 q.be] by rw [← HV.out]; exact Blk.new _ _ _)
          rw [HV.out]
          clear HV HP2
          have f5 := HB3.out.lt
          have f0 : V.cell? ⟨w2.heap.size, 0, none⟩ = some (.int .i64 q.st) := HB3.out.cell 0
          have f1 : V.cell? ⟨w2.heap.size, 1, none⟩ = some (.int .i64 q.lf) := HB3.out.cell 1
          have f2 : V.cell? ⟨w2.heap.size, 2, none⟩ = some (.int .i64 q.rt) := HB3.out.cell 2
          have f3 : V.cell? ⟨w2.heap.size, 3, none⟩ = some (.int .i64 q.ab) := HB3.out.cell 3
          have f4 : V.cell? ⟨w2.heap.size, 4, none⟩ = some (.int .i64 q.be) := HB3.out.cell 4
          go_wp2_with (at_builtin; refine wpList_append_own _ rfl _ _ 31 rfl W6.heap.size 43 i0 (.agg #[.int .i64 0, .int .i64 0, .int .i64 0, .int .i64 0, .int .i64 0]) 5 40 Tryd.underlying31 hi hz0 hz1 hz2 rfl (by decide) _ _ _ rfl (HP3.out.2.1.alloc _) ⟨_, 0, none⟩ 1 1 (flatPg [q]) rfl rfl (World.news_of_block (alloc_at rfl)) (flatPg_one [q]) (by unfold maxLen; omega) (by omega) (by have := HP3.out.1.size; simp; omega) ?_; intro v' w9 hown' hgrow _; obtain ⟨A9, c9, rfl⟩ := row_slice hown')
          go_roundw
          case rel => exact ⟨k + 1, c9, A9, us ++ [q], by omega, by go_num, rfl, HU2, PR.app (HP3.out.alloc _) q hown' hgrow⟩
          case measure => simp [intOf]; omega
        · have HUM := Lib.hid (show t1.map mirPg = us by rw [← HUS.out, List.take_of_length_le (by have := HL1.out; omega)])
          have hkl : decide (k < L1) = false := by simpa using hlt
          have hki : ¬ (k : Int) < (L1 : Int) := by omega
          rw [HUM.out] at HEZ
          have HMM := Lib.hid HP.out.2.1
          have HML := Lib.hid HP.out.2.2
          have b := HP.out.1
          have H27 := Lib.hid (show St w A n zs wr from H21.out.step b)
          have H28 := Lib.hid (show win.Tab wr from H22.out.below b)
          have H29 := Lib.hid (show Blk wr (W1.heap.size) 33 #[.int .i64 x1.frm, .int .i64 x1.to_, .int .i64 x1.tape, .int .i64 x1.comp, .int .i64 x1.slope] from H24.out.below b H24.out.lt)
          have H30 := Lib.hid (show Blk wr (W3.heap.size) 28 #[.int .i64 y1.a.east, .int .i64 y1.a.north, .int .i64 y1.a.up, .int .i64 y1.b.east, .int .i64 y1.b.north, .int .i64 y1.b.up, .int .i64 y1.c.east, .int .i64 y1.c.north, .int .i64 y1.c.up, .int .i64 y1.d.east, .int .i64 y1.d.north, .int .i64 y1.d.up] from H25.out.below b H25.out.lt)
          clear b H21 H22 H23 H24 H25 H26
          clear HP HUS
          have q_x1l := H29.out.lt
          have q_x10 : wr.cell? ⟨W1.heap.size, 0, none⟩ = some (.int .i64 x1.frm) := H29.out.cell 0
          have q_x11 : wr.cell? ⟨W1.heap.size, 1, none⟩ = some (.int .i64 x1.to_) := H29.out.cell 1
          have q_x12 : wr.cell? ⟨W1.heap.size, 2, none⟩ = some (.int .i64 x1.tape) := H29.out.cell 2
          have q_x13 : wr.cell? ⟨W1.heap.size, 3, none⟩ = some (.int .i64 x1.comp) := H29.out.cell 3
          have q_x14 : wr.cell? ⟨W1.heap.size, 4, none⟩ = some (.int .i64 x1.slope) := H29.out.cell 4
          go_wp2_with fail
          clear q_x1l q_x10 q_x11 q_x12 q_x13 q_x14
          refine (rv_i HER).mono ?_
          rintro e W7 ⟨rfl, b⟩
          have H31 := Lib.hid (show St w A n zs W7 from H27.out.step b)
          have H32 := Lib.hid (show win.Tab W7 from H28.out.below b)
          have H33 := Lib.hid (show Blk W7 (W1.heap.size) 33 #[.int .i64 x1.frm, .int .i64 x1.to_, .int .i64 x1.tape, .int .i64 x1.comp, .int .i64 x1.slope] from H29.out.below b H29.out.lt)
          have H34 := Lib.hid (show Blk W7 (W3.heap.size) 28 #[.int .i64 y1.a.east, .int .i64 y1.a.north, .int .i64 y1.a.up, .int .i64 y1.b.east, .int .i64 y1.b.north, .int .i64 y1.b.up, .int .i64 y1.c.east, .int .i64 y1.c.north, .int .i64 y1.c.up, .int .i64 y1.d.east, .int .i64 y1.d.north, .int .i64 y1.d.up] from H30.out.below b H30.out.lt)
          have H35 := Lib.hid (show W7.ownsRow (W6.heap.size) 43 5 (.slice A2 k c2) k (flatPg us) from row_below HMM.out b)
          clear b H27 H28 H29 H30 HMM
          go_upto_region 18 with fail
          obtain ⟨W8, HW⟩ : ∃ W8, Hid (W7.alloc (.cells #[.int .i64 r.frm, .int .i64 r.to_, .int .i64 r.tape, .int .i64 r.comp, .int .i64 r.slope] 33) = W8) := ⟨_, Lib.hid rfl⟩
          have H36 := Lib.hid (show St w A n zs W8 by rw [← HW.out]; exact (H31.out.alloc _))
          have H37 := Lib.hid (show win.Tab W8 by rw [← HW.out]; exact (H32.out.alloc _))
          have H38 := Lib.hid (show Blk W8 (W1.heap.size) 33 #[.int .i64 x1.frm, .int .i64 x1.to_, .int .i64 x1.tape, .int .i64 x1.comp, .int .i64 x1.slope] by rw [← HW.out]; exact (H33.out.alloc _))
          have H39 := Lib.hid (show Blk W8 (W3.heap.size) 28 #[.int .i64 y1.a.east, .int .i64 y1.a.north, .int .i64 y1.a.up, .int .i64 y1.b.east, .int .i64 y1.b.north, .int .i64 y1.b.up, .int .i64 y1.c.east, .int .i64 y1.c.north, .int .i64 y1.c.up, .int .i64 y1.d.east, .int .i64 y1.d.north, .int .i64 y1.d.up] by rw [← HW.out]; exact (H34.out.alloc _))
          have H40 := Lib.hid (show W8.ownsRow (W6.heap.size) 43 5 (.slice A2 k c2) k (flatPg us) by rw [← HW.out]; exact (H35.out.alloc _))
          have H41 := Lib.hid (show Blk W8 (W7.heap.size) 33 #[.int .i64 r.frm, .int .i64 r.to_, .int .i64 r.tape, .int .i64 r.comp, .int .i64 r.slope] by rw [← HW.out]; exact Blk.new _ _ _)
          rw [HW.out]
          clear HW H31 H32 H33 H34 H35
          have q_bkl := H41.out.lt
          have q_bk0 : W8.cell? ⟨W7.heap.size, 0, none⟩ = some (.int .i64 r.frm) := H41.out.cell 0
          have q_bk1 : W8.cell? ⟨W7.heap.size, 1, none⟩ = some (.int .i64 r.to_) := H41.out.cell 1
          have q_bk2 : W8.cell? ⟨W7.heap.size, 2, none⟩ = some (.int .i64 r.tape) := H41.out.cell 2
          have q_bk3 : W8.cell? ⟨W7.heap.size, 3, none⟩ = some (.int .i64 r.comp) := H41.out.cell 3
          have q_bk4 : W8.cell? ⟨W7.heap.size, 4, none⟩ = some (.int .i64 r.slope) := H41.out.cell 4
          go_wp2_with fail
          clear q_bkl q_bk0 q_bk1 q_bk2 q_bk3 q_bk4
          refine (wa_i HEZ (by omega) (Lib.hid (own_Pg HML.out H40.out)) H37).mono ?_
          rintro e W9 ⟨rfl, b⟩
          have H42 := Lib.hid (show St w A n zs W9 from H36.out.step b)
          have H43 := Lib.hid (show win.Tab W9 from H37.out.below b)
          have H44 := Lib.hid (show Blk W9 (W1.heap.size) 33 #[.int .i64 x1.frm, .int .i64 x1.to_, .int .i64 x1.tape, .int .i64 x1.comp, .int .i64 x1.slope] from H38.out.below b H38.out.lt)
          have H45 := Lib.hid (show Blk W9 (W3.heap.size) 28 #[.int .i64 y1.a.east, .int .i64 y1.a.north, .int .i64 y1.a.up, .int .i64 y1.b.east, .int .i64 y1.b.north, .int .i64 y1.b.up, .int .i64 y1.c.east, .int .i64 y1.c.north, .int .i64 y1.c.up, .int .i64 y1.d.east, .int .i64 y1.d.north, .int .i64 y1.d.up] from H39.out.below b H39.out.lt)
          have H46 := Lib.hid (show W9.ownsRow (W6.heap.size) 43 5 (.slice A2 k c2) k (flatPg us) from row_below H40.out b)
          have H47 := Lib.hid (show Blk W9 (W7.heap.size) 33 #[.int .i64 r.frm, .int .i64 r.to_, .int .i64 r.tape, .int .i64 r.comp, .int .i64 r.slope] from H41.out.below b H41.out.lt)
          clear b H36 H37 H38 H39 H40 H41
          go_upto_region 19 with fail
          obtain ⟨W10, HW⟩ : ∃ W10, Hid (W9.alloc (.cells #[.int .i64 z.a.east, .int .i64 z.a.north, .int .i64 z.a.up, .int .i64 z.b.east, .int .i64 z.b.north, .int .i64 z.b.up, .int .i64 z.c.east, .int .i64 z.c.north, .int .i64 z.c.up, .int .i64 z.d.east, .int .i64 z.d.north, .int .i64 z.d.up] 28) = W10) := ⟨_, Lib.hid rfl⟩
          have H48 := Lib.hid (show St w A n zs W10 by rw [← HW.out]; exact (H42.out.alloc _))
          have H49 := Lib.hid (show win.Tab W10 by rw [← HW.out]; exact (H43.out.alloc _))
          have H50 := Lib.hid (show Blk W10 (W1.heap.size) 33 #[.int .i64 x1.frm, .int .i64 x1.to_, .int .i64 x1.tape, .int .i64 x1.comp, .int .i64 x1.slope] by rw [← HW.out]; exact (H44.out.alloc _))
          have H51 := Lib.hid (show Blk W10 (W3.heap.size) 28 #[.int .i64 y1.a.east, .int .i64 y1.a.north, .int .i64 y1.a.up, .int .i64 y1.b.east, .int .i64 y1.b.north, .int .i64 y1.b.up, .int .i64 y1.c.east, .int .i64 y1.c.north, .int .i64 y1.c.up, .int .i64 y1.d.east, .int .i64 y1.d.north, .int .i64 y1.d.up] by rw [← HW.out]; exact (H45.out.alloc _))
          have H52 := Lib.hid (show W10.ownsRow (W6.heap.size) 43 5 (.slice A2 k c2) k (flatPg us) by rw [← HW.out]; exact (H46.out.alloc _))
          have H53 := Lib.hid (show Blk W10 (W7.heap.size) 33 #[.int .i64 r.frm, .int .i64 r.to_, .int .i64 r.tape, .int .i64 r.comp, .int .i64 r.slope] by rw [← HW.out]; exact (H47.out.alloc _))
          have H54 := Lib.hid (show Blk W10 (W9.heap.size) 28 #[.int .i64 z.a.east, .int .i64 z.a.north, .int .i64 z.a.up, .int .i64 z.b.east, .int .i64 z.b.north, .int .i64 z.b.up, .int .i64 z.c.east, .int .i64 z.c.north, .int .i64 z.c.up, .int .i64 z.d.east, .int .i64 z.d.north, .int .i64 z.d.up] by rw [← HW.out]; exact Blk.new _ _ _)
          rw [HW.out]
          clear HW H42 H43 H44 H45 H46 H47
          clear H52
          clear H53
          have q_x1l := H50.out.lt
          have q_x10 : W10.cell? ⟨W1.heap.size, 0, none⟩ = some (.int .i64 x1.frm) := H50.out.cell 0
          have q_x11 : W10.cell? ⟨W1.heap.size, 1, none⟩ = some (.int .i64 x1.to_) := H50.out.cell 1
          have q_x12 : W10.cell? ⟨W1.heap.size, 2, none⟩ = some (.int .i64 x1.tape) := H50.out.cell 2
          have q_x13 : W10.cell? ⟨W1.heap.size, 3, none⟩ = some (.int .i64 x1.comp) := H50.out.cell 3
          have q_x14 : W10.cell? ⟨W1.heap.size, 4, none⟩ = some (.int .i64 x1.slope) := H50.out.cell 4
          go_wp2_with fail
          clear q_x1l q_x10 q_x11 q_x12 q_x13 q_x14
          refine (sf_i HES H49).mono ?_
          rintro e W11 ⟨rfl, b⟩
          have H55 := Lib.hid (show St w A n zs W11 from H48.out.step b)
          have H56 := Lib.hid (show win.Tab W11 from H49.out.below b)
          have H57 := Lib.hid (show Blk W11 (W1.heap.size) 33 #[.int .i64 x1.frm, .int .i64 x1.to_, .int .i64 x1.tape, .int .i64 x1.comp, .int .i64 x1.slope] from H50.out.below b H50.out.lt)
          have H58 := Lib.hid (show Blk W11 (W3.heap.size) 28 #[.int .i64 y1.a.east, .int .i64 y1.a.north, .int .i64 y1.a.up, .int .i64 y1.b.east, .int .i64 y1.b.north, .int .i64 y1.b.up, .int .i64 y1.c.east, .int .i64 y1.c.north, .int .i64 y1.c.up, .int .i64 y1.d.east, .int .i64 y1.d.north, .int .i64 y1.d.up] from H51.out.below b H51.out.lt)
          have H59 := Lib.hid (show Blk W11 (W9.heap.size) 28 #[.int .i64 z.a.east, .int .i64 z.a.north, .int .i64 z.a.up, .int .i64 z.b.east, .int .i64 z.b.north, .int .i64 z.b.up, .int .i64 z.c.east, .int .i64 z.c.north, .int .i64 z.c.up, .int .i64 z.d.east, .int .i64 z.d.north, .int .i64 z.d.up] from H54.out.below b H54.out.lt)
          clear b H48 H49 H50 H51 H54
          go_upto_region 20 with fail
          obtain ⟨W12, HW⟩ : ∃ W12, Hid (W11.alloc (.cells #[.int .i64 s.east, .int .i64 s.north, .int .i64 s.up] 27) = W12) := ⟨_, Lib.hid rfl⟩
          have H60 := Lib.hid (show St w A n zs W12 by rw [← HW.out]; exact (H55.out.alloc _))
          have H61 := Lib.hid (show win.Tab W12 by rw [← HW.out]; exact (H56.out.alloc _))
          have H62 := Lib.hid (show Blk W12 (W1.heap.size) 33 #[.int .i64 x1.frm, .int .i64 x1.to_, .int .i64 x1.tape, .int .i64 x1.comp, .int .i64 x1.slope] by rw [← HW.out]; exact (H57.out.alloc _))
          have H63 := Lib.hid (show Blk W12 (W3.heap.size) 28 #[.int .i64 y1.a.east, .int .i64 y1.a.north, .int .i64 y1.a.up, .int .i64 y1.b.east, .int .i64 y1.b.north, .int .i64 y1.b.up, .int .i64 y1.c.east, .int .i64 y1.c.north, .int .i64 y1.c.up, .int .i64 y1.d.east, .int .i64 y1.d.north, .int .i64 y1.d.up] by rw [← HW.out]; exact (H58.out.alloc _))
          have H64 := Lib.hid (show Blk W12 (W9.heap.size) 28 #[.int .i64 z.a.east, .int .i64 z.a.north, .int .i64 z.a.up, .int .i64 z.b.east, .int .i64 z.b.north, .int .i64 z.b.up, .int .i64 z.c.east, .int .i64 z.c.north, .int .i64 z.c.up, .int .i64 z.d.east, .int .i64 z.d.north, .int .i64 z.d.up] by rw [← HW.out]; exact (H59.out.alloc _))
          have H65 := Lib.hid (show Blk W12 (W11.heap.size) 27 #[.int .i64 s.east, .int .i64 s.north, .int .i64 s.up] by rw [← HW.out]; exact Blk.new _ _ _)
          rw [HW.out]
          clear HW H55 H56 H57 H58 H59
          clear H62
          go_wp2_with fail
          go_loopw [19] (fun i wv => ∃ m : Nat, m ≤ 4 ∧ i = .int .i64 (m : Nat) ∧ St w A n zs wv ∧ win.Tab wv ∧ Blk wv (W3.heap.size) 28 #[.int .i64 y1.a.east, .int .i64 y1.a.north, .int .i64 y1.a.up, .int .i64 y1.b.east, .int .i64 y1.b.north, .int .i64 y1.b.up, .int .i64 y1.c.east, .int .i64 y1.c.north, .int .i64 y1.c.up, .int .i64 y1.d.east, .int .i64 y1.d.north, .int .i64 y1.d.up] ∧ Blk wv (W9.heap.size) 28 #[.int .i64 z.a.east, .int .i64 z.a.north, .int .i64 z.a.up, .int .i64 z.b.east, .int .i64 z.b.north, .int .i64 z.b.up, .int .i64 z.c.east, .int .i64 z.c.north, .int .i64 z.c.up, .int .i64 z.d.east, .int .i64 z.d.north, .int .i64 z.d.up] ∧ Blk wv (W11.heap.size) 27 #[.int .i64 s.east, .int .i64 s.north, .int .i64 s.up]) (fun i _ => 4 - (intOf i).toNat)
          case atStart => exact ⟨0, by omega, rfl, H60.out, H61.out, H63.out, H64.out, H65.out⟩
          case round =>
            obtain ⟨m, hm, rfl, r_S, r_T, r_wi, r_wo, r_sf⟩ := hrel
            have R_S := Lib.hid r_S
            have R_T := Lib.hid r_T
            have R_wi := Lib.hid r_wi
            have R_wo := Lib.hid r_wo
            have R_sf := Lib.hid r_sf
            clear r_S r_T r_wi r_wo r_sf H60 H61 H63 H64 H65
            have hm5 : m = 0 ∨ m = 1 ∨ m = 2 ∨ m = 3 ∨ m = 4 := by omega
            clear hm
            rcases hm5 with rfl | rfl | rfl | rfl | rfl
            · go_upto_region 25 with fail
              obtain ⟨e1, e2, e3⟩ := HW0.out
              go_cut [20, 21] (fun p q wx => ∃ X Y : Nat, p = .pointer (some ⟨X, 0, none⟩) ∧ q = .pointer (some ⟨Y, 0, none⟩) ∧ Blk wx X 27 #[.int .i64 y1.a.east, .int .i64 y1.a.north, .int .i64 y1.a.up] ∧ Blk wx Y 27 #[.int .i64 z.d.east, .int .i64 z.d.north, .int .i64 z.d.up] ∧ St w A n zs wx ∧ win.Tab wx ∧ Blk wx (W3.heap.size) 28 #[.int .i64 y1.a.east, .int .i64 y1.a.north, .int .i64 y1.a.up, .int .i64 y1.b.east, .int .i64 y1.b.north, .int .i64 y1.b.up, .int .i64 y1.c.east, .int .i64 y1.c.north, .int .i64 y1.c.up, .int .i64 y1.d.east, .int .i64 y1.d.north, .int .i64 y1.d.up] ∧ Blk wx (W9.heap.size) 28 #[.int .i64 z.a.east, .int .i64 z.a.north, .int .i64 z.a.up, .int .i64 z.b.east, .int .i64 z.b.north, .int .i64 z.b.up, .int .i64 z.c.east, .int .i64 z.c.north, .int .i64 z.c.up, .int .i64 z.d.east, .int .i64 z.d.north, .int .i64 z.d.up] ∧ Blk wx (W11.heap.size) 27 #[.int .i64 s.east, .int .i64 s.north, .int .i64 s.up])
              case first =>
                rename_i J0 K0 hJ0 hK0
                have q_wil := R_wi.out.lt
                have q_wi0 : wr.cell? ⟨W3.heap.size, 0, none⟩ = some (.int .i64 y1.a.east) := R_wi.out.cell 0
                have q_wi1 : wr.cell? ⟨W3.heap.size, 1, none⟩ = some (.int .i64 y1.a.north) := R_wi.out.cell 1
                have q_wi2 : wr.cell? ⟨W3.heap.size, 2, none⟩ = some (.int .i64 y1.a.up) := R_wi.out.cell 2
                have q_wol := R_wo.out.lt
                have q_wo0 : wr.cell? ⟨W9.heap.size, 9, none⟩ = some (.int .i64 z.d.east) := R_wo.out.cell 9
                have q_wo1 : wr.cell? ⟨W9.heap.size, 10, none⟩ = some (.int .i64 z.d.north) := R_wo.out.cell 10
                have q_wo2 : wr.cell? ⟨W9.heap.size, 11, none⟩ = some (.int .i64 z.d.up) := R_wo.out.cell 11
                go_region
                · first | refine hJ0 _ _ ?_ | refine hK0 _ _ (Met.intro (hJ0 _ _ ?_)) | refine Met.intro (hK0 _ _ (Met.intro (hJ0 _ _ ?_)))
                  (repeat apply Exists.intro)
                  exact ⟨⟨_, _, rfl, rfl, (two_mk #[.int .i64 y1.a.east, .int .i64 y1.a.north, .int .i64 y1.a.up] #[.int .i64 z.d.east, .int .i64 z.d.north, .int .i64 z.d.up] wr).1, (two_mk #[.int .i64 y1.a.east, .int .i64 y1.a.north, .int .i64 y1.a.up] #[.int .i64 z.d.east, .int .i64 z.d.north, .int .i64 z.d.up] wr).2.1, R_S.out.step (two_mk #[.int .i64 y1.a.east, .int .i64 y1.a.north, .int .i64 y1.a.up] #[.int .i64 z.d.east, .int .i64 z.d.north, .int .i64 z.d.up] wr).2.2, R_T.out.below (two_mk #[.int .i64 y1.a.east, .int .i64 y1.a.north, .int .i64 y1.a.up] #[.int .i64 z.d.east, .int .i64 z.d.north, .int .i64 z.d.up] wr).2.2, R_wi.out.below (two_mk #[.int .i64 y1.a.east, .int .i64 y1.a.north, .int .i64 y1.a.up] #[.int .i64 z.d.east, .int .i64 z.d.north, .int .i64 z.d.up] wr).2.2 R_wi.out.lt, R_wo.out.below (two_mk #[.int .i64 y1.a.east, .int .i64 y1.a.north, .int .i64 y1.a.up] #[.int .i64 z.d.east, .int .i64 z.d.north, .int .i64 z.d.up] wr).2.2 R_wo.out.lt, R_sf.out.below (two_mk #[.int .i64 y1.a.east, .int .i64 y1.a.north, .int .i64 y1.a.up] #[.int .i64 z.d.east, .int .i64 z.d.north, .int .i64 z.d.up] wr).2.2 R_sf.out.lt⟩, rfl⟩
                · first | refine hJ0 _ _ ?_ | refine hK0 _ _ (Met.intro (hJ0 _ _ ?_)) | refine Met.intro (hK0 _ _ (Met.intro (hJ0 _ _ ?_)))
                  (repeat apply Exists.intro)
                  exact ⟨⟨_, _, rfl, rfl, (two_mk #[.int .i64 z.d.east, .int .i64 z.d.north, .int .i64 z.d.up] #[.int .i64 y1.a.east, .int .i64 y1.a.north, .int .i64 y1.a.up] wr).2.1, (two_mk #[.int .i64 z.d.east, .int .i64 z.d.north, .int .i64 z.d.up] #[.int .i64 y1.a.east, .int .i64 y1.a.north, .int .i64 y1.a.up] wr).1, R_S.out.step (two_mk #[.int .i64 z.d.east, .int .i64 z.d.north, .int .i64 z.d.up] #[.int .i64 y1.a.east, .int .i64 y1.a.north, .int .i64 y1.a.up] wr).2.2, R_T.out.below (two_mk #[.int .i64 z.d.east, .int .i64 z.d.north, .int .i64 z.d.up] #[.int .i64 y1.a.east, .int .i64 y1.a.north, .int .i64 y1.a.up] wr).2.2, R_wi.out.below (two_mk #[.int .i64 z.d.east, .int .i64 z.d.north, .int .i64 z.d.up] #[.int .i64 y1.a.east, .int .i64 y1.a.north, .int .i64 y1.a.up] wr).2.2 R_wi.out.lt, R_wo.out.below (two_mk #[.int .i64 z.d.east, .int .i64 z.d.north, .int .i64 z.d.up] #[.int .i64 y1.a.east, .int .i64 y1.a.north, .int .i64 y1.a.up] wr).2.2 R_wo.out.lt, R_sf.out.below (two_mk #[.int .i64 z.d.east, .int .i64 z.d.north, .int .i64 z.d.up] #[.int .i64 y1.a.east, .int .i64 y1.a.north, .int .i64 y1.a.up] wr).2.2 R_sf.out.lt⟩, rfl⟩
              case rest =>
                obtain ⟨X, Y, rfl, rfl, r_xa, r_xb, r_S, r_T, r_wi, r_wo, r_sf⟩ := hcut
                clear R_S R_T R_wi R_wo R_sf
                have R_xa := Lib.hid r_xa
                have R_xb := Lib.hid r_xb
                have R_S := Lib.hid r_S
                have R_T := Lib.hid r_T
                have R_wi := Lib.hid r_wi
                have R_wo := Lib.hid r_wo
                have R_sf := Lib.hid r_sf
                clear r_xa r_xb r_S r_T r_wi r_wo r_sf
                have q_xal := R_xa.out.lt
                have q_xa0 : wc.cell? ⟨X, 0, none⟩ = some (.int .i64 y1.a.east) := R_xa.out.cell 0
                have q_xa1 : wc.cell? ⟨X, 1, none⟩ = some (.int .i64 y1.a.north) := R_xa.out.cell 1
                have q_xa2 : wc.cell? ⟨X, 2, none⟩ = some (.int .i64 y1.a.up) := R_xa.out.cell 2
                have q_xbl := R_xb.out.lt
                have q_xb0 : wc.cell? ⟨Y, 0, none⟩ = some (.int .i64 z.d.east) := R_xb.out.cell 0
                have q_xb1 : wc.cell? ⟨Y, 1, none⟩ = some (.int .i64 z.d.north) := R_xb.out.cell 1
                have q_xb2 : wc.cell? ⟨Y, 2, none⟩ = some (.int .i64 z.d.up) := R_xb.out.cell 2
                have q_sfl := R_sf.out.lt
                have q_sf0 : wc.cell? ⟨W11.heap.size, 0, none⟩ = some (.int .i64 s.east) := R_sf.out.cell 0
                have q_sf1 : wc.cell? ⟨W11.heap.size, 1, none⟩ = some (.int .i64 s.north) := R_sf.out.cell 1
                have q_sf2 : wc.cell? ⟨W11.heap.size, 2, none⟩ = some (.int .i64 s.up) := R_sf.out.cell 2
                go_wp2_with fail
                go_roundw
                case rel => exact ⟨1, by omega, by go_num, R_S.out, R_T.out, R_wi.out, R_wo.out, R_sf.out⟩
                case measure => simp [intOf]
            · go_upto_region 25 with fail
              obtain ⟨e1, e2, e3⟩ := HW1.out
              go_cut [20, 21] (fun p q wx => ∃ X Y : Nat, p = .pointer (some ⟨X, 0, none⟩) ∧ q = .pointer (some ⟨Y, 0, none⟩) ∧ Blk wx X 27 #[.int .i64 y1.b.east, .int .i64 y1.b.north, .int .i64 y1.b.up] ∧ Blk wx Y 27 #[.int .i64 z.c.east, .int .i64 z.c.north, .int .i64 z.c.up] ∧ St w A n zs wx ∧ win.Tab wx ∧ Blk wx (W3.heap.size) 28 #[.int .i64 y1.a.east, .int .i64 y1.a.north, .int .i64 y1.a.up, .int .i64 y1.b.east, .int .i64 y1.b.north, .int .i64 y1.b.up, .int .i64 y1.c.east, .int .i64 y1.c.north, .int .i64 y1.c.up, .int .i64 y1.d.east, .int .i64 y1.d.north, .int .i64 y1.d.up] ∧ Blk wx (W9.heap.size) 28 #[.int .i64 z.a.east, .int .i64 z.a.north, .int .i64 z.a.up, .int .i64 z.b.east, .int .i64 z.b.north, .int .i64 z.b.up, .int .i64 z.c.east, .int .i64 z.c.north, .int .i64 z.c.up, .int .i64 z.d.east, .int .i64 z.d.north, .int .i64 z.d.up] ∧ Blk wx (W11.heap.size) 27 #[.int .i64 s.east, .int .i64 s.north, .int .i64 s.up])
              case first =>
                rename_i J0 K0 hJ0 hK0
                have q_wil := R_wi.out.lt
                have q_wi0 : wr.cell? ⟨W3.heap.size, 3, none⟩ = some (.int .i64 y1.b.east) := R_wi.out.cell 3
                have q_wi1 : wr.cell? ⟨W3.heap.size, 4, none⟩ = some (.int .i64 y1.b.north) := R_wi.out.cell 4
                have q_wi2 : wr.cell? ⟨W3.heap.size, 5, none⟩ = some (.int .i64 y1.b.up) := R_wi.out.cell 5
                have q_wol := R_wo.out.lt
                have q_wo0 : wr.cell? ⟨W9.heap.size, 6, none⟩ = some (.int .i64 z.c.east) := R_wo.out.cell 6
                have q_wo1 : wr.cell? ⟨W9.heap.size, 7, none⟩ = some (.int .i64 z.c.north) := R_wo.out.cell 7
                have q_wo2 : wr.cell? ⟨W9.heap.size, 8, none⟩ = some (.int .i64 z.c.up) := R_wo.out.cell 8
                go_region
                · first | refine hJ0 _ _ ?_ | refine hK0 _ _ (Met.intro (hJ0 _ _ ?_)) | refine Met.intro (hK0 _ _ (Met.intro (hJ0 _ _ ?_)))
                  (repeat apply Exists.intro)
                  exact ⟨⟨_, _, rfl, rfl, (two_mk #[.int .i64 y1.b.east, .int .i64 y1.b.north, .int .i64 y1.b.up] #[.int .i64 z.c.east, .int .i64 z.c.north, .int .i64 z.c.up] wr).1, (two_mk #[.int .i64 y1.b.east, .int .i64 y1.b.north, .int .i64 y1.b.up] #[.int .i64 z.c.east, .int .i64 z.c.north, .int .i64 z.c.up] wr).2.1, R_S.out.step (two_mk #[.int .i64 y1.b.east, .int .i64 y1.b.north, .int .i64 y1.b.up] #[.int .i64 z.c.east, .int .i64 z.c.north, .int .i64 z.c.up] wr).2.2, R_T.out.below (two_mk #[.int .i64 y1.b.east, .int .i64 y1.b.north, .int .i64 y1.b.up] #[.int .i64 z.c.east, .int .i64 z.c.north, .int .i64 z.c.up] wr).2.2, R_wi.out.below (two_mk #[.int .i64 y1.b.east, .int .i64 y1.b.north, .int .i64 y1.b.up] #[.int .i64 z.c.east, .int .i64 z.c.north, .int .i64 z.c.up] wr).2.2 R_wi.out.lt, R_wo.out.below (two_mk #[.int .i64 y1.b.east, .int .i64 y1.b.north, .int .i64 y1.b.up] #[.int .i64 z.c.east, .int .i64 z.c.north, .int .i64 z.c.up] wr).2.2 R_wo.out.lt, R_sf.out.below (two_mk #[.int .i64 y1.b.east, .int .i64 y1.b.north, .int .i64 y1.b.up] #[.int .i64 z.c.east, .int .i64 z.c.north, .int .i64 z.c.up] wr).2.2 R_sf.out.lt⟩, rfl⟩
                · first | refine hJ0 _ _ ?_ | refine hK0 _ _ (Met.intro (hJ0 _ _ ?_)) | refine Met.intro (hK0 _ _ (Met.intro (hJ0 _ _ ?_)))
                  (repeat apply Exists.intro)
                  exact ⟨⟨_, _, rfl, rfl, (two_mk #[.int .i64 z.c.east, .int .i64 z.c.north, .int .i64 z.c.up] #[.int .i64 y1.b.east, .int .i64 y1.b.north, .int .i64 y1.b.up] wr).2.1, (two_mk #[.int .i64 z.c.east, .int .i64 z.c.north, .int .i64 z.c.up] #[.int .i64 y1.b.east, .int .i64 y1.b.north, .int .i64 y1.b.up] wr).1, R_S.out.step (two_mk #[.int .i64 z.c.east, .int .i64 z.c.north, .int .i64 z.c.up] #[.int .i64 y1.b.east, .int .i64 y1.b.north, .int .i64 y1.b.up] wr).2.2, R_T.out.below (two_mk #[.int .i64 z.c.east, .int .i64 z.c.north, .int .i64 z.c.up] #[.int .i64 y1.b.east, .int .i64 y1.b.north, .int .i64 y1.b.up] wr).2.2, R_wi.out.below (two_mk #[.int .i64 z.c.east, .int .i64 z.c.north, .int .i64 z.c.up] #[.int .i64 y1.b.east, .int .i64 y1.b.north, .int .i64 y1.b.up] wr).2.2 R_wi.out.lt, R_wo.out.below (two_mk #[.int .i64 z.c.east, .int .i64 z.c.north, .int .i64 z.c.up] #[.int .i64 y1.b.east, .int .i64 y1.b.north, .int .i64 y1.b.up] wr).2.2 R_wo.out.lt, R_sf.out.below (two_mk #[.int .i64 z.c.east, .int .i64 z.c.north, .int .i64 z.c.up] #[.int .i64 y1.b.east, .int .i64 y1.b.north, .int .i64 y1.b.up] wr).2.2 R_sf.out.lt⟩, rfl⟩
              case rest =>
                obtain ⟨X, Y, rfl, rfl, r_xa, r_xb, r_S, r_T, r_wi, r_wo, r_sf⟩ := hcut
                clear R_S R_T R_wi R_wo R_sf
                have R_xa := Lib.hid r_xa
                have R_xb := Lib.hid r_xb
                have R_S := Lib.hid r_S
                have R_T := Lib.hid r_T
                have R_wi := Lib.hid r_wi
                have R_wo := Lib.hid r_wo
                have R_sf := Lib.hid r_sf
                clear r_xa r_xb r_S r_T r_wi r_wo r_sf
                have q_xal := R_xa.out.lt
                have q_xa0 : wc.cell? ⟨X, 0, none⟩ = some (.int .i64 y1.b.east) := R_xa.out.cell 0
                have q_xa1 : wc.cell? ⟨X, 1, none⟩ = some (.int .i64 y1.b.north) := R_xa.out.cell 1
                have q_xa2 : wc.cell? ⟨X, 2, none⟩ = some (.int .i64 y1.b.up) := R_xa.out.cell 2
                have q_xbl := R_xb.out.lt
                have q_xb0 : wc.cell? ⟨Y, 0, none⟩ = some (.int .i64 z.c.east) := R_xb.out.cell 0
                have q_xb1 : wc.cell? ⟨Y, 1, none⟩ = some (.int .i64 z.c.north) := R_xb.out.cell 1
                have q_xb2 : wc.cell? ⟨Y, 2, none⟩ = some (.int .i64 z.c.up) := R_xb.out.cell 2
                have q_sfl := R_sf.out.lt
                have q_sf0 : wc.cell? ⟨W11.heap.size, 0, none⟩ = some (.int .i64 s.east) := R_sf.out.cell 0
                have q_sf1 : wc.cell? ⟨W11.heap.size, 1, none⟩ = some (.int .i64 s.north) := R_sf.out.cell 1
                have q_sf2 : wc.cell? ⟨W11.heap.size, 2, none⟩ = some (.int .i64 s.up) := R_sf.out.cell 2
                go_wp2_with fail
                go_roundw
                case rel => exact ⟨2, by omega, by go_num, R_S.out, R_T.out, R_wi.out, R_wo.out, R_sf.out⟩
                case measure => simp [intOf]
            · go_upto_region 25 with fail
              obtain ⟨e1, e2, e3⟩ := HW2.out
              go_cut [20, 21] (fun p q wx => ∃ X Y : Nat, p = .pointer (some ⟨X, 0, none⟩) ∧ q = .pointer (some ⟨Y, 0, none⟩) ∧ Blk wx X 27 #[.int .i64 y1.c.east, .int .i64 y1.c.north, .int .i64 y1.c.up] ∧ Blk wx Y 27 #[.int .i64 z.b.east, .int .i64 z.b.north, .int .i64 z.b.up] ∧ St w A n zs wx ∧ win.Tab wx ∧ Blk wx (W3.heap.size) 28 #[.int .i64 y1.a.east, .int .i64 y1.a.north, .int .i64 y1.a.up, .int .i64 y1.b.east, .int .i64 y1.b.north, .int .i64 y1.b.up, .int .i64 y1.c.east, .int .i64 y1.c.north, .int .i64 y1.c.up, .int .i64 y1.d.east, .int .i64 y1.d.north, .int .i64 y1.d.up] ∧ Blk wx (W9.heap.size) 28 #[.int .i64 z.a.east, .int .i64 z.a.north, .int .i64 z.a.up, .int .i64 z.b.east, .int .i64 z.b.north, .int .i64 z.b.up, .int .i64 z.c.east, .int .i64 z.c.north, .int .i64 z.c.up, .int .i64 z.d.east, .int .i64 z.d.north, .int .i64 z.d.up] ∧ Blk wx (W11.heap.size) 27 #[.int .i64 s.east, .int .i64 s.north, .int .i64 s.up])
              case first =>
                rename_i J0 K0 hJ0 hK0
                have q_wil := R_wi.out.lt
                have q_wi0 : wr.cell? ⟨W3.heap.size, 6, none⟩ = some (.int .i64 y1.c.east) := R_wi.out.cell 6
                have q_wi1 : wr.cell? ⟨W3.heap.size, 7, none⟩ = some (.int .i64 y1.c.north) := R_wi.out.cell 7
                have q_wi2 : wr.cell? ⟨W3.heap.size, 8, none⟩ = some (.int .i64 y1.c.up) := R_wi.out.cell 8
                have q_wol := R_wo.out.lt
                have q_wo0 : wr.cell? ⟨W9.heap.size, 3, none⟩ = some (.int .i64 z.b.east) := R_wo.out.cell 3
                have q_wo1 : wr.cell? ⟨W9.heap.size, 4, none⟩ = some (.int .i64 z.b.north) := R_wo.out.cell 4
                have q_wo2 : wr.cell? ⟨W9.heap.size, 5, none⟩ = some (.int .i64 z.b.up) := R_wo.out.cell 5
                go_region
                · first | refine hJ0 _ _ ?_ | refine hK0 _ _ (Met.intro (hJ0 _ _ ?_)) | refine Met.intro (hK0 _ _ (Met.intro (hJ0 _ _ ?_)))
                  (repeat apply Exists.intro)
                  exact ⟨⟨_, _, rfl, rfl, (two_mk #[.int .i64 y1.c.east, .int .i64 y1.c.north, .int .i64 y1.c.up] #[.int .i64 z.b.east, .int .i64 z.b.north, .int .i64 z.b.up] wr).1, (two_mk #[.int .i64 y1.c.east, .int .i64 y1.c.north, .int .i64 y1.c.up] #[.int .i64 z.b.east, .int .i64 z.b.north, .int .i64 z.b.up] wr).2.1, R_S.out.step (two_mk #[.int .i64 y1.c.east, .int .i64 y1.c.north, .int .i64 y1.c.up] #[.int .i64 z.b.east, .int .i64 z.b.north, .int .i64 z.b.up] wr).2.2, R_T.out.below (two_mk #[.int .i64 y1.c.east, .int .i64 y1.c.north, .int .i64 y1.c.up] #[.int .i64 z.b.east, .int .i64 z.b.north, .int .i64 z.b.up] wr).2.2, R_wi.out.below (two_mk #[.int .i64 y1.c.east, .int .i64 y1.c.north, .int .i64 y1.c.up] #[.int .i64 z.b.east, .int .i64 z.b.north, .int .i64 z.b.up] wr).2.2 R_wi.out.lt, R_wo.out.below (two_mk #[.int .i64 y1.c.east, .int .i64 y1.c.north, .int .i64 y1.c.up] #[.int .i64 z.b.east, .int .i64 z.b.north, .int .i64 z.b.up] wr).2.2 R_wo.out.lt, R_sf.out.below (two_mk #[.int .i64 y1.c.east, .int .i64 y1.c.north, .int .i64 y1.c.up] #[.int .i64 z.b.east, .int .i64 z.b.north, .int .i64 z.b.up] wr).2.2 R_sf.out.lt⟩, rfl⟩
                · first | refine hJ0 _ _ ?_ | refine hK0 _ _ (Met.intro (hJ0 _ _ ?_)) | refine Met.intro (hK0 _ _ (Met.intro (hJ0 _ _ ?_)))
                  (repeat apply Exists.intro)
                  exact ⟨⟨_, _, rfl, rfl, (two_mk #[.int .i64 z.b.east, .int .i64 z.b.north, .int .i64 z.b.up] #[.int .i64 y1.c.east, .int .i64 y1.c.north, .int .i64 y1.c.up] wr).2.1, (two_mk #[.int .i64 z.b.east, .int .i64 z.b.north, .int .i64 z.b.up] #[.int .i64 y1.c.east, .int .i64 y1.c.north, .int .i64 y1.c.up] wr).1, R_S.out.step (two_mk #[.int .i64 z.b.east, .int .i64 z.b.north, .int .i64 z.b.up] #[.int .i64 y1.c.east, .int .i64 y1.c.north, .int .i64 y1.c.up] wr).2.2, R_T.out.below (two_mk #[.int .i64 z.b.east, .int .i64 z.b.north, .int .i64 z.b.up] #[.int .i64 y1.c.east, .int .i64 y1.c.north, .int .i64 y1.c.up] wr).2.2, R_wi.out.below (two_mk #[.int .i64 z.b.east, .int .i64 z.b.north, .int .i64 z.b.up] #[.int .i64 y1.c.east, .int .i64 y1.c.north, .int .i64 y1.c.up] wr).2.2 R_wi.out.lt, R_wo.out.below (two_mk #[.int .i64 z.b.east, .int .i64 z.b.north, .int .i64 z.b.up] #[.int .i64 y1.c.east, .int .i64 y1.c.north, .int .i64 y1.c.up] wr).2.2 R_wo.out.lt, R_sf.out.below (two_mk #[.int .i64 z.b.east, .int .i64 z.b.north, .int .i64 z.b.up] #[.int .i64 y1.c.east, .int .i64 y1.c.north, .int .i64 y1.c.up] wr).2.2 R_sf.out.lt⟩, rfl⟩
              case rest =>
                obtain ⟨X, Y, rfl, rfl, r_xa, r_xb, r_S, r_T, r_wi, r_wo, r_sf⟩ := hcut
                clear R_S R_T R_wi R_wo R_sf
                have R_xa := Lib.hid r_xa
                have R_xb := Lib.hid r_xb
                have R_S := Lib.hid r_S
                have R_T := Lib.hid r_T
                have R_wi := Lib.hid r_wi
                have R_wo := Lib.hid r_wo
                have R_sf := Lib.hid r_sf
                clear r_xa r_xb r_S r_T r_wi r_wo r_sf
                have q_xal := R_xa.out.lt
                have q_xa0 : wc.cell? ⟨X, 0, none⟩ = some (.int .i64 y1.c.east) := R_xa.out.cell 0
                have q_xa1 : wc.cell? ⟨X, 1, none⟩ = some (.int .i64 y1.c.north) := R_xa.out.cell 1
                have q_xa2 : wc.cell? ⟨X, 2, none⟩ = some (.int .i64 y1.c.up) := R_xa.out.cell 2
                have q_xbl := R_xb.out.lt
                have q_xb0 : wc.cell? ⟨Y, 0, none⟩ = some (.int .i64 z.b.east) := R_xb.out.cell 0
                have q_xb1 : wc.cell? ⟨Y, 1, none⟩ = some (.int .i64 z.b.north) := R_xb.out.cell 1
                have q_xb2 : wc.cell? ⟨Y, 2, none⟩ = some (.int .i64 z.b.up) := R_xb.out.cell 2
                have q_sfl := R_sf.out.lt
                have q_sf0 : wc.cell? ⟨W11.heap.size, 0, none⟩ = some (.int .i64 s.east) := R_sf.out.cell 0
                have q_sf1 : wc.cell? ⟨W11.heap.size, 1, none⟩ = some (.int .i64 s.north) := R_sf.out.cell 1
                have q_sf2 : wc.cell? ⟨W11.heap.size, 2, none⟩ = some (.int .i64 s.up) := R_sf.out.cell 2
                go_wp2_with fail
                go_roundw
                case rel => exact ⟨3, by omega, by go_num, R_S.out, R_T.out, R_wi.out, R_wo.out, R_sf.out⟩
                case measure => simp [intOf]
            · go_upto_region 25 with fail
              obtain ⟨e1, e2, e3⟩ := HW3.out
              go_cut [20, 21] (fun p q wx => ∃ X Y : Nat, p = .pointer (some ⟨X, 0, none⟩) ∧ q = .pointer (some ⟨Y, 0, none⟩) ∧ Blk wx X 27 #[.int .i64 y1.d.east, .int .i64 y1.d.north, .int .i64 y1.d.up] ∧ Blk wx Y 27 #[.int .i64 z.a.east, .int .i64 z.a.north, .int .i64 z.a.up] ∧ St w A n zs wx ∧ win.Tab wx ∧ Blk wx (W3.heap.size) 28 #[.int .i64 y1.a.east, .int .i64 y1.a.north, .int .i64 y1.a.up, .int .i64 y1.b.east, .int .i64 y1.b.north, .int .i64 y1.b.up, .int .i64 y1.c.east, .int .i64 y1.c.north, .int .i64 y1.c.up, .int .i64 y1.d.east, .int .i64 y1.d.north, .int .i64 y1.d.up] ∧ Blk wx (W9.heap.size) 28 #[.int .i64 z.a.east, .int .i64 z.a.north, .int .i64 z.a.up, .int .i64 z.b.east, .int .i64 z.b.north, .int .i64 z.b.up, .int .i64 z.c.east, .int .i64 z.c.north, .int .i64 z.c.up, .int .i64 z.d.east, .int .i64 z.d.north, .int .i64 z.d.up] ∧ Blk wx (W11.heap.size) 27 #[.int .i64 s.east, .int .i64 s.north, .int .i64 s.up])
              case first =>
                rename_i J0 K0 hJ0 hK0
                have q_wil := R_wi.out.lt
                have q_wi0 : wr.cell? ⟨W3.heap.size, 9, none⟩ = some (.int .i64 y1.d.east) := R_wi.out.cell 9
                have q_wi1 : wr.cell? ⟨W3.heap.size, 10, none⟩ = some (.int .i64 y1.d.north) := R_wi.out.cell 10
                have q_wi2 : wr.cell? ⟨W3.heap.size, 11, none⟩ = some (.int .i64 y1.d.up) := R_wi.out.cell 11
                have q_wol := R_wo.out.lt
                have q_wo0 : wr.cell? ⟨W9.heap.size, 0, none⟩ = some (.int .i64 z.a.east) := R_wo.out.cell 0
                have q_wo1 : wr.cell? ⟨W9.heap.size, 1, none⟩ = some (.int .i64 z.a.north) := R_wo.out.cell 1
                have q_wo2 : wr.cell? ⟨W9.heap.size, 2, none⟩ = some (.int .i64 z.a.up) := R_wo.out.cell 2
                go_region
                · first | refine hJ0 _ _ ?_ | refine hK0 _ _ (Met.intro (hJ0 _ _ ?_)) | refine Met.intro (hK0 _ _ (Met.intro (hJ0 _ _ ?_)))
                  (repeat apply Exists.intro)
                  exact ⟨⟨_, _, rfl, rfl, (two_mk #[.int .i64 y1.d.east, .int .i64 y1.d.north, .int .i64 y1.d.up] #[.int .i64 z.a.east, .int .i64 z.a.north, .int .i64 z.a.up] wr).1, (two_mk #[.int .i64 y1.d.east, .int .i64 y1.d.north, .int .i64 y1.d.up] #[.int .i64 z.a.east, .int .i64 z.a.north, .int .i64 z.a.up] wr).2.1, R_S.out.step (two_mk #[.int .i64 y1.d.east, .int .i64 y1.d.north, .int .i64 y1.d.up] #[.int .i64 z.a.east, .int .i64 z.a.north, .int .i64 z.a.up] wr).2.2, R_T.out.below (two_mk #[.int .i64 y1.d.east, .int .i64 y1.d.north, .int .i64 y1.d.up] #[.int .i64 z.a.east, .int .i64 z.a.north, .int .i64 z.a.up] wr).2.2, R_wi.out.below (two_mk #[.int .i64 y1.d.east, .int .i64 y1.d.north, .int .i64 y1.d.up] #[.int .i64 z.a.east, .int .i64 z.a.north, .int .i64 z.a.up] wr).2.2 R_wi.out.lt, R_wo.out.below (two_mk #[.int .i64 y1.d.east, .int .i64 y1.d.north, .int .i64 y1.d.up] #[.int .i64 z.a.east, .int .i64 z.a.north, .int .i64 z.a.up] wr).2.2 R_wo.out.lt, R_sf.out.below (two_mk #[.int .i64 y1.d.east, .int .i64 y1.d.north, .int .i64 y1.d.up] #[.int .i64 z.a.east, .int .i64 z.a.north, .int .i64 z.a.up] wr).2.2 R_sf.out.lt⟩, rfl⟩
                · first | refine hJ0 _ _ ?_ | refine hK0 _ _ (Met.intro (hJ0 _ _ ?_)) | refine Met.intro (hK0 _ _ (Met.intro (hJ0 _ _ ?_)))
                  (repeat apply Exists.intro)
                  exact ⟨⟨_, _, rfl, rfl, (two_mk #[.int .i64 z.a.east, .int .i64 z.a.north, .int .i64 z.a.up] #[.int .i64 y1.d.east, .int .i64 y1.d.north, .int .i64 y1.d.up] wr).2.1, (two_mk #[.int .i64 z.a.east, .int .i64 z.a.north, .int .i64 z.a.up] #[.int .i64 y1.d.east, .int .i64 y1.d.north, .int .i64 y1.d.up] wr).1, R_S.out.step (two_mk #[.int .i64 z.a.east, .int .i64 z.a.north, .int .i64 z.a.up] #[.int .i64 y1.d.east, .int .i64 y1.d.north, .int .i64 y1.d.up] wr).2.2, R_T.out.below (two_mk #[.int .i64 z.a.east, .int .i64 z.a.north, .int .i64 z.a.up] #[.int .i64 y1.d.east, .int .i64 y1.d.north, .int .i64 y1.d.up] wr).2.2, R_wi.out.below (two_mk #[.int .i64 z.a.east, .int .i64 z.a.north, .int .i64 z.a.up] #[.int .i64 y1.d.east, .int .i64 y1.d.north, .int .i64 y1.d.up] wr).2.2 R_wi.out.lt, R_wo.out.below (two_mk #[.int .i64 z.a.east, .int .i64 z.a.north, .int .i64 z.a.up] #[.int .i64 y1.d.east, .int .i64 y1.d.north, .int .i64 y1.d.up] wr).2.2 R_wo.out.lt, R_sf.out.below (two_mk #[.int .i64 z.a.east, .int .i64 z.a.north, .int .i64 z.a.up] #[.int .i64 y1.d.east, .int .i64 y1.d.north, .int .i64 y1.d.up] wr).2.2 R_sf.out.lt⟩, rfl⟩
              case rest =>
                obtain ⟨X, Y, rfl, rfl, r_xa, r_xb, r_S, r_T, r_wi, r_wo, r_sf⟩ := hcut
                clear R_S R_T R_wi R_wo R_sf
                have R_xa := Lib.hid r_xa
                have R_xb := Lib.hid r_xb
                have R_S := Lib.hid r_S
                have R_T := Lib.hid r_T
                have R_wi := Lib.hid r_wi
                have R_wo := Lib.hid r_wo
                have R_sf := Lib.hid r_sf
                clear r_xa r_xb r_S r_T r_wi r_wo r_sf
                have q_xal := R_xa.out.lt
                have q_xa0 : wc.cell? ⟨X, 0, none⟩ = some (.int .i64 y1.d.east) := R_xa.out.cell 0
                have q_xa1 : wc.cell? ⟨X, 1, none⟩ = some (.int .i64 y1.d.north) := R_xa.out.cell 1
                have q_xa2 : wc.cell? ⟨X, 2, none⟩ = some (.int .i64 y1.d.up) := R_xa.out.cell 2
                have q_xbl := R_xb.out.lt
                have q_xb0 : wc.cell? ⟨Y, 0, none⟩ = some (.int .i64 z.a.east) := R_xb.out.cell 0
                have q_xb1 : wc.cell? ⟨Y, 1, none⟩ = some (.int .i64 z.a.north) := R_xb.out.cell 1
                have q_xb2 : wc.cell? ⟨Y, 2, none⟩ = some (.int .i64 z.a.up) := R_xb.out.cell 2
                have q_sfl := R_sf.out.lt
                have q_sf0 : wc.cell? ⟨W11.heap.size, 0, none⟩ = some (.int .i64 s.east) := R_sf.out.cell 0
                have q_sf1 : wc.cell? ⟨W11.heap.size, 1, none⟩ = some (.int .i64 s.north) := R_sf.out.cell 1
                have q_sf2 : wc.cell? ⟨W11.heap.size, 2, none⟩ = some (.int .i64 s.up) := R_sf.out.cell 2
                go_wp2_with fail
                go_roundw
                case rel => exact ⟨4, by omega, by go_num, R_S.out, R_T.out, R_wi.out, R_wo.out, R_sf.out⟩
                case measure => simp [intOf]
            · go_wp2_with fail
              go_meet
              case rel => exact ⟨R_S.out, R_T.out⟩
  case rest =>
    have HS9 := Lib.hid hcut.1
    have HT9 := Lib.hid hcut.2
    clear hcut HF HK H21 H22 H23 H24 H25 H26
    go_wp2_with fail
    refine (mirror_draw A n cap zs _ (Lib.hid HS9.out.2)).mono ?_
    rintro e W13 ⟨p2, rfl, b⟩
    have H66 := Lib.hid (show St w A n zs W13 from HS9.out.step b)
    have H67 := Lib.hid (show win.Tab W13 from HT9.out.below b)
    clear b HS9 HT9
    obtain ⟨q2, ok2, hf, hk1, hk⟩ := mi_form p2
    have HF := Lib.hid hf
    have HK := Lib.hid hk
    clear hf hk hk1
    go_upto_region 29 with fail
    obtain ⟨W14, HW⟩ : ∃ W14, Hid (W13.alloc (.cells #[.int .i64 p2.st, .int .i64 p2.lf, .int .i64 p2.rt, .int .i64 p2.ab, .int .i64 p2.be] 43) = W14) := ⟨_, Lib.hid rfl⟩
    have H68 := Lib.hid (show St w A n zs W14 by rw [← HW.out]; exact (H66.out.alloc _))
    have H69 := Lib.hid (show win.Tab W14 by rw [← HW.out]; exact (H67.out.alloc _))
    have H70 := Lib.hid (show Blk W14 (W13.heap.size) 43 #[.int .i64 p2.st, .int .i64 p2.lf, .int .i64 p2.rt, .int .i64 p2.ab, .int .i64 p2.be] by rw [← HW.out]; exact Blk.new _ _ _)
    rw [HW.out]
    clear HW H66 H67
    have q_p2l := H70.out.lt
    have q_p20 : W14.cell? ⟨W13.heap.size, 0, none⟩ = some (.int .i64 p2.st) := H70.out.cell 0
    have q_p21 : W14.cell? ⟨W13.heap.size, 1, none⟩ = some (.int .i64 p2.lf) := H70.out.cell 1
    have q_p22 : W14.cell? ⟨W13.heap.size, 2, none⟩ = some (.int .i64 p2.rt) := H70.out.cell 2
    have q_p23 : W14.cell? ⟨W13.heap.size, 3, none⟩ = some (.int .i64 p2.ab) := H70.out.cell 3
    have q_p24 : W14.cell? ⟨W13.heap.size, 4, none⟩ = some (.int .i64 p2.be) := H70.out.cell 4
    go_wp2_with fail
    clear q_p2l q_p20 q_p21 q_p22 q_p23 q_p24
    refine (mi_i HF).mono ?_
    rintro e W15 ⟨rfl, b⟩
    have H71 := Lib.hid (show St w A n zs W15 from H68.out.step b)
    have H72 := Lib.hid (show win.Tab W15 from H69.out.below b)
    have H73 := Lib.hid (show Blk W15 (W13.heap.size) 43 #[.int .i64 p2.st, .int .i64 p2.lf, .int .i64 p2.rt, .int .i64 p2.ab, .int .i64 p2.be] from H70.out.below b H70.out.lt)
    clear b H68 H69 H70
    go_upto_region 30 with fail
    obtain ⟨W16, HW⟩ : ∃ W16, Hid (W15.alloc (.cells #[.int .i64 q2.st, .int .i64 q2.lf, .int .i64 q2.rt, .int .i64 q2.ab, .int .i64 q2.be] 43) = W16) := ⟨_, Lib.hid rfl⟩
    have H74 := Lib.hid (show St w A n zs W16 by rw [← HW.out]; exact (H71.out.alloc _))
    have H75 := Lib.hid (show win.Tab W16 by rw [← HW.out]; exact (H72.out.alloc _))
    have H76 := Lib.hid (show Blk W16 (W13.heap.size) 43 #[.int .i64 p2.st, .int .i64 p2.lf, .int .i64 p2.rt, .int .i64 p2.ab, .int .i64 p2.be] by rw [← HW.out]; exact (H73.out.alloc _))
    have H77 := Lib.hid (show Blk W16 (W15.heap.size) 43 #[.int .i64 q2.st, .int .i64 q2.lf, .int .i64 q2.rt, .int .i64 q2.ab, .int .i64 q2.be] by rw [← HW.out]; exact Blk.new _ _ _)
    rw [HW.out]
    clear HW H71 H72 H73
    have q_p2l := H76.out.lt
    have q_p20 : W16.cell? ⟨W13.heap.size, 0, none⟩ = some (.int .i64 p2.st) := H76.out.cell 0
    have q_p21 : W16.cell? ⟨W13.heap.size, 1, none⟩ = some (.int .i64 p2.lf) := H76.out.cell 1
    have q_p22 : W16.cell? ⟨W13.heap.size, 2, none⟩ = some (.int .i64 p2.rt) := H76.out.cell 2
    have q_p23 : W16.cell? ⟨W13.heap.size, 3, none⟩ = some (.int .i64 p2.ab) := H76.out.cell 3
    have q_p24 : W16.cell? ⟨W13.heap.size, 4, none⟩ = some (.int .i64 p2.be) := H76.out.cell 4
    go_wp2_with fail
    clear q_p2l q_p20 q_p21 q_p22 q_p23 q_p24
    refine (mi_m HF).mono ?_
    rintro e W17 ⟨rfl, b⟩
    have H78 := Lib.hid (show St w A n zs W17 from H74.out.step b)
    have H79 := Lib.hid (show win.Tab W17 from H75.out.below b)
    have H80 := Lib.hid (show Blk W17 (W13.heap.size) 43 #[.int .i64 p2.st, .int .i64 p2.lf, .int .i64 p2.rt, .int .i64 p2.ab, .int .i64 p2.be] from H76.out.below b H76.out.lt)
    have H81 := Lib.hid (show Blk W17 (W15.heap.size) 43 #[.int .i64 q2.st, .int .i64 q2.lf, .int .i64 q2.rt, .int .i64 q2.ab, .int .i64 q2.be] from H77.out.below b H77.out.lt)
    clear b H74 H75 H76 H77
    go_upto_region 31 with fail
    obtain ⟨W18, HW⟩ : ∃ W18, Hid (W17.alloc (.cells #[.int .i64 q2.st, .int .i64 q2.lf, .int .i64 q2.rt, .int .i64 q2.ab, .int .i64 q2.be] 43) = W18) := ⟨_, Lib.hid rfl⟩
    have H82 := Lib.hid (show St w A n zs W18 by rw [← HW.out]; exact (H78.out.alloc _))
    have H83 := Lib.hid (show win.Tab W18 by rw [← HW.out]; exact (H79.out.alloc _))
    have H84 := Lib.hid (show Blk W18 (W13.heap.size) 43 #[.int .i64 p2.st, .int .i64 p2.lf, .int .i64 p2.rt, .int .i64 p2.ab, .int .i64 p2.be] by rw [← HW.out]; exact (H80.out.alloc _))
    have H85 := Lib.hid (show Blk W18 (W15.heap.size) 43 #[.int .i64 q2.st, .int .i64 q2.lf, .int .i64 q2.rt, .int .i64 q2.ab, .int .i64 q2.be] by rw [← HW.out]; exact (H81.out.alloc _))
    have H86 := Lib.hid (show Blk W18 (W17.heap.size) 43 #[.int .i64 q2.st, .int .i64 q2.lf, .int .i64 q2.rt, .int .i64 q2.ab, .int .i64 q2.be] by rw [← HW.out]; exact Blk.new _ _ _)
    rw [HW.out]
    clear HW H78 H79 H80 H81
    have q_q2l := H85.out.lt
    have q_q20 : W18.cell? ⟨W15.heap.size, 0, none⟩ = some (.int .i64 q2.st) := H85.out.cell 0
    have q_q21 : W18.cell? ⟨W15.heap.size, 1, none⟩ = some (.int .i64 q2.lf) := H85.out.cell 1
    have q_q22 : W18.cell? ⟨W15.heap.size, 2, none⟩ = some (.int .i64 q2.rt) := H85.out.cell 2
    have q_q23 : W18.cell? ⟨W15.heap.size, 3, none⟩ = some (.int .i64 q2.ab) := H85.out.cell 3
    have q_q24 : W18.cell? ⟨W15.heap.size, 4, none⟩ = some (.int .i64 q2.be) := H85.out.cell 4
    have q_r2l := H86.out.lt
    have q_r20 : W18.cell? ⟨W17.heap.size, 0, none⟩ = some (.int .i64 q2.st) := H86.out.cell 0
    have q_r21 : W18.cell? ⟨W17.heap.size, 1, none⟩ = some (.int .i64 q2.lf) := H86.out.cell 1
    have q_r22 : W18.cell? ⟨W17.heap.size, 2, none⟩ = some (.int .i64 q2.rt) := H86.out.cell 2
    have q_r23 : W18.cell? ⟨W17.heap.size, 3, none⟩ = some (.int .i64 q2.ab) := H86.out.cell 3
    have q_r24 : W18.cell? ⟨W17.heap.size, 4, none⟩ = some (.int .i64 q2.be) := H86.out.cell 4
    go_upto_if 174 with fail
    clear q_q2l q_q20 q_q21 q_q22 q_q23 q_q24 q_r2l q_r20 q_r21 q_r22 q_r23 q_r24
    go_cut [9] (fun _ wx => St w A n zs wx)
    case first =>
      cases ok2
      · go_wp2_with fail
        go_meet
        case rel => exact H82.out
      · have HE := Lib.hid (HK.out rfl).2
        have q_q2l := H85.out.lt
        have q_q20 : W18.cell? ⟨W15.heap.size, 0, none⟩ = some (.int .i64 q2.st) := H85.out.cell 0
        have q_q21 : W18.cell? ⟨W15.heap.size, 1, none⟩ = some (.int .i64 q2.lf) := H85.out.cell 1
        have q_q22 : W18.cell? ⟨W15.heap.size, 2, none⟩ = some (.int .i64 q2.rt) := H85.out.cell 2
        have q_q23 : W18.cell? ⟨W15.heap.size, 3, none⟩ = some (.int .i64 q2.ab) := H85.out.cell 3
        have q_q24 : W18.cell? ⟨W15.heap.size, 4, none⟩ = some (.int .i64 q2.be) := H85.out.cell 4
        go_wp2_with fail
        clear q_q2l q_q20 q_q21 q_q22 q_q23 q_q24
        refine (mi_i HE).mono ?_
        rintro e W19 ⟨rfl, b⟩
        have H87 := Lib.hid (show St w A n zs W19 from H82.out.step b)
        have H88 := Lib.hid (show win.Tab W19 from H83.out.below b)
        have H89 := Lib.hid (show Blk W19 (W13.heap.size) 43 #[.int .i64 p2.st, .int .i64 p2.lf, .int .i64 p2.rt, .int .i64 p2.ab, .int .i64 p2.be] from H84.out.below b H84.out.lt)
        have H90 := Lib.hid (show Blk W19 (W15.heap.size) 43 #[.int .i64 q2.st, .int .i64 q2.lf, .int .i64 q2.rt, .int .i64 q2.ab, .int .i64 q2.be] from H85.out.below b H85.out.lt)
        have H91 := Lib.hid (show Blk W19 (W17.heap.size) 43 #[.int .i64 q2.st, .int .i64 q2.lf, .int .i64 q2.rt, .int .i64 q2.ab, .int .i64 q2.be] from H86.out.below b H86.out.lt)
        clear b H82 H83 H84 H85 H86
        go_upto_region 35 with fail
        obtain ⟨W20, HW⟩ : ∃ W20, Hid (W19.alloc (.cells #[.int .i64 p2.st, .int .i64 p2.lf, .int .i64 p2.rt, .int .i64 p2.ab, .int .i64 p2.be] 43) = W20) := ⟨_, Lib.hid rfl⟩
        have H92 := Lib.hid (show St w A n zs W20 by rw [← HW.out]; exact (H87.out.alloc _))
        have H93 := Lib.hid (show win.Tab W20 by rw [← HW.out]; exact (H88.out.alloc _))
        have H94 := Lib.hid (show Blk W20 (W13.heap.size) 43 #[.int .i64 p2.st, .int .i64 p2.lf, .int .i64 p2.rt, .int .i64 p2.ab, .int .i64 p2.be] by rw [← HW.out]; exact (H89.out.alloc _))
        have H95 := Lib.hid (show Blk W20 (W15.heap.size) 43 #[.int .i64 q2.st, .int .i64 q2.lf, .int .i64 q2.rt, .int .i64 q2.ab, .int .i64 q2.be] by rw [← HW.out]; exact (H90.out.alloc _))
        have H96 := Lib.hid (show Blk W20 (W17.heap.size) 43 #[.int .i64 q2.st, .int .i64 q2.lf, .int .i64 q2.rt, .int .i64 q2.ab, .int .i64 q2.be] by rw [← HW.out]; exact (H91.out.alloc _))
        have H97 := Lib.hid (show Blk W20 (W19.heap.size) 43 #[.int .i64 p2.st, .int .i64 p2.lf, .int .i64 p2.rt, .int .i64 p2.ab, .int .i64 p2.be] by rw [← HW.out]; exact Blk.new _ _ _)
        rw [HW.out]
        clear HW H87 H88 H89 H90 H91
        have q_p2l := H94.out.lt
        have q_p20 : W20.cell? ⟨W13.heap.size, 0, none⟩ = some (.int .i64 p2.st) := H94.out.cell 0
        have q_p21 : W20.cell? ⟨W13.heap.size, 1, none⟩ = some (.int .i64 p2.lf) := H94.out.cell 1
        have q_p22 : W20.cell? ⟨W13.heap.size, 2, none⟩ = some (.int .i64 p2.rt) := H94.out.cell 2
        have q_p23 : W20.cell? ⟨W13.heap.size, 3, none⟩ = some (.int .i64 p2.ab) := H94.out.cell 3
        have q_p24 : W20.cell? ⟨W13.heap.size, 4, none⟩ = some (.int .i64 p2.be) := H94.out.cell 4
        have q_s2l := H97.out.lt
        have q_s20 : W20.cell? ⟨W19.heap.size, 0, none⟩ = some (.int .i64 p2.st) := H97.out.cell 0
        have q_s21 : W20.cell? ⟨W19.heap.size, 1, none⟩ = some (.int .i64 p2.lf) := H97.out.cell 1
        have q_s22 : W20.cell? ⟨W19.heap.size, 2, none⟩ = some (.int .i64 p2.rt) := H97.out.cell 2
        have q_s23 : W20.cell? ⟨W19.heap.size, 3, none⟩ = some (.int .i64 p2.ab) := H97.out.cell 3
        have q_s24 : W20.cell? ⟨W19.heap.size, 4, none⟩ = some (.int .i64 p2.be) := H97.out.cell 4
        go_wp2_with fail
        clear q_p2l q_p20 q_p21 q_p22 q_p23 q_p24 q_s2l q_s20 q_s21 q_s22 q_s23 q_s24
        go_meet
        case rel => exact H92.out
    case rest =>
      have HS8 := Lib.hid hcut
      clear hcut HF HK H82 H83 H84 H85 H86
      go_wp2_with fail
      refine (areaAt_draw A n cap zs _ (Lib.hid HS8.out.2)).mono ?_
      rintro e W21 ⟨v3, t3, q3, rfl, ho3, hle3, hq3, b⟩
      obtain ⟨L3, hl3⟩ : ∃ L, t3.length = L := ⟨_, rfl⟩
      rw [hl3] at ho3 hle3
      obtain ⟨A3, c3, rfl⟩ := row_slice ho3
      have HR3 := Lib.hid ho3
      have HL3 := Lib.hid hl3
      clear ho3 hl3
      have H98 := Lib.hid (show St w A n zs W21 from HS8.out.step b)
      clear b HS8
      obtain ⟨a3, ok3, hf⟩ : ∃ (a : Int) (ok : Bool), ansAa t3 q3 = .tuple #[.int .i64 a, .bool ok] := by unfold ansAa; split <;> exact ⟨_, _, rfl⟩
      have HF3 := Lib.hid hf
      clear hf
      go_wp2_with fail
      refine (aa_i HF3 (by omega) (Lib.hid (own_Pg HL3.out HR3.out))).mono ?_
      rintro e W22 ⟨rfl, b⟩
      have H99 := Lib.hid (show St w A n zs W22 from H98.out.step b)
      have H100 := Lib.hid (show W22.ownsRow (wc.heap.size) 43 5 (.slice A3 L3 c3) L3 (flatPg t3) from row_below HR3.out b)
      clear b H98 HR3
      go_wp2_with fail
      refine (aa_m HF3 (by omega) (Lib.hid (own_Pg HL3.out H100.out))).mono ?_
      rintro e W23 ⟨rfl, b⟩
      have H101 := Lib.hid (show St w A n zs W23 from H99.out.step b)
      have H102 := Lib.hid (show W23.ownsRow (wc.heap.size) 43 5 (.slice A3 L3 c3) L3 (flatPg t3) from row_below H100.out b)
      clear b H99 H100
      go_wp2_with fail
      refine (widest_draw A n cap zs _ (Lib.hid H101.out.2)).mono ?_
      rintro e W24 ⟨v4, t4, rfl, ho4, hle4, b⟩
      obtain ⟨L4, hl4⟩ : ∃ L, t4.length = L := ⟨_, rfl⟩
      rw [hl4] at ho4 hle4
      obtain ⟨A4, c4, rfl⟩ := row_slice ho4
      have HR4 := Lib.hid ho4
      have HL4 := Lib.hid hl4
      clear ho4 hl4
      have H103 := Lib.hid (show St w A n zs W24 from H101.out.step b)
      have H104 := Lib.hid (show W24.ownsRow (wc.heap.size) 43 5 (.slice A3 L3 c3) L3 (flatPg t3) from row_below H102.out b)
      clear b H101 H102
      obtain ⟨a4, ok4, hf⟩ : ∃ (a : Int) (ok : Bool), ansWp t4 = .tuple #[.int .i64 a, .bool ok] := by unfold ansWp; split <;> exact ⟨_, _, rfl⟩
      have HF4 := Lib.hid hf
      clear hf
      go_wp2_with fail
      refine (wp_i HF4 (by omega) (Lib.hid (own_Pg HL4.out HR4.out))).mono ?_
      rintro e W25 ⟨rfl, b⟩
      have H105 := Lib.hid (show St w A n zs W25 from H103.out.step b)
      have H106 := Lib.hid (show W25.ownsRow (wc.heap.size) 43 5 (.slice A3 L3 c3) L3 (flatPg t3) from row_below H104.out b)
      have H107 := Lib.hid (show W25.ownsRow (W23.heap.size) 43 5 (.slice A4 L4 c4) L4 (flatPg t4) from row_below HR4.out b)
      clear b H103 H104 HR4
      go_wp2_with fail
      refine (wp_m HF4 (by omega) (Lib.hid (own_Pg HL4.out H107.out))).mono ?_
      rintro e W26 ⟨rfl, b⟩
      have H108 := Lib.hid (show St w A n zs W26 from H105.out.step b)
      have H109 := Lib.hid (show W26.ownsRow (wc.heap.size) 43 5 (.slice A3 L3 c3) L3 (flatPg t3) from row_below H106.out b)
      have H110 := Lib.hid (show W26.ownsRow (W23.heap.size) 43 5 (.slice A4 L4 c4) L4 (flatPg t4) from row_below H107.out b)
      clear b H105 H106 H107
      go_wp2_with fail
      go_ret
      exact ⟨rfl, H108.out.1⟩
end Go.Proofs.YtnpghhpcloljeaaDoor.wpx
