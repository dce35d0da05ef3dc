/-
  FnReverses: the law's walk.
  Conditions: the code has at most 65536 bytes.
-/
import Derived.Test.YtnlljdepcldibaaDeC
import Derived.Test.YtnlljdepcldibaaDeR
import Derived.Test.YtnlljdepcldibaaEnV
import Derived.Test.YtnlljdepcldibaaEnF
import Derived.Test.YtnlljdepcldibaaEiC
import Derived.Test.YtnlljdepcldibaaEiD
import Derived.Test.YtnlljdepcldibaaRs
import Derived.Test.YtnlljdepcldibaaEnd
import Derived.Deep.DeepCutAuto
namespace Go.Proofs.Ytnlljdepcldibaa.rvw
open Go.RowKit
open reads base curs curd ty rowi lg en eni dre
set_option linter.unusedVariables false
set_option linter.unusedSimpArgs false

def LawPost (w : World) (e : Ending) (w' : World) : Prop := e = .returned (.bool true) ∧ Below w.heap.size w w'
/-- where the law stands: nothing old has turned, the code reads -/
def St (w : World) (A : Option Addr) (n : Nat) (zs : List UInt8) (v : World) : Prop := Below w.heap.size w v ∧ curs.Code v A n zs
theorem St.step {w v v' : World} {A : Option Addr} {n : Nat} {zs : List UInt8} (h : St w A n zs v) (hb : Below v.heap.size v v') : St w A n zs v' := ⟨h.1.trans (hb.mono h.1.size), h.2.below hb⟩
theorem St.alloc {w v : World} {A : Option Addr} {n : Nat} {zs : List UInt8} (h : St w A n zs v) (o : Obj) : St w A n zs (v.alloc o) := h.step ((Below.refl _ _).alloc (Nat.le_refl _) o)
theorem rints_b {A A' : Option Addr} {n c c' : Nat} {xs : List Int} {w : World} (hn : n ≤ 2000000) (h : Hid (ints.IL w A n xs)) (h' : Hid (ints.IL w A' n xs)) :
    Calls Try.prog 36 #[.slice A n c, .slice A' n c'] w (BPost true w) :=
  (rs.rints_any A A' n c c' xs w hn h h').mono (by rintro e w' ⟨rfl, m, rfl⟩; exact ⟨rfl, ends.below_drewN (Below.refl _ _) m⟩)
section
variable {A A' : Option Addr} {n cap m cap' : Nat} {ts R : List En} {I : List Int} {G : Bool} {v : Value} {x : En} {w : World}
theorem rv_i (h0 : Hid (rvEn ts = R)) (h1 : Hid (goodEn ts = G)) (hn : n ≤ 2000000) (hts : Hid (EnAt w w.heap.size A n ts)) : Calls Try.prog 31 #[.slice A n cap] w (EPost R G w) := by
  rw [← h0.out, ← h1.out]; exact reverseBook_impl A n cap ts w hn hts
theorem rv_m (h0 : Hid (rvEn ts = R)) (h1 : Hid (goodEn ts = G)) (hn : n ≤ 2000000) (hts : Hid (EnAt w w.heap.size A n ts)) : Calls Try.prog 30 #[.slice A n cap] w (EPost R G w) := by
  rw [← h0.out, ← h1.out]; exact reverseBook_model A n cap ts w hn hts
theorem mg_i (h0 : Hid (mgEn ts = R)) (h1 : Hid (goodEn ts = G)) (hn : n ≤ 2000000) (hts : Hid (EnAt w w.heap.size A n ts)) : Calls Try.prog 28 #[.slice A n cap] w (EPost R G w) := by
  rw [← h0.out, ← h1.out]; exact mergePairs_impl A n cap ts w hn hts
theorem mg_m (h0 : Hid (mgEn ts = R)) (h1 : Hid (goodEn ts = G)) (hn : n ≤ 2000000) (hts : Hid (EnAt w w.heap.size A n ts)) : Calls Try.prog 27 #[.slice A n cap] w (EPost R G w) := by
  rw [← h0.out, ← h1.out]; exact mergePairs_model A n cap ts w hn hts
theorem pe_i (h0 : Hid (erIds ts = I)) (h1 : Hid (goodEn ts = G)) (hn : n ≤ 2000000) (hts : Hid (EnAt w w.heap.size A n ts)) : Calls Try.prog 22 #[.slice A n cap] w (LPost I G w) := by
  rw [← h0.out, ← h1.out]; exact pairErrors_impl A n cap ts w hn hts
theorem pe_m (h0 : Hid (erIds ts = I)) (h1 : Hid (goodEn ts = G)) (hn : n ≤ 2000000) (hts : Hid (EnAt w w.heap.size A n ts)) : Calls Try.prog 21 #[.slice A n cap] w (LPost I G w) := by
  rw [← h0.out, ← h1.out]; exact pairErrors_model A n cap ts w hn hts
theorem bl_i (h0 : Hid (ansBl ts = v)) (hn : n ≤ 2000000) (hts : Hid (EnAt w w.heap.size A n ts)) : Calls Try.prog 19 #[.slice A n cap] w (APost v w) := by
  rw [← h0.out]; exact bookLength_impl A n cap ts w hn hts
theorem bl_m (h0 : Hid (ansBl ts = v)) (hn : n ≤ 2000000) (hts : Hid (EnAt w w.heap.size A n ts)) : Calls Try.prog 17 #[.slice A n cap] w (APost v w) := by
  rw [← h0.out]; exact bookLength_model A n cap ts w hn hts
theorem lo_i (h0 : Hid (ansLegOf x = v)) : Calls Try.prog 14 #[.agg #[.int .i64 x.frm, .int .i64 x.to_, .int .i64 x.tape, .int .i64 x.comp, .int .i64 x.slope, .bool x.back]] w (APost v w) := by
  rw [← h0.out]; exact legOf_impl x w
theorem lo_m (h0 : Hid (ansLegOf x = v)) : Calls Try.prog 13 #[.agg #[.int .i64 x.frm, .int .i64 x.to_, .int .i64 x.tape, .int .i64 x.comp, .int .i64 x.slope, .bool x.back]] w (APost v w) := by
  rw [← h0.out]; exact legOf_model x w
end
theorem bl_form {ts : List En} {G : Bool} (h : goodEn ts = G) : ∃ S : Int, ansBl ts = .tuple #[.int .i64 S, .bool G] ∧ (G = true → S = bsum ts) := by
  unfold ansBl
  rw [h]
  cases G
  · exact ⟨0, by simp, fun c => by cases c⟩
  · exact ⟨bsum ts, by simp, fun _ => rfl⟩
theorem lo_form (x : En) : ∃ (a : Lg) (ok : Bool), ansLegOf x = .tuple #[.agg #[.int .i64 a.frm, .int .i64 a.to_, .int .i64 a.tape, .int .i64 a.comp, .int .i64 a.slope], .bool ok] := by
  unfold ansLegOf
  split
  · exact ⟨legEn x, true, rfl⟩
  · exact ⟨⟨0, 0, 0, 0, 0⟩, false, rfl⟩
theorem lo_pair {t u : En} (h : okEn t = true) (hu : swEn t = u) : ∃ f o p ac z p' bc : Int, ansLegOf t = .tuple #[.agg #[.int .i64 f, .int .i64 o, .int .i64 p, .int .i64 ac, .int .i64 (-z)], .bool true] ∧ ansLegOf u = .tuple #[.agg #[.int .i64 o, .int .i64 f, .int .i64 p', .int .i64 bc, .int .i64 z], .bool true] ∧ (ac + 180).tmod 360 = bc ∧ (0 ≤ ac ∧ ac ≤ 359) ∧ (-90 ≤ z ∧ z ≤ 90) := by
  subst hu
  obtain ⟨h1, h2, h3, h4, h5, h6⟩ := leg_sw h
  refine ⟨(legEn t).frm, (legEn t).to_, (legEn t).tape, (legEn t).comp, (legEn (swEn t)).slope, (legEn (swEn t)).tape, (legEn (swEn t)).comp, ?_, ?_, ?_, h5, h6⟩
  · unfold ansLegOf; rw [if_pos h, h3]
  · unfold ansLegOf; rw [if_pos (sw_ok t h), h1, h2]
  · rw [← h4]; exact Int.tmod_eq_emod_of_nonneg (by omega)
set_option maxHeartbeats 32000000 in
set_option maxRecDepth 100000 in
theorem walk (A : Option Addr) (n cap : Nat) (zs : List UInt8) (w : World) (hn : n ≤ 65536) (hS : Hid (St w A n zs w)) :
    Calls Try.prog 9 #[.slice A n cap] w (LawPost w) := by
  have HB := Lib.hid (rs.big_no A n cap w hn)
  clear hn
  go_enter Try.func9, Try.ntmps9
  go_wp2_with fail
  refine HB.out.mono ?_
  rintro e w' ⟨rfl, rfl⟩
  clear HB
  go_wp2_with fail
  refine (reverseBook_draw A n cap zs _ (Lib.hid hS.out.2)).mono ?_
  rintro e W1 ⟨v1, L1, t1, rfl, ho, hl1, hL1, b⟩
  obtain ⟨A1, c1, rfl⟩ := row_slice ho
  have HR1 := Lib.hid ho
  have HL1 := Lib.hid hl1
  clear ho hl1
  have H1 := Lib.hid (show St w A n zs W1 from hS.out.step b)
  clear b hS
  obtain ⟨G, HG⟩ : ∃ G, Hid (goodEn t1 = G) := ⟨_, Lib.hid rfl⟩
  obtain ⟨R, HR⟩ : ∃ R, Hid (rvEn t1 = R) := ⟨_, Lib.hid rfl⟩
  obtain ⟨M, HM⟩ : ∃ M, Hid (mgEn t1 = M) := ⟨_, Lib.hid rfl⟩
  obtain ⟨N, HN⟩ : ∃ N, Hid (M.length = N) := ⟨_, Lib.hid rfl⟩
  have hN : N ≤ 13 := by rw [← HN.out, ← HM.out]; have := mgEn_len t1; have := HL1.out; omega
  obtain ⟨S, hbl, hSb⟩ := bl_form HG.out
  have HBL := Lib.hid hbl
  have HSB := Lib.hid hSb
  clear hbl hSb
  cases G
  · have HRL := Lib.hid (show R.length = 0 by rw [← HR.out]; unfold rvEn; rw [if_neg (by rw [HG.out]; simp)]; rfl)
    have h0 : 0 ≤ 2000000 := by decide
    go_wp2_with fail
    refine (rv_i HR HG (by omega) (Lib.hid (own_En HL1.out HR1.out))).mono ?_
    rintro e W2 ⟨vr, rfl, ho, b⟩
    rw [HRL.out] at ho
    obtain ⟨Arg, crg, rfl⟩ := row_slice ho
    have HRrg := Lib.hid ho
    clear ho
    have H2 := Lib.hid (show St w A n zs W2 from H1.out.step b)
    have H3 := Lib.hid (show W2.ownsRow (w.heap.size) 25 6 (.slice A1 L1 c1) L1 (flatEn t1) from row_below HR1.out b)
    clear b H1 HR1
    go_wp2_with fail
    refine (rv_m HR HG (by omega) (Lib.hid (own_En HL1.out H3.out))).mono ?_
    rintro e W3 ⟨vr, rfl, ho, b⟩
    rw [HRL.out] at ho
    obtain ⟨Arw, crw, rfl⟩ := row_slice ho
    have HRrw := Lib.hid ho
    clear ho
    have H4 := Lib.hid (show St w A n zs W3 from H2.out.step b)
    have H5 := Lib.hid (show W3.ownsRow (w.heap.size) 25 6 (.slice A1 L1 c1) L1 (flatEn t1) from row_below H3.out b)
    have H6 := Lib.hid (show W3.ownsRow (W1.heap.size) 25 6 (.slice Arg 0 crg) 0 (flatEn R) from row_below HRrg.out b)
    clear b H2 H3 HRrg
    go_wp2_with fail
    refine (der.rentries_any Arg Arw 0 crg crw R _ (by omega) (Lib.hid (own_En HRL.out H6.out)) (Lib.hid (own_En HRL.out HRrw.out))).mono ?_
    rintro e W4 ⟨rfl, b⟩
    have H7 := Lib.hid (show St w A n zs W4 from H4.out.step b)
    have H8 := Lib.hid (show W4.ownsRow (w.heap.size) 25 6 (.slice A1 L1 c1) L1 (flatEn t1) from row_below H5.out b)
    have H9 := Lib.hid (show W4.ownsRow (W1.heap.size) 25 6 (.slice Arg 0 crg) 0 (flatEn R) from row_below H6.out b)
    have H10 := Lib.hid (show W4.ownsRow (W2.heap.size) 25 6 (.slice Arw 0 crw) 0 (flatEn R) from row_below HRrw.out b)
    clear b H4 H5 H6 HRrw
    clear H10
    go_wp2_with fail
    refine (bl_i HBL (by omega) (Lib.hid (own_En HL1.out H8.out))).mono ?_
    rintro e W5 ⟨rfl, b⟩
    have H11 := Lib.hid (show St w A n zs W5 from H7.out.step b)
    have H12 := Lib.hid (show W5.ownsRow (w.heap.size) 25 6 (.slice A1 L1 c1) L1 (flatEn t1) from row_below H8.out b)
    have H13 := Lib.hid (show W5.ownsRow (W1.heap.size) 25 6 (.slice Arg 0 crg) 0 (flatEn R) from row_below H9.out b)
    clear b H7 H8 H9
    go_wp2_with fail
    refine (bl_m HBL (by omega) (Lib.hid (own_En HL1.out H12.out))).mono ?_
    rintro e W6 ⟨rfl, b⟩
    have H14 := Lib.hid (show St w A n zs W6 from H11.out.step b)
    have H15 := Lib.hid (show W6.ownsRow (w.heap.size) 25 6 (.slice A1 L1 c1) L1 (flatEn t1) from row_below H12.out b)
    have H16 := Lib.hid (show W6.ownsRow (W1.heap.size) 25 6 (.slice Arg 0 crg) 0 (flatEn R) from row_below H13.out b)
    clear b H11 H12 H13
    clear H16
    go_wp2_with fail
    refine (mg_i HM HG (by omega) (Lib.hid (own_En HL1.out H15.out))).mono ?_
    rintro e W7 ⟨vr, rfl, ho, b⟩
    rw [HN.out] at ho
    obtain ⟨Ami, cmi, rfl⟩ := row_slice ho
    have HRmi := Lib.hid ho
    clear ho
    have H17 := Lib.hid (show St w A n zs W7 from H14.out.step b)
    have H18 := Lib.hid (show W7.ownsRow (w.heap.size) 25 6 (.slice A1 L1 c1) L1 (flatEn t1) from row_below H15.out b)
    clear b H14 H15
    go_wp2_with fail
    refine (mg_m HM HG (by omega) (Lib.hid (own_En HL1.out H18.out))).mono ?_
    rintro e W8 ⟨vr, rfl, ho, b⟩
    rw [HN.out] at ho
    obtain ⟨Amw, cmw, rfl⟩ := row_slice ho
    have HRmw := Lib.hid ho
    clear ho
    have H19 := Lib.hid (show St w A n zs W8 from H17.out.step b)
    have H20 := Lib.hid (show W8.ownsRow (w.heap.size) 25 6 (.slice A1 L1 c1) L1 (flatEn t1) from row_below H18.out b)
    have H21 := Lib.hid (show W8.ownsRow (W6.heap.size) 25 6 (.slice Ami N cmi) N (flatEn M) from row_below HRmi.out b)
    clear b H17 H18 HRmi
    go_wp2_with fail
    refine (der.rentries_any Ami Amw N cmi cmw M _ (by omega) (Lib.hid (own_En HN.out H21.out)) (Lib.hid (own_En HN.out HRmw.out))).mono ?_
    rintro e W9 ⟨rfl, b⟩
    have H22 := Lib.hid (show St w A n zs W9 from H19.out.step b)
    have H23 := Lib.hid (show W9.ownsRow (w.heap.size) 25 6 (.slice A1 L1 c1) L1 (flatEn t1) from row_below H20.out b)
    have H24 := Lib.hid (show W9.ownsRow (W6.heap.size) 25 6 (.slice Ami N cmi) N (flatEn M) from row_below H21.out b)
    have H25 := Lib.hid (show W9.ownsRow (W7.heap.size) 25 6 (.slice Amw N cmw) N (flatEn M) from row_below HRmw.out b)
    clear b H19 H20 H21 HRmw
    clear H23
    clear H24
    clear H25
    go_wp2_with fail
    refine (pairErrors_draw A n cap zs _ (Lib.hid H22.out.2)).mono ?_
    rintro e W10 ⟨v2, L2, t2, rfl, ho, hl2, hL2, b⟩
    obtain ⟨A2, c2, rfl⟩ := row_slice ho
    have HR2 := Lib.hid ho
    have HL2 := Lib.hid hl2
    clear ho hl2
    have H26 := Lib.hid (show St w A n zs W10 from H22.out.step b)
    clear b H22
    obtain ⟨G2, HG2⟩ : ∃ G, Hid (goodEn t2 = G) := ⟨_, Lib.hid rfl⟩
    obtain ⟨I2, HI2⟩ : ∃ I, Hid (erIds t2 = I) := ⟨_, Lib.hid rfl⟩
    obtain ⟨N2, HN2⟩ : ∃ N, Hid (I2.length = N) := ⟨_, Lib.hid rfl⟩
    have hN2 : N2 ≤ 13 := by rw [← HN2.out, ← HI2.out]; have := erIds_len t2; have := HL2.out; omega
    go_wp2_with fail
    refine (pe_i HI2 HG2 (by omega) (Lib.hid (own_En HL2.out HR2.out))).mono ?_
    rintro e W11 ⟨vr, rfl, ho, b⟩
    rw [HN2.out] at ho
    obtain ⟨Ae1, ce1, rfl⟩ := row_slice ho
    have HRe1 := Lib.hid ho
    clear ho
    have H27 := Lib.hid (show St w A n zs W11 from H26.out.step b)
    have H28 := Lib.hid (show W11.ownsRow (W9.heap.size) 25 6 (.slice A2 L2 c2) L2 (flatEn t2) from row_below HR2.out b)
    clear b H26 HR2
    go_wp2_with fail
    refine (pe_m HI2 HG2 (by omega) (Lib.hid (own_En HL2.out H28.out))).mono ?_
    rintro e W12 ⟨vr, rfl, ho, b⟩
    rw [HN2.out] at ho
    obtain ⟨Ae2, ce2, rfl⟩ := row_slice ho
    have HRe2 := Lib.hid ho
    clear ho
    have H29 := Lib.hid (show St w A n zs W12 from H27.out.step b)
    have H30 := Lib.hid (show W12.ownsRow (W9.heap.size) 25 6 (.slice A2 L2 c2) L2 (flatEn t2) from row_below H28.out b)
    have H31 := Lib.hid (show W12.ownsRow (W10.heap.size) 3 1 (.slice Ae1 N2 ce1) N2 (ints.intsV I2) from row_below HRe1.out b)
    clear b H27 H28 HRe1
    go_wp2_with fail
    refine (rints_b (by omega) (Lib.hid (ints.IL.of_own H31.out)) (Lib.hid (ints.IL.of_own HRe2.out))).mono ?_
    rintro e W13 ⟨rfl, b⟩
    have H32 := Lib.hid (show St w A n zs W13 from H29.out.step b)
    have H33 := Lib.hid (show W13.ownsRow (W9.heap.size) 25 6 (.slice A2 L2 c2) L2 (flatEn t2) from row_below H30.out b)
    have H34 := Lib.hid (show W13.ownsRow (W10.heap.size) 3 1 (.slice Ae1 N2 ce1) N2 (ints.intsV I2) from row_below H31.out b)
    have H35 := Lib.hid (show W13.ownsRow (W11.heap.size) 3 1 (.slice Ae2 N2 ce2) N2 (ints.intsV I2) from row_below HRe2.out b)
    clear b H29 H30 H31 HRe2
    clear H34
    clear H35
    clear H33
    go_wp2_with fail
    refine (legOf_draw A n cap zs _ (Lib.hid H32.out.2)).mono ?_
    rintro e W14 ⟨t3, rfl, b⟩
    have H36 := Lib.hid (show St w A n zs W14 from H32.out.step b)
    clear b H32
    go_upto_region 39 with fail
    obtain ⟨W15, HW⟩ : ∃ W15, Hid (W14.alloc (.cells #[.int .i64 t3.frm, .int .i64 t3.to_, .int .i64 t3.tape, .int .i64 t3.comp, .int .i64 t3.slope, .bool t3.back] 25) = W15) := ⟨_, Lib.hid rfl⟩
    have H37 := Lib.hid (show St w A n zs W15 by rw [← HW.out]; exact (H36.out.alloc _))
    have H38 := Lib.hid (show Blk W15 (W14.heap.size) 25 #[.int .i64 t3.frm, .int .i64 t3.to_, .int .i64 t3.tape, .int .i64 t3.comp, .int .i64 t3.slope, .bool t3.back] by rw [← HW.out]; exact Blk.new _ _ _)
    rw [HW.out]
    clear HW H36
    obtain ⟨a3, o3, h3⟩ := lo_form t3
    have H3 := Lib.hid h3
    clear h3
    have q_b1l := H38.out.lt
    have q_b10 : W15.cell? ⟨W14.heap.size, 0, none⟩ = some (.int .i64 t3.frm) := H38.out.cell 0
    have q_b11 : W15.cell? ⟨W14.heap.size, 1, none⟩ = some (.int .i64 t3.to_) := H38.out.cell 1
    have q_b12 : W15.cell? ⟨W14.heap.size, 2, none⟩ = some (.int .i64 t3.tape) := H38.out.cell 2
    have q_b13 : W15.cell? ⟨W14.heap.size, 3, none⟩ = some (.int .i64 t3.comp) := H38.out.cell 3
    have q_b14 : W15.cell? ⟨W14.heap.size, 4, none⟩ = some (.int .i64 t3.slope) := H38.out.cell 4
    have q_b15 : W15.cell? ⟨W14.heap.size, 5, none⟩ = some (.bool t3.back) := H38.out.cell 5
    go_wp2_with fail
    clear q_b1l q_b10 q_b11 q_b12 q_b13 q_b14 q_b15
    refine (lo_i H3).mono ?_
    rintro e W16 ⟨rfl, b⟩
    have H39 := Lib.hid (show St w A n zs W16 from H37.out.step b)
    have H40 := Lib.hid (show Blk W16 (W14.heap.size) 25 #[.int .i64 t3.frm, .int .i64 t3.to_, .int .i64 t3.tape, .int .i64 t3.comp, .int .i64 t3.slope, .bool t3.back] from H38.out.below b H38.out.lt)
    clear b H37 H38
    go_upto_region 40 with fail
    obtain ⟨W17, HW⟩ : ∃ W17, Hid (W16.alloc (.cells #[.int .i64 a3.frm, .int .i64 a3.to_, .int .i64 a3.tape, .int .i64 a3.comp, .int .i64 a3.slope] 29) = W17) := ⟨_, Lib.hid rfl⟩
    have H41 := Lib.hid (show St w A n zs W17 by rw [← HW.out]; exact (H39.out.alloc _))
    have H42 := Lib.hid (show Blk W17 (W14.heap.size) 25 #[.int .i64 t3.frm, .int .i64 t3.to_, .int .i64 t3.tape, .int .i64 t3.comp, .int .i64 t3.slope, .bool t3.back] by rw [← HW.out]; exact (H40.out.alloc _))
    have H43 := Lib.hid (show Blk W17 (W16.heap.size) 29 #[.int .i64 a3.frm, .int .i64 a3.to_, .int .i64 a3.tape, .int .i64 a3.comp, .int .i64 a3.slope] by rw [← HW.out]; exact Blk.new _ _ _)
    rw [HW.out]
    clear HW H39 H40
    have q_b1l := H42.out.lt
    have q_b10 : W17.cell? ⟨W14.heap.size, 0, none⟩ = some (.int .i64 t3.frm) := H42.out.cell 0
    have q_b11 : W17.cell? ⟨W14.heap.size, 1, none⟩ = some (.int .i64 t3.to_) := H42.out.cell 1
    have q_b12 : W17.cell? ⟨W14.heap.size, 2, none⟩ = some (.int .i64 t3.tape) := H42.out.cell 2
    have q_b13 : W17.cell? ⟨W14.heap.size, 3, none⟩ = some (.int .i64 t3.comp) := H42.out.cell 3
    have q_b14 : W17.cell? ⟨W14.heap.size, 4, none⟩ = some (.int .i64 t3.slope) := H42.out.cell 4
    have q_b15 : W17.cell? ⟨W14.heap.size, 5, none⟩ = some (.bool t3.back) := H42.out.cell 5
    go_wp2_with fail
    clear q_b1l q_b10 q_b11 q_b12 q_b13 q_b14 q_b15
    refine (lo_m H3).mono ?_
    rintro e W18 ⟨rfl, b⟩
    have H44 := Lib.hid (show St w A n zs W18 from H41.out.step b)
    have H45 := Lib.hid (show Blk W18 (W14.heap.size) 25 #[.int .i64 t3.frm, .int .i64 t3.to_, .int .i64 t3.tape, .int .i64 t3.comp, .int .i64 t3.slope, .bool t3.back] from H42.out.below b H42.out.lt)
    have H46 := Lib.hid (show Blk W18 (W16.heap.size) 29 #[.int .i64 a3.frm, .int .i64 a3.to_, .int .i64 a3.tape, .int .i64 a3.comp, .int .i64 a3.slope] from H43.out.below b H43.out.lt)
    clear b H41 H42 H43
    go_upto_region 41 with fail
    obtain ⟨W19, HW⟩ : ∃ W19, Hid (W18.alloc (.cells #[.int .i64 a3.frm, .int .i64 a3.to_, .int .i64 a3.tape, .int .i64 a3.comp, .int .i64 a3.slope] 29) = W19) := ⟨_, Lib.hid rfl⟩
    have H47 := Lib.hid (show St w A n zs W19 by rw [← HW.out]; exact (H44.out.alloc _))
    have H48 := Lib.hid (show Blk W19 (W14.heap.size) 25 #[.int .i64 t3.frm, .int .i64 t3.to_, .int .i64 t3.tape, .int .i64 t3.comp, .int .i64 t3.slope, .bool t3.back] by rw [← HW.out]; exact (H45.out.alloc _))
    have H49 := Lib.hid (show Blk W19 (W16.heap.size) 29 #[.int .i64 a3.frm, .int .i64 a3.to_, .int .i64 a3.tape, .int .i64 a3.comp, .int .i64 a3.slope] by rw [← HW.out]; exact (H46.out.alloc _))
    have H50 := Lib.hid (show Blk W19 (W18.heap.size) 29 #[.int .i64 a3.frm, .int .i64 a3.to_, .int .i64 a3.tape, .int .i64 a3.comp, .int .i64 a3.slope] by rw [← HW.out]; exact Blk.new _ _ _)
    rw [HW.out]
    clear HW H44 H45 H46
    have q_b2l := H49.out.lt
    have q_b20 : W19.cell? ⟨W16.heap.size, 0, none⟩ = some (.int .i64 a3.frm) := H49.out.cell 0
    have q_b21 : W19.cell? ⟨W16.heap.size, 1, none⟩ = some (.int .i64 a3.to_) := H49.out.cell 1
    have q_b22 : W19.cell? ⟨W16.heap.size, 2, none⟩ = some (.int .i64 a3.tape) := H49.out.cell 2
    have q_b23 : W19.cell? ⟨W16.heap.size, 3, none⟩ = some (.int .i64 a3.comp) := H49.out.cell 3
    have q_b24 : W19.cell? ⟨W16.heap.size, 4, none⟩ = some (.int .i64 a3.slope) := H49.out.cell 4
    have q_b3l := H50.out.lt
    have q_b30 : W19.cell? ⟨W18.heap.size, 0, none⟩ = some (.int .i64 a3.frm) := H50.out.cell 0
    have q_b31 : W19.cell? ⟨W18.heap.size, 1, none⟩ = some (.int .i64 a3.to_) := H50.out.cell 1
    have q_b32 : W19.cell? ⟨W18.heap.size, 2, none⟩ = some (.int .i64 a3.tape) := H50.out.cell 2
    have q_b33 : W19.cell? ⟨W18.heap.size, 3, none⟩ = some (.int .i64 a3.comp) := H50.out.cell 3
    have q_b34 : W19.cell? ⟨W18.heap.size, 4, none⟩ = some (.int .i64 a3.slope) := H50.out.cell 4
    go_wp2_with fail
    go_ret
    exact ⟨rfl, H47.out.1⟩
  · have HRL := Lib.hid (show R.length = L1 by rw [← HR.out, rv_length HG.out, HL1.out])
    go_wp2_with fail
    refine (rv_i HR HG (by omega) (Lib.hid (own_En HL1.out HR1.out))).mono ?_
    rintro e W2 ⟨vr, rfl, ho, b⟩
    rw [HRL.out] at ho
    obtain ⟨Arg, crg, rfl⟩ := row_slice ho
    have HRrg := Lib.hid ho
    clear ho
    have H2 := Lib.hid (show St w A n zs W2 from H1.out.step b)
    have H3 := Lib.hid (show W2.ownsRow (w.heap.size) 25 6 (.slice A1 L1 c1) L1 (flatEn t1) from row_below HR1.out b)
    clear b H1 HR1
    go_wp2_with fail
    refine (rv_m HR HG (by omega) (Lib.hid (own_En HL1.out H3.out))).mono ?_
    rintro e W3 ⟨vr, rfl, ho, b⟩
    rw [HRL.out] at ho
    obtain ⟨Arw, crw, rfl⟩ := row_slice ho
    have HRrw := Lib.hid ho
    clear ho
    have H4 := Lib.hid (show St w A n zs W3 from H2.out.step b)
    have H5 := Lib.hid (show W3.ownsRow (w.heap.size) 25 6 (.slice A1 L1 c1) L1 (flatEn t1) from row_below H3.out b)
    have H6 := Lib.hid (show W3.ownsRow (W1.heap.size) 25 6 (.slice Arg L1 crg) L1 (flatEn R) from row_below HRrg.out b)
    clear b H2 H3 HRrg
    go_wp2_with fail
    refine (der.rentries_any Arg Arw L1 crg crw R _ (by omega) (Lib.hid (own_En HRL.out H6.out)) (Lib.hid (own_En HRL.out HRrw.out))).mono ?_
    rintro e W4 ⟨rfl, b⟩
    have H7 := Lib.hid (show St w A n zs W4 from H4.out.step b)
    have H8 := Lib.hid (show W4.ownsRow (w.heap.size) 25 6 (.slice A1 L1 c1) L1 (flatEn t1) from row_below H5.out b)
    have H9 := Lib.hid (show W4.ownsRow (W1.heap.size) 25 6 (.slice Arg L1 crg) L1 (flatEn R) from row_below H6.out b)
    have H10 := Lib.hid (show W4.ownsRow (W2.heap.size) 25 6 (.slice Arw L1 crw) L1 (flatEn R) from row_below HRrw.out b)
    clear b H4 H5 H6 HRrw
    clear H10
    go_wp2_with fail
    refine (bl_i HBL (by omega) (Lib.hid (own_En HL1.out H8.out))).mono ?_
    rintro e W5 ⟨rfl, b⟩
    have H11 := Lib.hid (show St w A n zs W5 from H7.out.step b)
    have H12 := Lib.hid (show W5.ownsRow (w.heap.size) 25 6 (.slice A1 L1 c1) L1 (flatEn t1) from row_below H8.out b)
    have H13 := Lib.hid (show W5.ownsRow (W1.heap.size) 25 6 (.slice Arg L1 crg) L1 (flatEn R) from row_below H9.out b)
    clear b H7 H8 H9
    go_wp2_with fail
    refine (bl_m HBL (by omega) (Lib.hid (own_En HL1.out H12.out))).mono ?_
    rintro e W6 ⟨rfl, b⟩
    have H14 := Lib.hid (show St w A n zs W6 from H11.out.step b)
    have H15 := Lib.hid (show W6.ownsRow (w.heap.size) 25 6 (.slice A1 L1 c1) L1 (flatEn t1) from row_below H12.out b)
    have H16 := Lib.hid (show W6.ownsRow (W1.heap.size) 25 6 (.slice Arg L1 crg) L1 (flatEn R) from row_below H13.out b)
    clear b H11 H12 H13
    have HG2 := Lib.hid (show goodEn R = true by rw [← HR.out]; exact rv_good HG.out)
    have HRR := Lib.hid (show rvEn R = t1 by rw [← HR.out]; exact rv_rv HG.out)
    have HBR := Lib.hid (show ansBl R = .tuple #[.int .i64 S, .bool true] by unfold ansBl; rw [if_pos HG2.out, ← HR.out, bsum_rv HG.out, HSB.out (by simp)])
    go_wp2_with fail
    refine (rv_i HRR HG2 (by omega) (Lib.hid (own_En HRL.out H16.out))).mono ?_
    rintro e W7 ⟨vr, rfl, ho, b⟩
    rw [HL1.out] at ho
    obtain ⟨Ara, cra, rfl⟩ := row_slice ho
    have HRra := Lib.hid ho
    clear ho
    have H17 := Lib.hid (show St w A n zs W7 from H14.out.step b)
    have H18 := Lib.hid (show W7.ownsRow (w.heap.size) 25 6 (.slice A1 L1 c1) L1 (flatEn t1) from row_below H15.out b)
    have H19 := Lib.hid (show W7.ownsRow (W1.heap.size) 25 6 (.slice Arg L1 crg) L1 (flatEn R) from row_below H16.out b)
    clear b H14 H15 H16
    go_wp2_with fail
    refine (bl_i HBR (by omega) (Lib.hid (own_En HRL.out H19.out))).mono ?_
    rintro e W8 ⟨rfl, b⟩
    have H20 := Lib.hid (show St w A n zs W8 from H17.out.step b)
    have H21 := Lib.hid (show W8.ownsRow (w.heap.size) 25 6 (.slice A1 L1 c1) L1 (flatEn t1) from row_below H18.out b)
    have H22 := Lib.hid (show W8.ownsRow (W1.heap.size) 25 6 (.slice Arg L1 crg) L1 (flatEn R) from row_below H19.out b)
    have H23 := Lib.hid (show W8.ownsRow (W6.heap.size) 25 6 (.slice Ara L1 cra) L1 (flatEn t1) from row_below HRra.out b)
    clear b H17 H18 H19 HRra
    go_wp2_with fail
    refine (der.rentries_any Ara A1 L1 cra c1 t1 _ (by omega) (Lib.hid (own_En HL1.out H23.out)) (Lib.hid (own_En HL1.out H21.out))).mono ?_
    rintro e W9 ⟨rfl, b⟩
    have H24 := Lib.hid (show St w A n zs W9 from H20.out.step b)
    have H25 := Lib.hid (show W9.ownsRow (w.heap.size) 25 6 (.slice A1 L1 c1) L1 (flatEn t1) from row_below H21.out b)
    have H26 := Lib.hid (show W9.ownsRow (W1.heap.size) 25 6 (.slice Arg L1 crg) L1 (flatEn R) from row_below H22.out b)
    have H27 := Lib.hid (show W9.ownsRow (W6.heap.size) 25 6 (.slice Ara L1 cra) L1 (flatEn t1) from row_below H23.out b)
    clear b H20 H21 H22 H23
    clear H27
    go_wp2_with fail
    go_loopw [16] (fun i wr => ∃ k : Nat, k ≤ L1 ∧ i = .int .i64 k ∧ St w A n zs wr ∧ wr.ownsRow (w.heap.size) 25 6 (.slice A1 L1 c1) L1 (flatEn t1) ∧ wr.ownsRow (W1.heap.size) 25 6 (.slice Arg L1 crg) L1 (flatEn R)) (fun i _ => L1 - (intOf i).toNat)
    case atStart => exact ⟨0, Nat.zero_le _, rfl, H24.out, H25.out, H26.out⟩
    case round =>
      obtain ⟨k, hk, rfl, r_S, r_l1, r_rg⟩ := hrel
      have R_S := Lib.hid r_S
      have R_l1 := Lib.hid r_l1
      have R_rg := Lib.hid r_rg
      clear r_S r_l1 r_rg H24 H25 H26
      by_cases hlt : k < L1
      · obtain ⟨t, htk⟩ := at_lt HL1.out hlt
        obtain ⟨u, hu⟩ : ∃ u, swEn t = u := ⟨_, rfl⟩
        obtain ⟨p, hp⟩ : ∃ p, L1 - 1 - k = p := ⟨_, rfl⟩
        have hup : R[p]? = some u := by rw [← HR.out, ← hp, ← hu, ← HL1.out]; exact rv_at HG.out htk
        have hpl : p < L1 := by omega
        obtain ⟨g1, rfl, hg1, a0, a1, a2, a3, a4, a5⟩ := (own_En HL1.out R_l1.out).2 k t htk
        obtain ⟨g2, rfl, hg2, -, -, -, -, -, -⟩ := (own_En HRL.out R_rg.out).2 p u hup
        have HUP := Lib.hid hup
        obtain ⟨f, oo, p1, ac, z, p2, bc, ha, hb, hc, hac, hz⟩ := lo_pair (goodEn_at HG.out htk) hu
        have HA := Lib.hid ha
        have HBb := Lib.hid hb
        clear ha hb hup htk hu
        have hki : (k : Int) < (L1 : Int) := by omega
        have hk0 : 0 ≤ (k : Int) := by omega
        have hkd : decide (k < L1) = true := by simpa using hlt
        have hpi : (p : Int) < (L1 : Int) := by omega
        have hp0 : 0 ≤ (p : Int) := by omega
        have hs1 : (L1 : Int) - 1 - (k : Int) = (p : Int) := by omega
        have hw1 : IntKind.i64.wrap ((L1 : Int) - 1) = (L1 : Int) - 1 := IntWalk.i64_in _ ⟨by omega, by omega⟩
        have hw2 : IntKind.i64.wrap ((L1 : Int) - 1 - (k : Int)) = (p : Int) := by rw [IntWalk.i64_in _ ⟨by omega, by omega⟩]; exact hs1
        have hw3 : IntKind.i64.wrap (ac + 180) = ac + 180 := IntWalk.i64_in _ ⟨by omega, by omega⟩
        have hw4 : IntKind.i64.wrap (-z) = -z := IntWalk.i64_in _ ⟨by omega, by omega⟩
        clear hp
        go_wp2_with fail
        refine (lo_i HA).mono ?_
        rintro e W10 ⟨rfl, b⟩
        clear a0 a1 a2 a3 a4 a5
        have H28 := Lib.hid (show St w A n zs W10 from R_S.out.step b)
        have H29 := Lib.hid (show W10.ownsRow (w.heap.size) 25 6 (.slice (some ⟨g1, 0, none⟩) L1 c1) L1 (flatEn t1) from row_below R_l1.out b)
        have H30 := Lib.hid (show W10.ownsRow (W1.heap.size) 25 6 (.slice (some ⟨g2, 0, none⟩) L1 crg) L1 (flatEn R) from row_below R_rg.out b)
        clear b R_S R_l1 R_rg
        go_upto_region 21 with fail
        obtain ⟨W11, HW⟩ : ∃ W11, Hid (W10.alloc (.cells #[.int .i64 f, .int .i64 oo, .int .i64 p1, .int .i64 ac, .int .i64 (-z)] 29) = W11) := ⟨_, Lib.hid rfl⟩
        have H31 := Lib.hid (show St w A n zs W11 by rw [← HW.out]; exact (H28.out.alloc _))
        have H32 := Lib.hid (show W11.ownsRow (w.heap.size) 25 6 (.slice (some ⟨g1, 0, none⟩) L1 c1) L1 (flatEn t1) by rw [← HW.out]; exact (H29.out.alloc _))
        have H33 := Lib.hid (show W11.ownsRow (W1.heap.size) 25 6 (.slice (some ⟨g2, 0, none⟩) L1 crg) L1 (flatEn R) by rw [← HW.out]; exact (H30.out.alloc _))
        have H34 := Lib.hid (show Blk W11 (W10.heap.size) 29 #[.int .i64 f, .int .i64 oo, .int .i64 p1, .int .i64 ac, .int .i64 (-z)] by rw [← HW.out]; exact Blk.new _ _ _)
        rw [HW.out]
        clear HW H28 H29 H30
        obtain ⟨g3, e3, -, a0, a1, a2, a3, a4, a5⟩ := (own_En HRL.out H33.out).2 p u HUP.out
        obtain rfl : g2 = g3 := by injection e3 with e3; injection e3
        clear e3
        go_wp2_with fail
        refine (lo_i HBb).mono ?_
        rintro e W12 ⟨rfl, b⟩
        clear a0 a1 a2 a3 a4 a5
        have H35 := Lib.hid (show St w A n zs W12 from H31.out.step b)
        have H36 := Lib.hid (show W12.ownsRow (w.heap.size) 25 6 (.slice (some ⟨g1, 0, none⟩) L1 c1) L1 (flatEn t1) from row_below H32.out b)
        have H37 := Lib.hid (show W12.ownsRow (W1.heap.size) 25 6 (.slice (some ⟨g2, 0, none⟩) L1 crg) L1 (flatEn R) from row_below H33.out b)
        have H38 := Lib.hid (show Blk W12 (W10.heap.size) 29 #[.int .i64 f, .int .i64 oo, .int .i64 p1, .int .i64 ac, .int .i64 (-z)] from H34.out.below b H34.out.lt)
        clear b H31 H32 H33 H34
        go_upto_region 22 with fail
        obtain ⟨W13, HW⟩ : ∃ W13, Hid (W12.alloc (.cells #[.int .i64 oo, .int .i64 f, .int .i64 p2, .int .i64 bc, .int .i64 z] 29) = W13) := ⟨_, Lib.hid rfl⟩
        have H39 := Lib.hid (show St w A n zs W13 by rw [← HW.out]; exact (H35.out.alloc _))
        have H40 := Lib.hid (show W13.ownsRow (w.heap.size) 25 6 (.slice (some ⟨g1, 0, none⟩) L1 c1) L1 (flatEn t1) by rw [← HW.out]; exact (H36.out.alloc _))
        have H41 := Lib.hid (show W13.ownsRow (W1.heap.size) 25 6 (.slice (some ⟨g2, 0, none⟩) L1 crg) L1 (flatEn R) by rw [← HW.out]; exact (H37.out.alloc _))
        have H42 := Lib.hid (show Blk W13 (W10.heap.size) 29 #[.int .i64 f, .int .i64 oo, .int .i64 p1, .int .i64 ac, .int .i64 (-z)] by rw [← HW.out]; exact (H38.out.alloc _))
        have H43 := Lib.hid (show Blk W13 (W12.heap.size) 29 #[.int .i64 oo, .int .i64 f, .int .i64 p2, .int .i64 bc, .int .i64 z] by rw [← HW.out]; exact Blk.new _ _ _)
        rw [HW.out]
        clear HW H35 H36 H37 H38
        have q_xal := H42.out.lt
        have q_xa0 : W13.cell? ⟨W10.heap.size, 0, none⟩ = some (.int .i64 f) := H42.out.cell 0
        have q_xa1 : W13.cell? ⟨W10.heap.size, 1, none⟩ = some (.int .i64 oo) := H42.out.cell 1
        have q_xa2 : W13.cell? ⟨W10.heap.size, 2, none⟩ = some (.int .i64 p1) := H42.out.cell 2
        have q_xa3 : W13.cell? ⟨W10.heap.size, 3, none⟩ = some (.int .i64 ac) := H42.out.cell 3
        have q_xa4 : W13.cell? ⟨W10.heap.size, 4, none⟩ = some (.int .i64 (-z)) := H42.out.cell 4
        have q_xbl := H43.out.lt
        have q_xb0 : W13.cell? ⟨W12.heap.size, 0, none⟩ = some (.int .i64 oo) := H43.out.cell 0
        have q_xb1 : W13.cell? ⟨W12.heap.size, 1, none⟩ = some (.int .i64 f) := H43.out.cell 1
        have q_xb2 : W13.cell? ⟨W12.heap.size, 2, none⟩ = some (.int .i64 p2) := H43.out.cell 2
        have q_xb3 : W13.cell? ⟨W12.heap.size, 3, none⟩ = some (.int .i64 bc) := H43.out.cell 3
        have q_xb4 : W13.cell? ⟨W12.heap.size, 4, none⟩ = some (.int .i64 z) := H43.out.cell 4
        go_wp2_with fail
        go_roundw
        case rel => exact ⟨k + 1, by omega, by go_num, H39.out, H40.out, H41.out⟩
        case measure => simp [intOf]; omega
      · have hkd : decide (k < L1) = false := by simpa using hlt
        have hki : decide ((k : Int) < (L1 : Int)) = false := by simp; omega
        have HG3 := Lib.hid (show goodEn M = true by rw [← HM.out]; exact mg_good HG.out)
        have HMM := Lib.hid (show mgEn M = M by rw [← HM.out]; exact mg_mg HG.out)
        have HIM := Lib.hid (show erIds M = [] by rw [← HM.out]; exact er_none HG.out)
        have HI0 := Lib.hid (show ([] : List Int).length = 0 from rfl)
        clear R_rg
        go_wp2_with fail
        refine (mg_i HM HG (by omega) (Lib.hid (own_En HL1.out R_l1.out))).mono ?_
        rintro e W10 ⟨vr, rfl, ho, b⟩
        rw [HN.out] at ho
        obtain ⟨Ami, cmi, rfl⟩ := row_slice ho
        have HRmi := Lib.hid ho
        clear ho
        have H28 := Lib.hid (show St w A n zs W10 from R_S.out.step b)
        have H29 := Lib.hid (show W10.ownsRow (w.heap.size) 25 6 (.slice A1 L1 c1) L1 (flatEn t1) from row_below R_l1.out b)
        clear b R_S R_l1
        go_wp2_with fail
        refine (mg_m HM HG (by omega) (Lib.hid (own_En HL1.out H29.out))).mono ?_
        rintro e W11 ⟨vr, rfl, ho, b⟩
        rw [HN.out] at ho
        obtain ⟨Amw, cmw, rfl⟩ := row_slice ho
        have HRmw := Lib.hid ho
        clear ho
        have H30 := Lib.hid (show St w A n zs W11 from H28.out.step b)
        have H31 := Lib.hid (show W11.ownsRow (w.heap.size) 25 6 (.slice A1 L1 c1) L1 (flatEn t1) from row_below H29.out b)
        have H32 := Lib.hid (show W11.ownsRow (wr.heap.size) 25 6 (.slice Ami N cmi) N (flatEn M) from row_below HRmi.out b)
        clear b H28 H29 HRmi
        go_wp2_with fail
        refine (der.rentries_any Ami Amw N cmi cmw M _ (by omega) (Lib.hid (own_En HN.out H32.out)) (Lib.hid (own_En HN.out HRmw.out))).mono ?_
        rintro e W12 ⟨rfl, b⟩
        have H33 := Lib.hid (show St w A n zs W12 from H30.out.step b)
        have H34 := Lib.hid (show W12.ownsRow (w.heap.size) 25 6 (.slice A1 L1 c1) L1 (flatEn t1) from row_below H31.out b)
        have H35 := Lib.hid (show W12.ownsRow (wr.heap.size) 25 6 (.slice Ami N cmi) N (flatEn M) from row_below H32.out b)
        have H36 := Lib.hid (show W12.ownsRow (W10.heap.size) 25 6 (.slice Amw N cmw) N (flatEn M) from row_below HRmw.out b)
        clear b H30 H31 H32 HRmw
        clear H36
        go_wp2_with fail
        refine (mg_i HMM HG3 (by omega) (Lib.hid (own_En HN.out H35.out))).mono ?_
        rintro e W13 ⟨vr, rfl, ho, b⟩
        rw [HN.out] at ho
        obtain ⟨Amm, cmm, rfl⟩ := row_slice ho
        have HRmm := Lib.hid ho
        clear ho
        have H37 := Lib.hid (show St w A n zs W13 from H33.out.step b)
        have H38 := Lib.hid (show W13.ownsRow (w.heap.size) 25 6 (.slice A1 L1 c1) L1 (flatEn t1) from row_below H34.out b)
        have H39 := Lib.hid (show W13.ownsRow (wr.heap.size) 25 6 (.slice Ami N cmi) N (flatEn M) from row_below H35.out b)
        clear b H33 H34 H35
        go_wp2_with fail
        refine (pe_i HIM HG3 (by omega) (Lib.hid (own_En HN.out H39.out))).mono ?_
        rintro e W14 ⟨vr, rfl, ho, b⟩
        rw [HI0.out] at ho
        obtain ⟨Ame, cme, rfl⟩ := row_slice ho
        have HRme := Lib.hid ho
        clear ho
        have H40 := Lib.hid (show St w A n zs W14 from H37.out.step b)
        have H41 := Lib.hid (show W14.ownsRow (w.heap.size) 25 6 (.slice A1 L1 c1) L1 (flatEn t1) from row_below H38.out b)
        have H42 := Lib.hid (show W14.ownsRow (wr.heap.size) 25 6 (.slice Ami N cmi) N (flatEn M) from row_below H39.out b)
        have H43 := Lib.hid (show W14.ownsRow (W12.heap.size) 25 6 (.slice Amm N cmm) N (flatEn M) from row_below HRmm.out b)
        clear b H37 H38 H39 HRmm
        go_wp2_with fail
        refine (der.rentries_any Amm Ami N cmm cmi M _ (by omega) (Lib.hid (own_En HN.out H43.out)) (Lib.hid (own_En HN.out H42.out))).mono ?_
        rintro e W15 ⟨rfl, b⟩
        have H44 := Lib.hid (show St w A n zs W15 from H40.out.step b)
        have H45 := Lib.hid (show W15.ownsRow (w.heap.size) 25 6 (.slice A1 L1 c1) L1 (flatEn t1) from row_below H41.out b)
        have H46 := Lib.hid (show W15.ownsRow (wr.heap.size) 25 6 (.slice Ami N cmi) N (flatEn M) from row_below H42.out b)
        have H47 := Lib.hid (show W15.ownsRow (W12.heap.size) 25 6 (.slice Amm N cmm) N (flatEn M) from row_below H43.out b)
        have H48 := Lib.hid (show W15.ownsRow (W13.heap.size) 3 1 (.slice Ame 0 cme) 0 (ints.intsV []) from row_below HRme.out b)
        clear b H40 H41 H42 H43 HRme
        clear H45
        clear H46
        clear H47
        clear H48
        go_wp2_with fail
        refine (pairErrors_draw A n cap zs _ (Lib.hid H44.out.2)).mono ?_
        rintro e W16 ⟨v2, L2, t2, rfl, ho, hl2, hL2, b⟩
        obtain ⟨A2, c2, rfl⟩ := row_slice ho
        have HR2 := Lib.hid ho
        have HL2 := Lib.hid hl2
        clear ho hl2
        have H49 := Lib.hid (show St w A n zs W16 from H44.out.step b)
        clear b H44
        obtain ⟨G2, HG2⟩ : ∃ G, Hid (goodEn t2 = G) := ⟨_, Lib.hid rfl⟩
        obtain ⟨I2, HI2⟩ : ∃ I, Hid (erIds t2 = I) := ⟨_, Lib.hid rfl⟩
        obtain ⟨N2, HN2⟩ : ∃ N, Hid (I2.length = N) := ⟨_, Lib.hid rfl⟩
        have hN2 : N2 ≤ 13 := by rw [← HN2.out, ← HI2.out]; have := erIds_len t2; have := HL2.out; omega
        go_wp2_with fail
        refine (pe_i HI2 HG2 (by omega) (Lib.hid (own_En HL2.out HR2.out))).mono ?_
        rintro e W17 ⟨vr, rfl, ho, b⟩
        rw [HN2.out] at ho
        obtain ⟨Ae1, ce1, rfl⟩ := row_slice ho
        have HRe1 := Lib.hid ho
        clear ho
        have H50 := Lib.hid (show St w A n zs W17 from H49.out.step b)
        have H51 := Lib.hid (show W17.ownsRow (W15.heap.size) 25 6 (.slice A2 L2 c2) L2 (flatEn t2) from row_below HR2.out b)
        clear b H49 HR2
        go_wp2_with fail
        refine (pe_m HI2 HG2 (by omega) (Lib.hid (own_En HL2.out H51.out))).mono ?_
        rintro e W18 ⟨vr, rfl, ho, b⟩
        rw [HN2.out] at ho
        obtain ⟨Ae2, ce2, rfl⟩ := row_slice ho
        have HRe2 := Lib.hid ho
        clear ho
        have H52 := Lib.hid (show St w A n zs W18 from H50.out.step b)
        have H53 := Lib.hid (show W18.ownsRow (W15.heap.size) 25 6 (.slice A2 L2 c2) L2 (flatEn t2) from row_below H51.out b)
        have H54 := Lib.hid (show W18.ownsRow (W16.heap.size) 3 1 (.slice Ae1 N2 ce1) N2 (ints.intsV I2) from row_below HRe1.out b)
        clear b H50 H51 HRe1
        go_wp2_with fail
        refine (rints_b (by omega) (Lib.hid (ints.IL.of_own H54.out)) (Lib.hid (ints.IL.of_own HRe2.out))).mono ?_
        rintro e W19 ⟨rfl, b⟩
        have H55 := Lib.hid (show St w A n zs W19 from H52.out.step b)
        have H56 := Lib.hid (show W19.ownsRow (W15.heap.size) 25 6 (.slice A2 L2 c2) L2 (flatEn t2) from row_below H53.out b)
        have H57 := Lib.hid (show W19.ownsRow (W16.heap.size) 3 1 (.slice Ae1 N2 ce1) N2 (ints.intsV I2) from row_below H54.out b)
        have H58 := Lib.hid (show W19.ownsRow (W17.heap.size) 3 1 (.slice Ae2 N2 ce2) N2 (ints.intsV I2) from row_below HRe2.out b)
        clear b H52 H53 H54 HRe2
        clear H57
        clear H58
        clear H56
        go_wp2_with fail
        refine (legOf_draw A n cap zs _ (Lib.hid H55.out.2)).mono ?_
        rintro e W20 ⟨t3, rfl, b⟩
        have H59 := Lib.hid (show St w A n zs W20 from H55.out.step b)
        clear b H55
        go_upto_region 39 with fail
        obtain ⟨W21, HW⟩ : ∃ W21, Hid (W20.alloc (.cells #[.int .i64 t3.frm, .int .i64 t3.to_, .int .i64 t3.tape, .int .i64 t3.comp, .int .i64 t3.slope, .bool t3.back] 25) = W21) := ⟨_, Lib.hid rfl⟩
        have H60 := Lib.hid (show St w A n zs W21 by rw [← HW.out]; exact (H59.out.alloc _))
        have H61 := Lib.hid (show Blk W21 (W20.heap.size) 25 #[.int .i64 t3.frm, .int .i64 t3.to_, .int .i64 t3.tape, .int .i64 t3.comp, .int .i64 t3.slope, .bool t3.back] by rw [← HW.out]; exact Blk.new _ _ _)
        rw [HW.out]
        clear HW H59
        obtain ⟨a3, o3, h3⟩ := lo_form t3
        have H3 := Lib.hid h3
        clear h3
        have q_b1l := H61.out.lt
        have q_b10 : W21.cell? ⟨W20.heap.size, 0, none⟩ = some (.int .i64 t3.frm) := H61.out.cell 0
        have q_b11 : W21.cell? ⟨W20.heap.size, 1, none⟩ = some (.int .i64 t3.to_) := H61.out.cell 1
        have q_b12 : W21.cell? ⟨W20.heap.size, 2, none⟩ = some (.int .i64 t3.tape) := H61.out.cell 2
        have q_b13 : W21.cell? ⟨W20.heap.size, 3, none⟩ = some (.int .i64 t3.comp) := H61.out.cell 3
        have q_b14 : W21.cell? ⟨W20.heap.size, 4, none⟩ = some (.int .i64 t3.slope) := H61.out.cell 4
        have q_b15 : W21.cell? ⟨W20.heap.size, 5, none⟩ = some (.bool t3.back) := H61.out.cell 5
        go_wp2_with fail
        clear q_b1l q_b10 q_b11 q_b12 q_b13 q_b14 q_b15
        refine (lo_i H3).mono ?_
        rintro e W22 ⟨rfl, b⟩
        have H62 := Lib.hid (show St w A n zs W22 from H60.out.step b)
        have H63 := Lib.hid (show Blk W22 (W20.heap.size) 25 #[.int .i64 t3.frm, .int .i64 t3.to_, .int .i64 t3.tape, .int .i64 t3.comp, .int .i64 t3.slope, .bool t3.back] from H61.out.below b H61.out.lt)
        clear b H60 H61
        go_upto_region 40 with fail
        obtain ⟨W23, HW⟩ : ∃ W23, Hid (W22.alloc (.cells #[.int .i64 a3.frm, .int .i64 a3.to_, .int .i64 a3.tape, .int .i64 a3.comp, .int .i64 a3.slope] 29) = W23) := ⟨_, Lib.hid rfl⟩
        have H64 := Lib.hid (show St w A n zs W23 by rw [← HW.out]; exact (H62.out.alloc _))
        have H65 := Lib.hid (show Blk W23 (W20.heap.size) 25 #[.int .i64 t3.frm, .int .i64 t3.to_, .int .i64 t3.tape, .int .i64 t3.comp, .int .i64 t3.slope, .bool t3.back] by rw [← HW.out]; exact (H63.out.alloc _))
        have H66 := Lib.hid (show Blk W23 (W22.heap.size) 29 #[.int .i64 a3.frm, .int .i64 a3.to_, .int .i64 a3.tape, .int .i64 a3.comp, .int .i64 a3.slope] by rw [← HW.out]; exact Blk.new _ _ _)
        rw [HW.out]
        clear HW H62 H63
        have q_b1l := H65.out.lt
        have q_b10 : W23.cell? ⟨W20.heap.size, 0, none⟩ = some (.int .i64 t3.frm) := H65.out.cell 0
        have q_b11 : W23.cell? ⟨W20.heap.size, 1, none⟩ = some (.int .i64 t3.to_) := H65.out.cell 1
        have q_b12 : W23.cell? ⟨W20.heap.size, 2, none⟩ = some (.int .i64 t3.tape) := H65.out.cell 2
        have q_b13 : W23.cell? ⟨W20.heap.size, 3, none⟩ = some (.int .i64 t3.comp) := H65.out.cell 3
        have q_b14 : W23.cell? ⟨W20.heap.size, 4, none⟩ = some (.int .i64 t3.slope) := H65.out.cell 4
        have q_b15 : W23.cell? ⟨W20.heap.size, 5, none⟩ = some (.bool t3.back) := H65.out.cell 5
        go_wp2_with fail
        clear q_b1l q_b10 q_b11 q_b12 q_b13 q_b14 q_b15
        refine (lo_m H3).mono ?_
        rintro e W24 ⟨rfl, b⟩
        have H67 := Lib.hid (show St w A n zs W24 from H64.out.step b)
        have H68 := Lib.hid (show Blk W24 (W20.heap.size) 25 #[.int .i64 t3.frm, .int .i64 t3.to_, .int .i64 t3.tape, .int .i64 t3.comp, .int .i64 t3.slope, .bool t3.back] from H65.out.below b H65.out.lt)
        have H69 := Lib.hid (show Blk W24 (W22.heap.size) 29 #[.int .i64 a3.frm, .int .i64 a3.to_, .int .i64 a3.tape, .int .i64 a3.comp, .int .i64 a3.slope] from H66.out.below b H66.out.lt)
        clear b H64 H65 H66
        go_upto_region 41 with fail
        obtain ⟨W25, HW⟩ : ∃ W25, Hid (W24.alloc (.cells #[.int .i64 a3.frm, .int .i64 a3.to_, .int .i64 a3.tape, .int .i64 a3.comp, .int .i64 a3.slope] 29) = W25) := ⟨_, Lib.hid rfl⟩
        have H70 := Lib.hid (show St w A n zs W25 by rw [← HW.out]; exact (H67.out.alloc _))
        have H71 := Lib.hid (show Blk W25 (W20.heap.size) 25 #[.int .i64 t3.frm, .int .i64 t3.to_, .int .i64 t3.tape, .int .i64 t3.comp, .int .i64 t3.slope, .bool t3.back] by rw [← HW.out]; exact (H68.out.alloc _))
        have H72 := Lib.hid (show Blk W25 (W22.heap.size) 29 #[.int .i64 a3.frm, .int .i64 a3.to_, .int .i64 a3.tape, .int .i64 a3.comp, .int .i64 a3.slope] by rw [← HW.out]; exact (H69.out.alloc _))
        have H73 := Lib.hid (show Blk W25 (W24.heap.size) 29 #[.int .i64 a3.frm, .int .i64 a3.to_, .int .i64 a3.tape, .int .i64 a3.comp, .int .i64 a3.slope] by rw [← HW.out]; exact Blk.new _ _ _)
        rw [HW.out]
        clear HW H67 H68 H69
        have q_b2l := H72.out.lt
        have q_b20 : W25.cell? ⟨W22.heap.size, 0, none⟩ = some (.int .i64 a3.frm) := H72.out.cell 0
        have q_b21 : W25.cell? ⟨W22.heap.size, 1, none⟩ = some (.int .i64 a3.to_) := H72.out.cell 1
        have q_b22 : W25.cell? ⟨W22.heap.size, 2, none⟩ = some (.int .i64 a3.tape) := H72.out.cell 2
        have q_b23 : W25.cell? ⟨W22.heap.size, 3, none⟩ = some (.int .i64 a3.comp) := H72.out.cell 3
        have q_b24 : W25.cell? ⟨W22.heap.size, 4, none⟩ = some (.int .i64 a3.slope) := H72.out.cell 4
        have q_b3l := H73.out.lt
        have q_b30 : W25.cell? ⟨W24.heap.size, 0, none⟩ = some (.int .i64 a3.frm) := H73.out.cell 0
        have q_b31 : W25.cell? ⟨W24.heap.size, 1, none⟩ = some (.int .i64 a3.to_) := H73.out.cell 1
        have q_b32 : W25.cell? ⟨W24.heap.size, 2, none⟩ = some (.int .i64 a3.tape) := H73.out.cell 2
        have q_b33 : W25.cell? ⟨W24.heap.size, 3, none⟩ = some (.int .i64 a3.comp) := H73.out.cell 3
        have q_b34 : W25.cell? ⟨W24.heap.size, 4, none⟩ = some (.int .i64 a3.slope) := H73.out.cell 4
        go_wp2_with fail
        go_ret
        exact ⟨rfl, H70.out.1⟩
end Go.Proofs.Ytnlljdepcldibaa.rvw
