/-
  FnExactGoOnTrip holds: at every argument GoOnTrip answers as its model answers, its answer owns its memory, and the arguments read behind the call as they read before it.
  Conditions: none of our own.
-/
import Derived.Test.YtidofckanadkpaaPiF
import Derived.Test.YtidofckanadkpaaTyPsH
import Derived.Test.YtidofckanadkpaaEnd
import Derived.Test.YtidofckanadkpaaRows
import Derived.WalkKit
import Derived.ProofKit
import Derived.OpenShut
import Derived.Carry
namespace Go.Proofs.Ytidofckanadkpaa.fnExactGoOnTrip
open Go.ChangeShapes Go.WideShapes Go.ChangeAt Go.RowKit
open Go.ChangeMaps (open_string shut_string)
open reads base ty rowi pq
set_option linter.unusedVariables false
set_option linter.unusedSimpArgs false

theorem own : ownKnob Try.prog.godebug = none := by kernel_rfl
def LawPost (w : World) (e : Ending) (w' : World) : Prop := e = .returned (.bool true) ∧ Below w.heap.size w w'
theorem row_below {w w' : World} {base size n : Nat} {e : TypeId} {v : Value} {xs : List Value} (h : w.ownsRow base e size v n xs) (hb : Below w.heap.size w w') : w'.ownsRow base e size v n xs := h.kept (row := none) ⟨hb.os, hb.tape, hb.output, hb.size, fun j hj _ => hb.block j hj⟩ (by cases v.ownBlock <;> simp)
set_option maxHeartbeats 8000000 in
set_option maxRecDepth 100000 in
theorem walk (A0 : Option Addr) (n0 c0 : Nat) (t0 : List Ps) (A1 : Option Addr) (n1 c1 : Nat) (t1 : List Int) (w : World) (hm0 : n0 ≤ maxLen) (HA0 : Hid (ty.ArgPs w w.heap.size A0 n0 t0)) (hzp0 : Hid (∀ t ∈ t0, ty.ZPs t)) (hm1 : n1 ≤ maxLen) (HA1 : Hid (ty.ArgIn w w.heap.size A1 n1 t1)) : Calls Try.prog 11 #[.slice A0 n0 c0, .slice A1 n1 c1] w (LawPost w) := by
  by_cases big1 : 1048576 < n1
  · unfold maxLen at hm0 hm1
    have hb1 : decide ((1048576 : Int) < (n1 : Int)) = true := by simp; omega
    have hb1' : decide (1048576 < n1) = true := by simpa using big1
    go_enter Try.func11, Try.ntmps11
    go_wp2_with fail
    go_ret
    exact ⟨rfl, Below.refl _ _⟩
  have hb1 : decide ((1048576 : Int) < (n1 : Int)) = false := by simp; omega
  have hb1' : decide (1048576 < n1) = false := by simpa using big1
  have hn1 : n1 ≤ 1048576 := by omega
  clear big1
  unfold maxLen at hm0 hm1
  go_enter Try.func11, Try.ntmps11
  go_wp2_with fail
  have l0 : (0 : Int) ≤ 1048576 := by decide
  have HBr := Lib.hid (Below.refl w.heap.size w)
  have HArg := Lib.hid (ty.more_person (HA0.out.below HBr.out) HBr.out.size)
  refine (ty.sz_person A0 n0 c0 t0 (1048576) _ (by unfold maxLen; omega) (by omega) (by omega) HArg hzp0).mono ?_
  rintro e W1 ⟨z0, rfl, hz0, b⟩
  clear HArg
  have H1 := Lib.hid (HBr.out.trans (b.mono HBr.out.size))
  clear b HBr
  by_cases neg0 : z0 < 0
  · have hd : decide (z0 < 0) = true := by simpa using neg0
    go_wp2_with fail
    go_ret
    exact ⟨rfl, H1.out⟩
  obtain ⟨zl0, hnz0, hZ0⟩ := hz0 (by omega)
  have hn0 : n0 ≤ 1048576 := by omega
  have HZ0 := Lib.hid (show ∀ t ∈ t0, t.name.size ≤ 1048576 from fun t ht => by have := hZ0 t ht; omega)
  have zd0 : decide (z0 < 0) = false := by simp; omega
  clear hz0 hZ0
  have hrl0 : (gtPs t0 t1).length ≤ 2000000 := by unfold gtPs gone; split; (have := HA0.out.1; rw [List.length_map]; omega); simp
  obtain ⟨N0, HN0⟩ : ∃ N, Hid ((gtPs t0 t1).length = N) := ⟨_, Lib.hid rfl⟩
  rw [HN0.out] at hrl0
  have hz0 : w.heap.size ≤ W1.heap.size := H1.out.size
  go_wp2_with fail
  have HArg := Lib.hid (ty.more_person (HA0.out.below H1.out) H1.out.size)
  refine (ty.to_personS A0 n0 c0 t0 W1 hn0 HArg).mono ?_
  rintro e W2 ⟨rfl, ⟨cs_p0, hk, hf⟩, b⟩
  have HF_p0 := Lib.hid hf
  clear hf HArg
  have hz_W2 : W1.heap.size ≤ W2.heap.size := b.size
  have H2 := Lib.hid (H1.out.trans (b.mono H1.out.size))
  clear b H1
  have H3 := Lib.hid hk
  clear hk
  have hlt_p0 := H3.out.lt
  go_wp2_with fail
  have HArg := Lib.hid (ty.more_int (HA1.out.below H2.out) H2.out.size)
  refine (ty.to_intS A1 n1 c1 t1 W2 hn1 HArg).mono ?_
  rintro e W3 ⟨rfl, ⟨cs_p1, hk, hf⟩, b⟩
  have HF_p1 := Lib.hid hf
  clear hf HArg
  have hz_W3 : W2.heap.size ≤ W3.heap.size := b.size
  have H4 := Lib.hid (H2.out.trans (b.mono H2.out.size))
  have H5 := Lib.hid (show Blk W3 W1.heap.size 41 cs_p0 from H3.out.below b H3.out.lt)
  clear b H2 H3
  have H6 := Lib.hid hk
  clear hk
  have hlt_p1 := H6.out.lt
  go_wp2_with fail
  have HL0 := Lib.hid ((ty.FillPs.at_ HF_p0.out HA0.out.1 H5.out).more (by exact H5.out.lt))
  have HL1 := Lib.hid ((ty.FillIn.at_ HF_p1.out HA1.out.1 H6.out).more (by exact H6.out.lt))
  refine (pq.goOnTrip_model _ n0 _ t0 _ n1 _ t1 _ (by omega) (by omega) HZ0 HL0 HL1).mono ?_
  rintro e W4 ⟨vw0, rfl, ho0, b⟩
  rw [HN0.out] at ho0
  obtain ⟨Aw0, cw0, rfl⟩ := base.row_slice ho0
  have HO_w0 := Lib.hid (show W4.ownsRow W3.heap.size 41 4 (.slice Aw0 N0 cw0) N0 (ty.flatPs (gtPs t0 t1)) from ho0)
  have HU_w0 := Lib.hid (show ∀ g, (Value.slice Aw0 N0 cw0).ownBlock = some g → W3.heap.size ≤ g ∧ g < W4.heap.size from fun g e => ho0.lt g e)
  clear ho0
  clear HL0 HL1
  have hz_W4 : W3.heap.size ≤ W4.heap.size := b.size
  have H7 := Lib.hid (H4.out.trans (b.mono H4.out.size))
  have H8 := Lib.hid (show Blk W4 W1.heap.size 41 cs_p0 from H5.out.below b H5.out.lt)
  have H9 := Lib.hid (show Blk W4 W2.heap.size 3 cs_p1 from H6.out.below b H6.out.lt)
  clear b H4 H5 H6
  go_wp2_with fail
  have HArg := Lib.hid (ty.more_person (HA0.out.below H7.out) H7.out.size)
  refine (ty.to_personS A0 n0 c0 t0 W4 hn0 HArg).mono ?_
  rintro e W5 ⟨rfl, ⟨cs_x0, hk, hf⟩, b⟩
  have HF_x0 := Lib.hid hf
  clear hf HArg
  have hz_W5 : W4.heap.size ≤ W5.heap.size := b.size
  have H10 := Lib.hid (row_below HO_w0.out b)
  clear HO_w0
  have H11 := Lib.hid (H7.out.trans (b.mono H7.out.size))
  clear b H7
  have H12 := Lib.hid hk
  clear hk
  have hlt_x0 := H12.out.lt
  go_wp2_with fail
  have HArg := Lib.hid (ty.more_int (HA1.out.below H11.out) H11.out.size)
  refine (ty.to_intS A1 n1 c1 t1 W5 hn1 HArg).mono ?_
  rintro e W6 ⟨rfl, ⟨cs_x1, hk, hf⟩, b⟩
  have HF_x1 := Lib.hid hf
  clear hf HArg
  have hz_W6 : W5.heap.size ≤ W6.heap.size := b.size
  have H13 := Lib.hid (row_below H10.out b)
  clear H10
  have H14 := Lib.hid (H11.out.trans (b.mono H11.out.size))
  have H15 := Lib.hid (show Blk W6 W4.heap.size 41 cs_x0 from H12.out.below b H12.out.lt)
  clear b H11 H12
  have H16 := Lib.hid hk
  clear hk
  have hlt_x1 := H16.out.lt
  go_wp2_with fail
  have HL0 := Lib.hid ((ty.FillPs.at_ HF_x0.out HA0.out.1 H15.out).more (by exact H15.out.lt))
  have HL1 := Lib.hid ((ty.FillIn.at_ HF_x1.out HA1.out.1 H16.out).more (by exact H16.out.lt))
  refine (pi5.goOnTrip_is _ n0 _ t0 _ n1 _ t1 _ _ _ (Lib.hid rfl) (Lib.hid rfl) (by omega) (by omega) HZ0 HL0 HL1).mono ?_
  rintro e W7 ⟨vg0, rfl, ho0, b⟩
  rw [HN0.out] at ho0
  obtain ⟨Ag0, cg0, rfl⟩ := base.row_slice ho0
  have HO_g0 := Lib.hid (show W7.ownsRow W6.heap.size 41 4 (.slice Ag0 N0 cg0) N0 (ty.flatPs (gtPs t0 t1)) from ho0)
  have HU_g0 := Lib.hid (show ∀ g, (Value.slice Ag0 N0 cg0).ownBlock = some g → W6.heap.size ≤ g ∧ g < W7.heap.size from fun g e => ho0.lt g e)
  clear ho0
  clear HL0 HL1
  have hz_W7 : W6.heap.size ≤ W7.heap.size := b.size
  have H17 := Lib.hid (row_below H13.out b)
  clear H13
  have H18 := Lib.hid (H14.out.trans (b.mono H14.out.size))
  have H19 := Lib.hid (show Blk W7 W4.heap.size 41 cs_x0 from H15.out.below b H15.out.lt)
  have H20 := Lib.hid (show Blk W7 W5.heap.size 3 cs_x1 from H16.out.below b H16.out.lt)
  clear b H14 H15 H16
  go_wp2_with fail
  refine (ty.eq_personS Ag0 Aw0 N0 cg0 cw0 (gtPs t0 t1) _ hrl0 (Lib.hid (ty.own_Ps HN0.out HO_g0.out)) (Lib.hid (ty.own_Ps HN0.out H17.out))).mono ?_
  rintro e W8 ⟨rfl, b⟩
  have hz_W8 : W7.heap.size ≤ W8.heap.size := b.size
  have H21 := Lib.hid (row_below H17.out b)
  clear H17
  have H22 := Lib.hid (row_below HO_g0.out b)
  clear HO_g0
  have H23 := Lib.hid (H18.out.trans (b.mono H18.out.size))
  have H24 := Lib.hid (show Blk W8 W4.heap.size 41 cs_x0 from H19.out.below b H19.out.lt)
  have H25 := Lib.hid (show Blk W8 W5.heap.size 3 cs_x1 from H20.out.below b H20.out.lt)
  clear b H18 H19 H20
  go_wp2_with fail
  have HArg := Lib.hid (ty.more_person (HA0.out.below H23.out) H23.out.size)
  refine (ty.to_personS A0 n0 c0 t0 W8 hn0 HArg).mono ?_
  rintro e W9 ⟨rfl, ⟨cs_z0, hk, hf⟩, b⟩
  have HF_z0 := Lib.hid hf
  clear hf HArg
  have hz_W9 : W8.heap.size ≤ W9.heap.size := b.size
  have H26 := Lib.hid (row_below H21.out b)
  clear H21
  have H27 := Lib.hid (row_below H22.out b)
  clear H22
  have H28 := Lib.hid (H23.out.trans (b.mono H23.out.size))
  have H29 := Lib.hid (show Blk W9 W4.heap.size 41 cs_x0 from H24.out.below b H24.out.lt)
  have H30 := Lib.hid (show Blk W9 W5.heap.size 3 cs_x1 from H25.out.below b H25.out.lt)
  clear b H23 H24 H25
  have H31 := Lib.hid hk
  clear hk
  have hlt_z0 := H31.out.lt
  go_wp2_with fail
  have HLx := Lib.hid ((ty.FillPs.at_ HF_x0.out HA0.out.1 H29.out).more (by exact H29.out.lt))
  have HLz := Lib.hid ((ty.FillPs.at_ HF_z0.out HA0.out.1 H31.out).more (by exact H31.out.lt))
  refine (ty.eq_personS _ _ n0 _ _ t0 _ (by omega) HLx HLz).mono ?_
  rintro e W10 ⟨rfl, b⟩
  clear HLx HLz
  have hz_W10 : W9.heap.size ≤ W10.heap.size := b.size
  have H32 := Lib.hid (row_below H26.out b)
  clear H26
  have H33 := Lib.hid (row_below H27.out b)
  clear H27
  have H34 := Lib.hid (H28.out.trans (b.mono H28.out.size))
  have H35 := Lib.hid (show Blk W10 W4.heap.size 41 cs_x0 from H29.out.below b H29.out.lt)
  have H36 := Lib.hid (show Blk W10 W5.heap.size 3 cs_x1 from H30.out.below b H30.out.lt)
  have H37 := Lib.hid (show Blk W10 W8.heap.size 41 cs_z0 from H31.out.below b H31.out.lt)
  clear b H28 H29 H30 H31
  go_wp2_with fail
  have HArg := Lib.hid (ty.more_int (HA1.out.below H34.out) H34.out.size)
  refine (ty.to_intS A1 n1 c1 t1 W10 hn1 HArg).mono ?_
  rintro e W11 ⟨rfl, ⟨cs_z1, hk, hf⟩, b⟩
  have HF_z1 := Lib.hid hf
  clear hf HArg
  have hz_W11 : W10.heap.size ≤ W11.heap.size := b.size
  have H38 := Lib.hid (row_below H32.out b)
  clear H32
  have H39 := Lib.hid (row_below H33.out b)
  clear H33
  have H40 := Lib.hid (H34.out.trans (b.mono H34.out.size))
  have H41 := Lib.hid (show Blk W11 W4.heap.size 41 cs_x0 from H35.out.below b H35.out.lt)
  have H42 := Lib.hid (show Blk W11 W5.heap.size 3 cs_x1 from H36.out.below b H36.out.lt)
  clear b H34 H35 H36
  have H43 := Lib.hid hk
  clear hk
  have hlt_z1 := H43.out.lt
  go_wp2_with fail
  have HLx := Lib.hid ((ty.FillIn.at_ HF_x1.out HA1.out.1 H42.out).more (by exact H42.out.lt))
  have HLz := Lib.hid ((ty.FillIn.at_ HF_z1.out HA1.out.1 H43.out).more (by exact H43.out.lt))
  refine (ty.eq_intS _ _ n1 _ _ t1 _ (by omega) HLx HLz).mono ?_
  rintro e W12 ⟨rfl, b⟩
  clear HLx HLz
  have hz_W12 : W11.heap.size ≤ W12.heap.size := b.size
  have H44 := Lib.hid (row_below H38.out b)
  clear H38
  have H45 := Lib.hid (row_below H39.out b)
  clear H39
  have H46 := Lib.hid (H40.out.trans (b.mono H40.out.size))
  have H47 := Lib.hid (show Blk W12 W4.heap.size 41 cs_x0 from H41.out.below b H41.out.lt)
  have H48 := Lib.hid (show Blk W12 W5.heap.size 3 cs_x1 from H42.out.below b H42.out.lt)
  have H49 := Lib.hid (show Blk W12 W10.heap.size 3 cs_z1 from H43.out.below b H43.out.lt)
  clear b H40 H41 H42 H43
  go_wp2_with fail
  have HRM := Lib.hid (base.row_blk (base := 0) H47.out (Nat.zero_le _) (by unfold maxLen; omega) HF_x0.out.1)
  refine (ty.mark_personS 0 n0 _ _ (1) _ (by omega) (by omega) (by omega) HRM).mono ?_
  rintro e W13 ⟨rfl, -, hgr0⟩
  have hgr : W12.grownBy W13 (some W4.heap.size) := hgr0
  clear hgr0 HRM
  have hz_W13 : W12.heap.size ≤ W13.heap.size := hgr.size
  have H50 := Lib.hid (H46.out.grown hgr H46.out.size (fun g' e => by injection e with e; omega))
  have H51 := Lib.hid (show Blk W13 W5.heap.size 3 cs_x1 from H48.out.grown hgr (by intro e; injection e with e; omega))
  have H52 := Lib.hid (H44.out.kept hgr (.inr (fun e => by have := HU_w0.out _ e; omega)))
  have H53 := Lib.hid (H45.out.kept hgr (.inr (fun e => by have := HU_g0.out _ e; omega)))
  clear hgr H46 H48 H44 H45
  go_wp2_with fail
  have HRM := Lib.hid (ty.fill_row (base := 0) H51.out (Nat.zero_le _) (by unfold maxLen; omega) HF_x1.out HA1.out.1)
  refine (ints.mark_any 0 n1 _ t1 (1 + 4 * (n0 : Int)) _ (by omega) (by omega) (by omega) HRM).mono ?_
  rintro e W14 ⟨rfl, -, hgr0⟩
  have hgr : W13.grownBy W14 (some W5.heap.size) := hgr0
  clear hgr0 HRM
  have hz_W14 : W13.heap.size ≤ W14.heap.size := hgr.size
  have H54 := Lib.hid (H50.out.grown hgr H50.out.size (fun g' e => by injection e with e; omega))
  have H55 := Lib.hid (H52.out.kept hgr (.inr (fun e => by have := HU_w0.out _ e; omega)))
  have H56 := Lib.hid (H53.out.kept hgr (.inr (fun e => by have := HU_g0.out _ e; omega)))
  clear hgr H50 H52 H53
  go_wp2_with fail
  refine (ty.eq_personS Ag0 Aw0 N0 cg0 cw0 (gtPs t0 t1) _ hrl0 (Lib.hid (ty.own_Ps HN0.out H56.out)) (Lib.hid (ty.own_Ps HN0.out H55.out))).mono ?_
  rintro e W15 ⟨rfl, b⟩
  have hz_W15 : W14.heap.size ≤ W15.heap.size := b.size
  have H57 := Lib.hid (row_below H55.out b)
  clear H55
  have H58 := Lib.hid (row_below H56.out b)
  clear H56
  have H59 := Lib.hid (H54.out.trans (b.mono H54.out.size))
  clear b H54
  go_wp2_with fail
  refine (ty.mark_personS _ N0 _ _ (1) _ hrl0 (by omega) (by omega) H58).mono ?_
  rintro e W16 ⟨rfl, ho, hgr⟩
  have HM0 := Lib.hid ho
  clear ho
  have hz_W16 : W15.heap.size ≤ W16.heap.size := hgr.size
  have H60 := Lib.hid (H59.out.grown hgr H59.out.size (fun g e => by have := (HU_g0.out g e).1; omega))
  have H61 := Lib.hid (H57.out.kept hgr (by
      cases q : (Value.slice Aw0 N0 cw0).ownBlock with
      | none => exact .inl rfl
      | some g => exact .inr (fun e => by have h1 := HU_w0.out g q; have h2 := HU_g0.out g e.symm; omega)))
  clear hgr H59 H57
  go_wp2_with fail
  refine (ty.held_personS _ Ag0 N0 cg0 (1) _ hrl0 (by omega) (by omega) HM0).mono ?_
  rintro e W17 ⟨rfl, b⟩
  have hz_W17 : W16.heap.size ≤ W17.heap.size := b.size
  have H62 := Lib.hid (row_below H61.out b)
  clear H61
  have H63 := Lib.hid (row_below HM0.out b)
  clear HM0
  have H64 := Lib.hid (H60.out.trans (b.mono H60.out.size))
  clear b H60
  go_wp2_with fail
  have HArg := Lib.hid (ty.more_person (HA0.out.below H64.out) H64.out.size)
  refine (ty.to_personS A0 n0 c0 t0 W17 hn0 HArg).mono ?_
  rintro e W18 ⟨rfl, ⟨cs_y0, hk, hf⟩, b⟩
  have HF_y0 := Lib.hid hf
  clear hf HArg
  have hz_W18 : W17.heap.size ≤ W18.heap.size := b.size
  have H65 := Lib.hid (row_below H62.out b)
  clear H62
  have H66 := Lib.hid (row_below H63.out b)
  clear H63
  have H67 := Lib.hid (H64.out.trans (b.mono H64.out.size))
  clear b H64
  have H68 := Lib.hid hk
  clear hk
  have hlt_y0 := H68.out.lt
  go_wp2_with fail
  have HArg := Lib.hid (ty.more_int (HA1.out.below H67.out) H67.out.size)
  refine (ty.to_intS A1 n1 c1 t1 W18 hn1 HArg).mono ?_
  rintro e W19 ⟨rfl, ⟨cs_y1, hk, hf⟩, b⟩
  have HF_y1 := Lib.hid hf
  clear hf HArg
  have hz_W19 : W18.heap.size ≤ W19.heap.size := b.size
  have H69 := Lib.hid (row_below H65.out b)
  clear H65
  have H70 := Lib.hid (row_below H66.out b)
  clear H66
  have H71 := Lib.hid (H67.out.trans (b.mono H67.out.size))
  have H72 := Lib.hid (show Blk W19 W17.heap.size 41 cs_y0 from H68.out.below b H68.out.lt)
  clear b H67 H68
  have H73 := Lib.hid hk
  clear hk
  have hlt_y1 := H73.out.lt
  go_wp2_with fail
  have HL0 := Lib.hid ((ty.FillPs.at_ HF_y0.out HA0.out.1 H72.out).more (by exact H72.out.lt))
  have HL1 := Lib.hid ((ty.FillIn.at_ HF_y1.out HA1.out.1 H73.out).more (by exact H73.out.lt))
  refine (pi5.goOnTrip_is _ n0 _ t0 _ n1 _ t1 _ _ _ (Lib.hid rfl) (Lib.hid rfl) (by omega) (by omega) HZ0 HL0 HL1).mono ?_
  rintro e W20 ⟨vh0, rfl, ho0, b⟩
  rw [HN0.out] at ho0
  obtain ⟨Ah0, ch0, rfl⟩ := base.row_slice ho0
  have HO_h0 := Lib.hid (show W20.ownsRow W19.heap.size 41 4 (.slice Ah0 N0 ch0) N0 (ty.flatPs (gtPs t0 t1)) from ho0)
  have HU_h0 := Lib.hid (show ∀ g, (Value.slice Ah0 N0 ch0).ownBlock = some g → W19.heap.size ≤ g ∧ g < W20.heap.size from fun g e => ho0.lt g e)
  clear ho0
  clear HL0 HL1
  have hz_W20 : W19.heap.size ≤ W20.heap.size := b.size
  have H74 := Lib.hid (row_below H69.out b)
  clear H69
  have H75 := Lib.hid (row_below H70.out b)
  clear H70
  have H76 := Lib.hid (H71.out.trans (b.mono H71.out.size))
  have H77 := Lib.hid (show Blk W20 W17.heap.size 41 cs_y0 from H72.out.below b H72.out.lt)
  have H78 := Lib.hid (show Blk W20 W18.heap.size 3 cs_y1 from H73.out.below b H73.out.lt)
  clear b H71 H72 H73
  go_wp2_with fail
  refine (ty.eq_personS Ah0 Aw0 N0 ch0 cw0 (gtPs t0 t1) _ hrl0 (Lib.hid (ty.own_Ps HN0.out HO_h0.out)) (Lib.hid (ty.own_Ps HN0.out H74.out))).mono ?_
  rintro e W21 ⟨rfl, b⟩
  have hz_W21 : W20.heap.size ≤ W21.heap.size := b.size
  have H79 := Lib.hid (row_below H74.out b)
  clear H74
  have H80 := Lib.hid (row_below H75.out b)
  clear H75
  have H81 := Lib.hid (row_below HO_h0.out b)
  clear HO_h0
  have H82 := Lib.hid (H76.out.trans (b.mono H76.out.size))
  have H83 := Lib.hid (show Blk W21 W17.heap.size 41 cs_y0 from H77.out.below b H77.out.lt)
  have H84 := Lib.hid (show Blk W21 W18.heap.size 3 cs_y1 from H78.out.below b H78.out.lt)
  clear b H76 H77 H78
  go_wp2_with fail
  refine (ty.held_personS _ Ag0 N0 cg0 (1) _ hrl0 (by omega) (by omega) H80).mono ?_
  rintro e W22 ⟨rfl, b⟩
  have hz_W22 : W21.heap.size ≤ W22.heap.size := b.size
  have H85 := Lib.hid (row_below H79.out b)
  clear H79
  have H86 := Lib.hid (row_below H80.out b)
  clear H80
  have H87 := Lib.hid (row_below H81.out b)
  clear H81
  have H88 := Lib.hid (H82.out.trans (b.mono H82.out.size))
  have H89 := Lib.hid (show Blk W22 W17.heap.size 41 cs_y0 from H83.out.below b H83.out.lt)
  have H90 := Lib.hid (show Blk W22 W18.heap.size 3 cs_y1 from H84.out.below b H84.out.lt)
  clear b H82 H83 H84
  go_wp2_with fail
  go_ret
  exact ⟨rfl, H88.out⟩

theorem laidOut : laidOutB Try.prog = true := by kernel_rfl
set_option maxRecDepth 100000 in
theorem lifted (os : Os) (started : os.Started) (H : Type) (enc : TypeId × Value → H) :
    ReturnsInHanded {} Try.checked os 11 .any (Rows.fnExactGoOnTripSpec.pre6 enc Try.prog Try.f11 Rows.fnExactGoOnTripRow.domain false) (Rows.fnExactGoOnTripSpec.post enc Try.prog Try.f11 false true false false) := by
  refine returnsInHanded_of_change (C := Try.checked) own started (by kernel_rfl) Try.func11
    (ChangeSpec.witness6 (enc := enc) (C := Try.checked) false ⟨#[], #[.slice none 0 0, .slice none 0 0], []⟩ 8 (by kernel_rfl) (by kernel_rfl) (by kernel_rfl) (by kernel_rfl)) ?_
  intro W base args ds gs before hval0 hW hcnd _
  have hval : ∀ (j : Nat) t v, Try.f11.params[j]? = some t → args[j]? = some v → Value.okWide Try.prog W .any base t v := hval0
  have hW' := hW
  obtain ⟨p, q, hA0, hV, rfl, hfz, hnd⟩ := hW
  have hA : DataW.TrodAll enc Try.prog W 0 (fun _ => true) true Try.f11.params.toList args.toList ds p := hA0
  rw [Try.params11] at hA hval
  obtain ⟨v0, vs0, d0, ds0, p0, q0, hargs, rfl, rfl, h0, r0⟩ := trodAll_cons hA
  obtain ⟨v1, vs1, d1, ds1, p1, q1, rfl, rfl, rfl, h1, r1⟩ := trodAll_cons r0
  obtain ⟨rfl, rfl, rfl⟩ := trodAll_nil r1
  obtain rfl : args = #[v0, v1] := by cases args; simp_all
  obtain ⟨rfl, rfl⟩ := trodVars_none hV
  have k0 := h0
  have lt0 : ∀ x ∈ p0, x.block < W.heap.size := by obtain ⟨m, hm⟩ := k0; exact DataW.trod_lt m _ _ _ hm
  obtain ⟨A0, n0, c0, t0, rfl, HA0, hm0, hzp0⟩ := ty.open_personS (hval 0 54 v0 rfl rfl) h0
  have k1 := h1
  have lt1 : ∀ x ∈ p1, x.block < W.heap.size := by obtain ⟨m, hm⟩ := k1; exact DataW.trod_lt m _ _ _ hm
  obtain ⟨A1, n1, c1, t1, rfl, HA1, hm1⟩ := ty.open_intS (hval 1 27 v1 rfl rfl) h1
  clear hA0 hval0
  refine (walk A0 n0 c0 t0 A1 n1 c1 t1 W hm0 (Lib.hid HA0) (Lib.hid hzp0) hm1 (Lib.hid HA1)).mono fun e W' ⟨he, bel⟩ => ?_
  subst he
  exact ⟨_, rfl, _, _, _, [], _, [], hW', trodAll_mk1 (shut_bool Try.underlying4 _), (trodAll_cons_mk (Below.trod laidOut (by kernel_rfl) (of_decide_eq_true (by kernel_rfl)) k0 bel lt0) (trodAll_cons_mk (Below.trod laidOut (by kernel_rfl) (of_decide_eq_true (by kernel_rfl)) k1 bel lt1) trodAll_mk0)), rfl, bel.frame _, fun h => by cases h⟩

theorem over : Rows.fnExactGoOnTripRow.holds Try.pinned (OpenSpec.ofChange Rows.fnExactGoOnTripSpec) :=
  OpenClaim.holds_of_wide 11 Try.f11 rfl rfl rfl rfl rfl rfl rfl ⟨rfl, rfl, rfl, rfl, rfl⟩ rfl rfl rfl rfl rfl (by kernel_rfl) Try.func11 (by kernel_rfl)
    (of_decide_eq_true (by kernel_rfl)) (by unfold Func.isWrapper; first | (rw [if_pos (by decide +kernel)]; kernel_rfl) | (rw [if_neg (by decide +kernel)]; exact ⟨rfl, rfl⟩))
    (fun os started H enc _ => lifted os started H enc)

theorem proved : Rows.FnExactGoOnTripSaid := over
#print axioms proved
end Go.Proofs.Ytidofckanadkpaa.fnExactGoOnTrip
