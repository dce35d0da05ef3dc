/-
  FnExactExtentOf holds: at every argument ExtentOf answers as its model answers, and the arguments read behind the call as they read before it.
  Conditions: none of our own.
-/
import Derived.Test.YtnoieboiklmkaaaDoorNqJ
import Derived.Test.YtnoieboiklmkaaaDoorSinC
import Derived.WalkKit
import Derived.ProofKit
import Derived.OpenShut
import Derived.Carry
namespace Go.Proofs.YtnoieboiklmkaaaDoor.fnExactExtentOf
open Go.ChangeShapes Go.WideShapes Go.ChangeAt Go.RowKit
open Go.ChangeMaps (open_string shut_string)
open reads base ty lg nt nq sn win sinc
set_option linter.unusedVariables false
set_option linter.unusedSimpArgs false

theorem form (c : List Lg) : ∃ (v0 : Sf) (v1 : Sf) (ok : Bool), ansEx c = .tuple #[.agg #[.int .i64 v0.east, .int .i64 v0.north, .int .i64 v0.up], .agg #[.int .i64 v1.east, .int .i64 v1.north, .int .i64 v1.up], .bool ok] := by
  unfold ansEx
  split
  · exact ⟨lowV c, highV c, _, rfl⟩
  · exact ⟨⟨0, 0, 0⟩, ⟨0, 0, 0⟩, _, rfl⟩
set_option maxHeartbeats 4000000 in
set_option maxRecDepth 100000 in
theorem walk (A0 : Option Addr) (n0 c0 : Nat) (t0 : List Lg) (w : World) (hm0 : n0 ≤ maxLen) (HA0 : Hid (ty.ArgLg w w.heap.size A0 n0 t0)) (hT : Hid (Tab w)) : Calls Tryd.prog 9 #[.slice A0 n0 c0] w (LawPost w) := by
  obtain ⟨v0, v1, v2, hfm⟩ := form t0
  have HFm := Lib.hid hfm
  clear hfm
  by_cases big0 : 1048576 < n0
  · unfold maxLen at hm0
    go_enter Tryd.func9, Tryd.ntmps9
    go_wp2_with fail
    refine (ty.sz_leg A0 n0 c0 (1048576) _ (by unfold maxLen; omega) (by omega) (by omega)).mono ?_
    rintro e w' ⟨rfl, rfl⟩
    rw [if_pos (by omega)]
    go_wp2_with fail
    go_ret
    exact ⟨rfl, Below.refl _ _⟩
  unfold maxLen at hm0
  have hn0 : n0 ≤ 1048576 := by omega
  go_enter Tryd.func9, Tryd.ntmps9
  go_wp2_with fail
  refine (ty.sz_leg A0 n0 c0 (1048576) _ (by unfold maxLen; omega) (by omega) (by omega)).mono ?_
  rintro e w' ⟨rfl, rfl⟩
  rw [if_neg (by omega)]
  clear big0
  go_wp2_with fail
  have HBr := Lib.hid (Below.refl w.heap.size w)
  have HArg := Lib.hid (ty.more_leg (HA0.out.below HBr.out) HBr.out.size)
  refine (ty.to_legS A0 n0 c0 t0 w hn0 HArg).mono ?_
  rintro e W1 ⟨rfl, ⟨cs_p0, hk, hf⟩, b⟩
  have HF_p0 := Lib.hid hf
  clear hf HArg
  have H1 := Lib.hid (HBr.out.trans (b.mono HBr.out.size))
  clear b HBr
  have H2 := Lib.hid hk
  clear hk
  go_wp2_with fail
  have HL0 := Lib.hid ((ty.FillLg.at_ HF_p0.out HA0.out.1 H2.out).more (by exact H2.out.lt))
  have HTab := Lib.hid (hT.out.below H1.out)
  refine (nt.extentOf_model _ n0 _ t0 _ (by omega) HL0).mono ?_
  rintro e W2 ⟨rfl, b⟩
  rw [HFm.out]
  have H3 := Lib.hid (H1.out.trans (b.mono H1.out.size))
  have H4 := Lib.hid (show Blk W2 w.heap.size 59 cs_p0 from H2.out.below b H2.out.lt)
  clear b H1 H2
  clear HL0
  clear HTab
  go_wp2_with fail
  obtain ⟨W3, HW3⟩ : ∃ W3, Hid ((W2.alloc (.cells #[.int .i64 v0.east, .int .i64 v0.north, .int .i64 v0.up] 35)).alloc (.cells #[.int .i64 v1.east, .int .i64 v1.north, .int .i64 v1.up] 35) = W3) := ⟨_, Lib.hid rfl⟩
  have H5 := Lib.hid (show Blk W3 (W2.heap.size) 35 #[.int .i64 v0.east, .int .i64 v0.north, .int .i64 v0.up] by rw [← HW3.out]; exact (Blk.new _ _ _).alloc _)
  have H6 := Lib.hid (show Blk W3 (W2.heap.size + 1) 35 #[.int .i64 v1.east, .int .i64 v1.north, .int .i64 v1.up] by rw [← HW3.out]; exact (by have h := Blk.new (W2.alloc (.cells #[.int .i64 v0.east, .int .i64 v0.north, .int .i64 v0.up] 35)) 35 #[.int .i64 v1.east, .int .i64 v1.north, .int .i64 v1.up]; simpa using h))
  have H7 := Lib.hid (show Below w.heap.size w W3 by rw [← HW3.out]; exact ((H3.out).alloc (H3.out.size) _).alloc (by have := H3.out.size; first | (simp; done) | (simp; omega)) _)
  rw [HW3.out]
  clear HW3 H3
  have HArg := Lib.hid (ty.more_leg (HA0.out.below H7.out) H7.out.size)
  refine (ty.to_legS A0 n0 c0 t0 W3 hn0 HArg).mono ?_
  rintro e W4 ⟨rfl, ⟨cs_x0, hk, hf⟩, b⟩
  have HF_x0 := Lib.hid hf
  clear hf HArg
  have H8 := Lib.hid (H7.out.trans (b.mono H7.out.size))
  have H9 := Lib.hid (show Blk W4 (W2.heap.size) 35 #[.int .i64 v0.east, .int .i64 v0.north, .int .i64 v0.up] from H5.out.below b H5.out.lt)
  have H10 := Lib.hid (show Blk W4 (W2.heap.size + 1) 35 #[.int .i64 v1.east, .int .i64 v1.north, .int .i64 v1.up] from H6.out.below b H6.out.lt)
  clear b H7 H5 H6
  have H11 := Lib.hid hk
  clear hk
  go_wp2_with fail
  have HL0 := Lib.hid ((ty.FillLg.at_ HF_x0.out HA0.out.1 H11.out).more (by exact H11.out.lt))
  have HTab := Lib.hid (hT.out.below H8.out)
  refine (nq.extentOf_impl _ n0 _ t0 _ (by omega) HL0 HTab).mono ?_
  rintro e W5 ⟨rfl, b⟩
  rw [HFm.out]
  have H12 := Lib.hid (H8.out.trans (b.mono H8.out.size))
  have H13 := Lib.hid (show Blk W5 (W2.heap.size) 35 #[.int .i64 v0.east, .int .i64 v0.north, .int .i64 v0.up] from H9.out.below b H9.out.lt)
  have H14 := Lib.hid (show Blk W5 (W2.heap.size + 1) 35 #[.int .i64 v1.east, .int .i64 v1.north, .int .i64 v1.up] from H10.out.below b H10.out.lt)
  have H15 := Lib.hid (show Blk W5 W3.heap.size 59 cs_x0 from H11.out.below b H11.out.lt)
  clear b H8 H9 H10 H11
  clear HL0
  clear HTab
  have q_w0l := H13.out.lt
  have q_w00 : W5.cell? ⟨W2.heap.size, 0, none⟩ = some (.int .i64 v0.east) := H13.out.cell 0
  have q_w01 : W5.cell? ⟨W2.heap.size, 1, none⟩ = some (.int .i64 v0.north) := H13.out.cell 1
  have q_w02 : W5.cell? ⟨W2.heap.size, 2, none⟩ = some (.int .i64 v0.up) := H13.out.cell 2
  go_wp2_with fail
  clear q_w0l q_w00 q_w01 q_w02
  obtain ⟨W6, HW6⟩ : ∃ W6, Hid ((W5.alloc (.cells #[.int .i64 v0.east, .int .i64 v0.north, .int .i64 v0.up] 35)).alloc (.cells #[.int .i64 v1.east, .int .i64 v1.north, .int .i64 v1.up] 35) = W6) := ⟨_, Lib.hid rfl⟩
  have H16 := Lib.hid (show Blk W6 (W2.heap.size) 35 #[.int .i64 v0.east, .int .i64 v0.north, .int .i64 v0.up] by rw [← HW6.out]; exact ((H13.out.alloc _).alloc _))
  have H17 := Lib.hid (show Blk W6 (W2.heap.size + 1) 35 #[.int .i64 v1.east, .int .i64 v1.north, .int .i64 v1.up] by rw [← HW6.out]; exact ((H14.out.alloc _).alloc _))
  have H18 := Lib.hid (show Blk W6 (W5.heap.size) 35 #[.int .i64 v0.east, .int .i64 v0.north, .int .i64 v0.up] by rw [← HW6.out]; exact (Blk.new _ _ _).alloc _)
  have H19 := Lib.hid (show Blk W6 (W5.heap.size + 1) 35 #[.int .i64 v1.east, .int .i64 v1.north, .int .i64 v1.up] by rw [← HW6.out]; exact (by have h := Blk.new (W5.alloc (.cells #[.int .i64 v0.east, .int .i64 v0.north, .int .i64 v0.up] 35)) 35 #[.int .i64 v1.east, .int .i64 v1.north, .int .i64 v1.up]; simpa using h))
  have H20 := Lib.hid (show Below w.heap.size w W6 by rw [← HW6.out]; exact ((H12.out).alloc (H12.out.size) _).alloc (by have := H12.out.size; first | (simp; done) | (simp; omega)) _)
  have H21 := Lib.hid (show Blk W6 W3.heap.size 59 cs_x0 by rw [← HW6.out]; exact ((H15.out).alloc _).alloc _)
  rw [HW6.out]
  clear HW6 H13 H14 H12
  refine (ty.eq_shift _ _).mono ?_
  rintro e W7 ⟨rfl, b⟩
  have H22 := Lib.hid (H20.out.trans (b.mono H20.out.size))
  have H23 := Lib.hid (show Blk W7 (W2.heap.size) 35 #[.int .i64 v0.east, .int .i64 v0.north, .int .i64 v0.up] from H16.out.below b H16.out.lt)
  have H24 := Lib.hid (show Blk W7 (W2.heap.size + 1) 35 #[.int .i64 v1.east, .int .i64 v1.north, .int .i64 v1.up] from H17.out.below b H17.out.lt)
  have H25 := Lib.hid (show Blk W7 (W5.heap.size) 35 #[.int .i64 v0.east, .int .i64 v0.north, .int .i64 v0.up] from H18.out.below b H18.out.lt)
  have H26 := Lib.hid (show Blk W7 (W5.heap.size + 1) 35 #[.int .i64 v1.east, .int .i64 v1.north, .int .i64 v1.up] from H19.out.below b H19.out.lt)
  have H27 := Lib.hid (show Blk W7 W3.heap.size 59 cs_x0 from H21.out.below b H21.out.lt)
  clear b H20 H16 H17 H18 H19 H21
  have q_g1l := H26.out.lt
  have q_g10 : W7.cell? ⟨W5.heap.size + 1, 0, none⟩ = some (.int .i64 v1.east) := H26.out.cell 0
  have q_g11 : W7.cell? ⟨W5.heap.size + 1, 1, none⟩ = some (.int .i64 v1.north) := H26.out.cell 1
  have q_g12 : W7.cell? ⟨W5.heap.size + 1, 2, none⟩ = some (.int .i64 v1.up) := H26.out.cell 2
  have q_w1l := H24.out.lt
  have q_w10 : W7.cell? ⟨W2.heap.size + 1, 0, none⟩ = some (.int .i64 v1.east) := H24.out.cell 0
  have q_w11 : W7.cell? ⟨W2.heap.size + 1, 1, none⟩ = some (.int .i64 v1.north) := H24.out.cell 1
  have q_w12 : W7.cell? ⟨W2.heap.size + 1, 2, none⟩ = some (.int .i64 v1.up) := H24.out.cell 2
  go_wp2_with fail
  clear q_g1l q_g10 q_g11 q_g12 q_w1l q_w10 q_w11 q_w12
  refine (ty.eq_shift _ _).mono ?_
  rintro e W8 ⟨rfl, b⟩
  have H28 := Lib.hid (H22.out.trans (b.mono H22.out.size))
  have H29 := Lib.hid (show Blk W8 (W2.heap.size) 35 #[.int .i64 v0.east, .int .i64 v0.north, .int .i64 v0.up] from H23.out.below b H23.out.lt)
  have H30 := Lib.hid (show Blk W8 (W2.heap.size + 1) 35 #[.int .i64 v1.east, .int .i64 v1.north, .int .i64 v1.up] from H24.out.below b H24.out.lt)
  have H31 := Lib.hid (show Blk W8 (W5.heap.size) 35 #[.int .i64 v0.east, .int .i64 v0.north, .int .i64 v0.up] from H25.out.below b H25.out.lt)
  have H32 := Lib.hid (show Blk W8 (W5.heap.size + 1) 35 #[.int .i64 v1.east, .int .i64 v1.north, .int .i64 v1.up] from H26.out.below b H26.out.lt)
  have H33 := Lib.hid (show Blk W8 W3.heap.size 59 cs_x0 from H27.out.below b H27.out.lt)
  clear b H22 H23 H24 H25 H26 H27
  go_wp2_with fail
  have HArg := Lib.hid (ty.more_leg (HA0.out.below H28.out) H28.out.size)
  refine (ty.to_legS A0 n0 c0 t0 W8 hn0 HArg).mono ?_
  rintro e W9 ⟨rfl, ⟨cs_z0, hk, hf⟩, b⟩
  have HF_z0 := Lib.hid hf
  clear hf HArg
  have H34 := Lib.hid (H28.out.trans (b.mono H28.out.size))
  have H35 := Lib.hid (show Blk W9 (W2.heap.size) 35 #[.int .i64 v0.east, .int .i64 v0.north, .int .i64 v0.up] from H29.out.below b H29.out.lt)
  have H36 := Lib.hid (show Blk W9 (W2.heap.size + 1) 35 #[.int .i64 v1.east, .int .i64 v1.north, .int .i64 v1.up] from H30.out.below b H30.out.lt)
  have H37 := Lib.hid (show Blk W9 (W5.heap.size) 35 #[.int .i64 v0.east, .int .i64 v0.north, .int .i64 v0.up] from H31.out.below b H31.out.lt)
  have H38 := Lib.hid (show Blk W9 (W5.heap.size + 1) 35 #[.int .i64 v1.east, .int .i64 v1.north, .int .i64 v1.up] from H32.out.below b H32.out.lt)
  have H39 := Lib.hid (show Blk W9 W3.heap.size 59 cs_x0 from H33.out.below b H33.out.lt)
  clear b H28 H29 H30 H31 H32 H33
  have H40 := Lib.hid hk
  clear hk
  go_wp2_with fail
  have HLx := Lib.hid ((ty.FillLg.at_ HF_x0.out HA0.out.1 H39.out).more (by exact H39.out.lt))
  have HLz := Lib.hid ((ty.FillLg.at_ HF_z0.out HA0.out.1 H40.out).more (by exact H40.out.lt))
  refine (ty.eq_legS _ _ n0 _ _ t0 _ (by omega) HLx HLz).mono ?_
  rintro e W10 ⟨rfl, b⟩
  have H41 := Lib.hid (H34.out.trans (b.mono H34.out.size))
  have H42 := Lib.hid (show Blk W10 (W2.heap.size) 35 #[.int .i64 v0.east, .int .i64 v0.north, .int .i64 v0.up] from H35.out.below b H35.out.lt)
  have H43 := Lib.hid (show Blk W10 (W2.heap.size + 1) 35 #[.int .i64 v1.east, .int .i64 v1.north, .int .i64 v1.up] from H36.out.below b H36.out.lt)
  have H44 := Lib.hid (show Blk W10 (W5.heap.size) 35 #[.int .i64 v0.east, .int .i64 v0.north, .int .i64 v0.up] from H37.out.below b H37.out.lt)
  have H45 := Lib.hid (show Blk W10 (W5.heap.size + 1) 35 #[.int .i64 v1.east, .int .i64 v1.north, .int .i64 v1.up] from H38.out.below b H38.out.lt)
  have H46 := Lib.hid (show Blk W10 W3.heap.size 59 cs_x0 from H39.out.below b H39.out.lt)
  have H47 := Lib.hid (show Blk W10 W8.heap.size 59 cs_z0 from H40.out.below b H40.out.lt)
  clear b H34 H35 H36 H37 H38 H39 H40
  clear HLx HLz
  go_wp2_with fail
  go_ret
  exact ⟨rfl, H41.out⟩

theorem laidOut : laidOutB Tryd.prog = true := by kernel_rfl
set_option maxRecDepth 100000 in
theorem contract (H : Type) (enc : TypeId × Value → H) (W : World) (base : Nat) (args : Array Value) (ds gs : List (DataW H)) (before : List MemPlace)
    (hval : ∀ (j : Nat) t v, Tryd.f9.params[j]? = some t → args[j]? = some v → Value.okWide Tryd.prog W .any base t v)
    (hW : DataW.Whole enc Tryd.prog Tryd.f9.params.toList Rows.fnExactExtentOfSpec.vars false W args.toList ds gs before) (hL : laidMetH Tryd.prog Rows.fnExactExtentOfRow.laid W) :
    Calls Tryd.prog 9 args W fun e W' => ∃ v, e = .returned v ∧ Rows.fnExactExtentOfSpec.post enc Tryd.prog Tryd.f9 false true false false W args v W' := by
  have hT : Tab W := given (row := Rows.fnExactExtentOfRow) (by kernel_rfl) hL
  have hW' := hW
  obtain ⟨p, q, hA0, hV0, rfl, hfz, hnd⟩ := hW
  have hA : DataW.TrodAll enc Tryd.prog W 0 (fun _ => true) true Tryd.f9.params.toList args.toList ds p := hA0
  have hV : DataW.TrodVars enc Tryd.prog W (fun _ => true) ["loop.example/g00933/impl.sines"] gs q := hV0
  rw [Tryd.params9] at hA hval
  obtain ⟨v0, vs0, d0, ds0, p0, q0, hargs, rfl, rfl, h0, r0⟩ := trodAll_cons hA
  obtain ⟨rfl, rfl, rfl⟩ := trodAll_nil r0
  obtain rfl : args = #[v0] := by cases args; simp_all
  obtain ⟨rfl, rfl⟩ := var_open hT hV
  have k0 := h0
  have lt0 : ∀ x ∈ p0, x.block < W.heap.size := by obtain ⟨m, hm⟩ := k0; exact DataW.trod_lt m _ _ _ hm
  obtain ⟨A0, n0, c0, t0, rfl, HA0, hm0⟩ := ty.open_legS (hval 0 22 v0 rfl rfl) h0
  clear hA0 hV0
  refine (walk A0 n0 c0 t0 W hm0 (Lib.hid HA0) (Lib.hid hT)).mono fun e W' ⟨he, bel⟩ => ?_
  subst he
  exact ⟨_, rfl, _, _, _, [], _, tabP, hW', trodAll_mk1 (shut_bool Tryd.underlying4 _), (trodAll_cons_mk (Below.trod laidOut (by kernel_rfl) (of_decide_eq_true (by kernel_rfl)) k0 bel lt0) trodAll_mk0), var_shut (hT.below bel) _, bel.frame _, fun h => by cases h⟩

theorem laid_met (os : Os) : laidMet Tryd.prog Rows.fnExactExtentOfRow.laid ((World.doorLaid Tryd.prog 2000 os).forCall (fun _ _ => 0) ⟨#[], #[.slice none 0 0], []⟩).memory :=
  laidMet_of_run' 8 (by kernel_rfl) (by kernel_rfl)
theorem readsIt (os : Os) {H : Type} (enc : TypeId × Value → H) : ∃ ds places, DataW.whole enc Tryd.prog ((World.doorLaid Tryd.prog 2000 os).forCall (fun _ _ => 0) ⟨#[], #[.slice none 0 0], []⟩).memory Tryd.f9.params.toList Rows.fnExactExtentOfSpec.vars false (#[.slice none 0 0] : Array Value).toList 8 = some (ds, [tabH], places) :=
  ⟨[.nil], tabP, by kernel_rfl⟩

set_option maxRecDepth 100000 in
theorem lifted (os : Os) (started : os.Started) (H : Type) (enc : TypeId × Value → H) (F : Stop.Interp) :
    ReturnsInHanded {} Tryd.checked os 9 .any ((OpenSpec.ofChange Rows.fnExactExtentOfSpec).preRow enc Tryd.prog Tryd.f9 Rows.fnExactExtentOfRow.domain false Rows.fnExactExtentOfRow.laid) (((OpenSpec.ofChange Rows.fnExactExtentOfSpec).at F).post enc Tryd.prog Tryd.f9 false true false false) := by
  obtain ⟨d, places, hx⟩ := readsIt os enc
  refine returnsInHanded_of_row (C := Tryd.checked) (s := OpenSpec.ofChange Rows.fnExactExtentOfSpec) own started (by kernel_rfl) Tryd.func9
    (witness_row_at (enc := enc) (C := Tryd.checked) false (World.doorLaid Tryd.prog 2000 os) #[.slice none 0 0] rfl (by kernel_rfl) (by kernel_rfl) (by kernel_rfl)
      (OpenSpec.preRow_of_cond 8 hx (by kernel_rfl) (fun k hk => by cases hk) (by kernel_rfl) (laid_met os))) ?_
  intro W base args ds gs before hval hW _ _ _ hL _ _
  exact contract H enc W base args ds gs before hval hW hL

theorem said : Rows.FnExactExtentOfSaid :=
  OpenClaim.holds_of_cond 9 Tryd.f9 rfl rfl rfl rfl rfl rfl rfl ⟨rfl, rfl, rfl, rfl, rfl⟩ rfl rfl rfl rfl rfl (by kernel_rfl) Tryd.func9 (by kernel_rfl)
    (of_decide_eq_true (by kernel_rfl)) (by unfold Func.isWrapper; first | (rw [if_pos (by decide +kernel)]; kernel_rfl) | (rw [if_neg (by decide +kernel)]; exact ⟨rfl, rfl⟩))
    (fun os started H enc _ F => by rw [OpenClaim.pre_eq_preRow]; exact lifted os started H enc F)

theorem plain (f : FuncId) (fn : Func) (hf : Tryd.pinned.checked.prog.funcNamed "loop.example/g00933/laws.FnExactExtentOf" = some f) (hfn : Tryd.pinned.checked.prog.funcs[f]? = some fn) :
    false = Tryd.pinned.checked.prog.looks [] ∧ ∀ (j : Nat) t, fn.params[j]? = some t → Tryd.pinned.checked.prog.wantsStandIn t = false := by
  obtain rfl : f = 9 := Option.some.inj ((show Tryd.prog.funcNamed "loop.example/g00933/laws.FnExactExtentOf" = some 9 by kernel_rfl).symm.trans hf) |>.symm
  obtain rfl : fn = Tryd.f9 := (Option.some.inj (Tryd.func9.symm.trans hfn)).symm
  refine ⟨by kernel_rfl, fun j t ht => ?_⟩
  rw [Tryd.params9] at ht
  obtain rfl : t = 22 := by simpa using Array.mem_of_getElem? ht
  exact (show Tryd.prog.wantsStandIn 22 = false by kernel_rfl)

theorem proved : Rows.FnExactExtentOfCardSaid :=
  Claim7.holds_tied_plain_at .later [] _ _ _ _ said (fun _ h => by cases h) (by kernel_rfl) (fun _ h => by cases h) fnExactExtentOf_row_tie rfl ⟨rfl, rfl⟩ (by kernel_rfl) rfl plain (by kernel_rfl)
#print axioms proved
end Go.Proofs.YtnoieboiklmkaaaDoor.fnExactExtentOf
