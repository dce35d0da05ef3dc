/-
  FnExactSplitTeams holds: at every argument SplitTeams answers as its model answers, its answer owns its memory, and the arguments read behind the call as they read before it.
  Conditions: none of our own.
-/
import Derived.Test.YtidofckanadkpaaPiL
import Derived.Test.YtidofckanadkpaaIntW
import Derived.Test.YtidofckanadkpaaTyPsM
import Derived.Test.YtidofckanadkpaaEnd
import Derived.Test.YtidofckanadkpaaRows
import Derived.WalkKit
import Derived.ProofKit
import Derived.OpenShut
import Derived.Carry
namespace Go.Proofs.Ytidofckanadkpaa.fnExactSplitTeams
open Go.ChangeShapes Go.WideShapes Go.ChangeAt Go.RowKit
open Go.ChangeMaps (open_string shut_string)
open reads base ty rowi pq
set_option linter.unusedVariables false
set_option linter.unusedSimpArgs false

theorem own : ownKnob Try.prog.godebug = none := by kernel_rfl
def LawPost (w : World) (e : Ending) (w' : World) : Prop := e = .returned (.bool true) ∧ Below w.heap.size w w'
theorem row_below {w w' : World} {base size n : Nat} {e : TypeId} {v : Value} {xs : List Value} (h : w.ownsRow base e size v n xs) (hb : Below w.heap.size w w') : w'.ownsRow base e size v n xs := h.kept (row := none) ⟨hb.os, hb.tape, hb.output, hb.size, fun j hj _ => hb.block j hj⟩ (by cases v.ownBlock <;> simp)
theorem ms_len (ts : List Ps) : ∀ (m l : Nat), (pt.msplit ts m l).length = m
  | 0, l => rfl
  | m + 1, l => by rw [msplit_next, List.length_cons, ms_len]
theorem ms_off (ts : List Ps) : ∀ (m l : Nat), intt.off (pt.msplit ts m l) ≤ m * ts.length
  | 0, l => by simp [pt.msplit, intt.off]
  | m + 1, l => by
    have h1 := ms_off ts m (l - spT ts l m (l + 1))
    have h2 := spB_le ts l m (l + 1)
    rw [msplit_next, intt.off, Nat.add_one_mul]
    omega
theorem st_len (ts : List Ps) : (stTss ts).length ≤ 3 := by
  unfold stTss
  split
  · rw [ms_len]; exact mostS_le ts
  · simp
theorem st_off (ts : List Ps) : intt.off (stTss ts) ≤ 30 := by
  unfold stTss
  split
  · rename_i hg
    have h1 := ms_off ts (pt.mostS ts) (2 ^ ts.length - 1)
    have h2 := Nat.mul_le_mul (mostS_le ts) (psp.good_len hg)
    omega
  · simp [intt.off]
set_option maxHeartbeats 8000000 in
set_option maxRecDepth 100000 in
theorem walk (A0 : Option Addr) (n0 c0 : Nat) (t0 : List Ps) (w : World) (hm0 : n0 ≤ maxLen) (HA0 : Hid (ty.ArgPs w w.heap.size A0 n0 t0)) (hzp0 : Hid (∀ t ∈ t0, ty.ZPs t)) : Calls Try.prog 12 #[.slice A0 n0 c0] w (LawPost w) := by
  unfold maxLen at hm0
  go_enter Try.func12, Try.ntmps12
  go_wp2_with fail
  have l0 : (0 : Int) ≤ 1048576 := by decide
  have HBr := Lib.hid (Below.refl w.heap.size w)
  have HArg := Lib.hid (ty.more_person (HA0.out.below HBr.out) HBr.out.size)
  refine (ty.sz_person A0 n0 c0 t0 (1048576) _ (by unfold maxLen; omega) (by omega) (by omega) HArg hzp0).mono ?_
  rintro e W1 ⟨z0, rfl, hz0, b⟩
  clear HArg
  have H1 := Lib.hid (HBr.out.trans (b.mono HBr.out.size))
  clear b HBr
  by_cases neg0 : z0 < 0
  · have hd : decide (z0 < 0) = true := by simpa using neg0
    go_wp2_with fail
    go_ret
    exact ⟨rfl, H1.out⟩
  obtain ⟨zl0, hnz0, hZ0⟩ := hz0 (by omega)
  have hn0 : n0 ≤ 1048576 := by omega
  have HZ0 := Lib.hid (show ∀ t ∈ t0, t.name.size ≤ 1048576 from fun t ht => by have := hZ0 t ht; omega)
  have zd0 : decide (z0 < 0) = false := by simp; omega
  clear hz0 hZ0
  have hrl0 : (stTss t0).length ≤ 2000000 := by have := st_len t0; omega
  obtain ⟨N0, HN0⟩ : ∃ N, Hid ((stTss t0).length = N) := ⟨_, Lib.hid rfl⟩
  rw [HN0.out] at hrl0
  have HOFF := Lib.hid (show intt.off (stTss t0) ≤ 2000000 from by have := st_off t0; omega)
  have hof1 : (intt.off (stTss t0) : Int) ≤ 2000000 := by have := HOFF.out; omega
  have hz0 : w.heap.size ≤ W1.heap.size := H1.out.size
  go_wp2_with fail
  have HArg := Lib.hid (ty.more_person (HA0.out.below H1.out) H1.out.size)
  refine (ty.to_personS A0 n0 c0 t0 W1 hn0 HArg).mono ?_
  rintro e W2 ⟨rfl, ⟨cs_p0, hk, hf⟩, b⟩
  have HF_p0 := Lib.hid hf
  clear hf HArg
  have hz_W2 : W1.heap.size ≤ W2.heap.size := b.size
  have H2 := Lib.hid (H1.out.trans (b.mono H1.out.size))
  clear b H1
  have H3 := Lib.hid hk
  clear hk
  have hlt_p0 := H3.out.lt
  go_wp2_with fail
  have HL0 := Lib.hid ((ty.FillPs.at_ HF_p0.out HA0.out.1 H3.out).more (by exact H3.out.lt))
  refine (pq.splitTeams_model _ n0 _ t0 _ (by omega) HZ0 HL0).mono ?_
  rintro e W3 ⟨vw0, vsw0, rfl, ho0, ht0, b⟩
  obtain ⟨Aw0, cw0, rfl, htb⟩ := intt.TB.new ho0 ht0 HN0.out
  have HO_w0 := Lib.hid (show intt.TB W3 W2.heap.size W3.heap.size Aw0 N0 cw0 vsw0 (stTss t0) from htb)
  clear ho0 ht0 htb
  clear HL0
  have hz_W3 : W2.heap.size ≤ W3.heap.size := b.size
  have H4 := Lib.hid (H2.out.trans (b.mono H2.out.size))
  have H5 := Lib.hid (show Blk W3 W1.heap.size 41 cs_p0 from H3.out.below b H3.out.lt)
  clear b H2 H3
  go_wp2_with fail
  have HArg := Lib.hid (ty.more_person (HA0.out.below H4.out) H4.out.size)
  refine (ty.to_personS A0 n0 c0 t0 W3 hn0 HArg).mono ?_
  rintro e W4 ⟨rfl, ⟨cs_x0, hk, hf⟩, b⟩
  have HF_x0 := Lib.hid hf
  clear hf HArg
  have hz_W4 : W3.heap.size ≤ W4.heap.size := b.size
  have H6 := Lib.hid (HO_w0.out.below b)
  clear HO_w0
  have H7 := Lib.hid (H4.out.trans (b.mono H4.out.size))
  clear b H4
  have H8 := Lib.hid hk
  clear hk
  have hlt_x0 := H8.out.lt
  go_wp2_with fail
  have HL0 := Lib.hid ((ty.FillPs.at_ HF_x0.out HA0.out.1 H8.out).more (by exact H8.out.lt))
  refine (pi5.splitTeams_is _ n0 _ t0 _ _ _ (Lib.hid rfl) (Lib.hid rfl) (by omega) (Nat.le_refl _) HZ0 HL0).mono ?_
  rintro e W5 ⟨vg0, vsg0, rfl, ho0, ht0, hd0, b⟩
  obtain ⟨Ag0, cg0, rfl, htb⟩ := intt.TB.new ho0 ht0 HN0.out
  have HO_g0 := Lib.hid (show intt.TB W5 W4.heap.size W5.heap.size Ag0 N0 cg0 vsg0 (stTss t0) from htb)
  have HD_g0 := Lib.hid hd0
  clear ho0 ht0 htb hd0
  clear HL0
  have hz_W5 : W4.heap.size ≤ W5.heap.size := b.size
  have H9 := Lib.hid (H6.out.below b)
  clear H6
  have H10 := Lib.hid (H7.out.trans (b.mono H7.out.size))
  have H11 := Lib.hid (show Blk W5 W3.heap.size 41 cs_x0 from H8.out.below b H8.out.lt)
  clear b H7 H8
  go_wp2_with fail
  refine (intt.eq_tb hrl0 HOFF HN0 HO_g0 H9).mono ?_
  rintro e W6 ⟨rfl, b⟩
  have hz_W6 : W5.heap.size ≤ W6.heap.size := b.size
  have H12 := Lib.hid (H9.out.below b)
  clear H9
  have H13 := Lib.hid (HO_g0.out.below b)
  clear HO_g0
  have H14 := Lib.hid (H10.out.trans (b.mono H10.out.size))
  have H15 := Lib.hid (show Blk W6 W3.heap.size 41 cs_x0 from H11.out.below b H11.out.lt)
  clear b H10 H11
  go_wp2_with fail
  have HArg := Lib.hid (ty.more_person (HA0.out.below H14.out) H14.out.size)
  refine (ty.to_personS A0 n0 c0 t0 W6 hn0 HArg).mono ?_
  rintro e W7 ⟨rfl, ⟨cs_z0, hk, hf⟩, b⟩
  have HF_z0 := Lib.hid hf
  clear hf HArg
  have hz_W7 : W6.heap.size ≤ W7.heap.size := b.size
  have H16 := Lib.hid (H12.out.below b)
  clear H12
  have H17 := Lib.hid (H13.out.below b)
  clear H13
  have H18 := Lib.hid (H14.out.trans (b.mono H14.out.size))
  have H19 := Lib.hid (show Blk W7 W3.heap.size 41 cs_x0 from H15.out.below b H15.out.lt)
  clear b H14 H15
  have H20 := Lib.hid hk
  clear hk
  have hlt_z0 := H20.out.lt
  go_wp2_with fail
  have HLx := Lib.hid ((ty.FillPs.at_ HF_x0.out HA0.out.1 H19.out).more (by exact H19.out.lt))
  have HLz := Lib.hid ((ty.FillPs.at_ HF_z0.out HA0.out.1 H20.out).more (by exact H20.out.lt))
  refine (ty.eq_personS _ _ n0 _ _ t0 _ (by omega) HLx HLz).mono ?_
  rintro e W8 ⟨rfl, b⟩
  clear HLx HLz
  have hz_W8 : W7.heap.size ≤ W8.heap.size := b.size
  have H21 := Lib.hid (H16.out.below b)
  clear H16
  have H22 := Lib.hid (H17.out.below b)
  clear H17
  have H23 := Lib.hid (H18.out.trans (b.mono H18.out.size))
  have H24 := Lib.hid (show Blk W8 W3.heap.size 41 cs_x0 from H19.out.below b H19.out.lt)
  have H25 := Lib.hid (show Blk W8 W6.heap.size 41 cs_z0 from H20.out.below b H20.out.lt)
  clear b H18 H19 H20
  go_wp2_with fail
  have HRM := Lib.hid (base.row_blk (base := 0) H24.out (Nat.zero_le _) (by unfold maxLen; omega) HF_x0.out.1)
  refine (ty.mark_personS 0 n0 _ _ (1) _ (by omega) (by omega) (by omega) HRM).mono ?_
  rintro e W9 ⟨rfl, -, hgr0⟩
  have hgr : W8.grownBy W9 (some W3.heap.size) := hgr0
  clear hgr0 HRM
  have hz_W9 : W8.heap.size ≤ W9.heap.size := hgr.size
  have H26 := Lib.hid (H23.out.grown hgr H23.out.size (fun g' e => by injection e with e; omega))
  have H27 := Lib.hid (H21.out.kept hgr (by omega))
  have H28 := Lib.hid (H22.out.kept hgr (by omega))
  clear hgr H23 H21 H22
  go_wp2_with fail
  refine (intt.eq_tb hrl0 HOFF HN0 H28 H27).mono ?_
  rintro e W10 ⟨rfl, b⟩
  have hz_W10 : W9.heap.size ≤ W10.heap.size := b.size
  have H29 := Lib.hid (H27.out.below b)
  clear H27
  have H30 := Lib.hid (H28.out.below b)
  clear H28
  have H31 := Lib.hid (H26.out.trans (b.mono H26.out.size))
  clear b H26
  go_wp2_with fail
  refine (intt.mark_tb 1 hrl0 (by omega) (by omega) HOFF HN0 HD_g0 H30 (by omega)).mono ?_
  rintro e W11 ⟨rfl, ho, hbl⟩
  have HM0 := Lib.hid ho
  clear ho
  have hz_W11 : W10.heap.size ≤ W11.heap.size := hbl.size
  have H32 := Lib.hid (H31.out.trans (hbl.mono (by omega)))
  have H33 := Lib.hid (H29.out.under hbl (by omega))
  clear hbl H30 H31 H29
  go_wp2_with fail
  refine (intt.held_tb 1 hrl0 (by omega) (by omega) HOFF HN0 HM0).mono ?_
  rintro e w' ⟨rfl, rfl⟩
  go_wp2_with fail
  have HArg := Lib.hid (ty.more_person (HA0.out.below H32.out) H32.out.size)
  refine (ty.to_personS A0 n0 c0 t0 W11 hn0 HArg).mono ?_
  rintro e W12 ⟨rfl, ⟨cs_y0, hk, hf⟩, b⟩
  have HF_y0 := Lib.hid hf
  clear hf HArg
  have hz_W12 : W11.heap.size ≤ W12.heap.size := b.size
  have H34 := Lib.hid (H33.out.below b)
  clear H33
  have H35 := Lib.hid (HM0.out.below b)
  clear HM0
  have H36 := Lib.hid (H32.out.trans (b.mono H32.out.size))
  clear b H32
  have H37 := Lib.hid hk
  clear hk
  have hlt_y0 := H37.out.lt
  go_wp2_with fail
  have HL0 := Lib.hid ((ty.FillPs.at_ HF_y0.out HA0.out.1 H37.out).more (by exact H37.out.lt))
  refine (pi5.splitTeams_is _ n0 _ t0 _ _ _ (Lib.hid rfl) (Lib.hid rfl) (by omega) (Nat.le_refl _) HZ0 HL0).mono ?_
  rintro e W13 ⟨vh0, vsh0, rfl, ho0, ht0, hd0, b⟩
  obtain ⟨Ah0, ch0, rfl, htb⟩ := intt.TB.new ho0 ht0 HN0.out
  have HO_h0 := Lib.hid (show intt.TB W13 W12.heap.size W13.heap.size Ah0 N0 ch0 vsh0 (stTss t0) from htb)
  have HD_h0 := Lib.hid hd0
  clear ho0 ht0 htb hd0
  clear HL0
  have hz_W13 : W12.heap.size ≤ W13.heap.size := b.size
  have H38 := Lib.hid (H34.out.below b)
  clear H34
  have H39 := Lib.hid (H35.out.below b)
  clear H35
  have H40 := Lib.hid (H36.out.trans (b.mono H36.out.size))
  have H41 := Lib.hid (show Blk W13 W11.heap.size 41 cs_y0 from H37.out.below b H37.out.lt)
  clear b H36 H37
  go_wp2_with fail
  refine (intt.eq_tb hrl0 HOFF HN0 HO_h0 H38).mono ?_
  rintro e W14 ⟨rfl, b⟩
  have hz_W14 : W13.heap.size ≤ W14.heap.size := b.size
  have H42 := Lib.hid (H38.out.below b)
  clear H38
  have H43 := Lib.hid (H39.out.below b)
  clear H39
  have H44 := Lib.hid (HO_h0.out.below b)
  clear HO_h0
  have H45 := Lib.hid (H40.out.trans (b.mono H40.out.size))
  have H46 := Lib.hid (show Blk W14 W11.heap.size 41 cs_y0 from H41.out.below b H41.out.lt)
  clear b H40 H41
  go_wp2_with fail
  refine (intt.held_tb 1 hrl0 (by omega) (by omega) HOFF HN0 H43).mono ?_
  rintro e w' ⟨rfl, rfl⟩
  go_wp2_with fail
  go_ret
  exact ⟨rfl, H45.out⟩

theorem laidOut : laidOutB Try.prog = true := by kernel_rfl
set_option maxRecDepth 100000 in
theorem lifted (os : Os) (started : os.Started) (H : Type) (enc : TypeId × Value → H) :
    ReturnsInHanded {} Try.checked os 12 .any (Rows.fnExactSplitTeamsSpec.pre6 enc Try.prog Try.f12 Rows.fnExactSplitTeamsRow.domain false) (Rows.fnExactSplitTeamsSpec.post enc Try.prog Try.f12 false true false false) := by
  refine returnsInHanded_of_change (C := Try.checked) own started (by kernel_rfl) Try.func12
    (ChangeSpec.witness6 (enc := enc) (C := Try.checked) false ⟨#[], #[.slice none 0 0], []⟩ 8 (by kernel_rfl) (by kernel_rfl) (by kernel_rfl) (by kernel_rfl)) ?_
  intro W base args ds gs before hval0 hW hcnd _
  have hval : ∀ (j : Nat) t v, Try.f12.params[j]? = some t → args[j]? = some v → Value.okWide Try.prog W .any base t v := hval0
  have hW' := hW
  obtain ⟨p, q, hA0, hV, rfl, hfz, hnd⟩ := hW
  have hA : DataW.TrodAll enc Try.prog W 0 (fun _ => true) true Try.f12.params.toList args.toList ds p := hA0
  rw [Try.params12] at hA hval
  obtain ⟨v0, vs0, d0, ds0, p0, q0, hargs, rfl, rfl, h0, r0⟩ := trodAll_cons hA
  obtain ⟨rfl, rfl, rfl⟩ := trodAll_nil r0
  obtain rfl : args = #[v0] := by cases args; simp_all
  obtain ⟨rfl, rfl⟩ := trodVars_none hV
  have k0 := h0
  have lt0 : ∀ x ∈ p0, x.block < W.heap.size := by obtain ⟨m, hm⟩ := k0; exact DataW.trod_lt m _ _ _ hm
  obtain ⟨A0, n0, c0, t0, rfl, HA0, hm0, hzp0⟩ := ty.open_personS (hval 0 54 v0 rfl rfl) h0
  clear hA0 hval0
  refine (walk A0 n0 c0 t0 W hm0 (Lib.hid HA0) (Lib.hid hzp0)).mono fun e W' ⟨he, bel⟩ => ?_
  subst he
  exact ⟨_, rfl, _, _, _, [], _, [], hW', trodAll_mk1 (shut_bool Try.underlying4 _), (trodAll_cons_mk (Below.trod laidOut (by kernel_rfl) (of_decide_eq_true (by kernel_rfl)) k0 bel lt0) trodAll_mk0), rfl, bel.frame _, fun h => by cases h⟩

theorem over : Rows.fnExactSplitTeamsRow.holds Try.pinned (OpenSpec.ofChange Rows.fnExactSplitTeamsSpec) :=
  OpenClaim.holds_of_wide 12 Try.f12 rfl rfl rfl rfl rfl rfl rfl ⟨rfl, rfl, rfl, rfl, rfl⟩ rfl rfl rfl rfl rfl (by kernel_rfl) Try.func12 (by kernel_rfl)
    (of_decide_eq_true (by kernel_rfl)) (by unfold Func.isWrapper; first | (rw [if_pos (by decide +kernel)]; kernel_rfl) | (rw [if_neg (by decide +kernel)]; exact ⟨rfl, rfl⟩))
    (fun os started H enc _ => lifted os started H enc)

theorem proved : Rows.FnExactSplitTeamsSaid := over
#print axioms proved
end Go.Proofs.Ytidofckanadkpaa.fnExactSplitTeams
