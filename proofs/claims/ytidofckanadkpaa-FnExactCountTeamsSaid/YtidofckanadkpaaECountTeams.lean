/-
  FnExactCountTeams holds: at every argument CountTeams answers as its model answers, and the arguments read behind the call as they read before it.
  Conditions: none of our own.
-/
import Derived.Test.YtidofckanadkpaaPiJ
import Derived.Test.YtidofckanadkpaaEnd
import Derived.Test.YtidofckanadkpaaRows
import Derived.WalkKit
import Derived.ProofKit
import Derived.OpenShut
import Derived.Carry
namespace Go.Proofs.Ytidofckanadkpaa.fnExactCountTeams
open Go.ChangeShapes Go.WideShapes Go.ChangeAt Go.RowKit
open Go.ChangeMaps (open_string shut_string)
open reads base ty pq
set_option linter.unusedVariables false
set_option linter.unusedSimpArgs false

theorem own : ownKnob Try.prog.godebug = none := by kernel_rfl
def LawPost (w : World) (e : Ending) (w' : World) : Prop := e = .returned (.bool true) ∧ Below w.heap.size w w'
theorem form (ts : List Ps) : ∃ (v0 : Int) (v1 : Int) (v2 : Bool), ansCt ts = .tuple #[.int .i64 v0, .int .i64 v1, .bool v2] := by
  unfold ansCt
  split
  · exact ⟨_, _, _, rfl⟩
  · exact ⟨_, _, _, rfl⟩
set_option maxHeartbeats 4000000 in
set_option maxRecDepth 100000 in
theorem walk (A0 : Option Addr) (n0 c0 : Nat) (t0 : List Ps) (w : World) (hm0 : n0 ≤ maxLen) (HA0 : Hid (ty.ArgPs w w.heap.size A0 n0 t0)) (hzp0 : Hid (∀ t ∈ t0, ty.ZPs t)) : Calls Try.prog 10 #[.slice A0 n0 c0] w (LawPost w) := by
  obtain ⟨v0, v1, v2, hfm⟩ := form t0
  have HFm := Lib.hid hfm
  clear hfm
  unfold maxLen at hm0
  go_enter Try.func10, Try.ntmps10
  go_wp2_with fail
  have l0 : (0 : Int) ≤ 1048576 := by decide
  have HBr := Lib.hid (Below.refl w.heap.size w)
  have HArg := Lib.hid (ty.more_person (HA0.out.below HBr.out) HBr.out.size)
  refine (ty.sz_person A0 n0 c0 t0 (1048576) _ (by unfold maxLen; omega) (by omega) (by omega) HArg hzp0).mono ?_
  rintro e W1 ⟨z0, rfl, hz0, b⟩
  clear HArg
  have H1 := Lib.hid (HBr.out.trans (b.mono HBr.out.size))
  clear b HBr
  by_cases neg0 : z0 < 0
  · have hd : decide (z0 < 0) = true := by simpa using neg0
    go_wp2_with fail
    go_ret
    exact ⟨rfl, H1.out⟩
  obtain ⟨zl0, hnz0, hZ0⟩ := hz0 (by omega)
  have hn0 : n0 ≤ 1048576 := by omega
  have HZ0 := Lib.hid (show ∀ t ∈ t0, t.name.size ≤ 1048576 from fun t ht => by have := hZ0 t ht; omega)
  have zd0 : decide (z0 < 0) = false := by simp; omega
  clear hz0 hZ0
  go_wp2_with fail
  have HArg := Lib.hid (ty.more_person (HA0.out.below H1.out) H1.out.size)
  refine (ty.to_personS A0 n0 c0 t0 W1 hn0 HArg).mono ?_
  rintro e W2 ⟨rfl, ⟨cs_p0, hk, hf⟩, b⟩
  have HF_p0 := Lib.hid hf
  clear hf HArg
  have H2 := Lib.hid (H1.out.trans (b.mono H1.out.size))
  clear b H1
  have H3 := Lib.hid hk
  clear hk
  go_wp2_with fail
  have HL0 := Lib.hid ((ty.FillPs.at_ HF_p0.out HA0.out.1 H3.out).more (by exact H3.out.lt))
  refine (pq.countTeams_model _ n0 _ t0 _ (by omega) HZ0 HL0).mono ?_
  rintro e W3 ⟨rfl, b⟩
  rw [HFm.out]
  have H4 := Lib.hid (H2.out.trans (b.mono H2.out.size))
  have H5 := Lib.hid (show Blk W3 W1.heap.size 41 cs_p0 from H3.out.below b H3.out.lt)
  clear b H2 H3
  clear HL0
  go_wp2_with fail
  have HArg := Lib.hid (ty.more_person (HA0.out.below H4.out) H4.out.size)
  refine (ty.to_personS A0 n0 c0 t0 W3 hn0 HArg).mono ?_
  rintro e W4 ⟨rfl, ⟨cs_x0, hk, hf⟩, b⟩
  have HF_x0 := Lib.hid hf
  clear hf HArg
  have H6 := Lib.hid (H4.out.trans (b.mono H4.out.size))
  clear b H4
  have H7 := Lib.hid hk
  clear hk
  go_wp2_with fail
  have HL0 := Lib.hid ((ty.FillPs.at_ HF_x0.out HA0.out.1 H7.out).more (by exact H7.out.lt))
  refine (pi5.countTeams_is _ n0 _ t0 _ _ (Lib.hid rfl) (by omega) (Nat.le_refl _) HZ0 HL0).mono ?_
  rintro e W5 ⟨rfl, b⟩
  rw [HFm.out]
  have H8 := Lib.hid (H6.out.trans (b.mono H6.out.size))
  have H9 := Lib.hid (show Blk W5 W3.heap.size 41 cs_x0 from H7.out.below b H7.out.lt)
  clear b H6 H7
  clear HL0
  go_wp2_with fail
  have HArg := Lib.hid (ty.more_person (HA0.out.below H8.out) H8.out.size)
  refine (ty.to_personS A0 n0 c0 t0 W5 hn0 HArg).mono ?_
  rintro e W6 ⟨rfl, ⟨cs_z0, hk, hf⟩, b⟩
  have HF_z0 := Lib.hid hf
  clear hf HArg
  have H10 := Lib.hid (H8.out.trans (b.mono H8.out.size))
  have H11 := Lib.hid (show Blk W6 W3.heap.size 41 cs_x0 from H9.out.below b H9.out.lt)
  clear b H8 H9
  have H12 := Lib.hid hk
  clear hk
  go_wp2_with fail
  have HLx := Lib.hid ((ty.FillPs.at_ HF_x0.out HA0.out.1 H11.out).more (by exact H11.out.lt))
  have HLz := Lib.hid ((ty.FillPs.at_ HF_z0.out HA0.out.1 H12.out).more (by exact H12.out.lt))
  refine (ty.eq_personS _ _ n0 _ _ t0 _ (by omega) HLx HLz).mono ?_
  rintro e W7 ⟨rfl, b⟩
  have H13 := Lib.hid (H10.out.trans (b.mono H10.out.size))
  have H14 := Lib.hid (show Blk W7 W3.heap.size 41 cs_x0 from H11.out.below b H11.out.lt)
  have H15 := Lib.hid (show Blk W7 W5.heap.size 41 cs_z0 from H12.out.below b H12.out.lt)
  clear b H10 H11 H12
  clear HLx HLz
  go_wp2_with fail
  go_ret
  exact ⟨rfl, H13.out⟩

theorem laidOut : laidOutB Try.prog = true := by kernel_rfl
set_option maxRecDepth 100000 in
theorem lifted (os : Os) (started : os.Started) (H : Type) (enc : TypeId × Value → H) :
    ReturnsInHanded {} Try.checked os 10 .any (Rows.fnExactCountTeamsSpec.pre6 enc Try.prog Try.f10 Rows.fnExactCountTeamsRow.domain false) (Rows.fnExactCountTeamsSpec.post enc Try.prog Try.f10 false true false false) := by
  refine returnsInHanded_of_change (C := Try.checked) own started (by kernel_rfl) Try.func10
    (ChangeSpec.witness6 (enc := enc) (C := Try.checked) false ⟨#[], #[.slice none 0 0], []⟩ 8 (by kernel_rfl) (by kernel_rfl) (by kernel_rfl) (by kernel_rfl)) ?_
  intro W base args ds gs before hval0 hW hcnd _
  have hval : ∀ (j : Nat) t v, Try.f10.params[j]? = some t → args[j]? = some v → Value.okWide Try.prog W .any base t v := hval0
  have hW' := hW
  obtain ⟨p, q, hA0, hV, rfl, hfz, hnd⟩ := hW
  have hA : DataW.TrodAll enc Try.prog W 0 (fun _ => true) true Try.f10.params.toList args.toList ds p := hA0
  rw [Try.params10] at hA hval
  obtain ⟨v0, vs0, d0, ds0, p0, q0, hargs, rfl, rfl, h0, r0⟩ := trodAll_cons hA
  obtain ⟨rfl, rfl, rfl⟩ := trodAll_nil r0
  obtain rfl : args = #[v0] := by cases args; simp_all
  obtain ⟨rfl, rfl⟩ := trodVars_none hV
  have k0 := h0
  have lt0 : ∀ x ∈ p0, x.block < W.heap.size := by obtain ⟨m, hm⟩ := k0; exact DataW.trod_lt m _ _ _ hm
  obtain ⟨A0, n0, c0, t0, rfl, HA0, hm0, hzp0⟩ := ty.open_personS (hval 0 54 v0 rfl rfl) h0
  clear hA0 hval0
  refine (walk A0 n0 c0 t0 W hm0 (Lib.hid HA0) (Lib.hid hzp0)).mono fun e W' ⟨he, bel⟩ => ?_
  subst he
  exact ⟨_, rfl, _, _, _, [], _, [], hW', trodAll_mk1 (shut_bool Try.underlying4 _), (trodAll_cons_mk (Below.trod laidOut (by kernel_rfl) (of_decide_eq_true (by kernel_rfl)) k0 bel lt0) trodAll_mk0), rfl, bel.frame _, fun h => by cases h⟩

theorem over : Rows.fnExactCountTeamsRow.holds Try.pinned (OpenSpec.ofChange Rows.fnExactCountTeamsSpec) :=
  OpenClaim.holds_of_wide 10 Try.f10 rfl rfl rfl rfl rfl rfl rfl ⟨rfl, rfl, rfl, rfl, rfl⟩ rfl rfl rfl rfl rfl (by kernel_rfl) Try.func10 (by kernel_rfl)
    (of_decide_eq_true (by kernel_rfl)) (by unfold Func.isWrapper; first | (rw [if_pos (by decide +kernel)]; kernel_rfl) | (rw [if_neg (by decide +kernel)]; exact ⟨rfl, rfl⟩))
    (fun os started H enc _ => lifted os started H enc)

theorem proved : Rows.FnExactCountTeamsSaid := over
#print axioms proved
end Go.Proofs.Ytidofckanadkpaa.fnExactCountTeams
