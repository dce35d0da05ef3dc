/-
  FnPassages holds: at every code it answers true, and the code reads behind the call as it read before it.
  Conditions: none of our own.
-/
import Derived.Test.YtnpghhpcloljeaaPwX
import Derived.Test.YtnpghhpcloljeaaOpenS
import Derived.Test.YtnpghhpcloljeaaRows
import Derived.WalkKit
import Derived.ProofKit
import Derived.OpenShut
import Derived.Carry
namespace Go.Proofs.Ytnpghhpcloljeaa.fnPassages
open Go.ChangeShapes Go.WideShapes Go.ChangeAt Go.RowKit
open reads fpw ppw
set_option linter.unusedVariables false

theorem own : ownKnob Try.prog.godebug = none := by kernel_rfl
theorem laidOut : laidOutB Try.prog = true := by kernel_rfl
set_option maxRecDepth 100000 in
theorem big (A : Option Addr) (n cap : Nat) (w : World) (h : Hid (65536 < n)) (hm : Hid (n ≤ maxLen)) : Calls Try.prog 11 #[.slice A n cap] w (LawPost w) := by
  go_enter Try.func11, Try.ntmps11
  go_wp2_with fail
  refine (vs.big_yes A n cap w h.out hm.out).mono ?_
  rintro e w' ⟨rfl, rfl⟩
  go_wp2_with fail
  go_ret
  exact ⟨rfl, Below.refl _ _⟩
theorem walk (A : Option Addr) (n cap : Nat) (zs : List UInt8) (w : World) (hR : reads.Reads w w.heap.size 1 A n (curs.bytesV zs)) (hm : n ≤ maxLen) :
    Calls Try.prog 11 #[.slice A n cap] w (LawPost w) := by
  by_cases hb : 65536 < n
  · exact big A n cap w (Lib.hid hb) (Lib.hid hm)
  · exact fpw.walk A n cap zs w (by omega) (Lib.hid ⟨Below.refl _ _, hR, by omega⟩)
set_option maxRecDepth 100000 in
theorem lifted (os : Os) (started : os.Started) (H : Type) (enc : TypeId × Value → H) :
    ReturnsInHanded {} Try.checked os 11 .any (Rows.fnPassagesSpec.pre6 enc Try.prog Try.f11 Rows.fnPassagesRow.domain false) (Rows.fnPassagesSpec.post enc Try.prog Try.f11 false true false false) := by
  refine returnsInHanded_of_change (C := Try.checked) own started (by kernel_rfl) Try.func11
    (ChangeSpec.witness6 (enc := enc) (C := Try.checked) false ⟨#[], #[.slice none 0 0], []⟩ 8 (by kernel_rfl) (by kernel_rfl) (by kernel_rfl) (by kernel_rfl)) ?_
  intro W base args ds gs before hval0 hW hcnd _
  have hval : ∀ (j : Nat) t v, Try.f11.params[j]? = some t → args[j]? = some v → Value.okWide Try.prog W .any base t v := hval0
  have hW' := hW
  obtain ⟨p, q, hA0, hV, rfl, hfz, hnd⟩ := hW
  have hA : DataW.TrodAll enc Try.prog W 0 (fun _ => true) true Try.f11.params.toList args.toList ds p := hA0
  rw [Try.params11] at hA hval
  obtain ⟨v0, vs0, d0, ds0, p0, q0, hargs, rfl, rfl, h0, r0⟩ := trodAll_cons hA
  obtain ⟨rfl, rfl, rfl⟩ := trodAll_nil r0
  obtain rfl : args = #[v0] := by cases args; simp_all
  obtain ⟨rfl, rfl⟩ := trodVars_none hV
  have k0 := h0
  have lt0 : ∀ x ∈ p0, x.block < W.heap.size := by obtain ⟨m, hm⟩ := k0; exact DataW.trod_lt m _ _ _ hm
  obtain ⟨A, n, cap, zs, rfl, hR, hm⟩ := opens.opened (hval 0 60 v0 rfl rfl) h0
  clear hA0 hval0
  refine (walk A n cap zs W hR hm).mono fun e W' ⟨he, bel⟩ => ?_
  subst he
  exact ⟨_, rfl, _, _, _, [], _, [], hW', trodAll_mk1 (shut_bool Try.underlying4 _), (trodAll_cons_mk (Below.trod laidOut (by kernel_rfl) (of_decide_eq_true (by kernel_rfl)) k0 bel lt0) trodAll_mk0), rfl, bel.frame _, fun h => by cases h⟩

theorem over : Rows.fnPassagesRow.holds Try.pinned (OpenSpec.ofChange Rows.fnPassagesSpec) :=
  OpenClaim.holds_of_wide 11 Try.f11 rfl rfl rfl rfl rfl rfl rfl ⟨rfl, rfl, rfl, rfl, rfl⟩ rfl rfl rfl rfl rfl (by kernel_rfl) Try.func11 (by kernel_rfl)
    (of_decide_eq_true (by kernel_rfl)) (by unfold Func.isWrapper; first | (rw [if_pos (by decide +kernel)]; kernel_rfl) | (rw [if_neg (by decide +kernel)]; exact ⟨rfl, rfl⟩))
    (fun os started H enc _ => lifted os started H enc)

theorem proved : Rows.FnPassagesSaid := over
#print axioms proved
end Go.Proofs.Ytnpghhpcloljeaa.fnPassages
