/-
  FnExactParseInt holds: at every text ParseInt answers as its model answers, and the argument reads behind the call as it read before it; the table and the two errors of the library are tied to the program's text by the given tie.
  Conditions: none of our own.
-/
import Derived.Test.YthpmgapgjfabgaaDoorPar
import Derived.Test.YthpmgapgjfabgaaDoorCards
import Derived.Test.YthpmgapgjfabgaaDoorTie
import Derived.Test.YthpmgapgjfabgaaDoorEnd
import Derived.WalkKit
import Derived.ProofKit
import Derived.OpenShut
import Derived.ShutString
import Derived.Deep.DeepHandedRow
import Derived.Deep.DeepWitnessRowRef
import Derived.Lib.LaidTab
import Derived.LaidMore
namespace Go.Proofs.YthpmgapgjfabgaaDoor.fnExactParseInt
open Go.ChangeShapes Go.WideShapes Go.ChangeAt Go.RowKit
open Go.ChangeMaps (open_string shut_string)
set_option linter.unusedVariables false

theorem own : ownKnob Tryd.prog.godebug = none := by kernel_rfl
def LPost (w : World) (e : Ending) (w' : World) : Prop := e = .returned (.bool true) ∧ Below w.heap.size w w'

open nummath fnExactFormatInt readc parc

theorem star : "*" ++ "errors.errorString" = "*errors.errorString" := by decide
theorem rowErr (u : TypeId) (h : Tryd.prog.typeName? 3 u = some "*errors.errorString") : u = 94 :=
  typeName_ptr_named (nm := "errors.errorString") (by rw [star]; kernel_rfl) (by kernel_rfl) (by decide) u (by rw [star]; exact h)
theorem gES : Tryd.prog.globalNamed "strconv.ErrSyntax" = some 0 := by kernel_rfl
theorem gESType : (Tryd.prog.globals[0]?).map (·.type) = some 46 := by kernel_rfl
theorem gER : Tryd.prog.globalNamed "strconv.ErrRange" = some 1 := by kernel_rfl
theorem gERType : (Tryd.prog.globals[1]?).map (·.type) = some 46 := by kernel_rfl
theorem cellsES : Tryd.prog.cellsOf 96 = 1 := by kernel_rfl
theorem cellsS : Tryd.prog.cellsOf 9 = 1 := by kernel_rfl

/-- what the row's list gives -/
theorem given {W : World} (h : laidMetH Tryd.prog Rows.fnExactParseIntRow.laid W) : Vars W := by
  refine ⟨?_, ?_, ?_⟩
  · have h1 := h.filter fun x => x.1 == "internal/strconv.uint64pow10"
    have e : (Rows.fnExactParseIntRow.laid.filter fun x => x.1 == "internal/strconv.uint64pow10") = [("internal/strconv.uint64pow10", Lib.tabData .u64 Lib.pow10Tab)] := by kernel_rfl
    rw [e] at h1
    exact Lib.tabIs_of_head (rest := []) gTab gTabType Tryd.underlying89 Tryd.underlying35 cellsOne cellsTab h1
  · have h1 := h.filter fun x => x.1 == "strconv.ErrSyntax"
    have e : (Rows.fnExactParseIntRow.laid.filter fun x => x.1 == "strconv.ErrSyntax") = [("strconv.ErrSyntax", Rows.laid_strconv_ErrSyntax)] := by kernel_rfl
    rw [e] at h1
    obtain ⟨a0, s0, hv0, -, -, -⟩ := laid_sentinel (r := []) h1 gES gESType Tryd.underlying46 rowErr Tryd.underlying94 Tryd.underlying96 rfl rfl Tryd.underlying9 cellsES cellsS
    exact ⟨_, _, hv0⟩
  · have h1 := h.filter fun x => x.1 == "strconv.ErrRange"
    have e : (Rows.fnExactParseIntRow.laid.filter fun x => x.1 == "strconv.ErrRange") = [("strconv.ErrRange", Rows.laid_strconv_ErrRange)] := by kernel_rfl
    rw [e] at h1
    obtain ⟨a0, s0, hv0, -, -, -⟩ := laid_sentinel (r := []) h1 gER gERType Tryd.underlying46 rowErr Tryd.underlying94 Tryd.underlying96 rfl rfl Tryd.underlying9 cellsES cellsS
    exact ⟨_, _, hv0⟩

theorem num_one {s : ByteArray} {n m : Int} (h : IsNum s n) (k : IsNum s m) : n = m := by
  have h1 := num_atoi h.2.2 h.1 h.2.1
  have h2 := num_atoi k.2.2 k.1 k.2.1
  rw [h1] at h2
  injection h2

/-- variables that have not turned -/
theorem vars_drewN {w : World} (h : Vars w) (m : Nat) : Vars (w.drewN m) := h

set_option maxHeartbeats 1000000 in
theorem walk (s : ByteArray) (w : World) (hs : s.size ≤ maxLen) (hV : Vars w) :
    Calls Tryd.prog 5 #[.string s] w (LPost w) := by
  have HV := Lib.hid hV
  clear hV
  by_cases hb : 1048576 < s.size
  · unfold maxLen at hs
    go_enter Tryd.func5, Tryd.ntmps5
    go_wp2_with fail
    go_ret
    exact ⟨rfl, Below.refl _ _⟩
  · have hs' : s.size ≤ 1048576 := by omega
    clear hb hs
    by_cases hex : ∃ n, IsNum s n
    · obtain ⟨n, hn⟩ := hex
      have HN := Lib.hid hn
      clear hn
      go_enter Tryd.func5, Tryd.ntmps5
      go_wp2_with fail
      refine (model_any s _ hs').mono ?_
      rintro e w1 ⟨h, m, rfl⟩
      obtain rfl : e = .returned (.tuple #[.int .i64 n, .bool true]) := by
        rcases h with ⟨k, hk, rfl⟩ | ⟨hk, _⟩
        · rw [num_one HN.out hk]
        · exact absurd HN.out (hk n)
      clear h
      go_wp2_with fail
      refine (par_any s _ hs' (vars_drewN HV.out m)).mono ?_
      rintro e w2 ⟨h, b2⟩
      obtain rfl : e = .returned (.tuple #[.int .i64 n, .bool true]) := by
        rcases h with ⟨k, hk, rfl⟩ | ⟨hk, _⟩
        · rw [num_one HN.out hk]
        · exact absurd HN.out (hk n)
      clear h
      go_wp2_with fail
      go_ret
      exact ⟨rfl, ⟨b2.os, b2.tape, b2.output, b2.size, b2.block⟩⟩
    · have HN := Lib.hid (show ∀ n, ¬ IsNum s n from fun n h => hex ⟨n, h⟩)
      clear hex
      go_enter Tryd.func5, Tryd.ntmps5
      go_wp2_with fail
      refine (model_any s _ hs').mono ?_
      rintro e w1 ⟨h, m, rfl⟩
      obtain rfl : e = .returned (.tuple #[.int .i64 0, .bool false]) := by
        rcases h with ⟨k, hk, rfl⟩ | ⟨_, h⟩
        · exact absurd hk (HN.out k)
        · exact h
      clear h
      go_wp2_with fail
      refine (par_any s _ hs' (vars_drewN HV.out m)).mono ?_
      rintro e w2 ⟨h, b2⟩
      obtain rfl : e = .returned (.tuple #[.int .i64 0, .bool false]) := by
        rcases h with ⟨k, hk, rfl⟩ | ⟨_, h⟩
        · exact absurd hk (HN.out k)
        · exact h
      clear h
      go_wp2_with fail
      go_ret
      exact ⟨rfl, ⟨b2.os, b2.tape, b2.output, b2.size, b2.block⟩⟩

theorem contract (H : Type) (enc : TypeId × Value → H) (W : World) (base : Nat) (args : Array Value) (ds gs : List (DataW H)) (before : List MemPlace)
    (hval : ∀ (j : Nat) t v, Tryd.f5.params[j]? = some t → args[j]? = some v → Value.okWide Tryd.prog W .any base t v)
    (hW : DataW.Whole enc Tryd.prog Tryd.f5.params.toList Rows.fnExactParseIntSpec.vars false W args.toList ds gs before) (hL : laidMetH Tryd.prog Rows.fnExactParseIntRow.laid W) :
    Calls Tryd.prog 5 args W fun e W' => ∃ v, e = .returned v ∧ Rows.fnExactParseIntSpec.post enc Tryd.prog Tryd.f5 false true false false W args v W' := by
  have hW' := hW
  obtain ⟨p, q, hA0, hV, rfl, hfz, hnd⟩ := hW
  have hA : DataW.TrodAll enc Tryd.prog W 0 (fun _ => true) true Tryd.f5.params.toList args.toList ds p := hA0
  rw [Tryd.params5] at hA hval
  obtain ⟨v0, vs0, d0, ds0, p0, q0, hargs, rfl, rfl, h0, r0⟩ := trodAll_cons hA
  obtain ⟨rfl, rfl, rfl⟩ := trodAll_nil r0
  obtain rfl : args = #[v0] := by cases args; simp_all
  obtain ⟨rfl, rfl⟩ := trodVars_none hV
  obtain ⟨a0, rfl, rfl, rfl, w0⟩ := open_string Tryd.underlying9 (hval 0 9 v0 rfl rfl) h0
  clear hA0
  simp only [List.append_nil] at hW'
  refine (walk a0 W w0 (given hL)).mono fun e W' ⟨he, hb⟩ => ?_
  subst he
  exact ⟨_, rfl, ends.post_of_below (pa := []) (pv := []) hW' (fun _ _ _ => trodAll_cons_mk (shut_bool Tryd.underlying4 _) trodAll_mk0) (fun _ _ => trodAll_cons_mk (shut_string Tryd.underlying9 w0) trodAll_mk0) (fun _ _ => rfl) rfl
    hb (ok_one (by kernel_rfl) rfl (okWide_bool_mk Tryd.underlying4 _))⟩

theorem laid_met (os : Os) : laidMet Tryd.prog Rows.fnExactParseIntRow.laid ((World.doorLaid Tryd.prog 2000 os).forCall (fun _ _ => 0) ⟨#[], #[.string ByteArray.empty], []⟩).memory :=
  laidMet_of_run' 8 (by kernel_rfl) (by kernel_rfl)
theorem readsIt (os : Os) {H : Type} (enc : TypeId × Value → H) : ∃ places, DataW.whole enc Tryd.prog ((World.doorLaid Tryd.prog 2000 os).forCall (fun _ _ => 0) ⟨#[], #[.string ByteArray.empty], []⟩).memory Tryd.f5.params.toList Rows.fnExactParseIntSpec.vars false #[Value.string ByteArray.empty].toList 8 = some ([.lit (.string [])], [], places) :=
  ⟨[], by kernel_rfl⟩

set_option maxRecDepth 100000 in
theorem lifted (os : Os) (started : os.Started) (H : Type) (enc : TypeId × Value → H) (F : Stop.Interp) :
    ReturnsInHanded {} Tryd.checked os 5 .any ((OpenSpec.ofChange Rows.fnExactParseIntSpec).preRow enc Tryd.prog Tryd.f5 Rows.fnExactParseIntRow.domain false Rows.fnExactParseIntRow.laid) (((OpenSpec.ofChange Rows.fnExactParseIntSpec).at F).post enc Tryd.prog Tryd.f5 false true false false) := by
  obtain ⟨places, hx⟩ := readsIt os enc
  refine returnsInHanded_of_row (C := Tryd.checked) (s := OpenSpec.ofChange Rows.fnExactParseIntSpec) own started (by kernel_rfl) Tryd.func5
    (witness_row_atRef (enc := enc) (C := Tryd.checked) false (World.doorLaid Tryd.prog 2000 os) #[.string ByteArray.empty] rfl (by kernel_rfl) (by kernel_rfl) (by kernel_rfl)
      (OpenSpec.preRow_of_cond 8 hx (by kernel_rfl) (fun k hk => by cases hk) (by kernel_rfl) (laid_met os))) ?_
  intro W base args ds gs before hval hW _ _ _ hL _ _
  exact contract H enc W base args ds gs before hval hW hL

theorem said : Rows.FnExactParseIntSaid :=
  OpenClaim.holds_of_cond 5 Tryd.f5 rfl rfl rfl rfl rfl rfl rfl ⟨rfl, rfl, rfl, rfl, rfl⟩ rfl rfl rfl rfl rfl (by kernel_rfl) Tryd.func5 (by kernel_rfl)
    (of_decide_eq_true (by kernel_rfl)) (by unfold Func.isWrapper; first | (rw [if_pos (by decide +kernel)]; kernel_rfl) | (rw [if_neg (by decide +kernel)]; exact ⟨rfl, rfl⟩))
    (fun os started H enc _ F => by rw [OpenClaim.pre_eq_preRow]; exact lifted os started H enc F)

theorem plain (f : FuncId) (fn : Func) (hf : Tryd.pinned.checked.prog.funcNamed "loop.example/g00933/laws.FnExactParseInt" = some f) (hfn : Tryd.pinned.checked.prog.funcs[f]? = some fn) :
    true = Tryd.pinned.checked.prog.looks [] ∧ ∀ (j : Nat) t, fn.params[j]? = some t → Tryd.pinned.checked.prog.wantsStandIn t = false := by
  obtain rfl : f = 5 := Option.some.inj ((show Tryd.prog.funcNamed "loop.example/g00933/laws.FnExactParseInt" = some 5 by kernel_rfl).symm.trans hf) |>.symm
  obtain rfl : fn = Tryd.f5 := (Option.some.inj (Tryd.func5.symm.trans hfn)).symm
  refine ⟨by kernel_rfl, fun j t ht => ?_⟩
  rw [Tryd.params5] at ht
  obtain rfl : t = 9 := by simpa using Array.mem_of_getElem? ht
  exact (show Tryd.prog.wantsStandIn 9 = false by kernel_rfl)

theorem proved : Rows.FnExactParseIntCardSaid :=
  Claim7.holds_tied_plain_at .later [] _ _ _ _ said (fun _ h => by cases h) (by kernel_rfl) (fun _ h => by cases h) fnExactParseInt_row_tie rfl ⟨rfl, rfl⟩ (by kernel_rfl) rfl plain (by kernel_rfl)
#print axioms proved
end Go.Proofs.YthpmgapgjfabgaaDoor.fnExactParseInt
