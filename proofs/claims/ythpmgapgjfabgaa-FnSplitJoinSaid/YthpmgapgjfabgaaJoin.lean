/-
  FnExactJoinStrings holds: at every list of texts and every separator JoinStrings answers as its model answers, writes into no argument, and the arguments read behind the call as they read before it.
  Conditions: none of our own.
-/
import Derived.Test.YthpmgapgjfabgaaRows
import Derived.Test.YthpmgapgjfabgaaJoinC
import Derived.Test.YthpmgapgjfabgaaJoinM
import Derived.Test.YthpmgapgjfabgaaListC
import Derived.Test.YthpmgapgjfabgaaEnd
import Derived.WalkKit
import Derived.ProofKit
import Derived.OpenShut
import Derived.ShutString
import Derived.SliceStrings
import Derived.ChangeOld
import Derived.Below
namespace Go.Proofs.Ythpmgapgjfabgaa.fnExactJoinStrings
open Go.ChangeShapes Go.WideShapes Go.ChangeAt Go.RowKit
open Go.ChangeMaps (open_string shut_string)
open reads strmath listc
set_option linter.unusedVariables false

theorem own : ownKnob Try.prog.godebug = none := by kernel_rfl

theorem sep_one (sep : ByteArray) (h : sep.size = 1) : ∃ c : UInt8, sep = ⟨#[c]⟩ := by
  obtain ⟨a⟩ := sep
  obtain ⟨l⟩ := a
  match l, h with
  | [c], _ => exact ⟨c, rfl⟩

def LPost (w : World) (e : Ending) (w' : World) : Prop := e = .returned (.bool true) ∧ Below w.heap.size w w'

/-- the two answers at one list and one separator -/
def Ans (ps : List ByteArray) (sep s : ByteArray) (b : Bool) : Prop :=
  (∀ (A : Option Addr) (cp : Nat) (W : World), Reads W W.heap.size 1 A ps.length (strs ps) →
    Calls Try.prog 12 #[.slice A ps.length cp, .string sep] W fun e w' => e = .returned (.tuple #[.string s, .bool b]) ∧ Below W.heap.size W w') ∧
  (∀ (A : Option Addr) (cp : Nat) (W : World), Reads W W.heap.size 1 A ps.length (strs ps) →
    Calls Try.prog 13 #[.slice A ps.length cp, .string sep] W fun e w' => e = .returned (.tuple #[.string s, .bool b]) ∧ ∃ m, w' = W.drewN m)

theorem ans (ps : List ByteArray) (sep : ByteArray) (hn : ps.length ≤ 1048576) (hl : ∀ p ∈ ps, p.size ≤ 1048576) (hs : sep.size ≤ 1048576) : ∃ s b, Ans ps sep s b := by
  by_cases h0 : ps.length = 0
  · refine ⟨⟨#[]⟩, false, fun A cp W hr => ?_, fun A cp W hr => ?_⟩
    · rw [h0]
      exact (joinc.join_none A cp sep W (by omega)).mono fun _ w' hh => ⟨hh.1, hh.2 ▸ Below.refl _ _⟩
    · rw [h0]
      exact (joinm.join_none A cp sep W (by omega)).mono fun _ w' hh => ⟨hh.1, 0, hh.2.symm⟩
  · by_cases h1 : sep.size = 1
    · obtain ⟨c, rfl⟩ := sep_one sep h1
      by_cases hok : clean c ps = true ∧ (joinL c ps).length ≤ 4000
      · refine ⟨⟨(joinL c ps).toArray⟩, true, fun A cp W hr => ?_, fun A cp W hr => ?_⟩
        · refine (joinc.join_any A ps.length cp c ps W hr (by omega) (by omega) (fun p hp => by have := hl p hp; omega)).mono fun _ w' hh => ⟨?_, hh.2⟩
          rcases hh.1 with ⟨_, _, e⟩ | ⟨e, _⟩
          · exact e
          · rcases e with e | e
            · rw [hok.1] at e; cases e
            · exact absurd hok.2 (by omega)
        · refine (joinm.join_any A ps.length cp c ps W hr (by omega) (by omega) (fun p hp => by have := hl p hp; omega)).mono fun _ w' hh => ⟨?_, hh.2⟩
          rcases hh.1 with ⟨_, _, e⟩ | ⟨e, _⟩
          · exact e
          · rcases e with e | e
            · rw [hok.1] at e; cases e
            · exact absurd hok.2 (by omega)
      · refine ⟨⟨#[]⟩, false, fun A cp W hr => ?_, fun A cp W hr => ?_⟩
        · refine (joinc.join_any A ps.length cp c ps W hr (by omega) (by omega) (fun p hp => by have := hl p hp; omega)).mono fun _ w' hh => ⟨?_, hh.2⟩
          rcases hh.1 with ⟨e1, e2, e⟩ | ⟨_, e⟩
          · exact absurd ⟨e1, e2⟩ hok
          · exact e
        · refine (joinm.join_any A ps.length cp c ps W hr (by omega) (by omega) (fun p hp => by have := hl p hp; omega)).mono fun _ w' hh => ⟨?_, hh.2⟩
          rcases hh.1 with ⟨e1, e2, e⟩ | ⟨_, e⟩
          · exact absurd ⟨e1, e2⟩ hok
          · exact e
    · refine ⟨⟨#[]⟩, false, fun A cp W hr => ?_, fun A cp W hr => ?_⟩
      · exact (joinc.join_sep A ps.length cp sep W (by omega) h1 (by omega)).mono fun _ w' hh => ⟨hh.1, hh.2 ▸ Below.refl _ _⟩
      · exact (joinm.join_sep A ps.length cp sep W h1 (by omega)).mono fun _ w' hh => ⟨hh.1, 0, hh.2.symm⟩

theorem reads_n {w : World} {A : Option Addr} {n : Nat} {ps : List ByteArray} (h : Reads w w.heap.size 1 A n (strs ps)) : ps.length = n := by
  have := h.1; rw [strs_len] at this; omega

set_option maxHeartbeats 1000000 in
set_option maxRecDepth 100000 in
theorem walk (A : Option Addr) (cp : Nat) (ps : List ByteArray) (sep : ByteArray) (w : World) (hr : Reads w w.heap.size 1 A ps.length (strs ps)) (hn : ps.length ≤ maxLen) (hl : ∀ p ∈ ps, p.size ≤ maxLen) (hs : sep.size ≤ maxLen) :
    Calls Try.prog 5 #[.slice A ps.length cp, .string sep] w (LPost w) := by
  by_cases hb : 1048576 < sep.size
  · unfold maxLen at hs
    go_enter Try.func5, Try.ntmps5
    go_wp2_with fail
    go_ret
    exact ⟨rfl, Below.refl _ _⟩
  · have hb' : sep.size ≤ 1048576 := by omega
    have HR := Lib.hid hr
    have HSZ := Lib.hid (sz_any A ps.length cp ps w hr hn hl)
    obtain ⟨n, HN⟩ : ∃ n, Hid (ps.length = n) := ⟨_, Lib.hid rfl⟩
    clear hr hn hl hs hb
    rw [HN.out] at HR HSZ ⊢
    go_enter Try.func5, Try.ntmps5
    go_wp2_with fail
    refine HSZ.out.mono ?_
    rintro e w' ⟨r, rfl, rfl, h⟩
    rcases h with rfl | ⟨h0, h1, h2⟩
    · go_wp2_with fail
      go_ret
      exact ⟨rfl, Below.refl _ _⟩
    · obtain ⟨s, b, ans1, ans2⟩ := ans ps sep (by have := HN.out; omega) (fun p hp => by have := size_le_tot hp; omega) hb'
      rw [HN.out] at ans1 ans2
      have H1 := Lib.hid ans1
      have H2 := Lib.hid ans2
      have hn' : n ≤ 1048576 := by omega
      clear ans1 ans2 h2
      go_wp2_with fail
      refine (to_any A n cp ps _ HR.out hn').mono ?_
      rintro e w1 ⟨g1, rfl, hg1, K1, b1⟩
      have R1 := K1.reads
      rw [strs_len, HN.out] at R1
      have HR1 := Lib.hid R1
      clear R1 K1
      go_wp2_with fail
      refine (H2.out _ _ _ HR1.out).mono ?_
      rintro e w2 ⟨rfl, m, rfl⟩
      have HR2 := Lib.hid ((HR.out.below b1).more b1.size)
      go_wp2_with fail
      refine (to_any A n cp ps _ (by exact HR2.out.drewN m) hn').mono ?_
      rintro e w3 ⟨g2, rfl, hg2, K2, b2⟩
      have R3 := K2.reads
      rw [strs_len, HN.out] at R3
      have HR3 := Lib.hid R3
      have HK2 := Lib.hid K2
      clear R3 K2
      go_wp2_with fail
      refine (H1.out _ _ _ HR3.out).mono ?_
      rintro e w4 ⟨rfl, b4⟩
      have HA4 := Lib.hid ((((HR2.out.drewN m).below b2).more b2.size).below b4 |>.more b4.size)
      have HX4 := Lib.hid ((HR3.out.below b4).more b4.size)
      have hB4 := Lib.hid (show Below w.heap.size w w4 from ((ends.below_drewN b1 m).trans (b2.mono b1.size)).trans (b4.mono (Nat.le_trans b1.size b2.size)))
      clear b1 b2 b4 HR1 HR2 HR3 HK2 H1 H2 HR hg1 hg2
      go_wp2_with fail
      refine (to_any A n cp ps _ HA4.out hn').mono ?_
      rintro e w5 ⟨g3, rfl, hg3, K3, b5⟩
      have R5 := K3.reads
      rw [strs_len, HN.out] at R5
      have HR5 := Lib.hid R5
      have HX5 := Lib.hid ((HX4.out.below b5).more b5.size)
      clear R5 K3
      go_wp2_with fail
      refine (eq_same _ _ n _ _ ps _ HX5.out HR5.out (by omega)).mono ?_
      rintro e w6 ⟨rfl, m6, rfl⟩
      go_wp2_with fail
      go_ret
      exact ⟨rfl, ends.below_drewN (hB4.out.trans (b5.mono hB4.out.size)) m6⟩

theorem laidOut : laidOutB Try.prog = true := by kernel_rfl

/-- a slice of texts that came in reads as a list of texts -/
theorem opened {H : Type} {enc : TypeId × Value → H} {W : World} {base : Nat} {v : Value} {d : DataW H} {p : List MemPlace}
    (hv : Value.okWide Try.prog W .any base 26 v) (h : DataW.Trod enc Try.prog W 0 (fun _ => true) true 26 v d p) :
    ∃ (A : Option Addr) (cp : Nat) (ps : List ByteArray), v = .slice A ps.length cp ∧ Reads W W.heap.size 1 A ps.length (reads.strs ps) ∧ ps.length ≤ maxLen ∧ ∀ p ∈ ps, p.size ≤ maxLen := by
  obtain ⟨a0, len0, cap0, rfl⟩ := okWide_slice Try.underlying26 hv
  obtain ⟨fuel, hf⟩ := h
  rcases open_strings Try.underlying26 Try.underlying9 (by kernel_rfl) hf with ⟨hcs, _⟩ | ⟨x, l, c, ss, hcs, _, hl, hm, hz, _, hcell, hws⟩
  · simp [Value.cells] at hcs
    obtain ⟨rfl, rfl, rfl⟩ := hcs
    exact ⟨none, 0, [], rfl, Reads.none_, by simp, by simp⟩
  · simp [Value.cells] at hcs
    obtain ⟨rfl, rfl, rfl⟩ := hcs
    have hz' : ss.length = cap0 := by simpa using hz
    have hlen : (ss.take len0).length = len0 := by rw [List.length_take]; omega
    refine ⟨some x, cap0, ss.take len0, by rw [hlen], ?_, by omega, fun p hp => hws p (List.mem_of_mem_take hp)⟩
    refine ⟨by rw [reads.strs_len]; omega, fun h0 => ⟨x, rfl, ?_, fun j u hu => ?_⟩⟩
    · have hc0 := hcell 0 (by omega)
      have hb : (x.add 0).block < W.heap.size := by
        rcases Nat.lt_or_ge (x.add 0).block W.heap.size with hlt | hge
        · exact hlt
        · simp [World.cell?, Array.getElem?_eq_none hge] at hc0
      rwa [reads.block_of_add] at hb
    · obtain ⟨q, hq, rfl⟩ := reads.strs_at hu
      have hj : j < len0 := by have := (List.getElem?_eq_some_iff.1 hq).1; omega
      have hq' : ss[j]? = some q := by rw [List.getElem?_take, if_pos hj] at hq; exact hq
      rw [hcell j (by omega), List.getD_eq_getElem?_getD, hq']
      rfl

set_option maxRecDepth 100000 in
theorem lifted (os : Os) (started : os.Started) (H : Type) (enc : TypeId × Value → H) :
    ReturnsInHanded {} Try.checked os 5 .any (Rows.fnExactJoinStringsSpec.pre6 enc Try.prog Try.f5 Rows.fnExactJoinStringsRow.domain false) (Rows.fnExactJoinStringsSpec.post enc Try.prog Try.f5 false true false false) := by
  refine returnsInHanded_of_change (C := Try.checked) own started (by kernel_rfl) Try.func5
    (ChangeSpec.witness6 (enc := enc) (C := Try.checked) false ⟨#[], #[.slice none 0 0, .string ByteArray.empty], []⟩ 8 (by kernel_rfl) (by kernel_rfl) (by kernel_rfl) (by kernel_rfl)) ?_
  intro W base args ds gs before hval0 hW hcnd _
  have hval : ∀ (j : Nat) t v, Try.f5.params[j]? = some t → args[j]? = some v → Value.okWide Try.prog W .any base t v := hval0
  have hW' := hW
  obtain ⟨p, q, hA0, hV, rfl, hfz, hnd⟩ := hW
  have hA : DataW.TrodAll enc Try.prog W 0 (fun _ => true) true Try.f5.params.toList args.toList ds p := hA0
  rw [Try.params5] at hA hval
  obtain ⟨v0, vs0, d0, ds0, p0, q0, hargs, rfl, rfl, h0, r0⟩ := trodAll_cons hA
  obtain ⟨v1, vs1, d1, ds1, p1, q1, rfl, rfl, rfl, h1, r1⟩ := trodAll_cons r0
  obtain ⟨rfl, rfl, rfl⟩ := trodAll_nil r1
  obtain rfl : args = #[v0, v1] := by cases args; simp_all
  obtain ⟨rfl, rfl⟩ := trodVars_none hV
  obtain ⟨a1, rfl, rfl, rfl, w1⟩ := open_string Try.underlying9 (hval 1 9 v1 rfl rfl) h1
  have k0 := h0
  have lt0 : ∀ x ∈ p0, x.block < W.heap.size := by obtain ⟨m, hm⟩ := k0; exact DataW.trod_lt m _ _ _ hm
  obtain ⟨A, cp, ps, rfl, hr, hn, hl⟩ := opened (hval 0 26 v0 rfl rfl) h0
  clear hA0 hval0
  refine (walk A cp ps a1 W hr hn hl w1).mono fun e W' ⟨he, bel⟩ => ?_
  subst he
  exact ⟨_, rfl, _, _, _, [], _, [], hW', trodAll_mk1 (shut_bool Try.underlying4 _), (trodAll_cons_mk (Below.trod laidOut (by kernel_rfl) (of_decide_eq_true (by kernel_rfl)) k0 bel lt0) (trodAll_cons_mk (shut_string Try.underlying9 w1) trodAll_mk0)), rfl, bel.frame _, fun h => by cases h⟩

theorem over : Rows.fnExactJoinStringsRow.holds Try.pinned (OpenSpec.ofChange Rows.fnExactJoinStringsSpec) :=
  OpenClaim.holds_of_wide 5 Try.f5 rfl rfl rfl rfl rfl rfl rfl ⟨rfl, rfl, rfl, rfl, rfl⟩ rfl rfl rfl rfl rfl (by kernel_rfl) Try.func5 (by kernel_rfl)
    (of_decide_eq_true (by kernel_rfl)) (by unfold Func.isWrapper; first | (rw [if_pos (by decide +kernel)]; kernel_rfl) | (rw [if_neg (by decide +kernel)]; exact ⟨rfl, rfl⟩))
    (fun os started H enc _ => lifted os started H enc)

theorem proved : Rows.FnExactJoinStringsSaid :=
  over
#print axioms proved
end Go.Proofs.Ythpmgapgjfabgaa.fnExactJoinStrings
