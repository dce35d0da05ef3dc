/-
  FnExactSplitString holds: at every text and every separator SplitString answers as its model answers, its answer owns its memory, and the arguments read behind the call as they read before it.
  Conditions: none of our own.
-/
import Derived.Test.YthpmgapgjfabgaaRows
import Derived.Test.YthpmgapgjfabgaaSplitM
import Derived.Test.YthpmgapgjfabgaaMark
import Derived.Test.YthpmgapgjfabgaaListC
import Derived.Test.YthpmgapgjfabgaaEnd
import Derived.WalkKit
import Derived.ProofKit
import Derived.OpenShut
import Derived.ShutString
namespace Go.Proofs.Ythpmgapgjfabgaa.fnExactSplitString
open Go.ChangeShapes Go.WideShapes Go.ChangeAt Go.RowKit
open Go.ChangeMaps (open_string shut_string)
open reads strmath iterc splitc listc markc
set_option linter.unusedVariables false

theorem own : ownKnob Try.prog.godebug = none := by kernel_rfl

/-- a list of texts in a row of its own -/
def Row (W : World) (g : Nat) (ps : List ByteArray) : Prop := ∃ cur, Blk W g 9 cur ∧ cur.toList.take ps.length = reads.strs ps ∧ ps.length ≤ cur.size

theorem Row.reads {W : World} {g : Nat} {ps : List ByteArray} (h : Row W g ps) : Reads W W.heap.size 1 (some ⟨g, 0, none⟩) ps.length (reads.strs ps) := by
  obtain ⟨cur, hb, ht, hn⟩ := h
  refine ⟨by rw [reads.strs_len]; omega, fun _ => ⟨_, rfl, hb.lt, fun j u hu => ?_⟩⟩
  have e : (⟨g, 0, none⟩ : Addr).add j = ⟨g, j, none⟩ := by
    unfold Addr.add
    by_cases hj : j = 0 <;> simp [hj]
  have hj : j < ps.length := by have := (List.getElem?_eq_some_iff.1 hu).1; rwa [reads.strs_len] at this
  rw [e, hb.cell]
  rw [← ht, List.getElem?_take, if_pos hj] at hu
  simpa using hu
theorem Row.below {W W' : World} {g : Nat} {ps : List ByteArray} (h : Row W g ps) (hb : Below W.heap.size W W') : Row W' g ps := by
  obtain ⟨cur, h1, h2, h3⟩ := h
  exact ⟨cur, h1.below hb h1.lt, h2, h3⟩
theorem Row.drewN {W : World} {g : Nat} {ps : List ByteArray} (h : Row W g ps) (m : Nat) : Row (W.drewN m) g ps := h
theorem Row.lt {W : World} {g : Nat} {ps : List ByteArray} (h : Row W g ps) : g < W.heap.size := by
  obtain ⟨cur, h1, _, _⟩ := h
  exact h1.lt
theorem Row.grown {W W' : World} {g g' : Nat} {ps : List ByteArray} (h : Row W g ps) (hg : W.grownBy W' (some g')) (hne : g ≠ g') : Row W' g ps := by
  obtain ⟨cur, h1, h2, h3⟩ := h
  exact ⟨cur, h1.grown hg (by simpa using hne), h2, h3⟩
theorem row_of_own {W W' : World} {v : Value} {ps : List ByteArray} (h : W'.ownsRow W.heap.size 9 1 v ps.length (reads.strs ps)) (hn : 0 < ps.length) : ∃ g cap, v = .slice (some ⟨g, 0, none⟩) ps.length cap ∧ W.heap.size ≤ g ∧ Row W' g ps := by
  rcases h.2 with ⟨_, h0⟩ | ⟨g, cap, cur, rfl, hb, hh, hnc, hcm, hcs, htake⟩
  · omega
  · exact ⟨g, cap, rfl, hb, cur, hh, by simpa using htake, by omega⟩

/-- what both answer -/
def SAns (ps : List ByteArray) (b : Bool) (W : World) (e : Ending) (W' : World) : Prop :=
  ∃ g cap, e = .returned (.tuple #[.slice (some ⟨g, 0, none⟩) ps.length cap, .bool b]) ∧ W.heap.size ≤ g ∧ Row W' g ps ∧ Below W.heap.size W W'

theorem model_good (s : ByteArray) (c : UInt8) (hs : s.size ≤ 4000) (w : World) :
    Calls Try.prog 17 #[.string s, .string ⟨#[c]⟩] w (SAns (pcs c s.data.toList) true w) := by
  have HC := Lib.hid (fun W => splitm.l1Split_any s c hs W)
  have hd1 : decide (4000 < s.size) = false := by simpa using hs
  have hd2 : decide (4000 < (s.size : Int)) = false := by simp; omega
  go_enter Try.func17, Try.ntmps17
  go_wp2_with fail
  refine (HC.out _).mono ?_
  rintro e w1 ⟨v, rfl, hown, b1⟩
  obtain ⟨g, cap, rfl, hg, hR⟩ := row_of_own hown (pcs_ne _ _)
  have HR := Lib.hid hR
  clear hown hR
  go_wp2_with fail
  go_ret2
  exact ⟨g, cap, rfl, hg, HR.out, b1⟩
theorem row_none (w : World) : Row (w.alloc (.cells #[] 9)) w.heap.size [] := ⟨#[], Blk.new w _ _, by simp [reads.strs], by simp⟩
theorem model_bad (s sep : ByteArray) (w : World) (hs : s.size ≤ 1048576) (hp : sep.size ≤ 1048576) (h : 4000 < s.size ∨ sep.size ≠ 1) :
    Calls Try.prog 17 #[.string s, .string sep] w (SAns [] false w) := by
  by_cases h1 : sep.size = 1
  · have h2 : 4000 < s.size := by omega
    have b1 : ((sep.size : Int) != 1) = false := by simp; omega
    clear h h1
    go_enter Try.func17, Try.ntmps17
    go_wp2_with fail
    go_ret2
    exact ⟨w.heap.size, 0, rfl, Nat.le_refl _, row_none w, (Below.refl _ _).alloc (Nat.le_refl _) _⟩
  · have b1 : ((sep.size : Int) != 1) = true := by simp; omega
    clear h
    go_enter Try.func17, Try.ntmps17
    go_wp2_with fail
    go_ret2
    exact ⟨w.heap.size, 0, rfl, Nat.le_refl _, row_none w, (Below.refl _ _).alloc (Nat.le_refl _) _⟩

theorem impl_good (s : ByteArray) (c : UInt8) (hs : s.size ≤ 4000) (w : World) :
    Calls Try.prog 10 #[.string s, .string ⟨#[c]⟩] w (SAns (pcs c s.data.toList) true w) := by
  refine (split_any s c hs w).mono ?_
  rintro e w1 ⟨v, rfl, hown, b1⟩
  obtain ⟨g, cap, rfl, hg, hR⟩ := row_of_own hown (pcs_ne _ _)
  exact ⟨g, cap, rfl, hg, hR, b1⟩
theorem impl_bad (s sep : ByteArray) (w : World) (hs : s.size ≤ 1048576) (hp : sep.size ≤ 1048576) (h : 4000 < s.size ∨ sep.size ≠ 1) :
    Calls Try.prog 10 #[.string s, .string sep] w (SAns [] false w) := by
  refine (split_bad s sep w hs hp h).mono ?_
  rintro e w1 ⟨rfl, rfl⟩
  exact ⟨w.heap.size, 0, rfl, Nat.le_refl _, row_none w, (Below.refl _ _).alloc (Nat.le_refl _) _⟩

theorem sep_one (sep : ByteArray) (h : sep.size = 1) : ∃ c : UInt8, sep = ⟨#[c]⟩ := by
  obtain ⟨a⟩ := sep
  obtain ⟨l⟩ := a
  match l, h with
  | [c], _ => exact ⟨c, rfl⟩

/-- the answers at one text and one separator -/
theorem ans (s sep : ByteArray) (hs : s.size ≤ 1048576) (hp : sep.size ≤ 1048576) : ∃ (ps : List ByteArray) (b : Bool), ps.length ≤ 4001 ∧
    (∀ W, Calls Try.prog 10 #[.string s, .string sep] W (SAns ps b W)) ∧ (∀ W, Calls Try.prog 17 #[.string s, .string sep] W (SAns ps b W)) := by
  by_cases h : 4000 < s.size ∨ sep.size ≠ 1
  · exact ⟨[], false, by simp, fun W => impl_bad s sep W hs hp h, fun W => model_bad s sep W hs hp h⟩
  · obtain ⟨c, rfl⟩ := sep_one sep (by omega)
    exact ⟨_, true, pcs_len c s (by omega), fun W => impl_good s c (by omega) W, fun W => model_good s c (by omega) W⟩

def LPost (w : World) (e : Ending) (w' : World) : Prop := e = .returned (.bool true) ∧ Below w.heap.size w w'

set_option maxHeartbeats 2000000 in
set_option maxRecDepth 100000 in
theorem walkB (s sep : ByteArray) (w : World) (hs : s.size ≤ maxLen) (hp : sep.size ≤ maxLen) :
    Calls Try.prog 4 #[.string s, .string sep] w (LPost w) := by
  unfold maxLen at hs hp
  by_cases hb : 1048576 < s.size
  · go_enter Try.func4, Try.ntmps4
    go_wp2_with fail
    go_ret
    exact ⟨rfl, Below.refl _ _⟩
  · by_cases hb2 : 1048576 < sep.size
    · go_enter Try.func4, Try.ntmps4
      go_wp2_with fail
      go_ret
      exact ⟨rfl, Below.refl _ _⟩
    · have hs' : s.size ≤ 1048576 := by omega
      have hp' : sep.size ≤ 1048576 := by omega
      clear hb hb2 hs hp
      obtain ⟨ps, b, hps, hI, hM⟩ := ans s sep hs' hp'
      have HI := Lib.hid hI
      have HMo := Lib.hid hM
      obtain ⟨n, HN⟩ : ∃ n, Hid (ps.length = n) := ⟨_, Lib.hid rfl⟩
      have hn : n ≤ 4001 := by rw [← HN.out]; exact hps
      clear hI hM hps
      go_enter Try.func4, Try.ntmps4
      go_wp2_with fail
      refine (HMo.out _).mono ?_
      rintro e w1 ⟨g1, cap1, rfl, hg1, hR1, b1⟩
      rw [HN.out]
      have HR1 := Lib.hid hR1
      clear hR1
      go_wp2_with fail
      refine (HI.out _).mono ?_
      rintro e w2 ⟨g2, cap2, rfl, hg2, hR2, b2⟩
      rw [HN.out]
      have HR2 := Lib.hid hR2
      have HR12 := Lib.hid (HR1.out.below b2)
      have hne := Lib.hid (show g1 ≠ g2 by have := HR1.out.lt; omega)
      have HB2 := Lib.hid (show Below w.heap.size w w2 from b1.trans (b2.mono b1.size))
      have hg2w : w.heap.size ≤ g2 := Nat.le_trans b1.size hg2
      clear hR2 b1 b2 hg1 hg2 HR1
      go_wp2_with fail
      have hE1 := HR2.out.reads
      have hE2 := HR12.out.reads
      rw [HN.out] at hE1 hE2
      refine (eq_same _ _ n _ _ ps _ hE1 hE2 (by omega)).mono ?_
      rintro e w3 ⟨rfl, m3, rfl⟩
      clear hE1 hE2
      go_wp2_with fail
      obtain ⟨cur2, hb2, ht2, hl2⟩ := HR2.out
      refine (marks_any g2 n _ 1 cur2 _ (hb2.drewN m3) (by rw [← HN.out]; exact hl2) (by omega) (by decide) (by decide)).mono ?_
      rintro e w4 ⟨rfl, ⟨cur4, hb4, hm4⟩, hgr4⟩
      have HB4 := Lib.hid hb4
      have HM4 := Lib.hid hm4
      have HR14 := Lib.hid ((HR12.out.drewN m3).grown hgr4 hne.out)
      have HBel4 := Lib.hid (show Below w.heap.size w w4 from (ends.below_drewN HB2.out m3).grown hgr4 (by exact HB2.out.size) (fun k hk => by injection hk with hk; omega))
      clear hb2 ht2 hl2 hb4 hm4 hgr4 HR12 HR2
      go_wp2_with fail
      refine (held_any g2 n _ 1 cur4 _ HB4.out (by omega) (by decide) (by decide) HM4.out).mono ?_
      rintro e w5 ⟨rfl, b5⟩
      have HB5 := Lib.hid (HB4.out.below b5 HB4.out.lt)
      have HR15 := Lib.hid (HR14.out.below b5)
      have HBel5 := Lib.hid (show Below w.heap.size w w5 from HBel4.out.trans (b5.mono HBel4.out.size))
      clear b5 HB4 HR14 HBel4 HB2
      go_wp2_with fail
      refine (HI.out _).mono ?_
      rintro e w6 ⟨g6, cap6, rfl, hg6, hR6, b6⟩
      rw [HN.out]
      have HR6 := Lib.hid hR6
      have HB6 := Lib.hid (HB5.out.below b6 HB5.out.lt)
      have HR16 := Lib.hid (HR15.out.below b6)
      have HBel6 := Lib.hid (show Below w.heap.size w w6 from HBel5.out.trans (b6.mono HBel5.out.size))
      clear b6 HB5 HR15 HBel5 hR6
      go_wp2_with fail
      have hE1 := HR6.out.reads
      have hE2 := HR16.out.reads
      rw [HN.out] at hE1 hE2
      refine (eq_same _ _ n _ _ ps _ hE1 hE2 (by omega)).mono ?_
      rintro e w7 ⟨rfl, m7, rfl⟩
      clear hE1 hE2
      go_wp2_with fail
      refine (held_any g2 n _ 1 cur4 _ (HB6.out.drewN m7) (by omega) (by decide) (by decide) HM4.out).mono ?_
      rintro e w8 ⟨rfl, b8⟩
      have HBel8 := Lib.hid (show Below w.heap.size w w8 from (ends.below_drewN HBel6.out m7).trans (b8.mono HBel6.out.size))
      clear b8
      go_wp2_with fail
      go_ret
      exact ⟨rfl, HBel8.out⟩

set_option maxRecDepth 100000 in
theorem lifted (os : Os) (started : os.Started) (H : Type) (enc : TypeId × Value → H) :
    ReturnsInHanded {} Try.checked os 4 .any (Rows.fnExactSplitStringSpec.pre6 enc Try.prog Try.f4 Rows.fnExactSplitStringRow.domain false) (Rows.fnExactSplitStringSpec.post enc Try.prog Try.f4 false true false false) := by
  refine returnsInHanded_of_change (C := Try.checked) own started (by kernel_rfl) Try.func4
    (ChangeSpec.witness6 (enc := enc) (C := Try.checked) false ⟨#[], #[.string ByteArray.empty, .string ByteArray.empty], []⟩ 8 (by kernel_rfl) (by kernel_rfl) (by kernel_rfl) (by kernel_rfl)) ?_
  intro W base args ds gs before hval0 hW hcnd _
  have hval : ∀ (j : Nat) t v, Try.f4.params[j]? = some t → args[j]? = some v → Value.okWide Try.prog W .any base t v := hval0
  have hW' := hW
  obtain ⟨p, q, hA0, hV, rfl, hfz, hnd⟩ := hW
  have hA : DataW.TrodAll enc Try.prog W 0 (fun _ => true) true Try.f4.params.toList args.toList ds p := hA0
  rw [Try.params4] at hA hval
  obtain ⟨v0, vs0, d0, ds0, p0, q0, hargs, rfl, rfl, h0, r0⟩ := trodAll_cons hA
  obtain ⟨v1, vs1, d1, ds1, p1, q1, rfl, rfl, rfl, h1, r1⟩ := trodAll_cons r0
  obtain ⟨rfl, rfl, rfl⟩ := trodAll_nil r1
  obtain rfl : args = #[v0, v1] := by cases args; simp_all
  obtain ⟨rfl, rfl⟩ := trodVars_none hV
  obtain ⟨a0, rfl, rfl, rfl, w0⟩ := open_string Try.underlying9 (hval 0 9 v0 rfl rfl) h0
  obtain ⟨a1, rfl, rfl, rfl, w1⟩ := open_string Try.underlying9 (hval 1 9 v1 rfl rfl) h1
  clear hA0 hval0
  simp only [List.append_nil] at hW'
  refine (walkB a0 a1 W w0 w1).mono fun e W' ⟨he, hb⟩ => ?_
  subst he
  exact ⟨_, rfl, ends.post_of_below (pa := []) (pv := []) hW' (fun _ _ _ => (trodAll_cons_mk (shut_bool Try.underlying4 _) trodAll_mk0)) (fun sp _ => (trodAll_cons_mk (shut_string Try.underlying9 w0) (trodAll_cons_mk (shut_string Try.underlying9 w1) trodAll_mk0))) (fun _ _ => rfl) rfl
    hb (ok_one (by kernel_rfl) rfl (okWide_bool_mk Try.underlying4 _))⟩

theorem over : Rows.fnExactSplitStringRow.holds Try.pinned (OpenSpec.ofChange Rows.fnExactSplitStringSpec) :=
  OpenClaim.holds_of_wide 4 Try.f4 rfl rfl rfl rfl rfl rfl rfl ⟨rfl, rfl, rfl, rfl, rfl⟩ rfl rfl rfl rfl rfl (by kernel_rfl) Try.func4 (by kernel_rfl)
    (of_decide_eq_true (by kernel_rfl)) (by unfold Func.isWrapper; first | (rw [if_pos (by decide +kernel)]; kernel_rfl) | (rw [if_neg (by decide +kernel)]; exact ⟨rfl, rfl⟩))
    (fun os started H enc _ => lifted os started H enc)

theorem proved : Rows.FnExactSplitStringSaid :=
  over
#print axioms proved
end Go.Proofs.Ythpmgapgjfabgaa.fnExactSplitString
