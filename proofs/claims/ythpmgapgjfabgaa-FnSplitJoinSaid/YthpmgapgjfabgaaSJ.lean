/-
  FnSplitJoin holds: at every code SplitString and JoinStrings are inverse, JoinStrings answers as its model answers, and LessString is a strict order, and the code reads behind the call as it read before it.
  Conditions: none of our own.
-/
import Derived.Test.YthpmgapgjfabgaaSplit
import Derived.Test.YthpmgapgjfabgaaJoin
import Derived.Test.YthpmgapgjfabgaaDraw
import Derived.Test.YthpmgapgjfabgaaOpenB
import Derived.ChangeOld
import Derived.Below
namespace Go.Proofs.Ythpmgapgjfabgaa.fnSplitJoin
open Go.ChangeShapes Go.WideShapes Go.ChangeAt Go.RowKit
open Go.ChangeMaps (open_string shut_string)
open strmath iterc splitc listc curc drawc
open fnExactSplitString (Row SAns impl_good impl_bad)
set_option linter.unusedVariables false

theorem own : ownKnob Try.prog.godebug = none := by kernel_rfl
theorem laidOut : laidOutB Try.prog = true := by kernel_rfl

theorem join_pieces (c : UInt8) (l : List UInt8) : joinL c ((pieces c l).map fun p => (⟨p.toArray⟩ : ByteArray)) = l := by
  induction l with
  | nil => rfl
  | cons x l ih =>
    rw [pieces]
    cases hp : pieces c l with
    | nil => exact absurd hp (pieces_ne c l)
    | cons p r =>
      rw [hp] at ih
      by_cases hx : x = c
      · rw [if_pos hx, List.map_cons]
        rw [List.map_cons] at ih ⊢
        rw [joinL, ih, hx]; rfl
      · rw [if_neg hx]
        simp only [List.map_cons] at ih ⊢
        cases hr : r.map fun p => (⟨p.toArray⟩ : ByteArray) with
        | nil => rw [hr] at ih; simp only [joinL] at ih ⊢; rw [← ih]
        | cons q t => rw [hr] at ih; simp only [joinL] at ih ⊢; rw [← ih]; rfl
theorem pieces_no (c : UInt8) (l : List UInt8) : ∀ p ∈ pieces c l, c ∉ p := by
  induction l with
  | nil => intro p hp; simp [pieces] at hp; rw [hp]; simp
  | cons x l ih =>
    intro p hp
    rw [pieces] at hp
    by_cases hx : x = c
    · rw [if_pos hx] at hp
      rcases List.mem_cons.1 hp with rfl | hp
      · simp
      · exact ih p hp
    · rw [if_neg hx] at hp
      cases hq : pieces c l with
      | nil => exact absurd hq (pieces_ne c l)
      | cons q r =>
        rw [hq] at hp ih
        rcases List.mem_cons.1 hp with rfl | hp
        · intro hm
          rcases List.mem_cons.1 hm with e | e
          · exact hx e.symm
          · exact ih q (by simp) e
        · exact ih p (by simp [hp])
theorem clean_pcs (c : UInt8) (l : List UInt8) : clean c (pcs c l) = true := by
  unfold clean pcs
  rw [List.all_eq_true]
  intro p hp
  obtain ⟨q, hq, rfl⟩ := List.mem_map.1 hp
  have := (has_no _ _).2 (pieces_no c l q hq)
  simp [this]
theorem piece_size (c : UInt8) (s : ByteArray) : ∀ p ∈ pcs c s.data.toList, p.size ≤ s.size := by
  have key : ∀ l : List UInt8, ∀ p ∈ pieces c l, p.length ≤ l.length := by
    intro l
    induction l with
    | nil => intro p hp; simp [pieces] at hp; rw [hp]; simp
    | cons x l ih =>
      intro p hp
      rw [pieces] at hp
      by_cases hx : x = c
      · rw [if_pos hx] at hp
        rcases List.mem_cons.1 hp with rfl | hp
        · simp
        · have := ih p hp; simp; omega
      · rw [if_neg hx] at hp
        cases hq : pieces c l with
        | nil => exact absurd hq (pieces_ne c l)
        | cons q r =>
          rw [hq] at hp ih
          rcases List.mem_cons.1 hp with rfl | hp
          · have := ih q (by simp); simp; omega
          · have := ih p (by simp [hp]); simp; omega
  intro p hp
  obtain ⟨q, hq, rfl⟩ := List.mem_map.1 hp
  have h := key _ q hq
  have l1 : s.data.toList.length = s.size := rfl
  have l2 : (⟨q.toArray⟩ : ByteArray).size = q.length := rfl
  rw [l2]; omega

theorem less_asym : ∀ x y : List UInt8, Op.bytesLess x y = true → Op.bytesLess y x = false
  | _, [], h => by simp [Op.bytesLess] at h
  | [], _ :: _, _ => by simp [Op.bytesLess]
  | a :: x, b :: y, h => by
    simp only [Op.bytesLess, Bool.or_eq_true, Bool.and_eq_true, decide_eq_true_eq, beq_iff_eq] at h
    simp only [Op.bytesLess, Bool.or_eq_false_iff, Bool.and_eq_false_iff, decide_eq_false_iff_not]
    rcases h with h | ⟨rfl, h⟩
    · refine ⟨fun e => absurd (UInt8.lt_iff_toNat_lt.1 h) (by have := UInt8.lt_iff_toNat_lt.1 e; omega), .inl ?_⟩
      have : ¬ b = a := by intro e; subst e; exact absurd (UInt8.lt_iff_toNat_lt.1 h) (by omega)
      simpa using this
    · exact ⟨fun e => absurd (UInt8.lt_iff_toNat_lt.1 e) (by omega), .inr (less_asym x y h)⟩

theorem lessI (a b : ByteArray) (t : Bool) (w : World) (h : Op.bytesLess a.toList b.toList = t) :
    Calls Try.prog 15 #[.string a, .string b] w fun e w' => e = .returned (.bool t) ∧ w = w' := by
  have H := Lib.hid h
  clear h
  go_enter Try.func15, Try.ntmps15
  go_wp2_with fail
  go_ret
  exact ⟨by rw [← H.out]; rfl, rfl⟩
theorem lessS (a b : ByteArray) (t : Bool) (w : World) (h : Op.bytesLess a.toList b.toList = t) :
    Calls Try.prog 16 #[.string a, .string b] w fun e w' => e = .returned (.bool t) ∧ w = w' := by
  have H := Lib.hid h
  clear h
  go_enter Try.func16, Try.ntmps16
  go_wp2_with fail
  go_ret
  exact ⟨by rw [← H.out]; rfl, rfl⟩

theorem big_yes (A : Option Addr) (n cap : Nat) (w : World) (h : 65536 < n) (hm : n ≤ maxLen) :
    Calls Try.prog 8 #[.slice A n cap] w fun e w' => e = .returned (.bool true) ∧ w = w' := by
  unfold maxLen at hm
  have hd : decide (65536 < n) = true := by simpa using h
  have hd2 : decide (65536 < (n : Int)) = true := by simp; omega
  go_enter Try.func8, Try.ntmps8
  go_wp2_with fail
  go_ret
  exact ⟨rfl, rfl⟩
theorem big_no (A : Option Addr) (n cap : Nat) (w : World) (h : n ≤ 65536) :
    Calls Try.prog 8 #[.slice A n cap] w fun e w' => e = .returned (.bool false) ∧ w = w' := by
  have hd : decide (65536 < n) = false := by simpa using h
  have hd2 : decide (65536 < (n : Int)) = false := by simp; omega
  go_enter Try.func8, Try.ntmps8
  go_wp2_with fail
  go_ret
  exact ⟨rfl, rfl⟩

def LPost (w : World) (e : Ending) (w' : World) : Prop := e = .returned (.bool true) ∧ Below w.heap.size w w'
theorem sepL_one : ∀ t ∈ sepL, t.size ≤ 2 := by decide
theorem markL_one : ∀ t ∈ markL, t.size ≤ 2 := by decide

set_option maxHeartbeats 4000000 in
set_option maxRecDepth 100000 in
theorem walk (A : Option Addr) (n cap : Nat) (zs : List UInt8) (w : World) (hR : reads.Reads w w.heap.size 1 A n (bytesV zs)) (hm : n ≤ maxLen) :
    Calls Try.prog 3 #[.slice A n cap] w (LPost w) := by
  by_cases hb : 65536 < n
  · have HB := Lib.hid (big_yes A n cap w hb hm)
    clear hb hm hR
    go_enter Try.func3, Try.ntmps3
    go_wp2_with fail
    refine HB.out.mono ?_
    rintro e w' ⟨rfl, rfl⟩
    go_wp2_with fail
    go_ret
    exact ⟨rfl, Below.refl _ _⟩
  · have HB := Lib.hid (big_no A n cap w (by omega))
    have HC := Lib.hid (show drawc.Code w A n zs from ⟨hR, by omega⟩)
    clear hb hm hR
    go_enter Try.func3, Try.ntmps3
    go_wp2_with fail
    refine HB.out.mono ?_
    rintro e w' ⟨rfl, rfl⟩
    go_wp2_with fail
    refine (split_draw A n cap zs _ HC.out).mono ?_
    rintro e w1 ⟨s, sep, hs, hsep, rfl, b1⟩
    have hs10 : s.size ≤ 10 := anyL_size s hs
    have hsep2 : sep.size ≤ 2 := sepL_one sep hsep
    have HB1 := Lib.hid b1
    have HC1 := Lib.hid (HC.out.below b1)
    clear b1 hs hsep HC HB
    by_cases h1 : sep.size = 1
    · obtain ⟨c, rfl⟩ := fnExactSplitString.sep_one sep h1
      have HI := Lib.hid (fun W => impl_good s c (by omega) W)
      obtain ⟨k, HK⟩ : ∃ k, Hid ((pcs c s.data.toList).length = k) := ⟨_, Lib.hid rfl⟩
      have hk : k ≤ 4001 := by rw [← HK.out]; exact pcs_len c s (by omega)
      clear h1
      go_wp2_with fail
      refine (HI.out _).mono ?_
      rintro e w2 ⟨g2, cap2, rfl, hg2, hR2, b2⟩
      rw [HK.out]
      have HR2 := Lib.hid hR2
      have HC2 := Lib.hid (HC1.out.below b2)
      have HB2 := Lib.hid (show Below w.heap.size w w2 from HB1.out.trans (b2.mono HB1.out.size))
      clear hR2 b2 hg2 HB1 HC1
      go_wp2_with fail
      refine (join_draw A n cap zs _ HC2.out).mono ?_
      rintro e w3 ⟨A3, cp3, ps3, t3, rfl, ht3, hR3, hl3, hs3, b3⟩
      obtain ⟨j, tb, hA1, hA2⟩ := fnExactJoinStrings.ans ps3 t3 (by omega) (fun p hp => by have := hs3 p hp; omega) (by have := markL_one t3 ht3; omega)
      obtain ⟨m3, HM3⟩ : ∃ m3, Hid (ps3.length = m3) := ⟨_, Lib.hid rfl⟩
      rw [HM3.out]
      have HA1 := Lib.hid hA1
      have HA2 := Lib.hid hA2
      have HR3 := Lib.hid hR3
      have HC3 := Lib.hid (HC2.out.below b3)
      have HR23 := Lib.hid (HR2.out.below b3)
      have HB3 := Lib.hid (show Below w.heap.size w w3 from HB2.out.trans (b3.mono HB2.out.size))
      clear hA1 hA2 hR3 b3 HB2 HC2 HR2 ht3 hl3 hs3
      have c1 := HA1.out A3 cp3 w3 HR3.out
      rw [HM3.out] at c1
      have C1 := Lib.hid c1
      clear c1
      go_wp2_with fail
      refine C1.out.mono ?_
      rintro e w4 ⟨rfl, b4⟩
      have c2 := HA2.out A3 cp3 w4 ((HR3.out.below b4).more b4.size)
      rw [HM3.out] at c2
      have C2 := Lib.hid c2
      clear c2
      have HC4 := Lib.hid (HC3.out.below b4)
      have HR24 := Lib.hid (HR23.out.below b4)
      have HB4 := Lib.hid (show Below w.heap.size w w4 from HB3.out.trans (b4.mono HB3.out.size))
      clear b4 C1 HB3 HC3 HR23
      go_wp2_with fail
      refine C2.out.mono ?_
      rintro e w5 ⟨rfl, m5, rfl⟩
      have HC5 := Lib.hid (show drawc.Code (w4.drewN m5) A n zs from HC4.out)
      go_wp2_with fail
      refine (less_draw A n cap zs _ HC5.out).mono ?_
      rintro e w6 ⟨a6, b6, ha6, hb6, rfl, bb6⟩
      have HR26 := Lib.hid ((HR24.out.drewN m5).below bb6)
      have HB6 := Lib.hid (show Below w.heap.size w w6 from (ends.below_drewN HB4.out m5).trans (bb6.mono HB4.out.size))
      clear bb6 C2 HC5 HC4 HB4 HR24 ha6 hb6
      by_cases hl : Op.bytesLess a6.toList b6.toList = true
      · have HL1 := Lib.hid hl
        have HL2 := Lib.hid (less_asym _ _ hl)
        clear hl
        go_wp2_with fail
        refine (lessI a6 b6 true _ HL1.out).mono ?_
        rintro e w' ⟨rfl, rfl⟩
        go_wp2_with fail
        refine (lessS a6 b6 true _ HL1.out).mono ?_
        rintro e w' ⟨rfl, rfl⟩
        go_wp2_with fail
        refine (lessI a6 b6 true _ HL1.out).mono ?_
        rintro e w' ⟨rfl, rfl⟩
        go_wp2_with fail
        refine (lessI b6 a6 false _ HL2.out).mono ?_
        rintro e w' ⟨rfl, rfl⟩
        go_wp2_with fail
        have hE := HR26.out.reads
        have c3 := joinc.join_any (some ⟨g2, 0, none⟩) (pcs c s.data.toList).length cap2 c (pcs c s.data.toList) w6 hE (pcs_ne _ _) (by have := HK.out; omega) (fun p hp => by have := piece_size c s p hp; omega)
        rw [HK.out] at c3
        refine c3.mono ?_
        clear c3 hE
        rintro e w7 ⟨hJ, b7⟩
        obtain rfl : e = .returned (.tuple #[.string s, .bool true]) := by
          rcases hJ with ⟨_, _, hJ⟩ | ⟨hJ, _⟩
          · rw [hJ, pcs, join_pieces]
          · exfalso
            rcases hJ with hJ | hJ
            · rw [clean_pcs] at hJ; cases hJ
            · rw [pcs, join_pieces] at hJ
              have l1 : s.data.toList.length = s.size := rfl
              omega
        have HB7 := Lib.hid (show Below w.heap.size w w7 from HB6.out.trans (b7.mono HB6.out.size))
        clear hJ b7
        go_wp2_with fail
        go_ret
        exact ⟨rfl, HB7.out⟩
      · have HL1 := Lib.hid (show Op.bytesLess a6.toList b6.toList = false by simpa using hl)
        clear hl
        go_wp2_with fail
        refine (lessI a6 b6 false _ HL1.out).mono ?_
        rintro e w' ⟨rfl, rfl⟩
        go_wp2_with fail
        refine (lessS a6 b6 false _ HL1.out).mono ?_
        rintro e w' ⟨rfl, rfl⟩
        go_wp2_with fail
        refine (lessI a6 b6 false _ HL1.out).mono ?_
        rintro e w' ⟨rfl, rfl⟩
        go_wp2_with fail
        have hE := HR26.out.reads
        have c3 := joinc.join_any (some ⟨g2, 0, none⟩) (pcs c s.data.toList).length cap2 c (pcs c s.data.toList) w6 hE (pcs_ne _ _) (by have := HK.out; omega) (fun p hp => by have := piece_size c s p hp; omega)
        rw [HK.out] at c3
        refine c3.mono ?_
        clear c3 hE
        rintro e w7 ⟨hJ, b7⟩
        obtain rfl : e = .returned (.tuple #[.string s, .bool true]) := by
          rcases hJ with ⟨_, _, hJ⟩ | ⟨hJ, _⟩
          · rw [hJ, pcs, join_pieces]
          · exfalso
            rcases hJ with hJ | hJ
            · rw [clean_pcs] at hJ; cases hJ
            · rw [pcs, join_pieces] at hJ
              have l1 : s.data.toList.length = s.size := rfl
              omega
        have HB7 := Lib.hid (show Below w.heap.size w w7 from HB6.out.trans (b7.mono HB6.out.size))
        clear hJ b7
        go_wp2_with fail
        go_ret
        exact ⟨rfl, HB7.out⟩
    · have HI := Lib.hid (fun W => impl_bad s sep W (by omega) (by omega) (.inr h1))
      have b1 : ((sep.size : Int) != 1) = true := by simp; omega
      clear h1
      go_wp2_with fail
      refine (HI.out _).mono ?_
      rintro e w2 ⟨g2, cap2, rfl, hg2, hR2, b2⟩
      have HR2 := Lib.hid hR2
      have HC2 := Lib.hid (HC1.out.below b2)
      have HB2 := Lib.hid (show Below w.heap.size w w2 from HB1.out.trans (b2.mono HB1.out.size))
      clear hR2 b2 hg2 HB1 HC1
      go_wp2_with fail
      refine (join_draw A n cap zs _ HC2.out).mono ?_
      rintro e w3 ⟨A3, cp3, ps3, t3, rfl, ht3, hR3, hl3, hs3, b3⟩
      obtain ⟨j, tb, hA1, hA2⟩ := fnExactJoinStrings.ans ps3 t3 (by omega) (fun p hp => by have := hs3 p hp; omega) (by have := markL_one t3 ht3; omega)
      obtain ⟨m3, HM3⟩ : ∃ m3, Hid (ps3.length = m3) := ⟨_, Lib.hid rfl⟩
      rw [HM3.out]
      have HA1 := Lib.hid hA1
      have HA2 := Lib.hid hA2
      have HR3 := Lib.hid hR3
      have HC3 := Lib.hid (HC2.out.below b3)
      have HR23 := Lib.hid (HR2.out.below b3)
      have HB3 := Lib.hid (show Below w.heap.size w w3 from HB2.out.trans (b3.mono HB2.out.size))
      clear hA1 hA2 hR3 b3 HB2 HC2 HR2 ht3 hl3 hs3
      have c1 := HA1.out A3 cp3 w3 HR3.out
      rw [HM3.out] at c1
      have C1 := Lib.hid c1
      clear c1
      go_wp2_with fail
      refine C1.out.mono ?_
      rintro e w4 ⟨rfl, b4⟩
      have c2 := HA2.out A3 cp3 w4 ((HR3.out.below b4).more b4.size)
      rw [HM3.out] at c2
      have C2 := Lib.hid c2
      clear c2
      have HC4 := Lib.hid (HC3.out.below b4)
      have HR24 := Lib.hid (HR23.out.below b4)
      have HB4 := Lib.hid (show Below w.heap.size w w4 from HB3.out.trans (b4.mono HB3.out.size))
      clear b4 C1 HB3 HC3 HR23
      go_wp2_with fail
      refine C2.out.mono ?_
      rintro e w5 ⟨rfl, m5, rfl⟩
      have HC5 := Lib.hid (show drawc.Code (w4.drewN m5) A n zs from HC4.out)
      go_wp2_with fail
      refine (less_draw A n cap zs _ HC5.out).mono ?_
      rintro e w6 ⟨a6, b6, ha6, hb6, rfl, bb6⟩
      have HR26 := Lib.hid ((HR24.out.drewN m5).below bb6)
      have HB6 := Lib.hid (show Below w.heap.size w w6 from (ends.below_drewN HB4.out m5).trans (bb6.mono HB4.out.size))
      clear bb6 C2 HC5 HC4 HB4 HR24 ha6 hb6
      by_cases hl : Op.bytesLess a6.toList b6.toList = true
      · have HL1 := Lib.hid hl
        have HL2 := Lib.hid (less_asym _ _ hl)
        clear hl
        go_wp2_with fail
        refine (lessI a6 b6 true _ HL1.out).mono ?_
        rintro e w' ⟨rfl, rfl⟩
        go_wp2_with fail
        refine (lessS a6 b6 true _ HL1.out).mono ?_
        rintro e w' ⟨rfl, rfl⟩
        go_wp2_with fail
        refine (lessI a6 b6 true _ HL1.out).mono ?_
        rintro e w' ⟨rfl, rfl⟩
        go_wp2_with fail
        refine (lessI b6 a6 false _ HL2.out).mono ?_
        rintro e w' ⟨rfl, rfl⟩
        go_wp2_with fail
        go_ret
        exact ⟨rfl, HB6.out⟩
      · have HL1 := Lib.hid (show Op.bytesLess a6.toList b6.toList = false by simpa using hl)
        clear hl
        go_wp2_with fail
        refine (lessI a6 b6 false _ HL1.out).mono ?_
        rintro e w' ⟨rfl, rfl⟩
        go_wp2_with fail
        refine (lessS a6 b6 false _ HL1.out).mono ?_
        rintro e w' ⟨rfl, rfl⟩
        go_wp2_with fail
        refine (lessI a6 b6 false _ HL1.out).mono ?_
        rintro e w' ⟨rfl, rfl⟩
        go_wp2_with fail
        go_ret
        exact ⟨rfl, HB6.out⟩

set_option maxRecDepth 100000 in
theorem lifted (os : Os) (started : os.Started) (H : Type) (enc : TypeId × Value → H) :
    ReturnsInHanded {} Try.checked os 3 .any (Rows.fnSplitJoinSpec.pre6 enc Try.prog Try.f3 Rows.fnSplitJoinRow.domain false) (Rows.fnSplitJoinSpec.post enc Try.prog Try.f3 false true false false) := by
  refine returnsInHanded_of_change (C := Try.checked) own started (by kernel_rfl) Try.func3
    (ChangeSpec.witness6 (enc := enc) (C := Try.checked) false ⟨#[], #[.slice none 0 0], []⟩ 8 (by kernel_rfl) (by kernel_rfl) (by kernel_rfl) (by kernel_rfl)) ?_
  intro W base args ds gs before hval0 hW hcnd _
  have hval : ∀ (j : Nat) t v, Try.f3.params[j]? = some t → args[j]? = some v → Value.okWide Try.prog W .any base t v := hval0
  have hW' := hW
  obtain ⟨p, q, hA0, hV, rfl, hfz, hnd⟩ := hW
  have hA : DataW.TrodAll enc Try.prog W 0 (fun _ => true) true Try.f3.params.toList args.toList ds p := hA0
  rw [Try.params3] at hA hval
  obtain ⟨v0, vs0, d0, ds0, p0, q0, hargs, rfl, rfl, h0, r0⟩ := trodAll_cons hA
  obtain ⟨rfl, rfl, rfl⟩ := trodAll_nil r0
  obtain rfl : args = #[v0] := by cases args; simp_all
  obtain ⟨rfl, rfl⟩ := trodVars_none hV
  have k0 := h0
  have lt0 : ∀ x ∈ p0, x.block < W.heap.size := by obtain ⟨m, hm⟩ := k0; exact DataW.trod_lt m _ _ _ hm
  obtain ⟨A, n, cap, zs, rfl, hR, hm⟩ := openb.opened (hval 0 22 v0 rfl rfl) h0
  clear hA0 hval0
  refine (walk A n cap zs W hR hm).mono fun e W' ⟨he, bel⟩ => ?_
  subst he
  exact ⟨_, rfl, _, _, _, [], _, [], hW', trodAll_mk1 (shut_bool Try.underlying4 _), (trodAll_cons_mk (Below.trod laidOut (by kernel_rfl) (of_decide_eq_true (by kernel_rfl)) k0 bel lt0) trodAll_mk0), rfl, bel.frame _, fun h => by cases h⟩

theorem over : Rows.fnSplitJoinRow.holds Try.pinned (OpenSpec.ofChange Rows.fnSplitJoinSpec) :=
  OpenClaim.holds_of_wide 3 Try.f3 rfl rfl rfl rfl rfl rfl rfl ⟨rfl, rfl, rfl, rfl, rfl⟩ rfl rfl rfl rfl rfl (by kernel_rfl) Try.func3 (by kernel_rfl)
    (of_decide_eq_true (by kernel_rfl)) (by unfold Func.isWrapper; first | (rw [if_pos (by decide +kernel)]; kernel_rfl) | (rw [if_neg (by decide +kernel)]; exact ⟨rfl, rfl⟩))
    (fun os started H enc _ => lifted os started H enc)

theorem proved : Rows.FnSplitJoinSaid := over
#print axioms proved
end Go.Proofs.Ythpmgapgjfabgaa.fnSplitJoin
