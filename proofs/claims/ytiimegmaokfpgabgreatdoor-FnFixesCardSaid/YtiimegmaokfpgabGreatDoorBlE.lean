/-
  What chapter 10's functions answer: which legs are placed, the first of the candidates with the least strain, fixes (pure).
  The model: legs without one of them, placed legs, StrainWithout and SuspectLeg.
  The search for the best fix, leg by leg (pure).
  Fixes by the model: l10Fix, l10Can, FixLeg, StrainAfter.
  The best fix and CleanLegs by the model.
  Conditions: those that each theorem names.
-/
import Derived.Test.YtiimegmaokfpgabGreatDoorBlB
import Derived.Test.YtiimegmaokfpgabGreatDoorBlA
import Derived.Laws.AppendOwnNone
namespace Go.Proofs.YtiimegmaokfpgabGreatDoor.bl
open Go.RowKit
open reads base ty lg lgi win hs nt nq rowi sn mt ml dt pg ph lp
set_option linter.unusedVariables false
set_option linter.unusedSimpArgs false
def plB (ts : List Lg) (i : Int) : Bool := goodLg ts && mem (plIds ts) i
theorem plB_at {ts : List Lg} {i : Int} (h : plB ts i = true) : goodLg ts = true ∧ i ∈ plIds ts ∧ ∃ j : Nat, i = (j : Int) ∧ ∃ x, ts[j]? = some x ∧ x.frm ∈ (net ts).ps := by
  unfold plB at h
  rw [Bool.and_eq_true] at h
  have hm := mem_iff.1 h.2
  obtain ⟨j, e, x, hx, hp⟩ := plIds_at hm
  exact ⟨h.1, hm, j, e, x, hx, mem_iff.1 hp⟩
section
variable {α : Type} (p : α → Bool) (F : α → List Lg)
def flS (o : Option α) (c : α) : Option α := match o with
  | none => if p c then some c else none
  | some b => if p c && decide (cpS (F c) (F b) < 0) then some c else some b
def flN (l : List α) : Nat → Option α
  | 0 => none
  | k + 1 => match l[k]? with
    | some c => flS p F (flN l k) c
    | none => flN l k
variable {p F}
theorem flN_succ {l : List α} {k : Nat} {c : α} (h : l[k]? = some c) : flN p F l (k + 1) = flS p F (flN p F l k) c := by
  show (match l[k]? with | some c => _ | none => _) = _
  rw [h]
theorem flS_no {o : Option α} {c : α} (h : p c = false) : flS p F o c = o := by
  unfold flS; cases o <;> simp [h]
theorem flS_none {c : α} (h : p c = true) : flS p F none c = some c := by unfold flS; simp [h]
theorem flS_yes {b c : α} (h : p c = true) (hc : cpS (F c) (F b) < 0) : flS p F (some b) c = some c := by unfold flS; simp [h, hc]
theorem flS_keep {b c : α} (hc : ¬ cpS (F c) (F b) < 0) : flS p F (some b) c = some b := by unfold flS; simp [hc]
theorem flN_mem {l : List α} : ∀ {k : Nat} {b : α}, flN p F l k = some b → b ∈ l ∧ p b = true
  | k + 1, b, h => by
    cases e : l[k]? with
    | none => rw [show flN p F l (k + 1) = flN p F l k by show (match l[k]? with | some c => _ | none => _) = _; rw [e]] at h; exact flN_mem h
    | some c =>
      rw [flN_succ e] at h
      have hc := List.mem_of_getElem? e
      cases q : p c
      · rw [flS_no q] at h; exact flN_mem h
      · cases o : flN p F l k with
        | none => rw [o, flS_none q] at h; obtain rfl := Option.some.inj h; exact ⟨hc, q⟩
        | some d =>
          rw [o] at h
          by_cases z : cpS (F c) (F d) < 0
          · rw [flS_yes q z] at h; obtain rfl := Option.some.inj h; exact ⟨hc, q⟩
          · rw [flS_keep z] at h; obtain rfl := Option.some.inj h; exact flN_mem o
theorem cpS_anti (a b : List Lg) : cpS b a = - cpS a b := by unfold cpS; exact cpI_neg _ _
theorem flN_least {l : List α} (hF : ∀ c ∈ l, p c = true → goodLg (F c) = true) : ∀ {k : Nat} {b : α}, flN p F l k = some b → ∀ (j : Nat) (c : α), j < k → l[j]? = some c → p c = true → cpS (F b) (F c) ≤ 0
  | k + 1, b, h, j, c, hj, hc, hp => by
    cases e : l[k]? with
    | none =>
      rw [show flN p F l (k + 1) = flN p F l k by show (match l[k]? with | some c => _ | none => _) = _; rw [e]] at h
      have : j ≠ k := fun q => by rw [q, e] at hc; cases hc
      exact flN_least hF h j c (by omega) hc hp
    | some d =>
      rw [flN_succ e] at h
      have self : ∀ x : List Lg, cpS x x ≤ 0 := fun x => by have := cpS_anti x x; omega
      by_cases ej : j = k
      · subst ej
        rw [e] at hc
        obtain rfl := Option.some.inj hc
        cases o : flN p F l j with
        | none => rw [o, flS_none hp] at h; obtain rfl := Option.some.inj h; exact self _
        | some a =>
          rw [o] at h
          by_cases z : cpS (F d) (F a) < 0
          · rw [flS_yes hp z] at h; obtain rfl := Option.some.inj h; exact self _
          · rw [flS_keep z] at h; obtain rfl := Option.some.inj h
            have := cpS_anti (F d) (F a); omega
      · cases o : flN p F l k with
        | none =>
          -- nothing was possible, but c was
          exfalso
          have key : ∀ m, j < m → m ≤ k → flN p F l m ≠ none := by
            intro m hm hmk
            induction m with
            | zero => omega
            | succ m ih =>
              cases e2 : l[m]? with
              | none =>
                have : j ≠ m := fun q => by rw [q, e2] at hc; cases hc
                rw [show flN p F l (m + 1) = flN p F l m by show (match l[m]? with | some c => _ | none => _) = _; rw [e2]]
                exact ih (by omega) (by omega)
              | some g =>
                rw [flN_succ e2]
                cases o2 : flN p F l m with
                | none =>
                  by_cases q : j = m
                  · subst q; rw [hc] at e2; obtain rfl := Option.some.inj e2
                    rw [flS_none hp]; simp
                  · exact absurd o2 (ih (by omega) (by omega))
                | some a =>
                  unfold flS
                  split <;> simp_all
                  split <;> simp
          exact key k (by omega) (Nat.le_refl _) o
        | some a =>
          rw [o] at h
          have old := flN_least hF o j c (by omega) hc hp
          cases q : p d
          · rw [flS_no q] at h; obtain rfl := Option.some.inj h; exact old
          · by_cases z : cpS (F d) (F a) < 0
            · rw [flS_yes q z] at h; obtain rfl := Option.some.inj h
              have ma := flN_mem o
              exact (cpS_trans (hF d (List.mem_of_getElem? e) q) (hF a ma.1 ma.2) (hF c (List.mem_of_getElem? hc) hp) (by omega) old).1
            · rw [flS_keep z] at h; obtain rfl := Option.some.inj h; exact old
def bsS (us : List Lg) (o : Option α) (c : α) : Option α := match o with
  | none => if p c && decide (cpS (F c) us < 0) then some c else none
  | some b => if p c && decide (cpS (F c) (F b) < 0) then some c else some b
def below (us : List Lg) (o : Option α) : Option α := match o with
  | none => none
  | some b => if cpS (F b) us < 0 then some b else none
theorem bs_step {us : List Lg} (hu : goodLg us = true) {o : Option α} {c : α} (hc : p c = true → goodLg (F c) = true) (ho : ∀ b, o = some b → goodLg (F b) = true) : bsS (p := p) (F := F) us (below (F := F) us o) c = below (F := F) us (flS p F o c) := by
  cases q : p c
  · rw [flS_no q]; unfold bsS; cases below (F := F) us o <;> simp [q]
  · have gc := hc q
    cases o with
    | none => rw [flS_none q]; unfold below bsS; simp [q]
    | some b =>
      have gb := ho b rfl
      by_cases z : cpS (F c) (F b) < 0
      · rw [flS_yes q z]
        by_cases y : cpS (F b) us < 0
        · have := (cpS_trans gc gb hu (by omega) (by omega)).2 (.inl z)
          unfold below bsS; simp [y, q, z, this]
        · unfold below bsS; simp [y, q]
      · rw [flS_keep z]
        by_cases y : cpS (F b) us < 0
        · unfold below bsS; simp [y, z]
        · have : ¬ cpS (F c) us < 0 := fun x => by
            have h1 : cpS us (F b) ≤ 0 := by have := cpS_anti (F b) us; omega
            have := (cpS_trans gc hu gb (by omega) h1).2 (.inl x)
            omega
          unfold below bsS; simp [y, this]
def bsN (us : List Lg) (l : List α) : Nat → Option α
  | 0 => none
  | k + 1 => match l[k]? with
    | some c => bsS (p := p) (F := F) us (bsN us l k) c
    | none => bsN us l k
theorem bsN_is {us : List Lg} (hu : goodLg us = true) {l : List α} (hF : ∀ c ∈ l, p c = true → goodLg (F c) = true) : ∀ k, bsN (p := p) (F := F) us l k = below (F := F) us (flN p F l k)
  | 0 => rfl
  | k + 1 => by
    have ih := bsN_is hu hF k
    cases e : l[k]? with
    | none =>
      rw [show flN p F l (k + 1) = flN p F l k by show (match l[k]? with | some c => _ | none => _) = _; rw [e], show bsN (p := p) (F := F) us l (k + 1) = bsN (p := p) (F := F) us l k by show (match l[k]? with | some c => _ | none => _) = _; rw [e]]
      exact ih
    | some c =>
      rw [flN_succ e, show bsN (p := p) (F := F) us l (k + 1) = bsS (p := p) (F := F) us (bsN (p := p) (F := F) us l k) c by show (match l[k]? with | some c => _ | none => _) = _; rw [e], ih]
      exact bs_step hu (hF c (List.mem_of_getElem? e)) (fun b hb => by have := flN_mem hb; exact hF b this.1 this.2)
end
def fixLg (x : Lg) (f : Int) : Lg := if f = 1 then ⟨x.frm, x.to_, x.tape, (x.comp + 180) % 360, x.slope⟩ else if f = 2 then ⟨x.frm, x.to_, x.tape, x.comp, -x.slope⟩ else if f = 3 then ⟨x.frm, x.to_, x.tape + 100, x.comp, x.slope⟩ else ⟨x.frm, x.to_, x.tape - 100, x.comp, x.slope⟩
def fixTs (ts : List Lg) (i f : Int) : List Lg := ts.set i.toNat (fixLg (lgAt ts i) f)
def canB (ts : List Lg) (i f : Int) : Bool := plB ts i && (btw 1 f 4 && okLg (fixLg (lgAt ts i) f))
theorem fix_good {ts : List Lg} {j : Nat} {y : Lg} (hg : goodLg ts = true) (hj : j < ts.length) : goodLg (ts.set j y) = okLg y := by
  unfold goodLg
  rw [List.length_set]
  have hl := goodLg_len hg
  have d : decide (ts.length ≤ 12) = true := by simpa using hl
  cases h : okLg y
  · rw [Bool.and_eq_false_iff]
    left
    rw [List.all_eq_false]
    exact ⟨y, List.mem_set hj y, by rw [h]; decide⟩
  · rw [Bool.and_eq_true]
    refine ⟨?_, by simpa using hl⟩
    rw [List.all_eq_true]
    intro z hz
    rcases List.mem_or_eq_of_mem_set hz with q | q
    · obtain ⟨m, hm⟩ := List.getElem?_of_mem q
      exact goodLg_at hg hm
    · rw [q]; exact h
theorem can_good {ts : List Lg} {i f : Int} (h : canB ts i f = true) : goodLg (fixTs ts i f) = true ∧ (1 ≤ f ∧ f ≤ 4) := by
  unfold canB at h
  rw [Bool.and_eq_true, Bool.and_eq_true] at h
  obtain ⟨h1, h2, h3⟩ := h
  obtain ⟨hg, -, j, rfl, x, hx, -⟩ := plB_at h1
  have hj := lt_at hx
  unfold fixTs
  rw [Int.toNat_natCast, fix_good hg hj]
  exact ⟨h3, btw_yes h2⟩
def fxTs (ts : List Lg) (i f : Int) : List Lg := if canB ts i f then fixTs ts i f else []
theorem fxTs_len (ts : List Lg) (i f : Int) : (fxTs ts i f).length ≤ ts.length := by unfold fxTs fixTs; split <;> simp
def ansSa (ts : List Lg) (i f : Int) : Value := if canB ts i f then .tuple #[.int .i64 (snV (fixTs ts i f)), .int .i64 (sdV (fixTs ts i f)), .bool true] else .tuple #[.int .i64 0, .int .i64 0, .bool false]
def fxAll (U : List Int) : List (Int × Int) := U.flatMap (fun i => [(i, 1), (i, 2), (i, 3), (i, 4)])
def bfO (ts : List Lg) : Option (Int × Int) := flN (fun c : Int × Int => canB ts c.1 c.2) (fun c => fixTs ts c.1 c.2) (fxAll (plIds ts)) (fxAll (plIds ts)).length
def bfV (ts : List Lg) : Option (Int × Int) := if goodLg ts then below (F := fun c : Int × Int => fixTs ts c.1 c.2) ts (bfO ts) else none
def ansBf (ts : List Lg) : Value := .tuple #[.int .i64 ((bfV ts).getD (0, 0)).1, .int .i64 ((bfV ts).getD (0, 0)).2, .bool (bfV ts).isSome]
theorem bfV_can {ts : List Lg} {c : Int × Int} (h : bfV ts = some c) : canB ts c.1 c.2 = true ∧ cpS (fixTs ts c.1 c.2) ts < 0 := by
  unfold bfV at h
  split at h
  · unfold below at h
    cases o : bfO ts with
    | none => rw [o] at h; cases h
    | some b =>
      rw [o] at h
      simp only at h
      split at h
      · rename_i z
        obtain rfl := Option.some.inj h
        exact ⟨(flN_mem o).2, z⟩
      · cases h
  · cases h
def clK (ts : List Lg) : Nat → List Lg
  | 0 => ts
  | k + 1 => match bfV (clK ts k) with
    | some c => fixTs (clK ts k) c.1 c.2
    | none => clK ts k
theorem clK_good {ts : List Lg} (hg : goodLg ts = true) : ∀ k, goodLg (clK ts k) = true
  | 0 => hg
  | k + 1 => by
    have ih := clK_good hg k
    rw [clK]
    split
    · rename_i c h
      exact (can_good (bfV_can h).1).1
    · exact ih
theorem clK_len (ts : List Lg) : ∀ k, (clK ts k).length = ts.length
  | 0 => rfl
  | k + 1 => by
    rw [clK]
    split
    · unfold fixTs; rw [List.length_set]; exact clK_len ts k
    · exact clK_len ts k
def clE (ts : List Lg) : Nat := if (bfV ts).isNone then 0 else if (bfV (clK ts 1)).isNone then 1 else if (bfV (clK ts 2)).isNone then 2 else 3
theorem clE_is {ts : List Lg} {m : Nat} (hm : m ≤ 3) (h : ∀ j, j < m → (bfV (clK ts j)).isNone = false) (he : m = 3 ∨ (bfV (clK ts m)).isNone = true) : clE ts = m := by
  unfold clE
  have e0 : clK ts 0 = ts := rfl
  have hc : m = 0 ∨ m = 1 ∨ m = 2 ∨ m = 3 := by omega
  rcases hc with rfl | rfl | rfl | rfl
  · have := he.resolve_left (by decide); rw [e0] at this; rw [this]; rfl
  · have h0 := h 0 (by omega); rw [e0] at h0
    have := he.resolve_left (by decide)
    rw [h0, this]; rfl
  · have h0 := h 0 (by omega); rw [e0] at h0
    have h1 := h 1 (by omega)
    have := he.resolve_left (by decide)
    rw [h0, h1, this]; rfl
  · have h0 := h 0 (by omega); rw [e0] at h0
    have h1 := h 1 (by omega)
    have h2 := h 2 (by omega)
    rw [h0, h1, h2]; rfl
theorem clE_le (ts : List Lg) : clE ts ≤ 3 := by unfold clE; split; omega; split; omega; split <;> omega
def clTs (ts : List Lg) : List Lg := if goodLg ts then clK ts (clE ts) else []
def clN' (ts : List Lg) : Int := if goodLg ts then (clE ts : Int) else 0
theorem clTs_len (ts : List Lg) : (clTs ts).length ≤ ts.length := by
  unfold clTs
  split
  · rw [clK_len]; exact Nat.le_refl _
  · simp
end Go.Proofs.YtiimegmaokfpgabGreatDoor.bl
namespace Go.Proofs.YtiimegmaokfpgabGreatDoor.bl
open Go.RowKit
open reads base ty lg lgi win hs nt nq rowi sn mt ml dt pg ph lp
set_option linter.unusedVariables false
set_option linter.unusedSimpArgs false
def QLo (us : List Lg) (w : World) (e : Ending) (w' : World) : Prop :=
  ∃ A c, e = .returned (.slice A us.length c) ∧ w'.ownsRow w.heap.size 87 5 (.slice A us.length c) us.length (flatLg us) ∧ Below w.heap.size w w'
set_option maxHeartbeats 16000000 in
set_option maxRecDepth 100000 in
theorem less_any (gL n cap : Nat) (ts : List Lg) (j : Nat) (x : Lg) (w : World) (hg : Hid (goodLg ts = true)) (hx : Hid (ts[j]? = some x)) (hcap : n ≤ cap) (hts : Hid (LgAt w w.heap.size (some ⟨gL, 0, none⟩) n ts)) :
    Calls Tryz.prog 103 #[.slice (some ⟨gL, 0, none⟩) n cap, .int .i64 (j : Int)] w (QLo (less ts j) w) := by
  have HL := Lib.hid hts.out.1
  have hjn : j < n := by have := lt_at hx.out; rw [HL.out] at this; exact this
  have hn12 := len12 HL.out hg.out
  have HTK := Lib.hid (fun (v : World) (hv : Below w.heap.size w v) => flat_take (hts.out.below hv) j)
  have HDK := Lib.hid (fun (v : World) (hv : Below w.heap.size w v) => flat_drop (hts.out.below hv) (j + 1) (by omega))
  have hji : (j : Int) < (n : Int) := by omega
  have hj0 : (0 : Int) ≤ (j : Int) := by omega
  have hjc : (j : Int) ≤ (cap : Int) := by omega
  have hjc' : j ≤ cap := by omega
  have hj1n : (j : Int) + 1 ≤ (n : Int) := by omega
  have hj1 : (0 : Int) ≤ (j : Int) + 1 := by omega
  have hjt : ((j : Int) + 1).toNat = j + 1 := by omega
  have hncap : (n : Int) ≤ (cap : Int) := by omega
  have hj1w : IntKind.i64.wrap ((j : Int) + 1) = (j : Int) + 1 := IntWalk.i64_in _ (by omega)
  by_cases hcj : cap = j + 1
  · obtain rfl : n = j + 1 := by omega
    obtain rfl : cap = j + 1 := by omega
    have hjj : (j : Int) ≤ (j : Int) + 1 := by omega
    have hll : (less ts j).length = j + 1 - 1 := by unfold less; rw [List.length_append, List.length_take, List.length_drop, HL.out]; omega
    go_enter Tryz.func103, Tryz.ntmps103
    go_upto_region 1 with fail
    refine wp_region_held_drew (S := (fun _ => True)) (by kernel_rfl) trivial (fun hHeld => ?_)
    obtain ⟨V0, HV0⟩ : ∃ V, Hid (w.drew = V) := ⟨_, Lib.hid rfl⟩
    have HB0 := Lib.hid (show Below w.heap.size w V0 by rw [← HV0.out]; exact (Below.refl _ _).drew)
    rw [HV0.out]
    clear HV0
    refine' wpAnyH_take (i := 1) (v := ?vb1_1) rfl (by kernel_rfl) (by kernel_rfl) (by kernel_rfl) (fun _ _ _ h => h) (Or.inl ⟨by rfl, ?hyb1_1⟩) (by assumption) ?restb1_1
    case hyb1_1 => (intro w hSw; (try dsimp only at hSw); go_simp; try (with_reducible rfl))
    simp only [Act.put, List.getElem_toArray, List.getElem_cons_succ, List.getElem_cons_zero, List.setIfInBounds_toArray, List.set_cons_zero, List.set_cons_succ]
    refine' wpAnyH_take (i := 2) (v := ?vb2_2) rfl (by kernel_rfl) (by kernel_rfl) (by kernel_rfl) (fun _ _ _ h => h) (Or.inl ⟨by rfl, ?hyb2_2⟩) (by assumption) ?restb2_2
    case hyb2_2 => (intro w hSw; (try dsimp only at hSw); go_simp; try (with_reducible rfl))
    simp only [Act.put, List.getElem_toArray, List.getElem_cons_succ, List.getElem_cons_zero, List.setIfInBounds_toArray, List.set_cons_zero, List.set_cons_succ]
    refine' wpAnyH_take (i := 3) (v := ?vb3_3) rfl (by kernel_rfl) (by kernel_rfl) (by kernel_rfl) (fun _ _ _ h => h) (Or.inl ⟨by rfl, ?hyb3_3⟩) (by assumption) ?restb3_3
    case hyb3_3 => (intro w hSw; (try dsimp only at hSw); go_simp; try (with_reducible rfl))
    simp only [Act.put, List.getElem_toArray, List.getElem_cons_succ, List.getElem_cons_zero, List.setIfInBounds_toArray, List.set_cons_zero, List.set_cons_succ]
    refine' wpAnyH_take (i := 5) (v := ?vb4_5) rfl (by kernel_rfl) (by kernel_rfl) (by kernel_rfl) (fun _ _ _ h => h) (Or.inl ⟨by rfl, ?hyb4_5⟩) (by assumption) ?restb4_5
    case hyb4_5 => (intro w hSw; (try dsimp only at hSw); go_simp; try (with_reducible rfl))
    simp only [Act.put, List.getElem_toArray, List.getElem_cons_succ, List.getElem_cons_zero, List.setIfInBounds_toArray, List.set_cons_zero, List.set_cons_succ]
    refine' wpAnyH_take (i := 6) (v := ?vb5_6) rfl (by kernel_rfl) (by kernel_rfl) (by kernel_rfl) (fun _ _ _ h => h) (Or.inl ⟨by rfl, ?hyb5_6⟩) (by assumption) ?restb5_6
    case hyb5_6 => (intro w hSw; (try dsimp only at hSw); go_simp; try (with_reducible rfl))
    simp only [Act.put, List.getElem_toArray, List.getElem_cons_succ, List.getElem_cons_zero, List.setIfInBounds_toArray, List.set_cons_zero, List.set_cons_succ]
    refine' wpAnyH_take (i := 7) (v := ?vb6_7) rfl (by kernel_rfl) (by kernel_rfl) (by kernel_rfl) (fun _ _ _ h => h) (Or.inl ⟨by rfl, ?hyb6_7⟩) (by assumption) ?restb6_7
    case hyb6_7 => (intro w hSw; (try dsimp only at hSw); go_simp; try (with_reducible rfl))
    simp only [Act.put, List.getElem_toArray, List.getElem_cons_succ, List.getElem_cons_zero, List.setIfInBounds_toArray, List.set_cons_zero, List.set_cons_succ]
    refine' wpAnyH_take (i := 8) (v := ?vb7_8) rfl (by kernel_rfl) (by kernel_rfl) (by kernel_rfl) (fun _ _ _ h => h) (Or.inl ⟨by rfl, ?hyb7_8⟩) (by assumption) ?restb7_8
    case hyb7_8 => (intro w hSw; (try dsimp only at hSw); go_simp; try (with_reducible rfl))
    simp only [Act.put, List.getElem_toArray, List.getElem_cons_succ, List.getElem_cons_zero, List.setIfInBounds_toArray, List.set_cons_zero, List.set_cons_succ]
    refine wpAnyH_ready (rs := [0]) (by kernel_rfl) (by simp) ?_
    refine AllReadyH.cons rfl (fun K hK => ?_) AllReadyH.nil
    go_simp
    refine hK.out _ _ trivial (fun hHeld1 => ?_)
    clear hK K hHeld
    have hHeld := hHeld1
    clear hHeld1
    try simp only [Act.put, List.getElem_toArray, List.getElem_cons_succ, List.getElem_cons_zero, List.setIfInBounds_toArray, List.set_cons_zero, List.set_cons_succ]
    obtain ⟨G0, HG0⟩ : ∃ G, Hid (V0.heap.size = G) := ⟨_, Lib.hid rfl⟩
    obtain ⟨V1, HW⟩ : ∃ Wx, Hid (V0.alloc (.cells #[] 87) = Wx) := ⟨_, Lib.hid rfl⟩
    have HB1 := Lib.hid (show Below w.heap.size w V1 by rw [← HW.out]; exact HB0.out.alloc HB0.out.size _)
    have HO1 := Lib.hid (show V1.ownsRow w.heap.size 87 5 (.slice (some ⟨G0, 0, none⟩) 0 0) 0 (flatLg []) by rw [← HW.out, ← HG0.out]; exact World.ownsRow_made V0 #[] 0 HB0.out.size (by decide) (by simp))
    rw [HW.out]
    try rw [HG0.out]
    clear HW
    refine wpAnyH_ready (rs := [4]) (by kernel_rfl) (by simp) ?_
    refine AllReadyH.cons rfl (fun K hK => ?_) AllReadyH.nil
    refine step_legs (news := flatLg (ts.take j)) (m := j) rfl _ _ rfl rfl HO1.out rfl (by rw [flatLg_len, List.length_take, HL.out]; omega) (HTK.out V1 HB1.out) (flat_one _) (by omega) HB1.out.size ?_
    intro v2 V2 ho hg
    have HB2 := Lib.hid (HB1.out.grown hg HB1.out.size (fun g e => (HO1.out.lt g e).1))
    have HO2 := Lib.hid (show V2.ownsRow w.heap.size 87 5 v2 (0 + j) (flatLg [] ++ flatLg (ts.take j)) from ho)
    refine hK.out _ _ trivial (fun hHeld1 => ?_)
    clear ho hg
    clear hK K hHeld
    have hHeld := hHeld1
    clear hHeld1
    try simp only [Act.put, List.getElem_toArray, List.getElem_cons_succ, List.getElem_cons_zero, List.setIfInBounds_toArray, List.set_cons_zero, List.set_cons_succ]
    refine wpAnyH_ready (rs := [9]) (by kernel_rfl) (by simp) ?_
    refine AllReadyH.cons rfl (fun K hK => ?_) AllReadyH.nil
    refine step_legs (news := []) (m := 0) rfl _ _ rfl rfl HO2.out rfl rfl (fun q u h => by simp at h) (fun u h => by simp at h) (by omega) HB2.out.size ?_
    intro v3 V3 ho hg
    have HB3 := Lib.hid (HB2.out.grown hg HB2.out.size (fun g e => (HO2.out.lt g e).1))
    have HO3 := Lib.hid (show V3.ownsRow w.heap.size 87 5 v3 (j + 1 - 1) (flatLg (less ts j)) by
      have h : V3.ownsRow w.heap.size 87 5 v3 (0 + j + 0) (flatLg [] ++ flatLg (ts.take j) ++ []) := ho
      rw [show 0 + j + 0 = j + 1 - 1 by omega] at h
      have e : flatLg (less ts j) = flatLg [] ++ flatLg (ts.take j) ++ [] := by unfold less; rw [flatLg_append, List.drop_of_length_le (by rw [HL.out]; omega)]; rfl
      rw [e]; exact h)
    refine hK.out _ _ trivial (fun hHeld1 => ?_)
    clear ho hg
    clear hK K hHeld
    have hHeld := hHeld1
    clear hHeld1
    try simp only [Act.put, List.getElem_toArray, List.getElem_cons_succ, List.getElem_cons_zero, List.setIfInBounds_toArray, List.set_cons_zero, List.set_cons_succ]
    refine' wpAnyH_take (i := 10) (v := ?vb8_10) rfl (by kernel_rfl) (by kernel_rfl) (by kernel_rfl) (fun _ _ _ h => h) (Or.inl ⟨by rfl, ?hyb8_10⟩) (by assumption) ?restb8_10
    case hyb8_10 => (intro w hSw; (try dsimp only at hSw); go_simp; try (with_reducible rfl))
    simp only [Act.put, List.getElem_toArray, List.getElem_cons_succ, List.getElem_cons_zero, List.setIfInBounds_toArray, List.set_cons_zero, List.set_cons_succ]
    refine wpAnyH_done (by kernel_rfl) ?_ _
    clear hHeld HB1 HB2 HO1 HO2 HB0
    obtain ⟨A3, c3, rfl⟩ := row_slice HO3.out
    go_wp2_with fail
    go_ret
    exact ⟨A3, c3, by rw [hll]; rfl, by rw [hll]; exact HO3.out, HB3.out⟩
  · have hcj' : ¬ ((cap : Int) = (j : Int) + 1) := by omega
    have hll : (less ts j).length = n - 1 := by unfold less; rw [List.length_append, List.length_take, List.length_drop, HL.out]; omega
    go_enter Tryz.func103, Tryz.ntmps103
    go_upto_region 1 with fail
    refine wp_region_held_drew (S := (fun _ => True)) (by kernel_rfl) trivial (fun hHeld => ?_)
    obtain ⟨V0, HV0⟩ : ∃ V, Hid (w.drew = V) := ⟨_, Lib.hid rfl⟩
    have HB0 := Lib.hid (show Below w.heap.size w V0 by rw [← HV0.out]; exact (Below.refl _ _).drew)
    rw [HV0.out]
    clear HV0
    refine' wpAnyH_take (i := 1) (v := ?vb9_1) rfl (by kernel_rfl) (by kernel_rfl) (by kernel_rfl) (fun _ _ _ h => h) (Or.inl ⟨by rfl, ?hyb9_1⟩) (by assumption) ?restb9_1
    case hyb9_1 => (intro w hSw; (try dsimp only at hSw); go_simp; try (with_reducible rfl))
    simp only [Act.put, List.getElem_toArray, List.getElem_cons_succ, List.getElem_cons_zero, List.setIfInBounds_toArray, List.set_cons_zero, List.set_cons_succ]
    refine' wpAnyH_take (i := 2) (v := ?vb10_2) rfl (by kernel_rfl) (by kernel_rfl) (by kernel_rfl) (fun _ _ _ h => h) (Or.inl ⟨by rfl, ?hyb10_2⟩) (by assumption) ?restb10_2
    case hyb10_2 => (intro w hSw; (try dsimp only at hSw); go_simp; try (with_reducible rfl))
    simp only [Act.put, List.getElem_toArray, List.getElem_cons_succ, List.getElem_cons_zero, List.setIfInBounds_toArray, List.set_cons_zero, List.set_cons_succ]
    refine' wpAnyH_take (i := 3) (v := ?vb11_3) rfl (by kernel_rfl) (by kernel_rfl) (by kernel_rfl) (fun _ _ _ h => h) (Or.inl ⟨by rfl, ?hyb11_3⟩) (by assumption) ?restb11_3
    case hyb11_3 => (intro w hSw; (try dsimp only at hSw); go_simp; try (with_reducible rfl))
    simp only [Act.put, List.getElem_toArray, List.getElem_cons_succ, List.getElem_cons_zero, List.setIfInBounds_toArray, List.set_cons_zero, List.set_cons_succ]
    refine' wpAnyH_take (i := 5) (v := ?vb12_5) rfl (by kernel_rfl) (by kernel_rfl) (by kernel_rfl) (fun _ _ _ h => h) (Or.inl ⟨by rfl, ?hyb12_5⟩) (by assumption) ?restb12_5
    case hyb12_5 => (intro w hSw; (try dsimp only at hSw); go_simp; try (with_reducible rfl))
    simp only [Act.put, List.getElem_toArray, List.getElem_cons_succ, List.getElem_cons_zero, List.setIfInBounds_toArray, List.set_cons_zero, List.set_cons_succ]
    refine' wpAnyH_take (i := 6) (v := ?vb13_6) rfl (by kernel_rfl) (by kernel_rfl) (by kernel_rfl) (fun _ _ _ h => h) (Or.inl ⟨by rfl, ?hyb13_6⟩) (by assumption) ?restb13_6
    case hyb13_6 => (intro w hSw; (try dsimp only at hSw); go_simp; try (with_reducible rfl))
    simp only [Act.put, List.getElem_toArray, List.getElem_cons_succ, List.getElem_cons_zero, List.setIfInBounds_toArray, List.set_cons_zero, List.set_cons_succ]
    refine' wpAnyH_take (i := 7) (v := ?vb14_7) rfl (by kernel_rfl) (by kernel_rfl) (by kernel_rfl) (fun _ _ _ h => h) (Or.inl ⟨by rfl, ?hyb14_7⟩) (by assumption) ?restb14_7
    case hyb14_7 => (intro w hSw; (try dsimp only at hSw); go_simp; try (with_reducible rfl))
    simp only [Act.put, List.getElem_toArray, List.getElem_cons_succ, List.getElem_cons_zero, List.setIfInBounds_toArray, List.set_cons_zero, List.set_cons_succ]
    refine' wpAnyH_take (i := 8) (v := ?vb15_8) rfl (by kernel_rfl) (by kernel_rfl) (by kernel_rfl) (fun _ _ _ h => h) (Or.inl ⟨by rfl, ?hyb15_8⟩) (by assumption) ?restb15_8
    case hyb15_8 => (intro w hSw; (try dsimp only at hSw); go_simp; try (with_reducible rfl))
    simp only [Act.put, List.getElem_toArray, List.getElem_cons_succ, List.getElem_cons_zero, List.setIfInBounds_toArray, List.set_cons_zero, List.set_cons_succ]
    refine wpAnyH_ready (rs := [0]) (by kernel_rfl) (by simp) ?_
    refine AllReadyH.cons rfl (fun K hK => ?_) AllReadyH.nil
    go_simp
    refine hK.out _ _ trivial (fun hHeld1 => ?_)
    clear hK K hHeld
    have hHeld := hHeld1
    clear hHeld1
    try simp only [Act.put, List.getElem_toArray, List.getElem_cons_succ, List.getElem_cons_zero, List.setIfInBounds_toArray, List.set_cons_zero, List.set_cons_succ]
    obtain ⟨G0, HG0⟩ : ∃ G, Hid (V0.heap.size = G) := ⟨_, Lib.hid rfl⟩
    obtain ⟨V1, HW⟩ : ∃ Wx, Hid (V0.alloc (.cells #[] 87) = Wx) := ⟨_, Lib.hid rfl⟩
    have HB1 := Lib.hid (show Below w.heap.size w V1 by rw [← HW.out]; exact HB0.out.alloc HB0.out.size _)
    have HO1 := Lib.hid (show V1.ownsRow w.heap.size 87 5 (.slice (some ⟨G0, 0, none⟩) 0 0) 0 (flatLg []) by rw [← HW.out, ← HG0.out]; exact World.ownsRow_made V0 #[] 0 HB0.out.size (by decide) (by simp))
    rw [HW.out]
    try rw [HG0.out]
    clear HW
    refine wpAnyH_ready (rs := [4]) (by kernel_rfl) (by simp) ?_
    refine AllReadyH.cons rfl (fun K hK => ?_) AllReadyH.nil
    refine step_legs (news := flatLg (ts.take j)) (m := j) rfl _ _ rfl rfl HO1.out rfl (by rw [flatLg_len, List.length_take, HL.out]; omega) (HTK.out V1 HB1.out) (flat_one _) (by omega) HB1.out.size ?_
    intro v2 V2 ho hg
    have HB2 := Lib.hid (HB1.out.grown hg HB1.out.size (fun g e => (HO1.out.lt g e).1))
    have HO2 := Lib.hid (show V2.ownsRow w.heap.size 87 5 v2 (0 + j) (flatLg [] ++ flatLg (ts.take j)) from ho)
    refine hK.out _ _ trivial (fun hHeld1 => ?_)
    clear ho hg
    clear hK K hHeld
    have hHeld := hHeld1
    clear hHeld1
    try simp only [Act.put, List.getElem_toArray, List.getElem_cons_succ, List.getElem_cons_zero, List.setIfInBounds_toArray, List.set_cons_zero, List.set_cons_succ]
    refine wpAnyH_ready (rs := [9]) (by kernel_rfl) (by simp) ?_
    refine AllReadyH.cons rfl (fun K hK => ?_) AllReadyH.nil
    refine step_legs (news := flatLg (ts.drop (j + 1))) (m := (n - (j + 1))) rfl _ _ rfl rfl HO2.out rfl (by rw [flatLg_len, List.length_drop, HL.out]) (HDK.out V2 HB2.out) (flat_one _) (by omega) HB2.out.size ?_
    intro v3 V3 ho hg
    have HB3 := Lib.hid (HB2.out.grown hg HB2.out.size (fun g e => (HO2.out.lt g e).1))
    have HO3 := Lib.hid (show V3.ownsRow w.heap.size 87 5 v3 (n - 1) (flatLg (less ts j)) by
      have h : V3.ownsRow w.heap.size 87 5 v3 (0 + j + (n - (j + 1))) (flatLg [] ++ flatLg (ts.take j) ++ flatLg (ts.drop (j + 1))) := ho
      rw [show 0 + j + (n - (j + 1)) = n - 1 by omega] at h
      have e : flatLg (less ts j) = flatLg [] ++ flatLg (ts.take j) ++ flatLg (ts.drop (j + 1)) := by unfold less; rw [flatLg_append]; rfl
      rw [e]; exact h)
    refine hK.out _ _ trivial (fun hHeld1 => ?_)
    clear ho hg
    clear hK K hHeld
    have hHeld := hHeld1
    clear hHeld1
    try simp only [Act.put, List.getElem_toArray, List.getElem_cons_succ, List.getElem_cons_zero, List.setIfInBounds_toArray, List.set_cons_zero, List.set_cons_succ]
    refine' wpAnyH_take (i := 10) (v := ?vb16_10) rfl (by kernel_rfl) (by kernel_rfl) (by kernel_rfl) (fun _ _ _ h => h) (Or.inl ⟨by rfl, ?hyb16_10⟩) (by assumption) ?restb16_10
    case hyb16_10 => (intro w hSw; (try dsimp only at hSw); go_simp; try (with_reducible rfl))
    simp only [Act.put, List.getElem_toArray, List.getElem_cons_succ, List.getElem_cons_zero, List.setIfInBounds_toArray, List.set_cons_zero, List.set_cons_succ]
    refine wpAnyH_done (by kernel_rfl) ?_ _
    clear hHeld HB1 HB2 HO1 HO2 HB0
    obtain ⟨A3, c3, rfl⟩ := row_slice HO3.out
    go_wp2_with fail
    go_ret
    exact ⟨A3, c3, by rw [hll]; rfl, by rw [hll]; exact HO3.out, HB3.out⟩
set_option maxHeartbeats 4000000 in
theorem placed10_any (A : Option Addr) (n cap : Nat) (ts : List Lg) (q : Int) (t : Bool) (w : World) (hn : n ≤ 2000000) (ht : Hid (plB ts q = t)) (hts : Hid (LgAt w w.heap.size A n ts)) :
    Calls Tryz.prog 100 #[.slice A n cap, .int .i64 q] w (BPost t w) := by
  have HL := Lib.hid hts.out.1
  obtain ⟨g, HG⟩ : ∃ q, Hid (goodLg ts = q) := ⟨_, Lib.hid rfl⟩
  cases g
  · obtain rfl : t = false := by rw [← ht.out]; unfold plB; rw [HG.out]; rfl
    go_enter Tryz.func100, Tryz.ntmps100
    go_wp2_with fail
    refine (legs_is A n cap ts false _ hn hts HG).mono ?_
    rintro e w1 ⟨rfl, b1⟩
    have HB := Lib.hid b1
    clear b1
    go_wp2_with fail
    go_ret
    exact ⟨rfl, HB.out⟩
  · obtain ⟨U, HU⟩ : ∃ q, Hid (plIds ts = q) := ⟨_, Lib.hid rfl⟩
    obtain ⟨nu, HNU⟩ : ∃ q, Hid (U.length = q) := ⟨_, Lib.hid rfl⟩
    have hn12 := len12 HL.out HG.out
    have hnu : nu ≤ 12 := by rw [← HNU.out, ← HU.out]; have := plIds_len' ts; rw [HL.out] at this; omega
    have HM := Lib.hid (show mem U q = t by rw [← ht.out, ← HU.out]; unfold plB; rw [HG.out]; rfl)
    go_enter Tryz.func100, Tryz.ntmps100
    go_wp2_with fail
    refine (legs_is A n cap ts true _ hn hts HG).mono ?_
    rintro e w1 ⟨rfl, b1⟩
    have HB := Lib.hid b1
    clear b1
    go_wp2_with fail
    refine (legs9_any A n cap ts _ HG (Lib.hid (hts.out.step HB.out))).mono ?_
    rintro e w2 ⟨vU, rfl, hOU, b2⟩
    rw [HU.out, HNU.out] at hOU
    obtain ⟨AU, cU, rfl⟩ := row_slice hOU
    have HB2 := Lib.hid (HB.out.trans (b2.mono HB.out.size))
    have HP := Lib.hid (ints.IL.of_own hOU)
    clear b2 hOU
    go_wp2_with fail
    refine (has_is AU nu cU U q t HM _ (by omega) HP).mono ?_
    rintro e w3 ⟨rfl, rfl⟩
    go_wp2_with fail
    go_ret
    exact ⟨rfl, HB2.out⟩
theorem lg_addr {w : World} {B n : Nat} {A : Option Addr} {ts : List Lg} {j : Nat} {x : Lg} (h : LgAt w B A n ts) (hx : ts[j]? = some x) : ∃ g, A = some ⟨g, 0, none⟩ := by
  obtain ⟨g, e, -⟩ := h.2 j x hx
  exact ⟨g, e⟩
end Go.Proofs.YtiimegmaokfpgabGreatDoor.bl
namespace Go.Proofs.YtiimegmaokfpgabGreatDoor.bl
open Go.RowKit
open reads base ty lg lgi win hs nt nq rowi sn mt ml dt pg ph lp
set_option linter.unusedVariables false
set_option linter.unusedSimpArgs false
def bs1 (ts : List Lg) (o : Option (Int × Int)) (c : Int × Int) : Option (Int × Int) := bsS (p := fun c : Int × Int => canB ts c.1 c.2) (F := fun c : Int × Int => fixTs ts c.1 c.2) ts o c
def b4 (ts : List Lg) (i : Int) (o : Option (Int × Int)) : Nat → Option (Int × Int)
  | 0 => o
  | m + 1 => bs1 ts (b4 ts i o m) (i, (m : Int) + 1)
def bR (ts : List Lg) : Nat → Option (Int × Int)
  | 0 => none
  | i + 1 => b4 ts (i : Int) (bR ts i) 4
theorem bs1_no {ts : List Lg} {o : Option (Int × Int)} {i f : Int} (h : canB ts i f = false) : bs1 ts o (i, f) = o := by
  unfold bs1 bsS; cases o <;> simp [h]
theorem b4_no {ts : List Lg} {i : Int} {o : Option (Int × Int)} (h : plB ts i = false) : ∀ m, b4 ts i o m = o
  | 0 => rfl
  | m + 1 => by rw [b4, bs1_no (by unfold canB; rw [h]; rfl)]; exact b4_no h m
theorem b4_fold (ts : List Lg) (i : Int) (o : Option (Int × Int)) : b4 ts i o 4 = [(i, (1 : Int)), (i, 2), (i, 3), (i, 4)].foldl (bs1 ts) o := rfl
theorem fxAll_app (a b : List Int) : fxAll (a ++ b) = fxAll a ++ fxAll b := by unfold fxAll; rw [List.flatMap_append]
theorem bR_fold {ts : List Lg} (hg : goodLg ts = true) : ∀ k, k ≤ ts.length → bR ts k = (fxAll (plN ts k)).foldl (bs1 ts) none
  | 0, _ => by simp [bR, plN, rowi.idxs, fxAll]
  | k + 1, hk => by
    have ih := bR_fold hg k (by omega)
    obtain ⟨x, hx⟩ := at_lt rfl (show k < ts.length by omega)
    rw [bR, ih]
    cases q : mem (net ts).ps x.frm
    · rw [show plN ts (k + 1) = plN ts k from rowi.idxs_no hx q]
      refine b4_no ?_ 4
      unfold plB
      rw [hg, Bool.true_and]
      cases z : mem (plIds ts) (k : Int)
      · rfl
      · obtain ⟨j, e, y, hy, hm⟩ := plIds_at (mem_iff.1 z)
        obtain rfl : k = j := by omega
        rw [hx] at hy
        obtain rfl := Option.some.inj hy
        rw [q] at hm; cases hm
    · rw [show plN ts (k + 1) = plN ts k ++ [(k : Int)] from rowi.idxs_yes hx q, fxAll_app, List.foldl_append, b4_fold]; rfl
theorem bsN_fold {α : Type} {p : α → Bool} {F : α → List Lg} (us : List Lg) (l : List α) : ∀ k, k ≤ l.length → bsN (p := p) (F := F) us l k = (l.take k).foldl (bsS (p := p) (F := F) us) none
  | 0, _ => by simp [bsN]
  | k + 1, hk => by
    obtain ⟨c, hc⟩ := at_lt rfl (show k < l.length by omega)
    rw [take_snoc hc, List.foldl_append, ← bsN_fold us l k (by omega)]
    show (match l[k]? with | some c => _ | none => _) = _
    rw [hc]; rfl
theorem best_is {ts : List Lg} (hg : goodLg ts = true) : bR ts ts.length = bfV ts := by
  rw [bR_fold hg _ (Nat.le_refl _)]
  unfold bfV
  rw [if_pos hg]
  have h := bsN_is (p := fun c : Int × Int => canB ts c.1 c.2) (F := fun c : Int × Int => fixTs ts c.1 c.2) hg (l := fxAll (plIds ts)) (fun c _ hc => (can_good hc).1) (fxAll (plIds ts)).length
  rw [bsN_fold _ _ _ (Nat.le_refl _), List.take_length] at h
  exact h
def oI (o : Option (Int × Int)) : Int := (o.getD (0, 0)).1
def oF (o : Option (Int × Int)) : Int := (o.getD (0, 0)).2
def oL (ts : List Lg) (o : Option (Int × Int)) : List Lg := match o with | none => ts | some c => fixTs ts c.1 c.2
theorem bs1_yes {ts : List Lg} {o : Option (Int × Int)} {i f : Int} (h : canB ts i f = true) (hc : cpS (fixTs ts i f) (oL ts o) < 0) : bs1 ts o (i, f) = some (i, f) := by
  unfold bs1 bsS
  cases o with
  | none => have hc : cpS (fixTs ts i f) ts < 0 := hc; simp [h, hc]
  | some d => have hc : cpS (fixTs ts i f) (fixTs ts d.1 d.2) < 0 := hc; simp [h, hc]
theorem bs1_keep {ts : List Lg} {o : Option (Int × Int)} {i f : Int} (hc : ¬ cpS (fixTs ts i f) (oL ts o) < 0) : bs1 ts o (i, f) = o := by
  unfold bs1 bsS
  cases o with
  | none => have hc : ¬ cpS (fixTs ts i f) ts < 0 := hc; simp [hc]
  | some d => have hc : ¬ cpS (fixTs ts i f) (fixTs ts d.1 d.2) < 0 := hc; simp [hc]
theorem own_low {w : World} {base base' size m : Nat} {e : TypeId} {x : Value} {xs : List Value} (hb : base' ≤ base) (h : w.ownsRow base e size x m xs) : w.ownsRow base' e size x m xs := by
  refine ⟨h.1, ?_⟩
  rcases h.2 with ⟨e1, e2⟩ | ⟨g, cp, cur, e1, e2, e3⟩
  · exact .inl ⟨e1, e2⟩
  · exact .inr ⟨g, cp, cur, e1, by omega, e3⟩
theorem flat_put (t : Lg) : ∀ (ts : List Lg) (i : Nat), i < ts.length → ((((((flatLg ts).set (i * 5) (.int .i64 t.frm)).set (i * 5 + 1) (.int .i64 t.to_)).set (i * 5 + 2) (.int .i64 t.tape)).set (i * 5 + 3) (.int .i64 t.comp)).set (i * 5 + 4) (.int .i64 t.slope)) = flatLg (ts.set i t)
  | [], i, h => by simp at h
  | d :: ts, 0, h => by simp [flatLg]
  | d :: ts, i + 1, h => by
    have ih := flat_put t ts i (by simpa using h)
    have e : flatLg (d :: ts) = .int .i64 d.frm :: .int .i64 d.to_ :: .int .i64 d.tape :: .int .i64 d.comp :: .int .i64 d.slope :: flatLg ts := rfl
    have e2 : flatLg ((d :: ts).set (i + 1) t) = .int .i64 d.frm :: .int .i64 d.to_ :: .int .i64 d.tape :: .int .i64 d.comp :: .int .i64 d.slope :: flatLg (ts.set i t) := rfl
    rw [e2, ← ih, e, show (i + 1) * 5 = i * 5 + 1 + 1 + 1 + 1 + 1 by omega, show i * 5 + 1 + 1 + 1 + 1 + 1 + 1 = (i * 5 + 1) + 1 + 1 + 1 + 1 + 1 by omega, show i * 5 + 1 + 1 + 1 + 1 + 1 + 2 = (i * 5 + 2) + 1 + 1 + 1 + 1 + 1 by omega, show i * 5 + 1 + 1 + 1 + 1 + 1 + 3 = (i * 5 + 3) + 1 + 1 + 1 + 1 + 1 by omega, show i * 5 + 1 + 1 + 1 + 1 + 1 + 4 = (i * 5 + 4) + 1 + 1 + 1 + 1 + 1 by omega]
    simp only [List.set_cons_succ]
end Go.Proofs.YtiimegmaokfpgabGreatDoor.bl
namespace Go.Proofs.YtiimegmaokfpgabGreatDoor.bl
open Go.RowKit
open reads base ty lg lgi win hs nt nq rowi sn mt ml dt pg ph lp
set_option linter.unusedVariables false
set_option linter.unusedSimpArgs false
set_option maxHeartbeats 8000000 in
set_option maxRecDepth 100000 in
theorem fix_1 (gL n cap : Nat) (ts : List Lg) (j : Nat) (x : Lg) (w : World) (HG : Hid (goodLg ts = true)) (HX : Hid (ts[j]? = some x)) (hts : Hid (LgAt w w.heap.size (some ⟨gL, 0, none⟩) n ts)) :
    Calls Tryz.prog 113 #[.slice (some ⟨gL, 0, none⟩) n cap, .int .i64 (j : Int), .int .i64 1] w (QLo (ts.set j (fixLg x 1)) w) := by
  obtain ⟨i0, hi, hz0, hz1, hz2⟩ := info_parts infoLg
  have HL := Lib.hid hts.out.1
  have hn12 := len12 HL.out HG.out
  have hjn : j < n := by have := lt_at HX.out; rw [HL.out] at this; exact this
  have hji : (j : Int) < (n : Int) := by omega
  have hj0 : (0 : Int) ≤ (j : Int) := by omega
  obtain ⟨⟨b0, b1⟩, ⟨b2, b3⟩, b4, ⟨b5, b6⟩, ⟨b7, b8⟩, ⟨b9, b10⟩⟩ := okLg_lim (goodLg_at HG.out HX.out)
  have xa : IntKind.i64.wrap (x.comp + 180) = x.comp + 180 := IntWalk.i64_in _ (by omega)
  have xm : (x.comp + 180).tmod 360 = (x.comp + 180) % 360 := Int.tmod_eq_emod_of_nonneg (by omega)
  obtain ⟨r, HRR⟩ : ∃ r, Hid ((x.comp + 180) % 360 = r) := ⟨_, Lib.hid rfl⟩
  have hrb : 0 ≤ r ∧ r < 360 := by rw [← HRR.out]; omega
  rw [HRR.out] at xm
  have xr : IntKind.i64.wrap r = r := IntWalk.i64_in _ (by omega)
  have HY := Lib.hid (show fixLg x 1 = ⟨x.frm, x.to_, x.tape, r, x.slope⟩ from by unfold fixLg; rw [if_pos rfl, HRR.out])
  have HRow := Lib.hid (show (w.alloc (.cells #[] 87)).ownsRow w.heap.size 87 5 (.slice (some ⟨w.heap.size, 0, none⟩) 0 0) 0 [] from World.ownsRow_made w #[] 0 (Nat.le_refl _) (by decide) (by simp))
  have HB0 := Lib.hid ((Below.refl w.heap.size w).alloc (Nat.le_refl _) (.cells #[] 87))
  have HFL := Lib.hid (show (flatLg ts).length = n * 5 by rw [flatLg_len, HL.out])
  have HC := Lib.hid (show ∀ q u, (flatLg ts)[q]? = some u → (w.alloc (.cells #[] 87)).cell? ((⟨gL, 0, none⟩ : Addr).add q) = some u by
    have h := flat_take (hts.out.below HB0.out) n
    rwa [List.take_of_length_le (by rw [HL.out]; exact Nat.le_refl _)] at h)
  go_enter Tryz.func113, Tryz.ntmps113
  go_upto_region 2 with (at_builtin; refine wpList_append_own _ rfl _ _ 24 rfl w.heap.size 87 i0 (.agg #[.int .i64 0, .int .i64 0, .int .i64 0, .int .i64 0, .int .i64 0]) 5 40 Tryz.underlying24 hi hz0 hz1 hz2 rfl (by decide) _ _ _ rfl HRow.out ⟨gL, 0, none⟩ n cap (flatLg ts) rfl HFL.out HC.out (flat_one ts) (by unfold maxLen; omega) (by omega) (by simp) ?_; intro v3 w3 hown hgrow _)
  rw [Nat.zero_add, List.nil_append] at hown
  have HB3 := Lib.hid (HB0.out.grown hgrow (by simp) (fun q eq => (HRow.out.lt q eq).1))
  obtain ⟨A3, c3, rfl⟩ := row_slice hown
  have HO3 := Lib.hid hown
  obtain ⟨g3, rfl, hg3, e0, e1, e2, e3, e4⟩ := (own_Lg HL.out hown).2 j x HX.out
  clear hown hgrow
  go_upto_region 11 with fail
  obtain ⟨V, HV⟩ : ∃ V, Hid (w3.alloc (.cells #[.int .i64 x.frm, .int .i64 x.to_, .int .i64 x.tape, .int .i64 r, .int .i64 x.slope] 87) = V) := ⟨_, Lib.hid rfl⟩
  obtain ⟨X, HXX⟩ : ∃ q, Hid (w3.heap.size = q) := ⟨_, Lib.hid rfl⟩
  have HBV := Lib.hid (show Below w.heap.size w V by rw [← HV.out]; exact HB3.out.alloc HB3.out.size _)
  have HOV := Lib.hid (show V.ownsRow w.heap.size 87 5 (.slice (some ⟨g3, 0, none⟩) n c3) n (flatLg ts) by rw [← HV.out]; exact HO3.out.alloc _)
  have HBX := Lib.hid (show Blk V X 87 #[.int .i64 x.frm, .int .i64 x.to_, .int .i64 x.tape, .int .i64 r, .int .i64 x.slope] by rw [← HV.out, ← HXX.out]; exact Blk.new _ _ _)
  have HGX := Lib.hid (show g3 < X by rw [← HXX.out]; exact hg3)
  rw [HV.out]
  try simp only [HXX.out]
  clear HV e0 e1 e2 e3 e4 HB3 HO3 hg3
  have hrow := HOV.out
  obtain ⟨d0, k0⟩ : ∃ c, V.cell? ⟨g3, j * 5, none⟩ = some c := ⟨_, (hrow.cellAt (j * 5) (by omega)).trans (List.getElem?_eq_getElem (by rw [HFL.out]; omega))⟩
  have f0 := hrow.frozenAt (j * 5)
  obtain ⟨d1, k1⟩ : ∃ c, V.cell? ⟨g3, j * 5 + 1, none⟩ = some c := ⟨_, (hrow.cellAt (j * 5 + 1) (by omega)).trans (List.getElem?_eq_getElem (by rw [HFL.out]; omega))⟩
  have f1 := hrow.frozenAt (j * 5 + 1)
  obtain ⟨d2, k2⟩ : ∃ c, V.cell? ⟨g3, j * 5 + 2, none⟩ = some c := ⟨_, (hrow.cellAt (j * 5 + 2) (by omega)).trans (List.getElem?_eq_getElem (by rw [HFL.out]; omega))⟩
  have f2 := hrow.frozenAt (j * 5 + 2)
  obtain ⟨d3, k3⟩ : ∃ c, V.cell? ⟨g3, j * 5 + 3, none⟩ = some c := ⟨_, (hrow.cellAt (j * 5 + 3) (by omega)).trans (List.getElem?_eq_getElem (by rw [HFL.out]; omega))⟩
  have f3 := hrow.frozenAt (j * 5 + 3)
  obtain ⟨d4, k4⟩ : ∃ c, V.cell? ⟨g3, j * 5 + 4, none⟩ = some c := ⟨_, (hrow.cellAt (j * 5 + 4) (by omega)).trans (List.getElem?_eq_getElem (by rw [HFL.out]; omega))⟩
  have f4 := hrow.frozenAt (j * 5 + 4)
  have q0 := HBX.out.cell 0
  have q1 := HBX.out.cell 1
  have q2 := HBX.out.cell 2
  have q3 := HBX.out.cell 3
  have q4 := HBX.out.cell 4
  have zl := HBX.out.lt
  have hgx := HGX.out
  have hlo := (hrow.lt g3 rfl).1
  simp at q0 q1 q2 q3 q4
  clear hrow
  go_wp2_with fail
  go_ret
  refine ⟨some ⟨g3, 0, none⟩, c3, by rw [List.length_set, HL.out]; rfl, ?_, ?_⟩
  · rw [List.length_set, HL.out, HY.out, ← flat_put ⟨x.frm, x.to_, x.tape, r, x.slope⟩ ts j (by rw [HL.out]; exact hjn)]
    exact (((((HOV.out.stored (j * 5) _).1.stored (j * 5 + 1) _).1.stored (j * 5 + 2) _).1.stored (j * 5 + 3) _).1.stored (j * 5 + 4) _).1
  · exact ((((HBV.out.setCell (p := ⟨g3, j * 5, none⟩) hlo _).setCell (p := ⟨g3, j * 5 + 1, none⟩) hlo _).setCell (p := ⟨g3, j * 5 + 2, none⟩) hlo _).setCell (p := ⟨g3, j * 5 + 3, none⟩) hlo _).setCell (p := ⟨g3, j * 5 + 4, none⟩) hlo _
set_option maxHeartbeats 8000000 in
set_option maxRecDepth 100000 in
theorem fix_2 (gL n cap : Nat) (ts : List Lg) (j : Nat) (x : Lg) (w : World) (HG : Hid (goodLg ts = true)) (HX : Hid (ts[j]? = some x)) (hts : Hid (LgAt w w.heap.size (some ⟨gL, 0, none⟩) n ts)) :
    Calls Tryz.prog 113 #[.slice (some ⟨gL, 0, none⟩) n cap, .int .i64 (j : Int), .int .i64 2] w (QLo (ts.set j (fixLg x 2)) w) := by
  obtain ⟨i0, hi, hz0, hz1, hz2⟩ := info_parts infoLg
  have HL := Lib.hid hts.out.1
  have hn12 := len12 HL.out HG.out
  have hjn : j < n := by have := lt_at HX.out; rw [HL.out] at this; exact this
  have hji : (j : Int) < (n : Int) := by omega
  have hj0 : (0 : Int) ≤ (j : Int) := by omega
  obtain ⟨⟨b0, b1⟩, ⟨b2, b3⟩, b4, ⟨b5, b6⟩, ⟨b7, b8⟩, ⟨b9, b10⟩⟩ := okLg_lim (goodLg_at HG.out HX.out)
  have xa : IntKind.i64.wrap (-x.slope) = -x.slope := IntWalk.i64_in _ (by omega)
  have HY := Lib.hid (show fixLg x 2 = ⟨x.frm, x.to_, x.tape, x.comp, -x.slope⟩ from rfl)
  have HRow := Lib.hid (show (w.alloc (.cells #[] 87)).ownsRow w.heap.size 87 5 (.slice (some ⟨w.heap.size, 0, none⟩) 0 0) 0 [] from World.ownsRow_made w #[] 0 (Nat.le_refl _) (by decide) (by simp))
  have HB0 := Lib.hid ((Below.refl w.heap.size w).alloc (Nat.le_refl _) (.cells #[] 87))
  have HFL := Lib.hid (show (flatLg ts).length = n * 5 by rw [flatLg_len, HL.out])
  have HC := Lib.hid (show ∀ q u, (flatLg ts)[q]? = some u → (w.alloc (.cells #[] 87)).cell? ((⟨gL, 0, none⟩ : Addr).add q) = some u by
    have h := flat_take (hts.out.below HB0.out) n
    rwa [List.take_of_length_le (by rw [HL.out]; exact Nat.le_refl _)] at h)
  go_enter Tryz.func113, Tryz.ntmps113
  go_upto_region 2 with (at_builtin; refine wpList_append_own _ rfl _ _ 24 rfl w.heap.size 87 i0 (.agg #[.int .i64 0, .int .i64 0, .int .i64 0, .int .i64 0, .int .i64 0]) 5 40 Tryz.underlying24 hi hz0 hz1 hz2 rfl (by decide) _ _ _ rfl HRow.out ⟨gL, 0, none⟩ n cap (flatLg ts) rfl HFL.out HC.out (flat_one ts) (by unfold maxLen; omega) (by omega) (by simp) ?_; intro v3 w3 hown hgrow _)
  rw [Nat.zero_add, List.nil_append] at hown
  have HB3 := Lib.hid (HB0.out.grown hgrow (by simp) (fun q eq => (HRow.out.lt q eq).1))
  obtain ⟨A3, c3, rfl⟩ := row_slice hown
  have HO3 := Lib.hid hown
  obtain ⟨g3, rfl, hg3, e0, e1, e2, e3, e4⟩ := (own_Lg HL.out hown).2 j x HX.out
  clear hown hgrow
  go_upto_region 11 with fail
  obtain ⟨V, HV⟩ : ∃ V, Hid (w3.alloc (.cells #[.int .i64 x.frm, .int .i64 x.to_, .int .i64 x.tape, .int .i64 x.comp, .int .i64 (-x.slope)] 87) = V) := ⟨_, Lib.hid rfl⟩
  obtain ⟨X, HXX⟩ : ∃ q, Hid (w3.heap.size = q) := ⟨_, Lib.hid rfl⟩
  have HBV := Lib.hid (show Below w.heap.size w V by rw [← HV.out]; exact HB3.out.alloc HB3.out.size _)
  have HOV := Lib.hid (show V.ownsRow w.heap.size 87 5 (.slice (some ⟨g3, 0, none⟩) n c3) n (flatLg ts) by rw [← HV.out]; exact HO3.out.alloc _)
  have HBX := Lib.hid (show Blk V X 87 #[.int .i64 x.frm, .int .i64 x.to_, .int .i64 x.tape, .int .i64 x.comp, .int .i64 (-x.slope)] by rw [← HV.out, ← HXX.out]; exact Blk.new _ _ _)
  have HGX := Lib.hid (show g3 < X by rw [← HXX.out]; exact hg3)
  rw [HV.out]
  try simp only [HXX.out]
  clear HV e0 e1 e2 e3 e4 HB3 HO3 hg3
  have hrow := HOV.out
  obtain ⟨d0, k0⟩ : ∃ c, V.cell? ⟨g3, j * 5, none⟩ = some c := ⟨_, (hrow.cellAt (j * 5) (by omega)).trans (List.getElem?_eq_getElem (by rw [HFL.out]; omega))⟩
  have f0 := hrow.frozenAt (j * 5)
  obtain ⟨d1, k1⟩ : ∃ c, V.cell? ⟨g3, j * 5 + 1, none⟩ = some c := ⟨_, (hrow.cellAt (j * 5 + 1) (by omega)).trans (List.getElem?_eq_getElem (by rw [HFL.out]; omega))⟩
  have f1 := hrow.frozenAt (j * 5 + 1)
  obtain ⟨d2, k2⟩ : ∃ c, V.cell? ⟨g3, j * 5 + 2, none⟩ = some c := ⟨_, (hrow.cellAt (j * 5 + 2) (by omega)).trans (List.getElem?_eq_getElem (by rw [HFL.out]; omega))⟩
  have f2 := hrow.frozenAt (j * 5 + 2)
  obtain ⟨d3, k3⟩ : ∃ c, V.cell? ⟨g3, j * 5 + 3, none⟩ = some c := ⟨_, (hrow.cellAt (j * 5 + 3) (by omega)).trans (List.getElem?_eq_getElem (by rw [HFL.out]; omega))⟩
  have f3 := hrow.frozenAt (j * 5 + 3)
  obtain ⟨d4, k4⟩ : ∃ c, V.cell? ⟨g3, j * 5 + 4, none⟩ = some c := ⟨_, (hrow.cellAt (j * 5 + 4) (by omega)).trans (List.getElem?_eq_getElem (by rw [HFL.out]; omega))⟩
  have f4 := hrow.frozenAt (j * 5 + 4)
  have q0 := HBX.out.cell 0
  have q1 := HBX.out.cell 1
  have q2 := HBX.out.cell 2
  have q3 := HBX.out.cell 3
  have q4 := HBX.out.cell 4
  have zl := HBX.out.lt
  have hgx := HGX.out
  have hlo := (hrow.lt g3 rfl).1
  simp at q0 q1 q2 q3 q4
  clear hrow
  go_wp2_with fail
  go_ret
  refine ⟨some ⟨g3, 0, none⟩, c3, by rw [List.length_set, HL.out]; rfl, ?_, ?_⟩
  · rw [List.length_set, HL.out, HY.out, ← flat_put ⟨x.frm, x.to_, x.tape, x.comp, -x.slope⟩ ts j (by rw [HL.out]; exact hjn)]
    exact (((((HOV.out.stored (j * 5) _).1.stored (j * 5 + 1) _).1.stored (j * 5 + 2) _).1.stored (j * 5 + 3) _).1.stored (j * 5 + 4) _).1
  · exact ((((HBV.out.setCell (p := ⟨g3, j * 5, none⟩) hlo _).setCell (p := ⟨g3, j * 5 + 1, none⟩) hlo _).setCell (p := ⟨g3, j * 5 + 2, none⟩) hlo _).setCell (p := ⟨g3, j * 5 + 3, none⟩) hlo _).setCell (p := ⟨g3, j * 5 + 4, none⟩) hlo _
set_option maxHeartbeats 8000000 in
set_option maxRecDepth 100000 in
theorem fix_3 (gL n cap : Nat) (ts : List Lg) (j : Nat) (x : Lg) (w : World) (HG : Hid (goodLg ts = true)) (HX : Hid (ts[j]? = some x)) (hts : Hid (LgAt w w.heap.size (some ⟨gL, 0, none⟩) n ts)) :
    Calls Tryz.prog 113 #[.slice (some ⟨gL, 0, none⟩) n cap, .int .i64 (j : Int), .int .i64 3] w (QLo (ts.set j (fixLg x 3)) w) := by
  obtain ⟨i0, hi, hz0, hz1, hz2⟩ := info_parts infoLg
  have HL := Lib.hid hts.out.1
  have hn12 := len12 HL.out HG.out
  have hjn : j < n := by have := lt_at HX.out; rw [HL.out] at this; exact this
  have hji : (j : Int) < (n : Int) := by omega
  have hj0 : (0 : Int) ≤ (j : Int) := by omega
  obtain ⟨⟨b0, b1⟩, ⟨b2, b3⟩, b4, ⟨b5, b6⟩, ⟨b7, b8⟩, ⟨b9, b10⟩⟩ := okLg_lim (goodLg_at HG.out HX.out)
  have xa : IntKind.i64.wrap (x.tape + 100) = x.tape + 100 := IntWalk.i64_in _ (by omega)
  have HY := Lib.hid (show fixLg x 3 = ⟨x.frm, x.to_, x.tape + 100, x.comp, x.slope⟩ from rfl)
  have HRow := Lib.hid (show (w.alloc (.cells #[] 87)).ownsRow w.heap.size 87 5 (.slice (some ⟨w.heap.size, 0, none⟩) 0 0) 0 [] from World.ownsRow_made w #[] 0 (Nat.le_refl _) (by decide) (by simp))
  have HB0 := Lib.hid ((Below.refl w.heap.size w).alloc (Nat.le_refl _) (.cells #[] 87))
  have HFL := Lib.hid (show (flatLg ts).length = n * 5 by rw [flatLg_len, HL.out])
  have HC := Lib.hid (show ∀ q u, (flatLg ts)[q]? = some u → (w.alloc (.cells #[] 87)).cell? ((⟨gL, 0, none⟩ : Addr).add q) = some u by
    have h := flat_take (hts.out.below HB0.out) n
    rwa [List.take_of_length_le (by rw [HL.out]; exact Nat.le_refl _)] at h)
  go_enter Tryz.func113, Tryz.ntmps113
  go_upto_region 2 with (at_builtin; refine wpList_append_own _ rfl _ _ 24 rfl w.heap.size 87 i0 (.agg #[.int .i64 0, .int .i64 0, .int .i64 0, .int .i64 0, .int .i64 0]) 5 40 Tryz.underlying24 hi hz0 hz1 hz2 rfl (by decide) _ _ _ rfl HRow.out ⟨gL, 0, none⟩ n cap (flatLg ts) rfl HFL.out HC.out (flat_one ts) (by unfold maxLen; omega) (by omega) (by simp) ?_; intro v3 w3 hown hgrow _)
  rw [Nat.zero_add, List.nil_append] at hown
  have HB3 := Lib.hid (HB0.out.grown hgrow (by simp) (fun q eq => (HRow.out.lt q eq).1))
  obtain ⟨A3, c3, rfl⟩ := row_slice hown
  have HO3 := Lib.hid hown
  obtain ⟨g3, rfl, hg3, e0, e1, e2, e3, e4⟩ := (own_Lg HL.out hown).2 j x HX.out
  clear hown hgrow
  go_upto_region 11 with fail
  obtain ⟨V, HV⟩ : ∃ V, Hid (w3.alloc (.cells #[.int .i64 x.frm, .int .i64 x.to_, .int .i64 (x.tape + 100), .int .i64 x.comp, .int .i64 x.slope] 87) = V) := ⟨_, Lib.hid rfl⟩
  obtain ⟨X, HXX⟩ : ∃ q, Hid (w3.heap.size = q) := ⟨_, Lib.hid rfl⟩
  have HBV := Lib.hid (show Below w.heap.size w V by rw [← HV.out]; exact HB3.out.alloc HB3.out.size _)
  have HOV := Lib.hid (show V.ownsRow w.heap.size 87 5 (.slice (some ⟨g3, 0, none⟩) n c3) n (flatLg ts) by rw [← HV.out]; exact HO3.out.alloc _)
  have HBX := Lib.hid (show Blk V X 87 #[.int .i64 x.frm, .int .i64 x.to_, .int .i64 (x.tape + 100), .int .i64 x.comp, .int .i64 x.slope] by rw [← HV.out, ← HXX.out]; exact Blk.new _ _ _)
  have HGX := Lib.hid (show g3 < X by rw [← HXX.out]; exact hg3)
  rw [HV.out]
  try simp only [HXX.out]
  clear HV e0 e1 e2 e3 e4 HB3 HO3 hg3
  have hrow := HOV.out
  obtain ⟨d0, k0⟩ : ∃ c, V.cell? ⟨g3, j * 5, none⟩ = some c := ⟨_, (hrow.cellAt (j * 5) (by omega)).trans (List.getElem?_eq_getElem (by rw [HFL.out]; omega))⟩
  have f0 := hrow.frozenAt (j * 5)
  obtain ⟨d1, k1⟩ : ∃ c, V.cell? ⟨g3, j * 5 + 1, none⟩ = some c := ⟨_, (hrow.cellAt (j * 5 + 1) (by omega)).trans (List.getElem?_eq_getElem (by rw [HFL.out]; omega))⟩
  have f1 := hrow.frozenAt (j * 5 + 1)
  obtain ⟨d2, k2⟩ : ∃ c, V.cell? ⟨g3, j * 5 + 2, none⟩ = some c := ⟨_, (hrow.cellAt (j * 5 + 2) (by omega)).trans (List.getElem?_eq_getElem (by rw [HFL.out]; omega))⟩
  have f2 := hrow.frozenAt (j * 5 + 2)
  obtain ⟨d3, k3⟩ : ∃ c, V.cell? ⟨g3, j * 5 + 3, none⟩ = some c := ⟨_, (hrow.cellAt (j * 5 + 3) (by omega)).trans (List.getElem?_eq_getElem (by rw [HFL.out]; omega))⟩
  have f3 := hrow.frozenAt (j * 5 + 3)
  obtain ⟨d4, k4⟩ : ∃ c, V.cell? ⟨g3, j * 5 + 4, none⟩ = some c := ⟨_, (hrow.cellAt (j * 5 + 4) (by omega)).trans (List.getElem?_eq_getElem (by rw [HFL.out]; omega))⟩
  have f4 := hrow.frozenAt (j * 5 + 4)
  have q0 := HBX.out.cell 0
  have q1 := HBX.out.cell 1
  have q2 := HBX.out.cell 2
  have q3 := HBX.out.cell 3
  have q4 := HBX.out.cell 4
  have zl := HBX.out.lt
  have hgx := HGX.out
  have hlo := (hrow.lt g3 rfl).1
  simp at q0 q1 q2 q3 q4
  clear hrow
  go_wp2_with fail
  go_ret
  refine ⟨some ⟨g3, 0, none⟩, c3, by rw [List.length_set, HL.out]; rfl, ?_, ?_⟩
  · rw [List.length_set, HL.out, HY.out, ← flat_put ⟨x.frm, x.to_, x.tape + 100, x.comp, x.slope⟩ ts j (by rw [HL.out]; exact hjn)]
    exact (((((HOV.out.stored (j * 5) _).1.stored (j * 5 + 1) _).1.stored (j * 5 + 2) _).1.stored (j * 5 + 3) _).1.stored (j * 5 + 4) _).1
  · exact ((((HBV.out.setCell (p := ⟨g3, j * 5, none⟩) hlo _).setCell (p := ⟨g3, j * 5 + 1, none⟩) hlo _).setCell (p := ⟨g3, j * 5 + 2, none⟩) hlo _).setCell (p := ⟨g3, j * 5 + 3, none⟩) hlo _).setCell (p := ⟨g3, j * 5 + 4, none⟩) hlo _
set_option maxHeartbeats 8000000 in
set_option maxRecDepth 100000 in
theorem fix_4 (gL n cap : Nat) (ts : List Lg) (j : Nat) (x : Lg) (w : World) (HG : Hid (goodLg ts = true)) (HX : Hid (ts[j]? = some x)) (hts : Hid (LgAt w w.heap.size (some ⟨gL, 0, none⟩) n ts)) :
    Calls Tryz.prog 113 #[.slice (some ⟨gL, 0, none⟩) n cap, .int .i64 (j : Int), .int .i64 4] w (QLo (ts.set j (fixLg x 4)) w) := by
  obtain ⟨i0, hi, hz0, hz1, hz2⟩ := info_parts infoLg
  have HL := Lib.hid hts.out.1
  have hn12 := len12 HL.out HG.out
  have hjn : j < n := by have := lt_at HX.out; rw [HL.out] at this; exact this
  have hji : (j : Int) < (n : Int) := by omega
  have hj0 : (0 : Int) ≤ (j : Int) := by omega
  obtain ⟨⟨b0, b1⟩, ⟨b2, b3⟩, b4, ⟨b5, b6⟩, ⟨b7, b8⟩, ⟨b9, b10⟩⟩ := okLg_lim (goodLg_at HG.out HX.out)
  have xa : IntKind.i64.wrap (x.tape - 100) = x.tape - 100 := IntWalk.i64_in _ (by omega)
  have HY := Lib.hid (show fixLg x 4 = ⟨x.frm, x.to_, x.tape - 100, x.comp, x.slope⟩ from rfl)
  have HRow := Lib.hid (show (w.alloc (.cells #[] 87)).ownsRow w.heap.size 87 5 (.slice (some ⟨w.heap.size, 0, none⟩) 0 0) 0 [] from World.ownsRow_made w #[] 0 (Nat.le_refl _) (by decide) (by simp))
  have HB0 := Lib.hid ((Below.refl w.heap.size w).alloc (Nat.le_refl _) (.cells #[] 87))
  have HFL := Lib.hid (show (flatLg ts).length = n * 5 by rw [flatLg_len, HL.out])
  have HC := Lib.hid (show ∀ q u, (flatLg ts)[q]? = some u → (w.alloc (.cells #[] 87)).cell? ((⟨gL, 0, none⟩ : Addr).add q) = some u by
    have h := flat_take (hts.out.below HB0.out) n
    rwa [List.take_of_length_le (by rw [HL.out]; exact Nat.le_refl _)] at h)
  go_enter Tryz.func113, Tryz.ntmps113
  go_upto_region 2 with (at_builtin; refine wpList_append_own _ rfl _ _ 24 rfl w.heap.size 87 i0 (.agg #[.int .i64 0, .int .i64 0, .int .i64 0, .int .i64 0, .int .i64 0]) 5 40 Tryz.underlying24 hi hz0 hz1 hz2 rfl (by decide) _ _ _ rfl HRow.out ⟨gL, 0, none⟩ n cap (flatLg ts) rfl HFL.out HC.out (flat_one ts) (by unfold maxLen; omega) (by omega) (by simp) ?_; intro v3 w3 hown hgrow _)
  rw [Nat.zero_add, List.nil_append] at hown
  have HB3 := Lib.hid (HB0.out.grown hgrow (by simp) (fun q eq => (HRow.out.lt q eq).1))
  obtain ⟨A3, c3, rfl⟩ := row_slice hown
  have HO3 := Lib.hid hown
  obtain ⟨g3, rfl, hg3, e0, e1, e2, e3, e4⟩ := (own_Lg HL.out hown).2 j x HX.out
  clear hown hgrow
  go_upto_region 11 with fail
  obtain ⟨V, HV⟩ : ∃ V, Hid (w3.alloc (.cells #[.int .i64 x.frm, .int .i64 x.to_, .int .i64 (x.tape - 100), .int .i64 x.comp, .int .i64 x.slope] 87) = V) := ⟨_, Lib.hid rfl⟩
  obtain ⟨X, HXX⟩ : ∃ q, Hid (w3.heap.size = q) := ⟨_, Lib.hid rfl⟩
  have HBV := Lib.hid (show Below w.heap.size w V by rw [← HV.out]; exact HB3.out.alloc HB3.out.size _)
  have HOV := Lib.hid (show V.ownsRow w.heap.size 87 5 (.slice (some ⟨g3, 0, none⟩) n c3) n (flatLg ts) by rw [← HV.out]; exact HO3.out.alloc _)
  have HBX := Lib.hid (show Blk V X 87 #[.int .i64 x.frm, .int .i64 x.to_, .int .i64 (x.tape - 100), .int .i64 x.comp, .int .i64 x.slope] by rw [← HV.out, ← HXX.out]; exact Blk.new _ _ _)
  have HGX := Lib.hid (show g3 < X by rw [← HXX.out]; exact hg3)
  rw [HV.out]
  try simp only [HXX.out]
  clear HV e0 e1 e2 e3 e4 HB3 HO3 hg3
  have hrow := HOV.out
  obtain ⟨d0, k0⟩ : ∃ c, V.cell? ⟨g3, j * 5, none⟩ = some c := ⟨_, (hrow.cellAt (j * 5) (by omega)).trans (List.getElem?_eq_getElem (by rw [HFL.out]; omega))⟩
  have f0 := hrow.frozenAt (j * 5)
  obtain ⟨d1, k1⟩ : ∃ c, V.cell? ⟨g3, j * 5 + 1, none⟩ = some c := ⟨_, (hrow.cellAt (j * 5 + 1) (by omega)).trans (List.getElem?_eq_getElem (by rw [HFL.out]; omega))⟩
  have f1 := hrow.frozenAt (j * 5 + 1)
  obtain ⟨d2, k2⟩ : ∃ c, V.cell? ⟨g3, j * 5 + 2, none⟩ = some c := ⟨_, (hrow.cellAt (j * 5 + 2) (by omega)).trans (List.getElem?_eq_getElem (by rw [HFL.out]; omega))⟩
  have f2 := hrow.frozenAt (j * 5 + 2)
  obtain ⟨d3, k3⟩ : ∃ c, V.cell? ⟨g3, j * 5 + 3, none⟩ = some c := ⟨_, (hrow.cellAt (j * 5 + 3) (by omega)).trans (List.getElem?_eq_getElem (by rw [HFL.out]; omega))⟩
  have f3 := hrow.frozenAt (j * 5 + 3)
  obtain ⟨d4, k4⟩ : ∃ c, V.cell? ⟨g3, j * 5 + 4, none⟩ = some c := ⟨_, (hrow.cellAt (j * 5 + 4) (by omega)).trans (List.getElem?_eq_getElem (by rw [HFL.out]; omega))⟩
  have f4 := hrow.frozenAt (j * 5 + 4)
  have q0 := HBX.out.cell 0
  have q1 := HBX.out.cell 1
  have q2 := HBX.out.cell 2
  have q3 := HBX.out.cell 3
  have q4 := HBX.out.cell 4
  have zl := HBX.out.lt
  have hgx := HGX.out
  have hlo := (hrow.lt g3 rfl).1
  simp at q0 q1 q2 q3 q4
  clear hrow
  go_wp2_with fail
  go_ret
  refine ⟨some ⟨g3, 0, none⟩, c3, by rw [List.length_set, HL.out]; rfl, ?_, ?_⟩
  · rw [List.length_set, HL.out, HY.out, ← flat_put ⟨x.frm, x.to_, x.tape - 100, x.comp, x.slope⟩ ts j (by rw [HL.out]; exact hjn)]
    exact (((((HOV.out.stored (j * 5) _).1.stored (j * 5 + 1) _).1.stored (j * 5 + 2) _).1.stored (j * 5 + 3) _).1.stored (j * 5 + 4) _).1
  · exact ((((HBV.out.setCell (p := ⟨g3, j * 5, none⟩) hlo _).setCell (p := ⟨g3, j * 5 + 1, none⟩) hlo _).setCell (p := ⟨g3, j * 5 + 2, none⟩) hlo _).setCell (p := ⟨g3, j * 5 + 3, none⟩) hlo _).setCell (p := ⟨g3, j * 5 + 4, none⟩) hlo _
theorem fix_any (gL n cap : Nat) (ts us : List Lg) (j : Nat) (x : Lg) (f : Int) (w : World) (h1 : 1 ≤ f) (h4 : f ≤ 4) (HG : Hid (goodLg ts = true)) (HX : Hid (ts[j]? = some x)) (HU : Hid (ts.set j (fixLg x f) = us)) (hts : Hid (LgAt w w.heap.size (some ⟨gL, 0, none⟩) n ts)) :
    Calls Tryz.prog 113 #[.slice (some ⟨gL, 0, none⟩) n cap, .int .i64 (j : Int), .int .i64 f] w (QLo us w) := by
  rw [← HU.out]
  have hc : f = 1 ∨ f = 2 ∨ f = 3 ∨ f = 4 := by omega
  rcases hc with rfl | rfl | rfl | rfl
  · exact fix_1 gL n cap ts j x w HG HX hts
  · exact fix_2 gL n cap ts j x w HG HX hts
  · exact fix_3 gL n cap ts j x w HG HX hts
  · exact fix_4 gL n cap ts j x w HG HX hts
theorem can_at {ts : List Lg} {i f : Int} (h : plB ts i = true) : ∃ (j : Nat) (x : Lg), i = (j : Int) ∧ ts[j]? = some x ∧ goodLg ts = true ∧ fixTs ts i f = ts.set j (fixLg x f) ∧ canB ts i f = (btw 1 f 4 && goodLg (ts.set j (fixLg x f))) ∧ (1 ≤ f ∧ f ≤ 4 → canB ts i f = okLg (fixLg x f)) := by
  obtain ⟨hg, -, j, rfl, x, hx, -⟩ := plB_at h
  refine ⟨j, x, rfl, hx, hg, by unfold fixTs; rw [Int.toNat_natCast, lgAt_is hx], ?_, ?_⟩
  · unfold canB; rw [h, lgAt_is hx, fix_good hg (lt_at hx)]; rfl
  · intro hf; unfold canB; rw [h, lgAt_is hx, btw_mk hf.1 hf.2]; rfl
set_option maxHeartbeats 4000000 in
set_option maxRecDepth 100000 in
theorem can_any (A : Option Addr) (n cap : Nat) (ts : List Lg) (q f : Int) (t : Bool) (w : World) (hn : n ≤ 2000000) (ht : Hid (canB ts q f = t)) (hts : Hid (LgAt w w.heap.size A n ts)) :
    Calls Tryz.prog 112 #[.slice A n cap, .int .i64 q, .int .i64 f] w (BPost t w) := by
  have HL := Lib.hid hts.out.1
  obtain ⟨p, HP⟩ : ∃ p, Hid (plB ts q = p) := ⟨_, Lib.hid rfl⟩
  cases p
  · obtain rfl : t = false := by rw [← ht.out]; unfold canB; rw [HP.out]; rfl
    go_enter Tryz.func112, Tryz.ntmps112
    go_wp2_with fail
    refine (placed10_any A n cap ts q false _ hn HP hts).mono ?_
    rintro e w1 ⟨rfl, b1⟩
    have HB := Lib.hid b1
    clear b1
    go_wp2_with fail
    go_ret
    exact ⟨rfl, HB.out⟩
  obtain ⟨j, x, rfl, hx, hg, hfx, hcn, -⟩ := can_at (f := f) HP.out
  rw [ht.out] at hcn
  have HG := Lib.hid hg
  have HX := Lib.hid hx
  have HCN := Lib.hid hcn
  obtain ⟨gL, rfl⟩ := lg_addr hts.out hx
  clear hx hg hfx hcn
  obtain ⟨b, HBT⟩ : ∃ b, Hid (btw 1 f 4 = b) := ⟨_, Lib.hid rfl⟩
  cases b
  · obtain rfl : t = false := by rw [HCN.out, HBT.out]; rfl
    go_enter Tryz.func112, Tryz.ntmps112
    go_wp2_with fail
    refine (placed10_any (some ⟨gL, 0, none⟩) n cap ts (j : Int) true _ hn HP hts).mono ?_
    rintro e w1 ⟨rfl, b1⟩
    have HB := Lib.hid b1
    clear b1
    go_wp2_with fail
    refine (inn.in_is f 1 4 false HBT _).mono ?_
    rintro e w2 ⟨rfl, rfl⟩
    go_wp2_with fail
    go_ret
    exact ⟨rfl, HB.out⟩
  have hf := btw_yes HBT.out
  obtain ⟨us, HU⟩ : ∃ q, Hid (ts.set j (fixLg x f) = q) := ⟨_, Lib.hid rfl⟩
  have HT := Lib.hid (show goodLg us = t by rw [HCN.out, HBT.out, HU.out]; rfl)
  have HM := Lib.hid (show us.length = n by rw [← HU.out, List.length_set, HL.out])
  go_enter Tryz.func112, Tryz.ntmps112
  go_wp2_with fail
  refine (placed10_any (some ⟨gL, 0, none⟩) n cap ts (j : Int) true _ hn HP hts).mono ?_
  rintro e w1 ⟨rfl, b1⟩
  have HB := Lib.hid b1
  clear b1
  go_wp2_with fail
  refine (inn.in_is f 1 4 true HBT _).mono ?_
  rintro e w2 ⟨rfl, rfl⟩
  go_wp2_with fail
  refine (fix_any gL n cap ts us j x f _ hf.1 hf.2 HG HX HU (Lib.hid (hts.out.step HB.out))).mono ?_
  rintro e w3 ⟨A3, c3, rfl, hO3, b3⟩
  rw [HM.out] at hO3 ⊢
  have HB3 := Lib.hid (HB.out.trans (b3.mono HB.out.size))
  have HS := Lib.hid (own_Lg HM.out hO3)
  clear b3 hO3
  go_wp2_with fail
  refine (legs_is A3 n c3 us t _ hn HS HT).mono ?_
  rintro e w4 ⟨rfl, b4⟩
  have HB4 := Lib.hid (HB3.out.trans (b4.mono HB3.out.size))
  clear b4
  go_wp2_with fail
  go_ret
  exact ⟨rfl, HB4.out⟩
def FPo (us : List Lg) (t : Bool) (w : World) (e : Ending) (w' : World) : Prop :=
  ∃ A c, e = .returned (.tuple #[.slice A us.length c, .bool t]) ∧ w'.ownsRow w.heap.size 87 5 (.slice A us.length c) us.length (flatLg us) ∧ Below w.heap.size w w'
set_option maxHeartbeats 4000000 in
set_option maxRecDepth 100000 in
theorem fixLeg_model (A : Option Addr) (n cap : Nat) (ts : List Lg) (q f : Int) (w : World) (hn : n ≤ 2000000) (hts : Hid (LgAt w w.heap.size A n ts)) :
    Calls Tryz.prog 54 #[.slice A n cap, .int .i64 q, .int .i64 f] w (FPo (fxTs ts q f) (canB ts q f) w) := by
  have HL := Lib.hid hts.out.1
  obtain ⟨t, HT⟩ : ∃ t, Hid (canB ts q f = t) := ⟨_, Lib.hid rfl⟩
  rw [HT.out]
  cases t
  · have HF := Lib.hid (show fxTs ts q f = [] by unfold fxTs; rw [HT.out]; rfl)
    rw [HF.out]
    go_enter Tryz.func54, Tryz.ntmps54
    go_wp2_with fail
    refine (can_any A n cap ts q f false _ hn HT hts).mono ?_
    rintro e w1 ⟨rfl, b1⟩
    have HB := Lib.hid b1
    clear b1
    go_wp2_with fail
    go_ret2
    exact ⟨some ⟨w1.heap.size, 0, none⟩, 0, rfl, World.ownsRow_made w1 #[] 0 HB.out.size (by decide) (by simp), HB.out.alloc HB.out.size _⟩
  have hp : plB ts q = true := by have h := HT.out; unfold canB at h; rw [Bool.and_eq_true] at h; exact h.1
  have hf := (can_good HT.out).2
  obtain ⟨j, x, rfl, hx, hg, hfx, -, -⟩ := can_at (f := f) hp
  have HG := Lib.hid hg
  have HX := Lib.hid hx
  obtain ⟨us, HU⟩ : ∃ q, Hid (ts.set j (fixLg x f) = q) := ⟨_, Lib.hid rfl⟩
  have HF := Lib.hid (show fxTs ts (j : Int) f = us by unfold fxTs; rw [HT.out, if_pos rfl, hfx, HU.out])
  have HM := Lib.hid (show us.length = n by rw [← HU.out, List.length_set, HL.out])
  obtain ⟨gL, rfl⟩ := lg_addr hts.out hx
  clear hx hg hfx hp
  rw [HF.out]
  go_enter Tryz.func54, Tryz.ntmps54
  go_wp2_with fail
  refine (can_any (some ⟨gL, 0, none⟩) n cap ts (j : Int) f true _ hn HT hts).mono ?_
  rintro e w1 ⟨rfl, b1⟩
  have HB := Lib.hid b1
  clear b1
  go_wp2_with fail
  refine (fix_any gL n cap ts us j x f _ hf.1 hf.2 HG HX HU (Lib.hid (hts.out.step HB.out))).mono ?_
  rintro e w3 ⟨A3, c3, rfl, hO3, b3⟩
  have HO3 := Lib.hid (own_low HB.out.size hO3)
  have HB3 := Lib.hid (HB.out.trans (b3.mono HB.out.size))
  clear b3 hO3
  go_wp2_with fail
  go_ret2
  exact ⟨A3, c3, rfl, HO3.out, HB3.out⟩
set_option maxHeartbeats 4000000 in
set_option maxRecDepth 100000 in
theorem strainAfter_model (A : Option Addr) (n cap : Nat) (ts : List Lg) (q f : Int) (w : World) (hn : n ≤ 2000000) (hts : Hid (LgAt w w.heap.size A n ts)) :
    Calls Tryz.prog 57 #[.slice A n cap, .int .i64 q, .int .i64 f] w (APost (ansSa ts q f) w) := by
  have HL := Lib.hid hts.out.1
  obtain ⟨t, HT⟩ : ∃ t, Hid (canB ts q f = t) := ⟨_, Lib.hid rfl⟩
  cases t
  · have HF := Lib.hid (show ansSa ts q f = .tuple #[.int .i64 0, .int .i64 0, .bool false] by unfold ansSa; rw [HT.out]; rfl)
    go_enter Tryz.func57, Tryz.ntmps57
    go_wp2_with fail
    refine (can_any A n cap ts q f false _ hn HT hts).mono ?_
    rintro e w1 ⟨rfl, b1⟩
    have HB := Lib.hid b1
    clear b1
    go_wp2_with fail
    go_ret3
    exact ⟨by rw [HF.out]; rfl, HB.out⟩
  have hp : plB ts q = true := by have h := HT.out; unfold canB at h; rw [Bool.and_eq_true] at h; exact h.1
  have hcg := can_good HT.out
  have hf := hcg.2
  obtain ⟨j, x, rfl, hx, hg, hfx, -, -⟩ := can_at (f := f) hp
  have HG := Lib.hid hg
  have HX := Lib.hid hx
  obtain ⟨us, HU⟩ : ∃ q, Hid (ts.set j (fixLg x f) = q) := ⟨_, Lib.hid rfl⟩
  have HGU := Lib.hid (show goodLg us = true by rw [← HU.out, ← hfx]; exact hcg.1)
  obtain ⟨rn, HRN⟩ : ∃ q, Hid (snV us = q) := ⟨_, Lib.hid rfl⟩
  obtain ⟨rd, HRD⟩ : ∃ q, Hid (sdV us = q) := ⟨_, Lib.hid rfl⟩
  have HF := Lib.hid (show ansSa ts (j : Int) f = .tuple #[.int .i64 rn, .int .i64 rd, .bool true] by unfold ansSa; rw [HT.out, if_pos rfl, hfx, HU.out, HRN.out, HRD.out])
  have HM := Lib.hid (show us.length = n by rw [← HU.out, List.length_set, HL.out])
  obtain ⟨gL, rfl⟩ := lg_addr hts.out hx
  clear hx hg hfx hp hcg
  go_enter Tryz.func57, Tryz.ntmps57
  go_wp2_with fail
  refine (can_any (some ⟨gL, 0, none⟩) n cap ts (j : Int) f true _ hn HT hts).mono ?_
  rintro e w1 ⟨rfl, b1⟩
  have HB := Lib.hid b1
  clear b1
  go_wp2_with fail
  refine (fix_any gL n cap ts us j x f _ hf.1 hf.2 HG HX HU (Lib.hid (hts.out.step HB.out))).mono ?_
  rintro e w3 ⟨A3, c3, rfl, hO3, b3⟩
  rw [HM.out] at hO3 ⊢
  have HB3 := Lib.hid (HB.out.trans (b3.mono HB.out.size))
  have HS := Lib.hid (own_Lg HM.out hO3)
  clear b3 hO3
  go_wp2_with fail
  refine (strain_any A3 n c3 us rn rd _ hn HGU HRN HRD HS).mono ?_
  rintro e w4 ⟨rfl, b4⟩
  have HB4 := Lib.hid (HB3.out.trans (b4.mono HB3.out.size))
  clear b4
  go_wp2_with fail
  go_ret3
  exact ⟨by rw [HF.out]; rfl, HB4.out⟩
end Go.Proofs.YtiimegmaokfpgabGreatDoor.bl
namespace Go.Proofs.YtiimegmaokfpgabGreatDoor.bl
open Go.RowKit
open reads base ty lg lgi win hs nt nq rowi sn mt ml dt pg ph lp
set_option linter.unusedVariables false
set_option linter.unusedSimpArgs false
def OK (ts : List Lg) (o : Option (Int × Int)) (n d : Nat) : Prop := snV (oL ts o) = n ∧ sdV (oL ts o) = d ∧ BdS (n : Int) d ∧ ∀ c, o = some c → canB ts c.1 c.2 = true
theorem OK.good {ts : List Lg} (hg : goodLg ts = true) {o : Option (Int × Int)} (h : ∀ c, o = some c → canB ts c.1 c.2 = true) : goodLg (oL ts o) = true := by
  cases o with
  | none => exact hg
  | some c => exact (can_good (h c rfl)).1
theorem OK.make {ts : List Lg} (hg : goodLg ts = true) (o : Option (Int × Int)) (h : ∀ c, o = some c → canB ts c.1 c.2 = true) : ∃ n d : Nat, OK ts o n d := by
  have B := st_bd (OK.good hg h)
  have B2 := B
  unfold BdS at B
  refine ⟨(snV (oL ts o)).toNat, (sdV (oL ts o)).toNat, by omega, by omega, ?_, h⟩
  rw [show (((snV (oL ts o)).toNat : Nat) : Int) = snV (oL ts o) by omega, show (((sdV (oL ts o)).toNat : Nat) : Int) = sdV (oL ts o) by omega]; exact B2
set_option maxHeartbeats 16000000 in
set_option maxRecDepth 100000 in
theorem best_any (A : Option Addr) (n cap : Nat) (ts : List Lg) (w : World) (hn : n ≤ 2000000) (HG : Hid (goodLg ts = true)) (hts : Hid (LgAt w w.heap.size A n ts)) :
    Calls Tryz.prog 118 #[.slice A n cap] w (APost (.tuple #[.int .i64 (oI (bfV ts)), .int .i64 (oF (bfV ts))]) w) := by
  have HL := Lib.hid hts.out.1
  have hn12 := len12 HL.out HG.out
  obtain ⟨n0, d0, hok0⟩ := OK.make HG.out none (fun c h => by cases h)
  have HK0 := Lib.hid hok0
  have HRN := Lib.hid (show snV ts = (n0 : Int) from hok0.1)
  have HRD := Lib.hid (show sdV ts = (d0 : Int) from hok0.2.1)
  have HZ := Lib.hid (show bR ts n = bfV ts by rw [← HL.out]; exact best_is HG.out)
  clear hok0
  go_enter Tryz.func118, Tryz.ntmps118
  go_wp2_with fail
  refine (strain_any A n cap ts (n0 : Int) (d0 : Int) _ hn HG HRN HRD hts).mono ?_
  rintro e w1 ⟨rfl, b1⟩
  have HB1 := Lib.hid b1
  clear b1
  go_wp2_with fail
  go_loopw [4, 5, 6, 7, 8] (fun x y a b i wr => ∃ (k : Nat) (o : Option (Int × Int)) (n1 d1 : Nat), k ≤ n ∧ i = .int .i64 (k : Nat) ∧ Hid (bR ts k = o) ∧ Hid (OK ts o n1 d1) ∧ x = .int .i64 (n1 : Nat) ∧ y = .int .i64 (d1 : Nat) ∧ a = .int .i64 (oI o) ∧ b = .int .i64 (oF o) ∧ Below w.heap.size w wr) (fun _ _ _ _ i _ => n - (intOf i).toNat)
  case atStart => exact ⟨0, none, n0, d0, Nat.zero_le _, rfl, Lib.hid rfl, HK0, rfl, rfl, rfl, rfl, HB1.out⟩
  case round =>
    obtain ⟨k, o, n1, d1, hk, rfl, HO, HK, rfl, rfl, rfl, rfl, hB⟩ := hrel
    have HBQ := Lib.hid hB
    clear hB HB1
    have hk0 : (0 : Int) ≤ (k : Int) := by omega
    by_cases hlt : k < n
    · have hki : (k : Int) < (n : Int) := by omega
      have hkd : decide (k < n) = true := by simpa using hlt
      obtain ⟨x, hx⟩ := at_lt HL.out hlt
      have HX := Lib.hid hx
      obtain ⟨gL, rfl⟩ := lg_addr hts.out hx
      clear hx
      go_wp2_with fail
      go_loopw [4, 5, 6, 7, 9] (fun x y a b i wr => ∃ (m : Nat) (o2 : Option (Int × Int)) (n2 d2 : Nat), m ≤ 4 ∧ i = .int .i64 ((m : Int) + 1) ∧ Hid (b4 ts (k : Int) o m = o2) ∧ Hid (OK ts o2 n2 d2) ∧ x = .int .i64 (n2 : Nat) ∧ y = .int .i64 (d2 : Nat) ∧ a = .int .i64 (oI o2) ∧ b = .int .i64 (oF o2) ∧ Below w.heap.size w wr) (fun _ _ _ _ i _ => 5 - (intOf i).toNat)
      case atStart => exact ⟨0, o, n1, d1, Nat.zero_le _, rfl, Lib.hid rfl, HK, rfl, rfl, rfl, rfl, HBQ.out⟩
      case round =>
        obtain ⟨m, o2, n2, d2, hm, rfl, HO2, HK2, rfl, rfl, rfl, rfl, hB⟩ := hrel
        have HBR := Lib.hid hB
        clear hB HBQ
        by_cases hlm : m < 4
        · have hm4 : (m : Int) + 1 ≤ 4 := by omega
          have hm1 : (1 : Int) ≤ (m : Int) + 1 := by omega
          have xm : IntKind.i64.wrap ((m : Int) + 1 + 1) = (m : Int) + 1 + 1 := IntWalk.i64_in _ (by omega)
          have HS := Lib.hid (show b4 ts (k : Int) o (m + 1) = bs1 ts o2 ((k : Int), (m : Int) + 1) by rw [b4, HO2.out])
          obtain ⟨t, HT⟩ : ∃ t, Hid (canB ts (k : Int) ((m : Int) + 1) = t) := ⟨_, Lib.hid rfl⟩
          have HTS := Lib.hid (hts.out.step HBR.out)
          go_wp2_with fail
          refine (can_any (some ⟨gL, 0, none⟩) n cap ts (k : Int) ((m : Int) + 1) t _ hn HT HTS).mono ?_
          rintro e w3 ⟨rfl, b3⟩
          have HB3 := Lib.hid (HBR.out.trans (b3.mono HBR.out.size))
          clear b3 HTS HBR
          cases t
          · have HN := Lib.hid (show b4 ts (k : Int) o (m + 1) = o2 by rw [HS.out]; exact bs1_no HT.out)
            go_wp2_with fail
            go_roundw
            case rel => exact ⟨m + 1, o2, n2, d2, by omega, by go_num, HN, HK2, rfl, rfl, rfl, rfl, HB3.out⟩
            case measure => simp [intOf]; omega
          · have hp : plB ts (k : Int) = true := by have h := HT.out; unfold canB at h; rw [Bool.and_eq_true] at h; exact h.1
            have hcg := (can_good HT.out).1
            obtain ⟨j, x', ej, hx', -, hfx, -, -⟩ := can_at (f := (m : Int) + 1) hp
            obtain rfl : k = j := by omega
            obtain rfl : x = x' := by have h := HX.out; rw [hx'] at h; exact (Option.some.inj h).symm
            obtain ⟨us, HU⟩ : ∃ q, Hid (ts.set k (fixLg x ((m : Int) + 1)) = q) := ⟨_, Lib.hid rfl⟩
            have HFX := Lib.hid (show fixTs ts (k : Int) ((m : Int) + 1) = us by rw [hfx, HU.out])
            have HGU := Lib.hid (show goodLg us = true by rw [← HFX.out]; exact hcg)
            have HM := Lib.hid (show us.length = n by rw [← HU.out, List.length_set, HL.out])
            have B1 := st_bd HGU.out
            unfold BdS at B1
            obtain ⟨rn, HRN2⟩ : ∃ q : Nat, Hid (snV us = q) := ⟨(snV us).toNat, Lib.hid (by omega)⟩
            obtain ⟨rd, HRD2⟩ : ∃ q : Nat, Hid (sdV us = q) := ⟨(sdV us).toNat, Lib.hid (by omega)⟩
            rw [HRN2.out, HRD2.out] at B1
            have B2 := HK2.out.2.2.1
            unfold BdS at B2
            obtain ⟨r, HR⟩ : ∃ q, Hid (cpI ((rn : Int) * (d2 : Int)) ((n2 : Int) * (rd : Int)) = q) := ⟨_, Lib.hid rfl⟩
            have HCP := Lib.hid (show cpS (fixTs ts (k : Int) ((m : Int) + 1)) (oL ts o2) = r by rw [← HR.out, HFX.out]; unfold cpS; rw [HRN2.out, HRD2.out, HK2.out.1, HK2.out.2.1])
            clear hp hcg hx' hfx ej
            go_wp2_with fail
            refine (fix_any gL n cap ts us k x ((m : Int) + 1) _ hm1 hm4 HG HX HU (Lib.hid (hts.out.step HB3.out))).mono ?_
            rintro e w4 ⟨A4, c4, rfl, hO4, b4⟩
            rw [HM.out] at hO4 ⊢
            have HB4 := Lib.hid (HB3.out.trans (b4.mono HB3.out.size))
            have HS4 := Lib.hid (own_Lg HM.out hO4)
            clear b4 hO4 HB3
            go_wp2_with fail
            refine (strain_any A4 n c4 us (rn : Int) (rd : Int) _ hn HGU HRN2 HRD2 HS4).mono ?_
            rintro e w5 ⟨rfl, b5⟩
            have HB5 := Lib.hid (HB4.out.trans (b5.mono HB4.out.size))
            clear b5 HB4 HS4
            go_wp2_with fail
            refine (compare_any rn rd n2 d2 r _ (by omega) (by omega) (by omega) (by omega) (by omega) (by omega) HR).mono ?_
            rintro e w6 ⟨rfl, b6⟩
            have HB6 := Lib.hid (HB5.out.trans (b6.mono HB5.out.size))
            clear b6 HB5
            have HBD := Lib.hid (show BdS (rn : Int) (rd : Int) from B1)
            clear B1 B2
            by_cases hr : r < 0
            · have HN := Lib.hid (show b4 ts (k : Int) o (m + 1) = some ((k : Int), (m : Int) + 1) by rw [HS.out]; exact bs1_yes HT.out (by rw [HCP.out]; exact hr))
              have HKN := Lib.hid (show OK ts (some ((k : Int), (m : Int) + 1)) rn rd from ⟨by show snV (fixTs ts (k : Int) ((m : Int) + 1)) = _; rw [HFX.out]; exact HRN2.out, by show sdV (fixTs ts (k : Int) ((m : Int) + 1)) = _; rw [HFX.out]; exact HRD2.out, HBD.out, fun c hc => by obtain rfl := Option.some.inj hc; exact HT.out⟩)
              go_wp2_with fail
              go_roundw
              case rel => exact ⟨m + 1, some ((k : Int), (m : Int) + 1), rn, rd, by omega, by go_num, HN, HKN, rfl, rfl, rfl, rfl, HB6.out⟩
              case measure => simp [intOf]; omega
            · have HN := Lib.hid (show b4 ts (k : Int) o (m + 1) = o2 by rw [HS.out]; exact bs1_keep (by rw [HCP.out]; exact hr))
              go_wp2_with fail
              go_roundw
              case rel => exact ⟨m + 1, o2, n2, d2, by omega, by go_num, HN, HK2, rfl, rfl, rfl, rfl, HB6.out⟩
              case measure => simp [intOf]; omega
        · obtain rfl : m = 4 := by omega
          have hm4 : ¬ ((4 : Nat) : Int) + 1 ≤ 4 := by omega
          have HN := Lib.hid (show bR ts (k + 1) = o2 by rw [bR, HO.out, HO2.out])
          go_wp2_with fail
          go_roundw
          case rel => exact ⟨k + 1, o2, n2, d2, by omega, by go_num, HN, HK2, rfl, rfl, rfl, rfl, HBR.out⟩
          case measure => simp [intOf]; omega
    · have hkd : decide (k < n) = false := by simpa using hlt
      obtain rfl : k = n := by omega
      have HE := Lib.hid (show bfV ts = o by rw [← HZ.out, HO.out])
      go_wp2_with fail
      go_ret2
      exact ⟨by rw [HE.out]; rfl, HBQ.out⟩
theorem best_is' (A : Option Addr) (n cap : Nat) (ts : List Lg) (a b : Int) (w : World) (h1 : Hid (oI (bfV ts) = a)) (h2 : Hid (oF (bfV ts) = b)) (hn : n ≤ 2000000) (HG : Hid (goodLg ts = true)) (hts : Hid (LgAt w w.heap.size A n ts)) :
    Calls Tryz.prog 118 #[.slice A n cap] w (APost (.tuple #[.int .i64 a, .int .i64 b]) w) := by rw [← h1.out, ← h2.out]; exact best_any A n cap ts w hn HG hts
theorem oF_pos {ts : List Lg} : (bfV ts).isSome = true → 1 ≤ oF (bfV ts) ∧ oF (bfV ts) ≤ 4 := by
  intro h
  cases e : bfV ts with
  | none => rw [e] at h; cases h
  | some c => exact (can_good (bfV_can e).1).2
theorem oF_zero {ts : List Lg} (h : (bfV ts).isSome = false) : oI (bfV ts) = 0 ∧ oF (bfV ts) = 0 := by
  cases e : bfV ts with
  | none => exact ⟨rfl, rfl⟩
  | some c => rw [e] at h; cases h
set_option maxHeartbeats 4000000 in
set_option maxRecDepth 100000 in
theorem bestFix_model (A : Option Addr) (n cap : Nat) (ts : List Lg) (w : World) (hn : n ≤ 2000000) (hts : Hid (LgAt w w.heap.size A n ts)) :
    Calls Tryz.prog 59 #[.slice A n cap] w (APost (ansBf ts) w) := by
  obtain ⟨g, HG⟩ : ∃ q, Hid (goodLg ts = q) := ⟨_, Lib.hid rfl⟩
  cases g
  · have HF := Lib.hid (show ansBf ts = .tuple #[.int .i64 0, .int .i64 0, .bool false] by unfold ansBf bfV; rw [HG.out]; rfl)
    go_enter Tryz.func59, Tryz.ntmps59
    go_wp2_with fail
    refine (legs_is A n cap ts false _ hn hts HG).mono ?_
    rintro e w1 ⟨rfl, b1⟩
    have HB := Lib.hid b1
    clear b1
    go_wp2_with fail
    go_ret3
    exact ⟨by rw [HF.out]; rfl, HB.out⟩
  obtain ⟨a, HA⟩ : ∃ q, Hid (oI (bfV ts) = q) := ⟨_, Lib.hid rfl⟩
  obtain ⟨b, HB2⟩ : ∃ q, Hid (oF (bfV ts) = q) := ⟨_, Lib.hid rfl⟩
  obtain ⟨s, HS⟩ : ∃ q, Hid ((bfV ts).isSome = q) := ⟨_, Lib.hid rfl⟩
  have HF := Lib.hid (show ansBf ts = .tuple #[.int .i64 a, .int .i64 b, .bool s] by rw [← HA.out, ← HB2.out, ← HS.out]; rfl)
  have hb : s = decide (0 < b) := by
    cases s
    · have := (oF_zero HS.out).2; rw [HB2.out] at this; rw [this]; rfl
    · have := oF_pos HS.out; rw [HB2.out] at this; exact (decide_eq_true (by omega)).symm
  have HBS := Lib.hid hb
  clear hb
  go_enter Tryz.func59, Tryz.ntmps59
  go_wp2_with fail
  refine (legs_is A n cap ts true _ hn hts HG).mono ?_
  rintro e w1 ⟨rfl, b1⟩
  have HB := Lib.hid b1
  clear b1
  go_wp2_with fail
  refine (best_is' A n cap ts a b _ HA HB2 hn HG (Lib.hid (hts.out.step HB.out))).mono ?_
  rintro e w2 ⟨rfl, b2⟩
  have HB3 := Lib.hid (HB.out.trans (b2.mono HB.out.size))
  clear b2
  go_wp2_with fail
  go_ret3
  exact ⟨by rw [HF.out, HBS.out]; rfl, HB3.out⟩
def CPo (us : List Lg) (k : Int) (t : Bool) (w : World) (e : Ending) (w' : World) : Prop :=
  ∃ A c, e = .returned (.tuple #[.slice A us.length c, .int .i64 k, .bool t]) ∧ w'.ownsRow w.heap.size 87 5 (.slice A us.length c) us.length (flatLg us) ∧ Below w.heap.size w w'
theorem clK_step {ts : List Lg} {k j : Nat} {x : Lg} {f : Int} (h : bfV (clK ts k) = some ((j : Int), f)) (hx : (clK ts k)[j]? = some x) : clK ts (k + 1) = (clK ts k).set j (fixLg x f) := by
  rw [clK, h]
  show fixTs (clK ts k) (j : Int) f = _
  unfold fixTs; rw [Int.toNat_natCast, lgAt_is hx]
theorem nil_cap {w : World} {B n : Nat} {A : Option Addr} {ts : List Lg} (h : LgAt w B A n ts) (e : A = none) : n = 0 := by
  rcases Nat.eq_zero_or_pos n with z | z
  · exact z
  · obtain ⟨x, hx⟩ := at_lt h.1 z
    obtain ⟨g, e2, -⟩ := h.2 0 x hx
    rw [e] at e2; cases e2
theorem flat_src {w : World} {B n : Nat} {ad : Addr} {ts : List Lg} (h : LgAt w B (some ad) n ts) : ∀ (q : Nat) u, (flatLg ts)[q]? = some u → w.cell? (ad.add q) = some u := by
  intro q u hu
  rcases Nat.eq_zero_or_pos n with z | z
  · have : ts = [] := List.length_eq_zero_iff.1 (by rw [h.1]; exact z)
    rw [this] at hu; simp [flatLg] at hu
  · obtain ⟨x, hx⟩ := at_lt h.1 z
    obtain ⟨g, e⟩ := lg_addr h hx
    injection e with e
    subst e
    have k := flat_take h n
    rw [List.take_of_length_le (by rw [h.1]; exact Nat.le_refl _)] at k
    exact k q u hu
set_option maxHeartbeats 8000000 in
set_option maxRecDepth 100000 in
theorem clean_no (A : Option Addr) (n cap : Nat) (ts : List Lg) (w : World) (hn : n ≤ 2000000) (HG : Hid (goodLg ts = false)) (hts : Hid (LgAt w w.heap.size A n ts)) :
    Calls Tryz.prog 62 #[.slice A n cap] w (CPo (clTs ts) (clN' ts) (goodLg ts) w) := by
  rw [HG.out]
  have HF := Lib.hid (show clTs ts = [] by unfold clTs; rw [HG.out]; rfl)
  have HF2 := Lib.hid (show clN' ts = 0 by unfold clN'; rw [HG.out]; rfl)
  rw [HF.out, HF2.out]
  go_enter Tryz.func62, Tryz.ntmps62
  go_wp2_with fail
  refine (legs_is A n cap ts false _ hn hts HG).mono ?_
  rintro e w1 ⟨rfl, b1⟩
  have HB := Lib.hid b1
  clear b1
  go_wp2_with fail
  go_ret3
  exact ⟨some ⟨w1.heap.size, 0, none⟩, 0, rfl, World.ownsRow_made w1 #[] 0 HB.out.size (by decide) (by simp), HB.out.alloc HB.out.size _⟩
set_option maxHeartbeats 8000000 in
set_option maxRecDepth 100000 in
theorem clean_nil (w : World) : Calls Tryz.prog 62 #[.slice none 0 0] w (CPo [] 0 true w) := by
  obtain ⟨i0, hi, hz0, hz1, hz2⟩ := info_parts infoLg
  have HG := Lib.hid (show goodLg [] = true by decide)
  have HA := Lib.hid (show oI (bfV []) = 0 from rfl)
  have HA2 := Lib.hid (show oF (bfV []) = 0 from rfl)
  have HN := Lib.hid (fun (v : World) (B : Nat) (A : Option Addr) => show LgAt v B A 0 [] from ⟨rfl, fun k x h => by simp at h⟩)
  go_enter Tryz.func62, Tryz.ntmps62
  go_wp2_with fail
  refine (legs_is none 0 0 [] true _ (by omega) (Lib.hid (HN.out _ _ _)) HG).mono ?_
  rintro e w1 ⟨rfl, b1⟩
  have HB := Lib.hid b1
  have HRow := Lib.hid (show (w1.alloc (.cells #[] 87)).ownsRow w.heap.size 87 5 (.slice (some ⟨w1.heap.size, 0, none⟩) 0 0) 0 [] from World.ownsRow_made w1 #[] 0 b1.size (by decide) (by simp))
  have HB0 := Lib.hid (b1.alloc b1.size (.cells #[] 87))
  clear b1
  go_upto_region 4 with (at_builtin; refine wpList_append_own_none rfl _ _ 24 rfl w.heap.size 87 i0 5 Tryz.underlying24 hi _ _ _ rfl HRow.out rfl ?_)
  obtain ⟨V, HV⟩ : ∃ V, Hid (w1.alloc (.cells #[] 87) = V) := ⟨_, Lib.hid rfl⟩
  obtain ⟨X, HXX⟩ : ∃ q, Hid (w1.heap.size = q) := ⟨_, Lib.hid rfl⟩
  rw [HXX.out] at HRow
  rw [HV.out] at HRow HB0 ⊢
  try simp only [HXX.out]
  clear HV HB
  go_wp2_with fail
  go_loopw [5, 6] (fun v i wr => v = .slice (some ⟨X, 0, none⟩) 0 0 ∧ i = .int .i64 0 ∧ wr = V) (fun _ _ _ => 0)
  case atStart => exact ⟨rfl, rfl, rfl⟩
  case round =>
    obtain ⟨rfl, rfl, rfl⟩ := hrel
    go_wp2_with fail
    refine (best_is' (some ⟨X, 0, none⟩) 0 0 [] 0 0 _ HA HA2 (by omega) HG (Lib.hid (HN.out _ _ _))).mono ?_
    rintro e w2 ⟨rfl, b2⟩
    have HB2 := Lib.hid (HB0.out.trans (b2.mono HB0.out.size))
    have HR2 := Lib.hid (row_below HRow.out b2)
    clear b2
    go_wp2_with fail
    go_ret3
    exact ⟨some ⟨X, 0, none⟩, 0, rfl, HR2.out, HB2.out⟩
set_option maxHeartbeats 16000000 in
set_option maxRecDepth 100000 in
theorem clean_yes (ad : Addr) (n cap : Nat) (ts : List Lg) (w : World) (hn : n ≤ 2000000) (HG : Hid (goodLg ts = true)) (hts : Hid (LgAt w w.heap.size (some ad) n ts)) :
    Calls Tryz.prog 62 #[.slice (some ad) n cap] w (CPo (clK ts (clE ts)) (clE ts) true w) := by
  obtain ⟨i0, hi, hz0, hz1, hz2⟩ := info_parts infoLg
  have HL := Lib.hid hts.out.1
  have hn12 := len12 HL.out HG.out
  have HFL := Lib.hid (show (flatLg ts).length = n * 5 by rw [flatLg_len, HL.out])
  go_enter Tryz.func62, Tryz.ntmps62
  go_wp2_with fail
  refine (legs_is (some ad) n cap ts true _ hn hts HG).mono ?_
  rintro e w1 ⟨rfl, b1⟩
  have HRow := Lib.hid (show (w1.alloc (.cells #[] 87)).ownsRow w.heap.size 87 5 (.slice (some ⟨w1.heap.size, 0, none⟩) 0 0) 0 [] from World.ownsRow_made w1 #[] 0 b1.size (by decide) (by simp))
  have HB0 := Lib.hid (b1.alloc b1.size (.cells #[] 87))
  have HC := Lib.hid (flat_src (hts.out.below HB0.out))
  have hsz : w.heap.size ≤ w1.heap.size := b1.size
  clear b1
  go_upto_region 4 with (at_builtin; refine wpList_append_own _ rfl _ _ 24 rfl w.heap.size 87 i0 (.agg #[.int .i64 0, .int .i64 0, .int .i64 0, .int .i64 0, .int .i64 0]) 5 40 Tryz.underlying24 hi hz0 hz1 hz2 rfl (by decide) _ _ _ rfl HRow.out ad n cap (flatLg ts) rfl HFL.out HC.out (flat_one ts) (by unfold maxLen; omega) (by omega) (by simp; omega) ?_; intro v3 w3 hown hgrow _)
  rw [Nat.zero_add, List.nil_append] at hown
  have HB3 := Lib.hid (HB0.out.grown hgrow HB0.out.size (fun q eq => (HRow.out.lt q eq).1))
  obtain ⟨A3, c3, rfl⟩ := row_slice hown
  have HO3 := Lib.hid hown
  clear hown hgrow HRow HB0 HC hsz
  go_wp2_with fail
  go_loopw [5, 6] (fun v i wr => ∃ (m : Nat) (A2 : Option Addr) (c2 : Nat), m ≤ 3 ∧ i = .int .i64 (m : Nat) ∧ v = .slice A2 n c2 ∧ Hid (∀ j, j < m → (bfV (clK ts j)).isNone = false) ∧ wr.ownsRow w.heap.size 87 5 (.slice A2 n c2) n (flatLg (clK ts m)) ∧ Below w.heap.size w wr) (fun _ i _ => 3 - (intOf i).toNat)
  case atStart => exact ⟨0, A3, c3, by omega, rfl, rfl, Lib.hid (fun j h => by omega), HO3.out, HB3.out⟩
  case round =>
    clear HO3 HB3
    obtain ⟨m, A2, c2, hm, rfl, rfl, HNO, hO, hB⟩ := hrel
    have HO := Lib.hid hO
    have HB := Lib.hid hB
    clear hO hB
    obtain ⟨us, HU⟩ : ∃ q, Hid (clK ts m = q) := ⟨_, Lib.hid rfl⟩
    have HGU := Lib.hid (show goodLg us = true by rw [← HU.out]; exact clK_good HG.out m)
    have HM := Lib.hid (show us.length = n by rw [← HU.out, clK_len, HL.out])
    by_cases hlt : m < 3
    · have hki : (m : Int) < 3 := by omega
      have hm0 : (0 : Int) ≤ (m : Int) := by omega
      have hkd : decide (m < 3) = true := by simpa using hlt
      obtain ⟨a, HA⟩ : ∃ q, Hid (oI (bfV us) = q) := ⟨_, Lib.hid rfl⟩
      obtain ⟨b, HBB⟩ : ∃ q, Hid (oF (bfV us) = q) := ⟨_, Lib.hid rfl⟩
      have HS := Lib.hid (own_Lg HM.out (by rw [← HU.out]; exact HO.out))
      go_wp2_with fail
      refine (best_is' A2 n c2 us a b _ HA HBB hn HGU HS).mono ?_
      rintro e w4 ⟨rfl, b4⟩
      have HO4 := Lib.hid (row_below HO.out b4)
      have HB4 := Lib.hid (HB.out.trans (b4.mono HB.out.size))
      have HS4 := Lib.hid (HS.out.step b4)
      clear b4 HO HB HS
      cases hs : bfV us with
      | none =>
        obtain rfl : b = 0 := by rw [← HBB.out, hs]; rfl
        have HE := Lib.hid (clE_is (ts := ts) (m := m) (by omega) HNO.out (.inr (by rw [HU.out, hs]; rfl)))
        clear hs
        go_wp2_with fail
        go_ret3
        exact ⟨A2, c2, by rw [HE.out, HU.out, HM.out]; rfl, by rw [HE.out, HU.out, HM.out, ← HU.out]; exact HO4.out, HB4.out⟩
      | some cc =>
        obtain ⟨jj, f⟩ := cc
        have hcan := (bfV_can hs).1
        have hcg := can_good hcan
        have hp : plB us jj = true := by have h := hcan; unfold canB at h; rw [Bool.and_eq_true] at h; exact h.1
        obtain ⟨j, x, rfl, hx, -, hfx, -, -⟩ := can_at (f := f) hp
        obtain rfl : a = (j : Int) := by rw [← HA.out, hs]; rfl
        obtain rfl : b = f := by rw [← HBB.out, hs]; rfl
        have hf := hcg.2
        have hf1 : 1 ≤ b := hf.1
        have hf4 : b ≤ 4 := hf.2
        have b0 : ¬ b = 0 := by omega
        have b1 : (b == 0) = false := by simp; omega
        have HX := Lib.hid hx
        obtain ⟨vs, HVS⟩ : ∃ q, Hid (us.set j (fixLg x b) = q) := ⟨_, Lib.hid rfl⟩
        have HN1 := Lib.hid (show clK ts (m + 1) = vs by rw [clK_step (by rw [HU.out]; exact hs) (by rw [HU.out]; exact hx), HU.out, HVS.out])
        have HMV := Lib.hid (show vs.length = n by rw [← HVS.out, List.length_set, HM.out])
        have HNO1 := Lib.hid (show ∀ j, j < m + 1 → (bfV (clK ts j)).isNone = false from fun j h => by
          by_cases e : j = m
          · rw [e, HU.out, hs]; rfl
          · exact HNO.out j (by omega))
        obtain ⟨gL, rfl⟩ := lg_addr HS4.out hx
        clear hcan hcg hp hx hfx hf hs
        go_wp2_with fail
        refine (fix_any gL n c2 us vs j x b _ hf1 hf4 HGU HX HVS HS4).mono ?_
        rintro e w5 ⟨A5, c5, rfl, hO5, b5⟩
        rw [HMV.out] at hO5 ⊢
        have HO5 := Lib.hid (own_low HB4.out.size hO5)
        have HB5 := Lib.hid (HB4.out.trans (b5.mono HB4.out.size))
        clear hO5 b5
        go_wp2_with fail
        go_roundw
        case rel => exact ⟨m + 1, A5, c5, by omega, by go_num, rfl, HNO1, by rw [HN1.out]; exact HO5.out, HB5.out⟩
        case measure => simp [intOf]; omega
    · have hkd : decide (m < 3) = false := by simpa using hlt
      obtain rfl : m = 3 := by omega
      have HE := Lib.hid (clE_is (ts := ts) (m := 3) (by omega) HNO.out (.inl rfl))
      go_wp2_with fail
      go_ret3
      exact ⟨A2, c2, by rw [HE.out, HU.out, HM.out]; rfl, by rw [HE.out, HU.out, HM.out, ← HU.out]; exact HO.out, HB.out⟩
theorem cleanLegs_model (A : Option Addr) (n cap : Nat) (ts : List Lg) (w : World) (hn : n ≤ 2000000) (hnil : A = none → cap = 0) (hts : Hid (LgAt w w.heap.size A n ts)) :
    Calls Tryz.prog 62 #[.slice A n cap] w (CPo (clTs ts) (clN' ts) (goodLg ts) w) := by
  cases hg : goodLg ts
  · have h := clean_no A n cap ts w hn (Lib.hid hg) hts
    rwa [hg] at h
  · have e1 : clTs ts = clK ts (clE ts) := by unfold clTs; rw [hg]; rfl
    have e2 : clN' ts = (clE ts : Int) := by unfold clN'; rw [hg]; rfl
    rw [e1, e2]
    cases A with
    | none =>
      have hc := hnil rfl
      have hn0 := nil_cap hts.out rfl
      have ht : ts = [] := List.length_eq_zero_iff.1 (by rw [hts.out.1]; exact hn0)
      subst hc hn0 ht
      exact clean_nil w
    | some ad => exact clean_yes ad n cap ts w hn (Lib.hid hg) hts
end Go.Proofs.YtiimegmaokfpgabGreatDoor.bl
