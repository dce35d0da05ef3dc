/-
  What chapter 10's functions answer: which legs are placed, the first of the candidates with the least strain, fixes (pure).
  The model: legs without one of them, placed legs, StrainWithout and SuspectLeg.
  The search for the best fix, leg by leg (pure).
  Fixes by the model: l10Fix, l10Can, FixLeg, StrainAfter.
  The best fix and CleanLegs by the model.
  Conditions: those that each theorem names.
-/
import Derived.Test.YtjlkgijaceplcabGreatDoorBlB
import Derived.Test.YtjlkgijaceplcabGreatDoorBlA
import Derived.Laws.AppendOwnNone
namespace Go.Proofs.YtjlkgijaceplcabGreatDoor.bl
open Go.RowKit
open reads base ty lg lgi win hs nt nq rowi sn mt ml dt pg ph lp
set_option linter.unusedVariables false
set_option linter.unusedSimpArgs false
def plB (ts : List Lg) (i : Int) : Bool := goodLg ts && mem (plIds ts) i
theorem plB_at {ts : List Lg} {i : Int} (h : plB ts i = true) : goodLg ts = true ∧ i ∈ plIds ts ∧ ∃ j : Nat, i = (j : Int) ∧ ∃ x, ts[j]? = some x ∧ x.frm ∈ (net ts).ps := by
  unfold plB at h
  rw [Bool.and_eq_true] at h
  have hm := mem_iff.1 h.2
  obtain ⟨j, e, x, hx, hp⟩ := plIds_at hm
  exact ⟨h.1, hm, j, e, x, hx, mem_iff.1 hp⟩
theorem plB_br (ts : List Lg) (i : Int) : plB ts i = brOk ts i := by
  unfold plB brOk
  cases hg : goodLg ts
  · rfl
  · simp only [Bool.true_and]
    apply Bool.eq_iff_iff.2
    rw [mem_iff, Bool.and_eq_true]
    constructor
    · intro h
      obtain ⟨j, rfl, x, hx, hp⟩ := plIds_at h
      have := lt_at hx
      refine ⟨btw_mk (by omega) (by omega), ?_⟩
      unfold brAt
      rw [Int.toNat_natCast, hx]; exact hp
    · rintro ⟨hb, ha⟩
      obtain ⟨b0, b1⟩ := btw_yes hb
      obtain ⟨j, rfl⟩ := Int.eq_ofNat_of_zero_le b0
      unfold brAt at ha
      rw [Int.toNat_natCast] at ha
      cases hx : ts[j]? with
      | none => rw [hx] at ha; cases ha
      | some x => rw [hx] at ha; exact pl_all hx ha
def swOk (ts : List Lg) (i : Int) : Bool := plB ts i && !brB ts i.toNat
def ansSw (ts : List Lg) (i : Int) : Value := if swOk ts i then .tuple #[.int .i64 (snV (less ts i.toNat)), .int .i64 (sdV (less ts i.toNat)), .bool true] else .tuple #[.int .i64 0, .int .i64 0, .bool false]
section
variable {α : Type} (p : α → Bool) (F : α → List Lg)
def flS (o : Option α) (c : α) : Option α := match o with
  | none => if p c then some c else none
  | some b => if p c && decide (cpS (F c) (F b) < 0) then some c else some b
def flN (l : List α) : Nat → Option α
  | 0 => none
  | k + 1 => match l[k]? with
    | some c => flS p F (flN l k) c
    | none => flN l k
variable {p F}
theorem flN_succ {l : List α} {k : Nat} {c : α} (h : l[k]? = some c) : flN p F l (k + 1) = flS p F (flN p F l k) c := by
  show (match l[k]? with | some c => _ | none => _) = _
  rw [h]
theorem flS_no {o : Option α} {c : α} (h : p c = false) : flS p F o c = o := by
  unfold flS; cases o <;> simp [h]
theorem flS_none {c : α} (h : p c = true) : flS p F none c = some c := by unfold flS; simp [h]
theorem flS_yes {b c : α} (h : p c = true) (hc : cpS (F c) (F b) < 0) : flS p F (some b) c = some c := by unfold flS; simp [h, hc]
theorem flS_keep {b c : α} (hc : ¬ cpS (F c) (F b) < 0) : flS p F (some b) c = some b := by unfold flS; simp [hc]
theorem flN_mem {l : List α} : ∀ {k : Nat} {b : α}, flN p F l k = some b → b ∈ l ∧ p b = true
  | k + 1, b, h => by
    cases e : l[k]? with
    | none => rw [show flN p F l (k + 1) = flN p F l k by show (match l[k]? with | some c => _ | none => _) = _; rw [e]] at h; exact flN_mem h
    | some c =>
      rw [flN_succ e] at h
      have hc := List.mem_of_getElem? e
      cases q : p c
      · rw [flS_no q] at h; exact flN_mem h
      · cases o : flN p F l k with
        | none => rw [o, flS_none q] at h; obtain rfl := Option.some.inj h; exact ⟨hc, q⟩
        | some d =>
          rw [o] at h
          by_cases z : cpS (F c) (F d) < 0
          · rw [flS_yes q z] at h; obtain rfl := Option.some.inj h; exact ⟨hc, q⟩
          · rw [flS_keep z] at h; obtain rfl := Option.some.inj h; exact flN_mem o
theorem cpS_anti (a b : List Lg) : cpS b a = - cpS a b := by unfold cpS; exact cpI_neg _ _
theorem flN_least {l : List α} (hF : ∀ c ∈ l, p c = true → goodLg (F c) = true) : ∀ {k : Nat} {b : α}, flN p F l k = some b → ∀ (j : Nat) (c : α), j < k → l[j]? = some c → p c = true → cpS (F b) (F c) ≤ 0
  | k + 1, b, h, j, c, hj, hc, hp => by
    cases e : l[k]? with
    | none =>
      rw [show flN p F l (k + 1) = flN p F l k by show (match l[k]? with | some c => _ | none => _) = _; rw [e]] at h
      have : j ≠ k := fun q => by rw [q, e] at hc; cases hc
      exact flN_least hF h j c (by omega) hc hp
    | some d =>
      rw [flN_succ e] at h
      have self : ∀ x : List Lg, cpS x x ≤ 0 := fun x => by have := cpS_anti x x; omega
      by_cases ej : j = k
      · subst ej
        rw [e] at hc
        obtain rfl := Option.some.inj hc
        cases o : flN p F l j with
        | none => rw [o, flS_none hp] at h; obtain rfl := Option.some.inj h; exact self _
        | some a =>
          rw [o] at h
          by_cases z : cpS (F d) (F a) < 0
          · rw [flS_yes hp z] at h; obtain rfl := Option.some.inj h; exact self _
          · rw [flS_keep z] at h; obtain rfl := Option.some.inj h
            have := cpS_anti (F d) (F a); omega
      · cases o : flN p F l k with
        | none =>
          -- nothing was possible, but c was
          exfalso
          have key : ∀ m, j < m → m ≤ k → flN p F l m ≠ none := by
            intro m hm hmk
            induction m with
            | zero => omega
            | succ m ih =>
              cases e2 : l[m]? with
              | none =>
                have : j ≠ m := fun q => by rw [q, e2] at hc; cases hc
                rw [show flN p F l (m + 1) = flN p F l m by show (match l[m]? with | some c => _ | none => _) = _; rw [e2]]
                exact ih (by omega) (by omega)
              | some g =>
                rw [flN_succ e2]
                cases o2 : flN p F l m with
                | none =>
                  by_cases q : j = m
                  · subst q; rw [hc] at e2; obtain rfl := Option.some.inj e2
                    rw [flS_none hp]; simp
                  · exact absurd o2 (ih (by omega) (by omega))
                | some a =>
                  unfold flS
                  split <;> simp_all
                  split <;> simp
          exact key k (by omega) (Nat.le_refl _) o
        | some a =>
          rw [o] at h
          have old := flN_least hF o j c (by omega) hc hp
          cases q : p d
          · rw [flS_no q] at h; obtain rfl := Option.some.inj h; exact old
          · by_cases z : cpS (F d) (F a) < 0
            · rw [flS_yes q z] at h; obtain rfl := Option.some.inj h
              have ma := flN_mem o
              exact (cpS_trans (hF d (List.mem_of_getElem? e) q) (hF a ma.1 ma.2) (hF c (List.mem_of_getElem? hc) hp) (by omega) old).1
            · rw [flS_keep z] at h; obtain rfl := Option.some.inj h; exact old
def bsS (us : List Lg) (o : Option α) (c : α) : Option α := match o with
  | none => if p c && decide (cpS (F c) us < 0) then some c else none
  | some b => if p c && decide (cpS (F c) (F b) < 0) then some c else some b
def below (us : List Lg) (o : Option α) : Option α := match o with
  | none => none
  | some b => if cpS (F b) us < 0 then some b else none
end
def suK (ts : List Lg) (k : Nat) : Option Int := flN (fun i => !brB ts i.toNat) (fun i => less ts i.toNat) (plIds ts) k
def suV (ts : List Lg) : Option Int := if goodLg ts then suK ts (plIds ts).length else none
def ansSu (ts : List Lg) : Value := .tuple #[.int .i64 ((suV ts).getD 0), .bool (suV ts).isSome]
def fixLg (x : Lg) (f : Int) : Lg := if f = 1 then ⟨x.frm, x.to_, x.tape, (x.comp + 180) % 360, x.slope⟩ else if f = 2 then ⟨x.frm, x.to_, x.tape, x.comp, -x.slope⟩ else if f = 3 then ⟨x.frm, x.to_, x.tape + 100, x.comp, x.slope⟩ else ⟨x.frm, x.to_, x.tape - 100, x.comp, x.slope⟩
def fixTs (ts : List Lg) (i f : Int) : List Lg := ts.set i.toNat (fixLg (lgAt ts i) f)
def canB (ts : List Lg) (i f : Int) : Bool := plB ts i && (btw 1 f 4 && okLg (fixLg (lgAt ts i) f))
end Go.Proofs.YtjlkgijaceplcabGreatDoor.bl
namespace Go.Proofs.YtjlkgijaceplcabGreatDoor.bl
open Go.RowKit
open reads base ty lg lgi win hs nt nq rowi sn mt ml dt pg ph lp
set_option linter.unusedVariables false
set_option linter.unusedSimpArgs false
def QLo (us : List Lg) (w : World) (e : Ending) (w' : World) : Prop :=
  ∃ A c, e = .returned (.slice A us.length c) ∧ w'.ownsRow w.heap.size 87 5 (.slice A us.length c) us.length (flatLg us) ∧ Below w.heap.size w w'
set_option maxHeartbeats 16000000 in
set_option maxRecDepth 100000 in
theorem less_any (gL n cap : Nat) (ts : List Lg) (j : Nat) (x : Lg) (w : World) (hg : Hid (goodLg ts = true)) (hx : Hid (ts[j]? = some x)) (hcap : n ≤ cap) (hts : Hid (LgAt w w.heap.size (some ⟨gL, 0, none⟩) n ts)) :
    Calls Tryz.prog 103 #[.slice (some ⟨gL, 0, none⟩) n cap, .int .i64 (j : Int)] w (QLo (less ts j) w) := by
  have HL := Lib.hid hts.out.1
  have hjn : j < n := by have := lt_at hx.out; rw [HL.out] at this; exact this
  have hn12 := len12 HL.out hg.out
  have HTK := Lib.hid (fun (v : World) (hv : Below w.heap.size w v) => flat_take (hts.out.below hv) j)
  have HDK := Lib.hid (fun (v : World) (hv : Below w.heap.size w v) => flat_drop (hts.out.below hv) (j + 1) (by omega))
  have hji : (j : Int) < (n : Int) := by omega
  have hj0 : (0 : Int) ≤ (j : Int) := by omega
  have hjc : (j : Int) ≤ (cap : Int) := by omega
  have hjc' : j ≤ cap := by omega
  have hj1n : (j : Int) + 1 ≤ (n : Int) := by omega
  have hj1 : (0 : Int) ≤ (j : Int) + 1 := by omega
  have hjt : ((j : Int) + 1).toNat = j + 1 := by omega
  have hncap : (n : Int) ≤ (cap : Int) := by omega
  have hj1w : IntKind.i64.wrap ((j : Int) + 1) = (j : Int) + 1 := IntWalk.i64_in _ (by omega)
  by_cases hcj : cap = j + 1
  · obtain rfl : n = j + 1 := by omega
    obtain rfl : cap = j + 1 := by omega
    have hjj : (j : Int) ≤ (j : Int) + 1 := by omega
    have hll : (less ts j).length = j + 1 - 1 := by unfold less; rw [List.length_append, List.length_take, List.length_drop, HL.out]; omega
    go_enter Tryz.func103, Tryz.ntmps103
    go_upto_region 1 with fail
    refine wp_region_held_drew (S := (fun _ => True)) (by kernel_rfl) trivial (fun hHeld => ?_)
    obtain ⟨V0, HV0⟩ : ∃ V, Hid (w.drew = V) := ⟨_, Lib.hid rfl⟩
    have HB0 := Lib.hid (show Below w.heap.size w V0 by rw [← HV0.out]; exact (Below.refl _ _).drew)
    rw [HV0.out]
    clear HV0
    refine' wpAnyH_take (i := 1) (v := ?vb1_1) rfl (by kernel_rfl) (by kernel_rfl) (by kernel_rfl) (fun _ _ _ h => h) (Or.inl ⟨by rfl, ?hyb1_1⟩) (by assumption) ?restb1_1
    case hyb1_1 => (intro w hSw; (try dsimp only at hSw); go_simp; try (with_reducible rfl))
    simp only [Act.put, List.getElem_toArray, List.getElem_cons_succ, List.getElem_cons_zero, List.setIfInBounds_toArray, List.set_cons_zero, List.set_cons_succ]
    refine' wpAnyH_take (i := 2) (v := ?vb2_2) rfl (by kernel_rfl) (by kernel_rfl) (by kernel_rfl) (fun _ _ _ h => h) (Or.inl ⟨by rfl, ?hyb2_2⟩) (by assumption) ?restb2_2
    case hyb2_2 => (intro w hSw; (try dsimp only at hSw); go_simp; try (with_reducible rfl))
    simp only [Act.put, List.getElem_toArray, List.getElem_cons_succ, List.getElem_cons_zero, List.setIfInBounds_toArray, List.set_cons_zero, List.set_cons_succ]
    refine' wpAnyH_take (i := 3) (v := ?vb3_3) rfl (by kernel_rfl) (by kernel_rfl) (by kernel_rfl) (fun _ _ _ h => h) (Or.inl ⟨by rfl, ?hyb3_3⟩) (by assumption) ?restb3_3
    case hyb3_3 => (intro w hSw; (try dsimp only at hSw); go_simp; try (with_reducible rfl))
    simp only [Act.put, List.getElem_toArray, List.getElem_cons_succ, List.getElem_cons_zero, List.setIfInBounds_toArray, List.set_cons_zero, List.set_cons_succ]
    refine' wpAnyH_take (i := 5) (v := ?vb4_5) rfl (by kernel_rfl) (by kernel_rfl) (by kernel_rfl) (fun _ _ _ h => h) (Or.inl ⟨by rfl, ?hyb4_5⟩) (by assumption) ?restb4_5
    case hyb4_5 => (intro w hSw; (try dsimp only at hSw); go_simp; try (with_reducible rfl))
    simp only [Act.put, List.getElem_toArray, List.getElem_cons_succ, List.getElem_cons_zero, List.setIfInBounds_toArray, List.set_cons_zero, List.set_cons_succ]
    refine' wpAnyH_take (i := 6) (v := ?vb5_6) rfl (by kernel_rfl) (by kernel_rfl) (by kernel_rfl) (fun _ _ _ h => h) (Or.inl ⟨by rfl, ?hyb5_6⟩) (by assumption) ?restb5_6
    case hyb5_6 => (intro w hSw; (try dsimp only at hSw); go_simp; try (with_reducible rfl))
    simp only [Act.put, List.getElem_toArray, List.getElem_cons_succ, List.getElem_cons_zero, List.setIfInBounds_toArray, List.set_cons_zero, List.set_cons_succ]
    refine' wpAnyH_take (i := 7) (v := ?vb6_7) rfl (by kernel_rfl) (by kernel_rfl) (by kernel_rfl) (fun _ _ _ h => h) (Or.inl ⟨by rfl, ?hyb6_7⟩) (by assumption) ?restb6_7
    case hyb6_7 => (intro w hSw; (try dsimp only at hSw); go_simp; try (with_reducible rfl))
    simp only [Act.put, List.getElem_toArray, List.getElem_cons_succ, List.getElem_cons_zero, List.setIfInBounds_toArray, List.set_cons_zero, List.set_cons_succ]
    refine' wpAnyH_take (i := 8) (v := ?vb7_8) rfl (by kernel_rfl) (by kernel_rfl) (by kernel_rfl) (fun _ _ _ h => h) (Or.inl ⟨by rfl, ?hyb7_8⟩) (by assumption) ?restb7_8
    case hyb7_8 => (intro w hSw; (try dsimp only at hSw); go_simp; try (with_reducible rfl))
    simp only [Act.put, List.getElem_toArray, List.getElem_cons_succ, List.getElem_cons_zero, List.setIfInBounds_toArray, List.set_cons_zero, List.set_cons_succ]
    refine wpAnyH_ready (rs := [0]) (by kernel_rfl) (by simp) ?_
    refine AllReadyH.cons rfl (fun K hK => ?_) AllReadyH.nil
    go_simp
    refine hK.out _ _ trivial (fun hHeld1 => ?_)
    clear hK K hHeld
    have hHeld := hHeld1
    clear hHeld1
    try simp only [Act.put, List.getElem_toArray, List.getElem_cons_succ, List.getElem_cons_zero, List.setIfInBounds_toArray, List.set_cons_zero, List.set_cons_succ]
    obtain ⟨G0, HG0⟩ : ∃ G, Hid (V0.heap.size = G) := ⟨_, Lib.hid rfl⟩
    obtain ⟨V1, HW⟩ : ∃ Wx, Hid (V0.alloc (.cells #[] 87) = Wx) := ⟨_, Lib.hid rfl⟩
    have HB1 := Lib.hid (show Below w.heap.size w V1 by rw [← HW.out]; exact HB0.out.alloc HB0.out.size _)
    have HO1 := Lib.hid (show V1.ownsRow w.heap.size 87 5 (.slice (some ⟨G0, 0, none⟩) 0 0) 0 (flatLg []) by rw [← HW.out, ← HG0.out]; exact World.ownsRow_made V0 #[] 0 HB0.out.size (by decide) (by simp))
    rw [HW.out]
    try rw [HG0.out]
    clear HW
    refine wpAnyH_ready (rs := [4]) (by kernel_rfl) (by simp) ?_
    refine AllReadyH.cons rfl (fun K hK => ?_) AllReadyH.nil
    refine step_legs (news := flatLg (ts.take j)) (m := j) rfl _ _ rfl rfl HO1.out rfl (by rw [flatLg_len, List.length_take, HL.out]; omega) (HTK.out V1 HB1.out) (flat_one _) (by omega) HB1.out.size ?_
    intro v2 V2 ho hg
    have HB2 := Lib.hid (HB1.out.grown hg HB1.out.size (fun g e => (HO1.out.lt g e).1))
    have HO2 := Lib.hid (show V2.ownsRow w.heap.size 87 5 v2 (0 + j) (flatLg [] ++ flatLg (ts.take j)) from ho)
    refine hK.out _ _ trivial (fun hHeld1 => ?_)
    clear ho hg
    clear hK K hHeld
    have hHeld := hHeld1
    clear hHeld1
    try simp only [Act.put, List.getElem_toArray, List.getElem_cons_succ, List.getElem_cons_zero, List.setIfInBounds_toArray, List.set_cons_zero, List.set_cons_succ]
    refine wpAnyH_ready (rs := [9]) (by kernel_rfl) (by simp) ?_
    refine AllReadyH.cons rfl (fun K hK => ?_) AllReadyH.nil
    refine step_legs (news := []) (m := 0) rfl _ _ rfl rfl HO2.out rfl rfl (fun q u h => by simp at h) (fun u h => by simp at h) (by omega) HB2.out.size ?_
    intro v3 V3 ho hg
    have HB3 := Lib.hid (HB2.out.grown hg HB2.out.size (fun g e => (HO2.out.lt g e).1))
    have HO3 := Lib.hid (show V3.ownsRow w.heap.size 87 5 v3 (j + 1 - 1) (flatLg (less ts j)) by
      have h : V3.ownsRow w.heap.size 87 5 v3 (0 + j + 0) (flatLg [] ++ flatLg (ts.take j) ++ []) := ho
      rw [show 0 + j + 0 = j + 1 - 1 by omega] at h
      have e : flatLg (less ts j) = flatLg [] ++ flatLg (ts.take j) ++ [] := by unfold less; rw [flatLg_append, List.drop_of_length_le (by rw [HL.out]; omega)]; rfl
      rw [e]; exact h)
    refine hK.out _ _ trivial (fun hHeld1 => ?_)
    clear ho hg
    clear hK K hHeld
    have hHeld := hHeld1
    clear hHeld1
    try simp only [Act.put, List.getElem_toArray, List.getElem_cons_succ, List.getElem_cons_zero, List.setIfInBounds_toArray, List.set_cons_zero, List.set_cons_succ]
    refine' wpAnyH_take (i := 10) (v := ?vb8_10) rfl (by kernel_rfl) (by kernel_rfl) (by kernel_rfl) (fun _ _ _ h => h) (Or.inl ⟨by rfl, ?hyb8_10⟩) (by assumption) ?restb8_10
    case hyb8_10 => (intro w hSw; (try dsimp only at hSw); go_simp; try (with_reducible rfl))
    simp only [Act.put, List.getElem_toArray, List.getElem_cons_succ, List.getElem_cons_zero, List.setIfInBounds_toArray, List.set_cons_zero, List.set_cons_succ]
    refine wpAnyH_done (by kernel_rfl) ?_ _
    clear hHeld HB1 HB2 HO1 HO2 HB0
    obtain ⟨A3, c3, rfl⟩ := row_slice HO3.out
    go_wp2_with fail
    go_ret
    exact ⟨A3, c3, by rw [hll]; rfl, by rw [hll]; exact HO3.out, HB3.out⟩
  · have hcj' : ¬ ((cap : Int) = (j : Int) + 1) := by omega
    have hll : (less ts j).length = n - 1 := by unfold less; rw [List.length_append, List.length_take, List.length_drop, HL.out]; omega
    go_enter Tryz.func103, Tryz.ntmps103
    go_upto_region 1 with fail
    refine wp_region_held_drew (S := (fun _ => True)) (by kernel_rfl) trivial (fun hHeld => ?_)
    obtain ⟨V0, HV0⟩ : ∃ V, Hid (w.drew = V) := ⟨_, Lib.hid rfl⟩
    have HB0 := Lib.hid (show Below w.heap.size w V0 by rw [← HV0.out]; exact (Below.refl _ _).drew)
    rw [HV0.out]
    clear HV0
    refine' wpAnyH_take (i := 1) (v := ?vb9_1) rfl (by kernel_rfl) (by kernel_rfl) (by kernel_rfl) (fun _ _ _ h => h) (Or.inl ⟨by rfl, ?hyb9_1⟩) (by assumption) ?restb9_1
    case hyb9_1 => (intro w hSw; (try dsimp only at hSw); go_simp; try (with_reducible rfl))
    simp only [Act.put, List.getElem_toArray, List.getElem_cons_succ, List.getElem_cons_zero, List.setIfInBounds_toArray, List.set_cons_zero, List.set_cons_succ]
    refine' wpAnyH_take (i := 2) (v := ?vb10_2) rfl (by kernel_rfl) (by kernel_rfl) (by kernel_rfl) (fun _ _ _ h => h) (Or.inl ⟨by rfl, ?hyb10_2⟩) (by assumption) ?restb10_2
    case hyb10_2 => (intro w hSw; (try dsimp only at hSw); go_simp; try (with_reducible rfl))
    simp only [Act.put, List.getElem_toArray, List.getElem_cons_succ, List.getElem_cons_zero, List.setIfInBounds_toArray, List.set_cons_zero, List.set_cons_succ]
    refine' wpAnyH_take (i := 3) (v := ?vb11_3) rfl (by kernel_rfl) (by kernel_rfl) (by kernel_rfl) (fun _ _ _ h => h) (Or.inl ⟨by rfl, ?hyb11_3⟩) (by assumption) ?restb11_3
    case hyb11_3 => (intro w hSw; (try dsimp only at hSw); go_simp; try (with_reducible rfl))
    simp only [Act.put, List.getElem_toArray, List.getElem_cons_succ, List.getElem_cons_zero, List.setIfInBounds_toArray, List.set_cons_zero, List.set_cons_succ]
    refine' wpAnyH_take (i := 5) (v := ?vb12_5) rfl (by kernel_rfl) (by kernel_rfl) (by kernel_rfl) (fun _ _ _ h => h) (Or.inl ⟨by rfl, ?hyb12_5⟩) (by assumption) ?restb12_5
    case hyb12_5 => (intro w hSw; (try dsimp only at hSw); go_simp; try (with_reducible rfl))
    simp only [Act.put, List.getElem_toArray, List.getElem_cons_succ, List.getElem_cons_zero, List.setIfInBounds_toArray, List.set_cons_zero, List.set_cons_succ]
    refine' wpAnyH_take (i := 6) (v := ?vb13_6) rfl (by kernel_rfl) (by kernel_rfl) (by kernel_rfl) (fun _ _ _ h => h) (Or.inl ⟨by rfl, ?hyb13_6⟩) (by assumption) ?restb13_6
    case hyb13_6 => (intro w hSw; (try dsimp only at hSw); go_simp; try (with_reducible rfl))
    simp only [Act.put, List.getElem_toArray, List.getElem_cons_succ, List.getElem_cons_zero, List.setIfInBounds_toArray, List.set_cons_zero, List.set_cons_succ]
    refine' wpAnyH_take (i := 7) (v := ?vb14_7) rfl (by kernel_rfl) (by kernel_rfl) (by kernel_rfl) (fun _ _ _ h => h) (Or.inl ⟨by rfl, ?hyb14_7⟩) (by assumption) ?restb14_7
    case hyb14_7 => (intro w hSw; (try dsimp only at hSw); go_simp; try (with_reducible rfl))
    simp only [Act.put, List.getElem_toArray, List.getElem_cons_succ, List.getElem_cons_zero, List.setIfInBounds_toArray, List.set_cons_zero, List.set_cons_succ]
    refine' wpAnyH_take (i := 8) (v := ?vb15_8) rfl (by kernel_rfl) (by kernel_rfl) (by kernel_rfl) (fun _ _ _ h => h) (Or.inl ⟨by rfl, ?hyb15_8⟩) (by assumption) ?restb15_8
    case hyb15_8 => (intro w hSw; (try dsimp only at hSw); go_simp; try (with_reducible rfl))
    simp only [Act.put, List.getElem_toArray, List.getElem_cons_succ, List.getElem_cons_zero, List.setIfInBounds_toArray, List.set_cons_zero, List.set_cons_succ]
    refine wpAnyH_ready (rs := [0]) (by kernel_rfl) (by simp) ?_
    refine AllReadyH.cons rfl (fun K hK => ?_) AllReadyH.nil
    go_simp
    refine hK.out _ _ trivial (fun hHeld1 => ?_)
    clear hK K hHeld
    have hHeld := hHeld1
    clear hHeld1
    try simp only [Act.put, List.getElem_toArray, List.getElem_cons_succ, List.getElem_cons_zero, List.setIfInBounds_toArray, List.set_cons_zero, List.set_cons_succ]
    obtain ⟨G0, HG0⟩ : ∃ G, Hid (V0.heap.size = G) := ⟨_, Lib.hid rfl⟩
    obtain ⟨V1, HW⟩ : ∃ Wx, Hid (V0.alloc (.cells #[] 87) = Wx) := ⟨_, Lib.hid rfl⟩
    have HB1 := Lib.hid (show Below w.heap.size w V1 by rw [← HW.out]; exact HB0.out.alloc HB0.out.size _)
    have HO1 := Lib.hid (show V1.ownsRow w.heap.size 87 5 (.slice (some ⟨G0, 0, none⟩) 0 0) 0 (flatLg []) by rw [← HW.out, ← HG0.out]; exact World.ownsRow_made V0 #[] 0 HB0.out.size (by decide) (by simp))
    rw [HW.out]
    try rw [HG0.out]
    clear HW
    refine wpAnyH_ready (rs := [4]) (by kernel_rfl) (by simp) ?_
    refine AllReadyH.cons rfl (fun K hK => ?_) AllReadyH.nil
    refine step_legs (news := flatLg (ts.take j)) (m := j) rfl _ _ rfl rfl HO1.out rfl (by rw [flatLg_len, List.length_take, HL.out]; omega) (HTK.out V1 HB1.out) (flat_one _) (by omega) HB1.out.size ?_
    intro v2 V2 ho hg
    have HB2 := Lib.hid (HB1.out.grown hg HB1.out.size (fun g e => (HO1.out.lt g e).1))
    have HO2 := Lib.hid (show V2.ownsRow w.heap.size 87 5 v2 (0 + j) (flatLg [] ++ flatLg (ts.take j)) from ho)
    refine hK.out _ _ trivial (fun hHeld1 => ?_)
    clear ho hg
    clear hK K hHeld
    have hHeld := hHeld1
    clear hHeld1
    try simp only [Act.put, List.getElem_toArray, List.getElem_cons_succ, List.getElem_cons_zero, List.setIfInBounds_toArray, List.set_cons_zero, List.set_cons_succ]
    refine wpAnyH_ready (rs := [9]) (by kernel_rfl) (by simp) ?_
    refine AllReadyH.cons rfl (fun K hK => ?_) AllReadyH.nil
    refine step_legs (news := flatLg (ts.drop (j + 1))) (m := (n - (j + 1))) rfl _ _ rfl rfl HO2.out rfl (by rw [flatLg_len, List.length_drop, HL.out]) (HDK.out V2 HB2.out) (flat_one _) (by omega) HB2.out.size ?_
    intro v3 V3 ho hg
    have HB3 := Lib.hid (HB2.out.grown hg HB2.out.size (fun g e => (HO2.out.lt g e).1))
    have HO3 := Lib.hid (show V3.ownsRow w.heap.size 87 5 v3 (n - 1) (flatLg (less ts j)) by
      have h : V3.ownsRow w.heap.size 87 5 v3 (0 + j + (n - (j + 1))) (flatLg [] ++ flatLg (ts.take j) ++ flatLg (ts.drop (j + 1))) := ho
      rw [show 0 + j + (n - (j + 1)) = n - 1 by omega] at h
      have e : flatLg (less ts j) = flatLg [] ++ flatLg (ts.take j) ++ flatLg (ts.drop (j + 1)) := by unfold less; rw [flatLg_append]; rfl
      rw [e]; exact h)
    refine hK.out _ _ trivial (fun hHeld1 => ?_)
    clear ho hg
    clear hK K hHeld
    have hHeld := hHeld1
    clear hHeld1
    try simp only [Act.put, List.getElem_toArray, List.getElem_cons_succ, List.getElem_cons_zero, List.setIfInBounds_toArray, List.set_cons_zero, List.set_cons_succ]
    refine' wpAnyH_take (i := 10) (v := ?vb16_10) rfl (by kernel_rfl) (by kernel_rfl) (by kernel_rfl) (fun _ _ _ h => h) (Or.inl ⟨by rfl, ?hyb16_10⟩) (by assumption) ?restb16_10
    case hyb16_10 => (intro w hSw; (try dsimp only at hSw); go_simp; try (with_reducible rfl))
    simp only [Act.put, List.getElem_toArray, List.getElem_cons_succ, List.getElem_cons_zero, List.setIfInBounds_toArray, List.set_cons_zero, List.set_cons_succ]
    refine wpAnyH_done (by kernel_rfl) ?_ _
    clear hHeld HB1 HB2 HO1 HO2 HB0
    obtain ⟨A3, c3, rfl⟩ := row_slice HO3.out
    go_wp2_with fail
    go_ret
    exact ⟨A3, c3, by rw [hll]; rfl, by rw [hll]; exact HO3.out, HB3.out⟩
theorem less_len {ts : List Lg} {j n : Nat} (hL : ts.length = n) (hj : j < n) : (less ts j).length = n - 1 := by unfold less; rw [List.length_append, List.length_take, List.length_drop, hL]; omega
set_option maxHeartbeats 4000000 in
theorem placed10_any (A : Option Addr) (n cap : Nat) (ts : List Lg) (q : Int) (t : Bool) (w : World) (hn : n ≤ 2000000) (ht : Hid (plB ts q = t)) (hts : Hid (LgAt w w.heap.size A n ts)) :
    Calls Tryz.prog 100 #[.slice A n cap, .int .i64 q] w (BPost t w) := by
  have HL := Lib.hid hts.out.1
  obtain ⟨g, HG⟩ : ∃ q, Hid (goodLg ts = q) := ⟨_, Lib.hid rfl⟩
  cases g
  · obtain rfl : t = false := by rw [← ht.out]; unfold plB; rw [HG.out]; rfl
    go_enter Tryz.func100, Tryz.ntmps100
    go_wp2_with fail
    refine (legs_is A n cap ts false _ hn hts HG).mono ?_
    rintro e w1 ⟨rfl, b1⟩
    have HB := Lib.hid b1
    clear b1
    go_wp2_with fail
    go_ret
    exact ⟨rfl, HB.out⟩
  · obtain ⟨U, HU⟩ : ∃ q, Hid (plIds ts = q) := ⟨_, Lib.hid rfl⟩
    obtain ⟨nu, HNU⟩ : ∃ q, Hid (U.length = q) := ⟨_, Lib.hid rfl⟩
    have hn12 := len12 HL.out HG.out
    have hnu : nu ≤ 12 := by rw [← HNU.out, ← HU.out]; have := plIds_len' ts; rw [HL.out] at this; omega
    have HM := Lib.hid (show mem U q = t by rw [← ht.out, ← HU.out]; unfold plB; rw [HG.out]; rfl)
    go_enter Tryz.func100, Tryz.ntmps100
    go_wp2_with fail
    refine (legs_is A n cap ts true _ hn hts HG).mono ?_
    rintro e w1 ⟨rfl, b1⟩
    have HB := Lib.hid b1
    clear b1
    go_wp2_with fail
    refine (legs9_any A n cap ts _ HG (Lib.hid (hts.out.step HB.out))).mono ?_
    rintro e w2 ⟨vU, rfl, hOU, b2⟩
    rw [HU.out, HNU.out] at hOU
    obtain ⟨AU, cU, rfl⟩ := row_slice hOU
    have HB2 := Lib.hid (HB.out.trans (b2.mono HB.out.size))
    have HP := Lib.hid (ints.IL.of_own hOU)
    clear b2 hOU
    go_wp2_with fail
    refine (has_is AU nu cU U q t HM _ (by omega) HP).mono ?_
    rintro e w3 ⟨rfl, rfl⟩
    go_wp2_with fail
    go_ret
    exact ⟨rfl, HB2.out⟩
theorem lg_addr {w : World} {B n : Nat} {A : Option Addr} {ts : List Lg} {j : Nat} {x : Lg} (h : LgAt w B A n ts) (hx : ts[j]? = some x) : ∃ g, A = some ⟨g, 0, none⟩ := by
  obtain ⟨g, e, -⟩ := h.2 j x hx
  exact ⟨g, e⟩
set_option maxHeartbeats 8000000 in
set_option maxRecDepth 100000 in
theorem strainWithout_model (A : Option Addr) (n cap : Nat) (ts : List Lg) (q : Int) (w : World) (hn : n ≤ 2000000) (hcap : n ≤ cap) (hts : Hid (LgAt w w.heap.size A n ts)) :
    Calls Tryz.prog 42 #[.slice A n cap, .int .i64 q] w (APost (ansSw ts q) w) := by
  have HL := Lib.hid hts.out.1
  obtain ⟨t, HT⟩ : ∃ t, Hid (plB ts q = t) := ⟨_, Lib.hid rfl⟩
  cases t
  · have HF := Lib.hid (show ansSw ts q = .tuple #[.int .i64 0, .int .i64 0, .bool false] by unfold ansSw swOk; rw [HT.out]; rfl)
    go_enter Tryz.func42, Tryz.ntmps42
    go_wp2_with fail
    refine (placed10_any A n cap ts q false _ hn HT hts).mono ?_
    rintro e w1 ⟨rfl, b1⟩
    have HB := Lib.hid b1
    clear b1
    go_wp2_with fail
    go_ret3
    exact ⟨by rw [HF.out]; rfl, HB.out⟩
  have HPA := Lib.hid (plB_at HT.out)
  have HG := Lib.hid HPA.out.1
  obtain ⟨j, rfl, x, hx, hps⟩ := HPA.out.2.2
  have HX := Lib.hid hx
  clear hx hps HPA
  obtain ⟨gL, rfl⟩ := lg_addr hts.out HX.out
  have hjn : j < n := by have := lt_at HX.out; rw [HL.out] at this; exact this
  obtain ⟨b, HBR⟩ : ∃ b, Hid (brB ts j = b) := ⟨_, Lib.hid rfl⟩
  have HSW := Lib.hid (show swOk ts (j : Int) = !b by unfold swOk; rw [HT.out, Int.toNat_natCast, HBR.out]; rfl)
  cases b
  · obtain ⟨rn, HRN⟩ : ∃ q, Hid (snV (less ts j) = q) := ⟨_, Lib.hid rfl⟩
    obtain ⟨rd, HRD⟩ : ∃ q, Hid (sdV (less ts j) = q) := ⟨_, Lib.hid rfl⟩
    have HGL := Lib.hid (less_good HG.out j)
    have HF := Lib.hid (show ansSw ts (j : Int) = .tuple #[.int .i64 rn, .int .i64 rd, .bool true] by unfold ansSw; rw [HSW.out, Int.toNat_natCast, HRN.out, HRD.out]; rfl)
    obtain ⟨us, HUS⟩ : ∃ q, Hid (less ts j = q) := ⟨_, Lib.hid rfl⟩
    obtain ⟨m, HM⟩ : ∃ q, Hid (us.length = q) := ⟨_, Lib.hid rfl⟩
    have hm : m ≤ 2000000 := by rw [← HM.out, ← HUS.out, less_len HL.out hjn]; omega
    rw [HUS.out] at HRN HRD HGL
    go_enter Tryz.func42, Tryz.ntmps42
    go_wp2_with fail
    refine (placed10_any (some ⟨gL, 0, none⟩) n cap ts (j : Int) true _ hn HT hts).mono ?_
    rintro e w1 ⟨rfl, b1⟩
    have HB := Lib.hid b1
    clear b1
    go_wp2_with fail
    refine (bridge8_any gL n cap ts j x false _ HG HX HBR hcap (Lib.hid (hts.out.step HB.out))).mono ?_
    rintro e w2 ⟨rfl, b2⟩
    have HB2 := Lib.hid (HB.out.trans (b2.mono HB.out.size))
    clear b2
    go_wp2_with fail
    refine (less_any gL n cap ts j x _ HG HX hcap (Lib.hid (hts.out.step HB2.out))).mono ?_
    rw [HUS.out]
    rintro e w3 ⟨A3, c3, rfl, hO3, b3⟩
    rw [HM.out] at hO3 ⊢
    have HB3 := Lib.hid (HB2.out.trans (b3.mono HB2.out.size))
    have HS := Lib.hid (own_Lg HM.out hO3)
    clear b3 hO3
    go_wp2_with fail
    refine (strain_any A3 m c3 us rn rd _ hm HGL HRN HRD HS).mono ?_
    rintro e w4 ⟨rfl, b4⟩
    have HB4 := Lib.hid (HB3.out.trans (b4.mono HB3.out.size))
    clear b4
    go_wp2_with fail
    go_ret3
    exact ⟨by rw [HF.out]; rfl, HB4.out⟩
  · have HF := Lib.hid (show ansSw ts (j : Int) = .tuple #[.int .i64 0, .int .i64 0, .bool false] by unfold ansSw; rw [HSW.out]; rfl)
    go_enter Tryz.func42, Tryz.ntmps42
    go_wp2_with fail
    refine (placed10_any (some ⟨gL, 0, none⟩) n cap ts (j : Int) true _ hn HT hts).mono ?_
    rintro e w1 ⟨rfl, b1⟩
    have HB := Lib.hid b1
    clear b1
    go_wp2_with fail
    refine (bridge8_any gL n cap ts j x true _ HG HX HBR hcap (Lib.hid (hts.out.step HB.out))).mono ?_
    rintro e w2 ⟨rfl, b2⟩
    have HB2 := Lib.hid (HB.out.trans (b2.mono HB.out.size))
    clear b2
    go_wp2_with fail
    go_ret3
    exact ⟨by rw [HF.out]; rfl, HB2.out⟩
def bI (o : Option Int) : Int := o.getD (-1)
def nI (ts : List Lg) (o : Option Int) : Int := match o with | none => 0 | some b => snV (less ts b.toNat)
def dI (ts : List Lg) (o : Option Int) : Int := match o with | none => 1 | some b => sdV (less ts b.toNat)
theorem suK_no {ts : List Lg} {k j : Nat} (h : (plIds ts)[k]? = some (j : Int)) (hb : brB ts j = true) : suK ts (k + 1) = suK ts k := by
  unfold suK; rw [flN_succ h]; exact flS_no (by rw [Int.toNat_natCast, hb]; rfl)
theorem suK_step {ts : List Lg} {k j : Nat} (h : (plIds ts)[k]? = some (j : Int)) : suK ts (k + 1) = flS (fun i => !brB ts i.toNat) (fun i => less ts i.toNat) (suK ts k) (j : Int) := by
  unfold suK; exact flN_succ h
theorem suK_at {ts : List Lg} {k : Nat} {b : Int} (h : suK ts k = some b) : ∃ j : Nat, b = (j : Int) ∧ j < ts.length := by
  obtain ⟨j, e, x, hx, -⟩ := plIds_at (flN_mem h).1
  exact ⟨j, e, lt_at hx⟩
set_option maxHeartbeats 16000000 in
set_option maxRecDepth 100000 in
theorem suspect_model (A : Option Addr) (n cap : Nat) (ts : List Lg) (w : World) (hn : n ≤ 2000000) (hcap : n ≤ cap) (hts : Hid (LgAt w w.heap.size A n ts)) :
    Calls Tryz.prog 45 #[.slice A n cap] w (APost (ansSu ts) w) := by
  have HL := Lib.hid hts.out.1
  obtain ⟨g, HG⟩ : ∃ q, Hid (goodLg ts = q) := ⟨_, Lib.hid rfl⟩
  cases g
  · have HF := Lib.hid (show ansSu ts = .tuple #[.int .i64 0, .bool false] by unfold ansSu suV; rw [HG.out]; rfl)
    go_enter Tryz.func45, Tryz.ntmps45
    go_wp2_with fail
    refine (legs_is A n cap ts false _ hn hts HG).mono ?_
    rintro e w1 ⟨rfl, b1⟩
    have HB := Lib.hid b1
    clear b1
    go_wp2_with fail
    go_ret2
    exact ⟨by rw [HF.out]; rfl, HB.out⟩
  obtain ⟨U, HU⟩ : ∃ q, Hid (plIds ts = q) := ⟨_, Lib.hid rfl⟩
  obtain ⟨nu, HNU⟩ : ∃ q, Hid (U.length = q) := ⟨_, Lib.hid rfl⟩
  have hn12 := len12 HL.out HG.out
  have hnu : nu ≤ 12 := by rw [← HNU.out, ← HU.out]; have := plIds_len' ts; rw [HL.out] at this; omega
  go_enter Tryz.func45, Tryz.ntmps45
  go_wp2_with fail
  refine (legs_is A n cap ts true _ hn hts HG).mono ?_
  rintro e w1 ⟨rfl, b1⟩
  have HB1 := Lib.hid b1
  clear b1
  go_wp2_with fail
  refine (legs9_any A n cap ts _ HG (Lib.hid (hts.out.step HB1.out))).mono ?_
  rintro e w2 ⟨vU, rfl, hOU, b2⟩
  rw [HU.out, HNU.out] at hOU
  obtain ⟨AU, cU, rfl⟩ := row_slice hOU
  have HB2 := Lib.hid (HB1.out.trans (b2.mono HB1.out.size))
  have HI := Lib.hid (IO.of_own hOU)
  clear b2 hOU HB1
  go_wp2_with fail
  go_loopw [5, 6, 7, 8] (fun x y z i wr => ∃ k : Nat, k ≤ nu ∧ i = .int .i64 (k : Nat) ∧ x = .int .i64 (bI (suK ts k)) ∧ y = .int .i64 (nI ts (suK ts k)) ∧ z = .int .i64 (dI ts (suK ts k)) ∧ Below w2.heap.size w2 wr) (fun _ _ _ i _ => nu - (intOf i).toNat)
  case atStart => exact ⟨0, Nat.zero_le _, rfl, rfl, rfl, rfl, Below.refl _ _⟩
  case round =>
    obtain ⟨k, hk, rfl, rfl, rfl, rfl, hB⟩ := hrel
    have HBQ := Lib.hid hB
    clear hB
    have hk0 : (0 : Int) ≤ (k : Int) := by omega
    by_cases hlt : k < nu
    · have hki : (k : Int) < (nu : Int) := by omega
      have hkd : decide (k < nu) = true := by simpa using hlt
      obtain ⟨q, hq⟩ := at_lt HNU.out hlt
      obtain ⟨j, rfl, x, hx, -⟩ := plIds_at (by rw [HU.out]; exact List.mem_of_getElem? hq)
      have HX := Lib.hid hx
      have HQ := Lib.hid (show (plIds ts)[k]? = some (j : Int) by rw [HU.out]; exact hq)
      have hjn : j < n := by have := lt_at hx; rw [HL.out] at this; exact this
      obtain ⟨gL, rfl⟩ := lg_addr hts.out hx
      obtain ⟨gU, oU, rfl, hgU, eU⟩ := (HI.out.step HBQ.out).2 k _ hq
      clear hx hq
      obtain ⟨b, HBR⟩ : ∃ b, Hid (brB ts j = b) := ⟨_, Lib.hid rfl⟩
      obtain ⟨o, HO⟩ : ∃ o, Hid (suK ts k = o) := ⟨_, Lib.hid rfl⟩
      obtain ⟨bb, HBB⟩ : ∃ q, Hid (bI (suK ts k) = q) := ⟨_, Lib.hid rfl⟩
      obtain ⟨nn, HNN⟩ : ∃ q, Hid (nI ts (suK ts k) = q) := ⟨_, Lib.hid rfl⟩
      obtain ⟨dd, HDD⟩ : ∃ q, Hid (dI ts (suK ts k) = q) := ⟨_, Lib.hid rfl⟩
      rw [HBB.out, HNN.out, HDD.out]
      have HTS := Lib.hid (hts.out.step (HB2.out.trans (HBQ.out.mono HB2.out.size)))
      go_wp2_with fail
      refine (bridge8_any gL n cap ts j x b _ HG HX HBR hcap HTS).mono ?_
      rintro e w3 ⟨rfl, b3⟩
      have HB3 := Lib.hid (HBQ.out.trans (b3.mono HBQ.out.size))
      have eU3 := (b3.cell (p := ⟨gU, oU + k, none⟩) hgU).trans eU
      have hgU3 : gU < w3.heap.size := by have := b3.size; omega
      have HTS3 := Lib.hid (HTS.out.step b3)
      clear b3 eU hgU HBQ HTS
      cases b
      · have HST := Lib.hid (suK_step HQ.out)
        rw [HO.out] at HST HBB HNN HDD
        have HGL := Lib.hid (less_good HG.out j)
        have HPJ := Lib.hid (show (fun i : Int => !brB ts i.toNat) (j : Int) = true by show (!brB ts ((j : Int)).toNat) = true; rw [Int.toNat_natCast, HBR.out]; rfl)
        obtain ⟨us, HUS⟩ : ∃ q, Hid (less ts j = q) := ⟨_, Lib.hid rfl⟩
        obtain ⟨m, HM⟩ : ∃ q, Hid (us.length = q) := ⟨_, Lib.hid rfl⟩
        have hm : m ≤ 2000000 := by rw [← HM.out, ← HUS.out, less_len HL.out hjn]; omega
        rw [HUS.out] at HGL
        have B1 := st_bd HGL.out
        unfold BdS at B1
        obtain ⟨rn, HRN⟩ : ∃ q : Nat, Hid (snV us = q) := ⟨(snV us).toNat, Lib.hid (by omega)⟩
        obtain ⟨rd, HRD⟩ : ∃ q : Nat, Hid (sdV us = q) := ⟨(sdV us).toNat, Lib.hid (by omega)⟩
        rw [HRN.out, HRD.out] at B1
        go_wp2_with fail
        refine (less_any gL n cap ts j x _ HG HX hcap HTS3).mono ?_
        rw [HUS.out]
        rintro e w4 ⟨A4, c4, rfl, hO4, b4⟩
        rw [HM.out] at hO4 ⊢
        have HB4 := Lib.hid (HB3.out.trans (b4.mono HB3.out.size))
        have HS := Lib.hid (own_Lg HM.out hO4)
        have eU4 := (b4.cell (p := ⟨gU, oU + k, none⟩) hgU3).trans eU3
        have hgU4 : gU < w4.heap.size := by have := b4.size; omega
        clear b4 hO4 eU3 hgU3 HB3
        go_wp2_with fail
        refine (strain_any A4 m c4 us rn rd _ hm HGL HRN HRD HS).mono ?_
        rintro e w5 ⟨rfl, b5⟩
        have HB5 := Lib.hid (HB4.out.trans (b5.mono HB4.out.size))
        have eU5 := (b5.cell (p := ⟨gU, oU + k, none⟩) hgU4).trans eU4
        have hgU5 : gU < w5.heap.size := by have := b5.size; omega
        clear b5 eU4 hgU4 HB4
        cases o with
        | none =>
          obtain rfl : bb = -1 := HBB.out.symm
          have HN := Lib.hid (show suK ts (k + 1) = some (j : Int) by rw [HST.out]; exact flS_none HPJ.out)
          go_wp2_with fail
          go_roundw
          case rel => exact ⟨k + 1, by omega, by go_num, by rw [HN.out]; rfl, by rw [HN.out]; show _ = Value.int .i64 (snV (less ts ((j : Int)).toNat)); rw [Int.toNat_natCast, HUS.out, HRN.out], by rw [HN.out]; show _ = Value.int .i64 (sdV (less ts ((j : Int)).toNat)); rw [Int.toNat_natCast, HUS.out, HRD.out], HB5.out⟩
          case measure => simp [intOf]; omega
        | some c =>
          obtain ⟨jb, rfl, hjb⟩ := suK_at HO.out
          obtain rfl : bb = (jb : Int) := HBB.out.symm
          obtain ⟨vs, HVS⟩ : ∃ q, Hid (less ts jb = q) := ⟨_, Lib.hid rfl⟩
          have HGV := Lib.hid (less_good HG.out jb)
          rw [HVS.out] at HGV
          have B2 := st_bd HGV.out
          unfold BdS at B2
          have e1 : snV vs = nn := by rw [← HNN.out, ← HVS.out]; rfl
          have e2 : sdV vs = dd := by rw [← HDD.out, ← HVS.out]; rfl
          rw [e1, e2] at B2
          obtain ⟨n2, rfl⟩ : ∃ q : Nat, nn = (q : Int) := ⟨nn.toNat, by omega⟩
          obtain ⟨d2, rfl⟩ : ∃ q : Nat, dd = (q : Int) := ⟨dd.toNat, by omega⟩
          obtain ⟨r, HR⟩ : ∃ q, Hid (cpI ((rn : Int) * (d2 : Int)) ((n2 : Int) * (rd : Int)) = q) := ⟨_, Lib.hid rfl⟩
          have HCP := Lib.hid (show cpS us vs = r by rw [← HR.out]; unfold cpS; rw [HRN.out, HRD.out, e1, e2])
          have hb1 : ¬ (jb : Int) < 0 := by omega
          have hb2 : (0 : Int) ≤ (jb : Int) := by omega
          clear e1 e2
          go_wp2_with fail
          refine (compare_any rn rd n2 d2 r _ (by omega) (by omega) (by omega) (by omega) (by omega) (by omega) HR).mono ?_
          rintro e w6 ⟨rfl, b6⟩
          have HB6 := Lib.hid (HB5.out.trans (b6.mono HB5.out.size))
          have eU6 := (b6.cell (p := ⟨gU, oU + k, none⟩) hgU5).trans eU5
          have hgU6 : gU < w6.heap.size := by have := b6.size; omega
          clear b6 eU5 hgU5 HB5
          by_cases hr : r < 0
          · have HN := Lib.hid (show suK ts (k + 1) = some (j : Int) by
              rw [HST.out]
              refine flS_yes HPJ.out ?_
              show cpS (less ts ((j : Int)).toNat) (less ts ((jb : Int)).toNat) < 0
              rw [Int.toNat_natCast, Int.toNat_natCast, HUS.out, HVS.out, HCP.out]; exact hr)
            go_wp2_with fail
            go_roundw
            case rel => exact ⟨k + 1, by omega, by go_num, by rw [HN.out]; rfl, by rw [HN.out]; show _ = Value.int .i64 (snV (less ts ((j : Int)).toNat)); rw [Int.toNat_natCast, HUS.out, HRN.out], by rw [HN.out]; show _ = Value.int .i64 (sdV (less ts ((j : Int)).toNat)); rw [Int.toNat_natCast, HUS.out, HRD.out], HB6.out⟩
            case measure => simp [intOf]; omega
          · have HN := Lib.hid (show suK ts (k + 1) = some (jb : Int) by
              rw [HST.out]
              refine flS_keep ?_
              show ¬ cpS (less ts ((j : Int)).toNat) (less ts ((jb : Int)).toNat) < 0
              rw [Int.toNat_natCast, Int.toNat_natCast, HUS.out, HVS.out, HCP.out]; exact hr)
            go_wp2_with fail
            go_roundw
            case rel => exact ⟨k + 1, by omega, by go_num, by rw [HN.out]; rfl, by rw [HN.out, HNN.out], by rw [HN.out, HDD.out], HB6.out⟩
            case measure => simp [intOf]; omega
      · have HN := Lib.hid (suK_no HQ.out HBR.out)
        go_wp2_with fail
        go_roundw
        case rel => exact ⟨k + 1, by omega, by go_num, by rw [HN.out, HBB.out], by rw [HN.out, HNN.out], by rw [HN.out, HDD.out], HB3.out⟩
        case measure => simp [intOf]; omega
    · have hkd : decide (k < nu) = false := by simpa using hlt
      obtain rfl : k = nu := by omega
      have HV := Lib.hid (show suV ts = suK ts k by unfold suV; rw [HG.out, HU.out, HNU.out]; rfl)
      have HBB := Lib.hid (HB2.out.trans (HBQ.out.mono HB2.out.size))
      cases ho : suK ts k with
      | none =>
        have HF := Lib.hid (show ansSu ts = .tuple #[.int .i64 0, .bool false] by unfold ansSu; rw [HV.out, ho]; rfl)
        have HE := Lib.hid (show bI (none : Option Int) = -1 from rfl)
        rw [HE.out]
        clear ho
        go_wp2_with fail
        go_ret2
        exact ⟨by rw [HF.out]; rfl, HBB.out⟩
      | some c =>
        obtain ⟨jb, rfl, hjb⟩ := suK_at ho
        have HF := Lib.hid (show ansSu ts = .tuple #[.int .i64 (jb : Int), .bool true] by unfold ansSu; rw [HV.out, ho]; rfl)
        have HE := Lib.hid (show bI (some (jb : Int)) = (jb : Int) from rfl)
        have hb1 : ¬ (jb : Int) < 0 := by omega
        have hb2 : (0 : Int) ≤ (jb : Int) := by omega
        rw [HE.out]
        clear ho
        go_wp2_with fail
        go_ret2
        exact ⟨by rw [HF.out]; rfl, HBB.out⟩
end Go.Proofs.YtjlkgijaceplcabGreatDoor.bl
namespace Go.Proofs.YtjlkgijaceplcabGreatDoor.bl
open Go.RowKit
open reads base ty lg lgi win hs nt nq rowi sn mt ml dt pg ph lp
set_option linter.unusedVariables false
set_option linter.unusedSimpArgs false
def bs1 (ts : List Lg) (o : Option (Int × Int)) (c : Int × Int) : Option (Int × Int) := bsS (p := fun c : Int × Int => canB ts c.1 c.2) (F := fun c : Int × Int => fixTs ts c.1 c.2) ts o c
def b4 (ts : List Lg) (i : Int) (o : Option (Int × Int)) : Nat → Option (Int × Int)
  | 0 => o
  | m + 1 => bs1 ts (b4 ts i o m) (i, (m : Int) + 1)
theorem own_low {w : World} {base base' size m : Nat} {e : TypeId} {x : Value} {xs : List Value} (hb : base' ≤ base) (h : w.ownsRow base e size x m xs) : w.ownsRow base' e size x m xs := by
  refine ⟨h.1, ?_⟩
  rcases h.2 with ⟨e1, e2⟩ | ⟨g, cp, cur, e1, e2, e3⟩
  · exact .inl ⟨e1, e2⟩
  · exact .inr ⟨g, cp, cur, e1, by omega, e3⟩
theorem flat_put (t : Lg) : ∀ (ts : List Lg) (i : Nat), i < ts.length → ((((((flatLg ts).set (i * 5) (.int .i64 t.frm)).set (i * 5 + 1) (.int .i64 t.to_)).set (i * 5 + 2) (.int .i64 t.tape)).set (i * 5 + 3) (.int .i64 t.comp)).set (i * 5 + 4) (.int .i64 t.slope)) = flatLg (ts.set i t)
  | [], i, h => by simp at h
  | d :: ts, 0, h => by simp [flatLg]
  | d :: ts, i + 1, h => by
    have ih := flat_put t ts i (by simpa using h)
    have e : flatLg (d :: ts) = .int .i64 d.frm :: .int .i64 d.to_ :: .int .i64 d.tape :: .int .i64 d.comp :: .int .i64 d.slope :: flatLg ts := rfl
    have e2 : flatLg ((d :: ts).set (i + 1) t) = .int .i64 d.frm :: .int .i64 d.to_ :: .int .i64 d.tape :: .int .i64 d.comp :: .int .i64 d.slope :: flatLg (ts.set i t) := rfl
    rw [e2, ← ih, e, show (i + 1) * 5 = i * 5 + 1 + 1 + 1 + 1 + 1 by omega, show i * 5 + 1 + 1 + 1 + 1 + 1 + 1 = (i * 5 + 1) + 1 + 1 + 1 + 1 + 1 by omega, show i * 5 + 1 + 1 + 1 + 1 + 1 + 2 = (i * 5 + 2) + 1 + 1 + 1 + 1 + 1 by omega, show i * 5 + 1 + 1 + 1 + 1 + 1 + 3 = (i * 5 + 3) + 1 + 1 + 1 + 1 + 1 by omega, show i * 5 + 1 + 1 + 1 + 1 + 1 + 4 = (i * 5 + 4) + 1 + 1 + 1 + 1 + 1 by omega]
    simp only [List.set_cons_succ]
end Go.Proofs.YtjlkgijaceplcabGreatDoor.bl
namespace Go.Proofs.YtjlkgijaceplcabGreatDoor.bl
open Go.RowKit
open reads base ty lg lgi win hs nt nq rowi sn mt ml dt pg ph lp
set_option linter.unusedVariables false
set_option linter.unusedSimpArgs false
end Go.Proofs.YtjlkgijaceplcabGreatDoor.bl
namespace Go.Proofs.YtjlkgijaceplcabGreatDoor.bl
open Go.RowKit
open reads base ty lg lgi win hs nt nq rowi sn mt ml dt pg ph lp
set_option linter.unusedVariables false
set_option linter.unusedSimpArgs false
theorem nil_cap {w : World} {B n : Nat} {A : Option Addr} {ts : List Lg} (h : LgAt w B A n ts) (e : A = none) : n = 0 := by
  rcases Nat.eq_zero_or_pos n with z | z
  · exact z
  · obtain ⟨x, hx⟩ := at_lt h.1 z
    obtain ⟨g, e2, -⟩ := h.2 0 x hx
    rw [e] at e2; cases e2
theorem flat_src {w : World} {B n : Nat} {ad : Addr} {ts : List Lg} (h : LgAt w B (some ad) n ts) : ∀ (q : Nat) u, (flatLg ts)[q]? = some u → w.cell? (ad.add q) = some u := by
  intro q u hu
  rcases Nat.eq_zero_or_pos n with z | z
  · have : ts = [] := List.length_eq_zero_iff.1 (by rw [h.1]; exact z)
    rw [this] at hu; simp [flatLg] at hu
  · obtain ⟨x, hx⟩ := at_lt h.1 z
    obtain ⟨g, e⟩ := lg_addr h hx
    injection e with e
    subst e
    have k := flat_take h n
    rw [List.take_of_length_le (by rw [h.1]; exact Nat.le_refl _)] at k
    exact k q u hu
end Go.Proofs.YtjlkgijaceplcabGreatDoor.bl
