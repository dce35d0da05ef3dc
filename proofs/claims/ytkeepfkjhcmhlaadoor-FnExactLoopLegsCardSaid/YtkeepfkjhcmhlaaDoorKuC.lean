/-
  Legs one after the other: the stations between them, the sum of their shifts, of their lengths (pure mathematics).
  Conditions: none but those that a theorem names.
-/
import Derived.Test.YtkeepfkjhcmhlaaDoorKuB
namespace Go.Proofs.YtkeepfkjhcmhlaaDoor.lp
open Go.RowKit
open reads base ty lg hs nt
set_option linter.unusedVariables false

theorem own_eq {g g' n c : Nat} (h : (Value.slice (some ⟨g, 0, none⟩) n c).ownBlock = some g') : g = g' := by simpa [Value.ownBlock] using h
/-- legs that lead from a to b, one after the other -/
def Chn (ts : List Lg) : Int → List Int → Int → Prop
  | a, [], b => a = b
  | a, i :: l, b => ∃ o, Jn ts i a o ∧ Chn ts o l b
theorem NB.chn {ts : List Lg} {E : List Int} : ∀ {l : List Int} {last a b : Int}, NB ts E last a l b → Chn ts a l b
  | [], _, _, _, h => h
  | i :: l, last, a, b, h => by
    obtain ⟨-, -, o, ho, h2⟩ := h
    exact ⟨o, ho, NB.chn h2⟩
theorem Chn.snoc {ts : List Lg} {i b c : Int} (hj : Jn ts i b c) : ∀ {l : List Int} {a : Int}, Chn ts a l b → Chn ts a (l ++ [i]) c
  | [], a, h => by
    have e : a = b := h
    exact ⟨c, by rw [e]; exact hj, rfl⟩
  | j :: l, a, h => by
    obtain ⟨o, ho, h2⟩ := h
    exact ⟨o, ho, Chn.snoc hj h2⟩
theorem lp_chn {ts : List Lg} {i : Int} (h : lpOk ts i = true) : Chn ts (legAt ts i).to_ (lpIds ts i) (legAt ts i).to_ := by
  obtain ⟨-, h0, -, x, hx, e, -⟩ := lp_leg h
  rw [lpIds_is h]
  exact Chn.snoc ⟨h0, x, hx, by rw [e]; exact .inl ⟨rfl, rfl⟩⟩ (path_nb h).chn
theorem stops_zero (ts : List Lg) (a : Int) (l : List Int) : (stops ts a l)[0]? = some a := by cases l <;> rfl
theorem chn_at {ts : List Lg} : ∀ {l : List Int} {a b : Int} (k : Nat) {j : Int}, Chn ts a l b → l[k]? = some j → ∃ s t, (stops ts a l)[k]? = some s ∧ (stops ts a l)[k + 1]? = some t ∧ Jn ts j s t
  | [], _, _, _, _, _, h => by simp at h
  | i :: l, a, b, 0, j, h, hj => by
    obtain ⟨o, ho, h2⟩ := h
    obtain rfl : i = j := by simpa using hj
    refine ⟨a, o, rfl, ?_, ho⟩
    rw [stops, farOf_is ho]
    show (stops ts o l)[0]? = some o
    exact stops_zero ts o l
  | i :: l, a, b, k + 1, j, h, hj => by
    obtain ⟨o, ho, h2⟩ := h
    obtain ⟨s, t, h3, h4, h5⟩ := chn_at k h2 (by simpa using hj)
    refine ⟨s, t, ?_, ?_, h5⟩
    · rw [stops, farOf_is ho]; simpa using h3
    · rw [stops, farOf_is ho]; simpa using h4
theorem sumS_at {ts : List Lg} : ∀ {l : List Int} {a b : Int} (z : Sf) (k : Nat) {j s : Int}, Chn ts a l b → l[k]? = some j → (stops ts a l)[k]? = some s → sumS ts a (l.take (k + 1)) z = add3 (sumS ts a (l.take k) z) (along ts j s)
  | [], _, _, _, _, _, _, _, h, _ => by simp at h
  | i :: l, a, b, z, 0, j, s, h, hj, hs => by
    obtain rfl : i = j := by simpa using hj
    obtain rfl : a = s := by rw [stops_zero] at hs; simpa using hs
    rfl
  | i :: l, a, b, z, k + 1, j, s, h, hj, hs => by
    obtain ⟨o, ho, h2⟩ := h
    rw [stops, farOf_is ho] at hs
    have ih := sumS_at (add3 z (along ts i a)) k h2 (by simpa using hj) (by simpa using hs)
    rw [List.take_succ_cons, List.take_succ_cons, sumS, sumS, farOf_is ho]
    exact ih
theorem tapes_at {ts : List Lg} {l : List Int} {k : Nat} {j : Int} (hj : l[k]? = some j) : tapes ts (l.take (k + 1)) = tapes ts (l.take k) + (legAt ts j).tape := by
  rw [take_snoc hj, tapes_app]
  show _ + ((legAt ts j).tape + 0) = _
  omega
/-- the ends of a leg are stations -/
theorem Jn.bd {ts : List Lg} (hg : goodLg ts = true) {j s t : Int} (h : Jn ts j s t) : (0 ≤ s ∧ s ≤ 7) ∧ (0 ≤ t ∧ t ≤ 7) := by
  obtain ⟨-, x, hx, hJ⟩ := h
  obtain ⟨l1, l2, -⟩ := okLg_lim (goodLg_at hg hx)
  unfold Jo at hJ
  omega
theorem Jn.leg {ts : List Lg} {j s t : Int} (h : Jn ts j s t) : ∃ (q : Nat) (x : Lg), j = (q : Int) ∧ ts[q]? = some x ∧ legAt ts j = x ∧ Jo x s t := by
  obtain ⟨h0, x, hx, hJ⟩ := h
  obtain ⟨q, rfl⟩ := Int.eq_ofNat_of_zero_le h0
  exact ⟨q, x, rfl, by rwa [Int.toNat_natCast] at hx, legAt_is hx, hJ⟩
/-- a shift in the direction of the way, by the model's test -/
theorem along_yes {ts : List Lg} {j s : Int} {x : Lg} (hl : legAt ts j = x) (h : (x.frm == s) = true) (z : Sf) : add3 z (along ts j s) = add3 z (shf x) := by
  unfold along; rw [hl, if_pos (by simpa using h)]
theorem along_no {ts : List Lg} {j s : Int} {x : Lg} (hl : legAt ts j = x) (h : (x.frm == s) = false) (z : Sf) : add3 z (along ts j s) = sub3 z (shf x) := by
  unfold along; rw [hl, if_neg (by simpa using h), add3_sub]
theorem stops_take {ts : List Lg} {a : Int} {l : List Int} {k : Nat} {t : Int} (h : (stops ts a l)[k]? = some t) : (stops ts a l).take (k + 1) = (stops ts a l).take k ++ [t] := take_snoc h
#print axioms sumS_at
end Go.Proofs.YtkeepfkjhcmhlaaDoor.lp
