/-
  Reversed and merged books, as mathematics: twice is once, the sums, the legs.
  Conditions: none but those that a theorem names.
-/
import Derived.Test.YtnlljdepcldibaaEnM
import Derived.Test.YtnlljdepcldibaaEnB
namespace Go.Proofs.Ytnlljdepcldibaa.en
open Go.RowKit
open reads base ty lg rowi
set_option linter.unusedVariables false
set_option linter.unusedSimpArgs false

theorem sw_sw (x : En) : swEn (swEn x) = x := by cases x; simp [swEn]
theorem sw_ok (x : En) (h : okEn x = true) : okEn (swEn x) = true := by
  obtain ⟨a, b, c, d, e, f⟩ := okEn_lim h
  exact okLg_mk ⟨b, a, fun k => c k.symm, d, e, f⟩
theorem good_mk {ts : List En} (h : ∀ t ∈ ts, okEn t = true) (hl : ts.length ≤ 12) : goodEn ts = true := by
  unfold goodEn
  rw [Bool.and_eq_true, List.all_eq_true, decide_eq_true_eq]
  exact ⟨h, hl⟩
theorem rv_is {ts : List En} (h : goodEn ts = true) : rvEn ts = ts.reverse.map swEn := by unfold rvEn; rw [if_pos h]
theorem rv_length {ts : List En} (h : goodEn ts = true) : (rvEn ts).length = ts.length := by rw [rv_is h]; simp
theorem rv_good {ts : List En} (h : goodEn ts = true) : goodEn (rvEn ts) = true := by
  refine good_mk (fun t ht => ?_) (by rw [rv_length h]; exact goodEn_len h)
  rw [rv_is h] at ht
  obtain ⟨x, hx, rfl⟩ := List.mem_map.1 ht
  exact sw_ok x (goodEn_all h x (List.mem_reverse.1 hx))
theorem rv_rv {ts : List En} (h : goodEn ts = true) : rvEn (rvEn ts) = ts := by
  rw [rv_is (rv_good h), rv_is h, ← List.map_reverse, List.reverse_reverse, List.map_map]
  have e : (swEn ∘ swEn) = id := funext sw_sw
  rw [e, List.map_id]
theorem bsum_two : ∀ (a b : List En), bsum (a ++ b) = bsum a + bsum b
  | [], b => by simp [bsum]
  | x :: a, b => by have := bsum_two a b; simp only [List.cons_append, bsum, this]; omega
theorem bsum_back : ∀ ts : List En, bsum (ts.reverse.map swEn) = bsum ts
  | [] => rfl
  | x :: a => by
    have ih := bsum_back a
    rw [List.reverse_cons, List.map_append, bsum_two, ih]
    show bsum a + ((swEn x).tape + 0) = x.tape + bsum a
    have e : (swEn x).tape = x.tape := rfl
    omega
theorem bsum_rv {ts : List En} (h : goodEn ts = true) : bsum (rvEn ts) = bsum ts := by rw [rv_is h]; exact bsum_back ts
theorem rv_at {ts : List En} {k : Nat} {t : En} (h : goodEn ts = true) (hk : ts[k]? = some t) : (rvEn ts)[ts.length - 1 - k]? = some (swEn t) := by
  have hlt : k < ts.length := (List.getElem?_eq_some_iff.1 hk).1
  rw [rv_is h, List.getElem?_map, List.getElem?_reverse (by omega), show ts.length - 1 - (ts.length - 1 - k) = k by omega, hk]; rfl
/-- the leg of an entry the other way round -/
theorem leg_sw {x : En} (h : okEn x = true) : (legEn x).frm = (legEn (swEn x)).to_ ∧ (legEn x).to_ = (legEn (swEn x)).frm ∧ (legEn x).slope = -(legEn (swEn x)).slope ∧ ((legEn x).comp + 180) % 360 = (legEn (swEn x)).comp ∧ (0 ≤ (legEn x).comp ∧ (legEn x).comp ≤ 359) ∧ (-90 ≤ (legEn (swEn x)).slope ∧ (legEn (swEn x)).slope ≤ 90) := by
  have l1 := okLg_lim (legEn_ok h)
  have l2 := okLg_lim (legEn_ok (sw_ok x h))
  obtain ⟨a, b, c, d, e, f⟩ := okEn_lim h
  refine ⟨by rw [legEn_frm, legEn_to]; rfl, by rw [legEn_frm, legEn_to]; rfl, ?_, ?_, l1.2.2.2.2.1, l2.2.2.2.2.2⟩
  · cases x with
    | mk frm to_ tape comp slope back =>
      cases back <;> simp [legEn, swEn, asLg]
  · cases x with
    | mk frm to_ tape comp slope back =>
      simp only at e
      cases back <;> simp [legEn, swEn, asLg] <;> omega
/-- no two of one leg -/
def Apart (ts : List En) : Prop := ∀ (j k : Nat) a b, j < k → ts[j]? = some a → ts[k]? = some b → sameEn a b = false
theorem first_apart {ts : List En} (h : Apart ts) {k : Nat} {t : En} (hk : ts[k]? = some t) : firstN ts t = k := first_is ts k t t hk (same_refl t) (fun j v hj hv => h j k v t hj hv hk)
theorem mgN_apart {ts : List En} (h : Apart ts) : ∀ k, k ≤ ts.length → mgN ts k = ts.take k
  | 0, _ => by simp [mgN]
  | k + 1, hk => by
    obtain ⟨t, ht⟩ := at_lt (rfl : ts.length = ts.length) (show k < ts.length by omega)
    rw [mg_yes ht (first_apart h ht), mgN_apart h k (by omega), take_snoc ht]
theorem mg_from (ts : List En) : ∀ k, (∀ x ∈ mgN ts k, ∃ i, i < k ∧ ts[i]? = some x ∧ firstN ts x = i) ∧ Apart (mgN ts k)
  | 0 => ⟨by simp [mgN], by intro j k a b _ h; simp [mgN] at h⟩
  | k + 1 => by
    obtain ⟨h1, h2⟩ := mg_from ts k
    cases ht : ts[k]? with
    | none =>
      have e : mgN ts (k + 1) = mgN ts k := by show (match ts[k]? with | some t => _ | none => _) = _; rw [ht]
      rw [e]
      exact ⟨fun x hx => by obtain ⟨i, hi, q⟩ := h1 x hx; exact ⟨i, by omega, q⟩, h2⟩
    | some t =>
      by_cases hf : firstN ts t = k
      · rw [mg_yes ht hf]
        refine ⟨fun x hx => ?_, ?_⟩
        · rcases List.mem_append.1 hx with q | q
          · obtain ⟨i, hi, q⟩ := h1 x q; exact ⟨i, by omega, q⟩
          · rw [List.mem_singleton.1 q]; exact ⟨k, by omega, ht, hf⟩
        · intro i j a b hij ha hb
          by_cases hj : j < (mgN ts k).length
          · rw [List.getElem?_append_left (by omega)] at ha
            rw [List.getElem?_append_left hj] at hb
            exact h2 i j a b hij ha hb
          · have hjl : j < (mgN ts k ++ [t]).length := (List.getElem?_eq_some_iff.1 hb).1
            rw [List.length_append, List.length_singleton] at hjl
            obtain rfl : j = (mgN ts k).length := by omega
            rw [List.getElem?_append_left hij] at ha
            rw [List.getElem?_append_right (Nat.le_refl _), Nat.sub_self] at hb
            simp at hb
            subst hb
            obtain ⟨i', hi', hti, hfi⟩ := h1 a (List.mem_of_getElem? ha)
            exact (first_ex ts k t ht).2.2 i' a (by omega) hti
      · rw [mg_no ht hf]
        exact ⟨fun x hx => by obtain ⟨i, hi, q⟩ := h1 x hx; exact ⟨i, by omega, q⟩, h2⟩
theorem mg_is {ts : List En} (h : goodEn ts = true) : mgEn ts = mgN ts ts.length := by unfold mgEn; rw [if_pos h]
theorem mg_good {ts : List En} (h : goodEn ts = true) : goodEn (mgEn ts) = true := by
  refine good_mk (fun t ht => ?_) (Nat.le_trans (mgEn_len ts) (goodEn_len h))
  rw [mg_is h] at ht
  obtain ⟨i, -, q, -⟩ := (mg_from ts _).1 t ht
  exact goodEn_at h q
theorem mg_ap {ts : List En} (h : goodEn ts = true) : Apart (mgEn ts) := by rw [mg_is h]; exact (mg_from ts _).2
theorem mg_mg {ts : List En} (h : goodEn ts = true) : mgEn (mgEn ts) = mgEn ts := by
  rw [mg_is (mg_good h), mgN_apart (mg_ap h) _ (Nat.le_refl _), List.take_of_length_le (Nat.le_refl _)]
theorem ag_self {x : En} (h : okEn x = true) : agEn x x = true := by
  have l := okLg_lim (legEn_ok h)
  have e : aim (legEn x) (legEn x) = legEn x := by
    unfold aim
    rw [if_neg (fun k => l.2.2.1 k.1)]
  unfold agEn
  rw [e]
  unfold near
  simp [tn.turn, mst.mx]
theorem idxs_nil {α : Type} {p : α → Bool} {ts : List α} (h : ∀ t ∈ ts, p t = false) : ∀ k, idxs p ts k = []
  | 0 => rfl
  | k + 1 => by
    have ih := idxs_nil h k
    cases ht : ts[k]? with
    | none => show (match ts[k]? with | some t => _ | none => _) = _; rw [ht]; exact ih
    | some t => rw [idxs_no ht (h t (List.mem_of_getElem? ht)), ih]
theorem er_none {ts : List En} (h : goodEn ts = true) : erIds (mgEn ts) = [] := by
  unfold erIds
  rw [if_pos (mg_good h)]
  refine idxs_nil (fun t ht => ?_) _
  obtain ⟨k, hk⟩ := List.mem_iff_getElem?.1 ht
  have e : fstEn (mgEn ts) t = t := by unfold fstEn; rw [first_apart (mg_ap h) hk, hk]; rfl
  unfold erP
  rw [e, ag_self (goodEn_at (mg_good h) hk)]; rfl
end Go.Proofs.Ytnlljdepcldibaa.en
