/-
  What FnChains asks of legs: every leg is at its two ends, and the shift of a chain is the sum of its parts.
  Conditions: none.
-/
import Derived.Test.YtpacgdjbclogoaaDoorLgO
import Derived.Test.YtpacgdjbclogoaaDoorLgJ
namespace Go.Proofs.YtpacgdjbclogoaaDoor.lgs
open Go.RowKit
open base ty lg rowi
set_option linter.unusedSimpArgs false
set_option linter.unusedVariables false

theorem idxs_count {α : Type} (p : α → Bool) (ts : List α) : ∀ k, k ≤ ts.length → (idxs p ts k).length = (ts.take k).countP p
  | 0, _ => by simp [idxs]
  | k + 1, h => by
    have ih := idxs_count p ts k (by omega)
    obtain ⟨t, ht⟩ : ∃ t, ts[k]? = some t := ⟨_, List.getElem?_eq_getElem (by omega)⟩
    rw [take_snoc ht, List.countP_append, ← ih]
    cases hp : p t
    · rw [idxs_no ht hp]; simp [hp]
    · rw [idxs_yes ht hp]; simp [hp]
/-- how many ends the legs have at the stations below q -/
def esum (ts : List Lg) : Nat → Nat
  | 0 => 0
  | q + 1 => esum ts q + (idxs (isAt (q : Int)) ts ts.length).length
theorem esum_le (ts : List Lg) : ∀ q, esum ts q ≤ q * ts.length
  | 0 => by simp [esum]
  | q + 1 => by
    have a := esum_le ts q
    have b := idxs_len (isAt (q : Int)) ts ts.length
    unfold esum
    rw [Nat.succ_mul]; omega
def ec (ts : List Lg) (q : Nat) : Nat := ts.countP (isAt (q : Int))
theorem esum_ec (ts : List Lg) : esum ts 8 = ec ts 0 + ec ts 1 + ec ts 2 + ec ts 3 + ec ts 4 + ec ts 5 + ec ts 6 + ec ts 7 := by
  have h : ∀ q, (idxs (isAt (q : Int)) ts ts.length).length = ts.countP (isAt (q : Int)) := fun q => by rw [idxs_count _ _ _ (Nat.le_refl _), List.take_length]
  simp only [esum, h, ec]
  omega
def at1 (a b q : Nat) : Nat := if ((a : Int) == (q : Int) || (b : Int) == (q : Int)) = true then 1 else 0
theorem two_ends : ∀ a b : Fin 8, a ≠ b → at1 a b 0 + at1 a b 1 + at1 a b 2 + at1 a b 3 + at1 a b 4 + at1 a b 5 + at1 a b 6 + at1 a b 7 = 2 := by decide
theorem ec_all : ∀ ts : List Lg, (∀ t ∈ ts, okLg t = true) → ec ts 0 + ec ts 1 + ec ts 2 + ec ts 3 + ec ts 4 + ec ts 5 + ec ts 6 + ec ts 7 = 2 * ts.length
  | [], _ => by simp [ec]
  | t :: ts, h => by
    have ih := ec_all ts (fun x hx => h x (List.mem_cons_of_mem _ hx))
    obtain ⟨⟨a0, a1⟩, ⟨b0, b1⟩, hne, -, -, -⟩ := okLg_lim (h t (List.mem_cons_self ..))
    obtain ⟨a, ha⟩ : ∃ a : Nat, t.frm = a := ⟨t.frm.toNat, by omega⟩
    obtain ⟨b, hb⟩ : ∃ b : Nat, t.to_ = b := ⟨t.to_.toNat, by omega⟩
    have e : ∀ q : Nat, ec (t :: ts) q = ec ts q + at1 a b q := fun q => by
      unfold ec at1
      rw [List.countP_cons]
      unfold isAt
      rw [ha, hb]
    have k := two_ends ⟨a, by omega⟩ ⟨b, by omega⟩ (fun c => hne (by have := congrArg Fin.val c; simp at this; omega))
    simp only at k
    rw [e 0, e 1, e 2, e 3, e 4, e 5, e 6, e 7]
    simp only [List.length_cons]
    omega
theorem esum_all {ts : List Lg} (h : goodLg ts = true) : esum ts 8 = 2 * ts.length := by rw [esum_ec, ec_all ts (goodLg_all h)]
theorem tsum_ge : ∀ ts : List Lg, (∀ t ∈ ts, okLg t = true) → (ts.length : Int) ≤ tsum ts
  | [], _ => by simp [tsum]
  | t :: ts, h => by
    have ih := tsum_ge ts (fun x hx => h x (List.mem_cons_of_mem _ hx))
    have k := (okLg_lim (h t (List.mem_cons_self ..))).2.2.2.1
    simp only [tsum, List.length_cons]
    omega
theorem lkAt_take (ts : List Lg) (k i : Nat) (h : i < k) : lkAt (ts.take k) i = lkAt ts i := by
  cases i with
  | zero => rfl
  | succ j => unfold lkAt; simp only [List.getElem?_take_of_lt (show j < k by omega), List.getElem?_take_of_lt h]
theorem lkAll_take (ts : List Lg) (k : Nat) : ∀ i, i ≤ k → lkAll (ts.take k) i = lkAll ts i
  | 0, _ => rfl
  | i + 1, h => by rw [lkAll, lkAll, lkAll_take ts k i (by omega), lkAt_take ts k i (by omega)]
theorem lkAll_at (ts : List Lg) : ∀ n, lkAll ts n = true → ∀ i, i < n → lkAt ts i = true
  | 0, _, i, hi => by omega
  | n + 1, h, i, hi => by
    rw [lkAll, Bool.and_eq_true] at h
    by_cases e : i = n
    · subst e; exact h.2
    · exact lkAll_at ts n h.1 i (by omega)
theorem lkAll_mk (ts : List Lg) : ∀ n, (∀ i, i < n → lkAt ts i = true) → lkAll ts n = true
  | 0, _ => rfl
  | n + 1, h => by rw [lkAll, lkAll_mk ts n (fun i hi => h i (by omega)), h n (by omega)]; rfl
theorem lkAt_drop (ts : List Lg) (k i : Nat) (h : lkAt ts (k + i) = true) : lkAt (ts.drop k) i = true := by
  cases i with
  | zero => rfl
  | succ j =>
    rw [show k + (j + 1) = (k + j) + 1 by omega] at h
    unfold lkAt at h ⊢
    simp only [List.getElem?_drop] at h ⊢
    rw [show k + (j + 1) = k + j + 1 by omega]
    exact h
theorem ssum_take (ts : List Lg) (k : Nat) : ∀ i, i ≤ k → ssum (ts.take k) i = ssum ts i
  | 0, _ => rfl
  | i + 1, h => by
    show (match (ts.take k)[i]? with | some t => add3 (ssum (ts.take k) i) (shf t) | none => ssum (ts.take k) i) = (match ts[i]? with | some t => add3 (ssum ts i) (shf t) | none => ssum ts i)
    rw [List.getElem?_take_of_lt (show i < k by omega), ssum_take ts k i (by omega)]
theorem add3_assoc (a b c : Sf) : add3 (add3 a b) c = add3 a (add3 b c) := by simp only [add3, Int.add_assoc]
theorem ssum_drop (ts : List Lg) (k : Nat) : ∀ i, k + i ≤ ts.length → ssum ts (k + i) = add3 (ssum ts k) (ssum (ts.drop k) i)
  | 0, _ => by cases h : ssum ts k; simp [ssum, add3, h]
  | i + 1, h => by
    obtain ⟨t, ht⟩ : ∃ t, ts[k + i]? = some t := ⟨_, List.getElem?_eq_getElem (by omega)⟩
    have hd : (ts.drop k)[i]? = some t := by rw [List.getElem?_drop]; exact ht
    rw [show k + (i + 1) = (k + i) + 1 by omega, ssum_succ ht, ssum_succ hd, ssum_drop ts k i (by omega), add3_assoc]
def sbd (a : Sf) : Prop := (-10000 ≤ a.east ∧ a.east ≤ 10000) ∧ (-10000 ≤ a.north ∧ a.north ≤ 10000) ∧ (-10000 ≤ a.up ∧ a.up ≤ 10000)
theorem sum_bd {a c : Sf} (h : sbd a) (k : sbd c) : -10000 ≤ a.east ∧ a.east ≤ 10000 ∧ -10000 ≤ a.north ∧ a.north ≤ 10000 ∧ -10000 ≤ a.up ∧ a.up ≤ 10000 ∧ -10000 ≤ c.east ∧ c.east ≤ 10000 ∧ -10000 ≤ c.north ∧ c.north ≤ 10000 ∧ -10000 ≤ c.up ∧ c.up ≤ 10000 := by
  obtain ⟨⟨a0, a1⟩, ⟨a2, a3⟩, a4, a5⟩ := h
  obtain ⟨⟨c0, c1⟩, ⟨c2, c3⟩, c4, c5⟩ := k
  exact ⟨a0, a1, a2, a3, a4, a5, c0, c1, c2, c3, c4, c5⟩
/-- the parts of a chain -/
theorem parts {ts : List Lg} {k : Nat} (h : chOk ts = true) (hk : k ≤ ts.length) :
    ∃ a b : Sf, ansChain (ts.take k) = .tuple #[.agg #[.int .i64 a.east, .int .i64 a.north, .int .i64 a.up], .bool true] ∧ ansChain (ts.drop k) = .tuple #[.agg #[.int .i64 b.east, .int .i64 b.north, .int .i64 b.up], .bool true] ∧ add3 a b = ssum ts ts.length ∧ sbd a ∧ sbd b := by
  have hg : goodLg ts = true ∧ lkAll ts ts.length = true := by simpa [chOk] using h
  have ht : (ts.take k).length = k := by rw [List.length_take]; omega
  have hl := goodLg_len hg.1
  have g1 : goodLg (ts.take k) = true := by
    simp only [goodLg, Bool.and_eq_true, List.all_eq_true, decide_eq_true_eq]
    exact ⟨fun x hx => goodLg_all hg.1 x (List.mem_of_mem_take hx), by omega⟩
  have g2 : goodLg (ts.drop k) = true := by
    simp only [goodLg, Bool.and_eq_true, List.all_eq_true, decide_eq_true_eq]
    exact ⟨fun x hx => goodLg_all hg.1 x (List.mem_of_mem_drop hx), by rw [List.length_drop]; omega⟩
  have hd : (ts.drop k).length = ts.length - k := List.length_drop
  have c1 : chOk (ts.take k) = true := by
    unfold chOk
    rw [g1, ht, lkAll_take ts k k (Nat.le_refl _), lkAll_mk ts k (fun i hi => lkAll_at ts _ hg.2 i (by omega))]; rfl
  have c2 : chOk (ts.drop k) = true := by
    unfold chOk
    rw [g2, hd, lkAll_mk _ _ (fun i hi => lkAt_drop ts k i (lkAll_at ts _ hg.2 (k + i) (by omega)))]; rfl
  refine ⟨ssum ts k, ssum (ts.drop k) (ts.length - k), ?_, ?_, ?_, ?_, ?_⟩
  · unfold ansChain; rw [if_pos c1, ht, ssum_take ts k k (Nat.le_refl _)]
  · unfold ansChain; rw [if_pos c2, hd]
  · rw [← ssum_drop ts k (ts.length - k) (by omega), show k + (ts.length - k) = ts.length by omega]
  · have q := ssum_bd (goodLg_all hg.1) k
    unfold sbd; omega
  · have q := ssum_bd (goodLg_all g2) (ts.length - k)
    unfold sbd; omega
end Go.Proofs.YtpacgdjbclogoaaDoor.lgs
