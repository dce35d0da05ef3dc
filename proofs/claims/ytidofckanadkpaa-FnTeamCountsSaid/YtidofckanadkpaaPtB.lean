/-
  People whose Ids are asked for, one after the other.
  Conditions: none but those that a theorem names.
-/
import Derived.Test.YtidofckanadkpaaPtA
namespace Go.Proofs.Ytidofckanadkpaa.pt
open Go.RowKit
open reads base inn ty psf psk psl psm psn pso ris
set_option linter.unusedVariables false
set_option linter.unusedSimpArgs false

/-- the people whose Ids are asked for, one after the other -/
def gre : List Ps → List Int → List Ps
  | [], _ => []
  | t :: ts, xs => match xs with
    | [] => []
    | x :: xs' => if x = t.id then t :: gre ts xs' else gre ts (x :: xs')
theorem gre_nil (ts : List Ps) : gre ts [] = [] := by cases ts <;> rfl
theorem gre_cons (t : Ps) (ts : List Ps) (x : Int) (xs : List Int) : gre (t :: ts) (x :: xs) = if x = t.id then t :: gre ts xs else gre ts (x :: xs) := rfl
theorem gre_len : ∀ (ts : List Ps) (xs : List Int), (gre ts xs).length ≤ xs.length
  | [], xs => by simp [gre]
  | t :: ts, [] => by simp [gre]
  | t :: ts, x :: xs => by
    rw [gre_cons]
    split
    · have := gre_len ts xs; simp; omega
    · exact gre_len ts (x :: xs)
theorem gre_sub : ∀ (ts : List Ps) (xs : List Int), (gre ts xs).Sublist ts
  | [], xs => by simp [gre]
  | t :: ts, [] => by simp [gre]
  | t :: ts, x :: xs => by
    rw [gre_cons]
    split
    · exact (gre_sub ts xs).cons_cons t
    · exact (gre_sub ts (x :: xs)).cons t
theorem gre_ids : ∀ (ts : List Ps) (xs : List Int), ids (gre ts xs) = xs.take (gre ts xs).length
  | [], xs => by simp [gre, ids]
  | t :: ts, [] => by simp [gre, ids]
  | t :: ts, x :: xs => by
    rw [gre_cons]
    split
    · rename_i e
      have := gre_ids ts xs
      simp only [ids, List.map_cons, List.length_cons, List.take_succ_cons] at this ⊢
      rw [this, e]
    · exact gre_ids ts (x :: xs)
theorem gre_all {ts : List Ps} {xs : List Int} (h : (gre ts xs).length = xs.length) : ids (gre ts xs) = xs := by
  rw [gre_ids, h, List.take_length]
/-- one person more -/
theorem gre_snoc : ∀ (ts : List Ps) (t : Ps) (xs : List Int), gre (ts ++ [t]) xs = gre ts xs ++ (if xs[(gre ts xs).length]? = some t.id then [t] else [])
  | [], t, [] => by simp [gre]
  | [], t, x :: xs => by
    simp only [List.nil_append, gre, List.length_nil, List.getElem?_cons_zero, Option.some.injEq]
  | a :: ts, t, [] => by simp [gre]
  | a :: ts, t, x :: xs => by
    rw [List.cons_append, gre_cons, gre_cons]
    by_cases e : x = a.id
    · rw [if_pos e, if_pos e, gre_snoc ts t xs]; simp
    · rw [if_neg e, if_neg e, gre_snoc ts t (x :: xs)]
theorem gre_take {ts : List Ps} {k : Nat} {t : Ps} (xs : List Int) (h : ts[k]? = some t) : gre (ts.take (k + 1)) xs = gre (ts.take k) xs ++ (if xs[(gre (ts.take k) xs).length]? = some t.id then [t] else []) := by
  rw [take_snoc h, gre_snoc]
/-- Ids that are asked for one after the other are all found -/
theorem gre_full : ∀ (ts : List Ps) (xs : List Int), xs.Sublist (ids ts) → (gre ts xs).length = xs.length
  | [], xs, h => by
    have : xs = [] := by simpa [ids] using h
    subst this; rfl
  | t :: ts, [], _ => by simp [gre]
  | t :: ts, x :: xs, h => by
    rw [gre_cons]
    have h' : (x :: xs).Sublist (t.id :: ids ts) := h
    by_cases e : x = t.id
    · rw [if_pos e]
      subst e
      have := gre_full ts xs (List.cons_sublist_cons.1 h')
      simp [this]
    · rw [if_neg e]
      refine gre_full ts (x :: xs) ?_
      cases h' with
      | cons _ q => exact q
      | cons_cons _ q => exact absurd rfl e
/-- an ascending list within another one -/
theorem sub_of_mem : ∀ (ys xs : List Int), ys.Pairwise (· < ·) → xs.Pairwise (· < ·) → (∀ x ∈ xs, x ∈ ys) → xs.Sublist ys
  | [], xs, _, _, h => by
    cases xs with
    | nil => exact List.Sublist.refl _
    | cons x xs => exact absurd (h x (by simp)) (by simp)
  | y :: ys, [], _, _, _ => List.nil_sublist _
  | y :: ys, x :: xs, hy, hx, h => by
    rw [List.pairwise_cons] at hy hx
    by_cases e : x = y
    · subst e
      refine (sub_of_mem ys xs hy.2 hx.2 fun z hz => ?_).cons_cons x
      rcases List.mem_cons.1 (h z (by simp [hz])) with rfl | q
      · have := hx.1 z hz; omega
      · exact q
    · refine (sub_of_mem ys (x :: xs) hy.2 (List.pairwise_cons.2 hx) fun z hz => ?_).cons y
      have hxy : x ∈ ys := by
        rcases List.mem_cons.1 (h x (by simp)) with q | q
        · exact absurd q e
        · exact q
      rcases List.mem_cons.1 (h z hz) with rfl | q
      · rcases List.mem_cons.1 hz with rfl | q
        · exact absurd rfl e
        · have := hx.1 z q; have := hy.1 x hxy; omega
      · exact q
theorem rising_pair {lo hi : Int} {xs : List Int} (h : rising lo hi xs = true) : xs.Pairwise (· < ·) := by
  have step : ∀ (i d : Nat) (a b : Int), xs[i]? = some a → xs[i + d + 1]? = some b → a < b := by
    intro i d
    induction d with
    | zero => intro a b ha hb; exact rising_lt h ha hb
    | succ d ih =>
      intro a b ha hb
      have hl := (List.getElem?_eq_some_iff.1 hb).1
      obtain ⟨c, hc⟩ : ∃ c, xs[i + d + 1]? = some c := ⟨_, List.getElem?_eq_getElem (by omega)⟩
      have := ih a c ha hc
      have := rising_lt h hc (show xs[i + d + 1 + 1]? = some b from hb)
      omega
  rw [List.pairwise_iff_getElem]
  intro i j hi hj hij
  exact step i (j - i - 1) _ _ (List.getElem?_eq_getElem hi) (by rw [show i + (j - i - 1) + 1 = j by omega]; exact List.getElem?_eq_getElem hj)
theorem rAll_mk {lo hi : Int} {xs : List Int} (h : ∀ i, i < xs.length → rAt lo hi xs i = true) : ∀ n, n ≤ xs.length → rAll lo hi xs n = true
  | 0, _ => rfl
  | n + 1, hn => by rw [rAll, rAll_mk h n (by omega), h n (by omega)]; rfl
theorem pair_rising {lo hi : Int} {xs : List Int} (h : xs.Pairwise (· < ·)) (hb : ∀ x ∈ xs, lo ≤ x ∧ x ≤ hi) : rising lo hi xs = true := by
  refine rAll_mk (fun i hi => ?_) _ (Nat.le_refl _)
  obtain ⟨x, hx⟩ : ∃ x, xs[i]? = some x := ⟨_, List.getElem?_eq_getElem hi⟩
  obtain ⟨b1, b2⟩ := hb x (List.mem_of_getElem? hx)
  cases i with
  | zero => rw [rAt_zero rfl hx]; exact btw_mk b1 b2
  | succ j =>
    obtain ⟨p, hp⟩ : ∃ p, xs[j]? = some p := ⟨_, List.getElem?_eq_getElem (by omega)⟩
    rw [rAt_succ rfl hx hp, btw_mk b1 b2, Bool.true_and, decide_eq_true_eq]
    rw [List.pairwise_iff_getElem] at h
    have := h j (j + 1) (by omega) hi (by omega)
    rw [List.getElem?_eq_getElem hi] at hx
    rw [List.getElem?_eq_getElem (by omega)] at hp
    simp only [Option.some.injEq] at hx hp
    omega
/-- the program's test of Ids -/
theorem gre_asked {ts : List Ps} {xs : List Int} (h : Asc ts) (hb : ∀ t ∈ ts, 1 ≤ t.id ∧ t.id ≤ 99) : decide ((gre ts xs).length = xs.length) = (xs.all (has ts) && rising 1 99 xs) := by
  rw [Bool.eq_iff_iff, decide_eq_true_eq, Bool.and_eq_true, List.all_eq_true]
  constructor
  · intro e
    have hi := gre_all e
    have hs : (gre ts xs).Sublist ts := gre_sub ts xs
    have hm : ∀ x ∈ xs, x ∈ ids ts := fun x hx => by
      rw [← hi] at hx
      obtain ⟨t, ht, rfl⟩ := List.mem_map.1 hx
      exact List.mem_map.2 ⟨t, hs.subset ht, rfl⟩
    refine ⟨fun x hx => mem_has h (hm x hx), pair_rising ?_ fun x hx => ?_⟩
    · rw [← hi]; exact asc_ids (h.sub hs)
    · obtain ⟨t, ht, rfl⟩ := List.mem_map.1 (hm x hx)
      exact hb t ht
  · rintro ⟨h1, h2⟩
    exact gre_full ts xs (sub_of_mem _ _ (asc_ids h) (rising_pair h2) fun x hx => has_mem (h1 x hx))
end Go.Proofs.Ytidofckanadkpaa.pt
