/-
  As many teams l1 pairs are possible, and no two of them share anybody.
  Conditions: none but those that a theorem names.
-/
import Derived.Test.YtidofckanadkpaaPtE
namespace Go.Proofs.Ytidofckanadkpaa.pt
open Go.RowKit
open reads base inn ty psf psk psl psm psn pso ris
set_option linter.unusedVariables false
set_option linter.unusedSimpArgs false

theorem keep_is : ∀ {r s : List Ps}, Asc r → s.Sublist r → r.filter (inP s) = s := by
  intro r s ha h
  induction h with
  | slnil => rfl
  | @cons s r a h ih =>
    have ha' := ha
    unfold Asc at ha
    rw [List.pairwise_cons] at ha
    have hn : inP s a = false := by
      unfold inP; rw [List.any_eq_false]; intro u hu
      have := ha.1 u (h.subset hu)
      have : (u.id == a.id) = false := by rw [beq_eq_false_iff_ne]; omega
      simp [eqP, this]
    rw [List.filter_cons, if_neg (by rw [hn]; simp)]
    exact ih ha.2
  | @cons_cons s r a h ih =>
    unfold Asc at ha
    rw [List.pairwise_cons] at ha
    have hy : inP (a :: s) a = true := by unfold inP; rw [List.any_cons, eqP_refl]; rfl
    rw [List.filter_cons, if_pos hy]
    congr 1
    refine Eq.trans ?_ (ih ha.2)
    apply List.filter_congr
    intro x hx
    have := ha.1 x hx
    have : (a.id == x.id) = false := by rw [beq_eq_false_iff_ne]; omega
    unfold inP; rw [List.any_cons]; simp [eqP, this]
theorem count_wo {r s : List Ps} (ha : Asc r) (h : s.Sublist r) (p : Ps → Bool) : r.countP p = s.countP p + (wo r s).countP p := by
  rw [List.countP_eq_countP_filter_add r p (inP s), keep_is ha h]; rfl
def one (b : Bool) : Nat := if b then 1 else 0
theorem pair_of : ∀ {r : List Ps} {x y : Ps}, x ∈ r → y ∈ r → x ≠ y → ∃ s : List Ps, s.Sublist r ∧ s.length = 2 ∧ ∀ p : Ps → Bool, s.countP p = one (p x) + one (p y)
  | [], x, y, hx, _, _ => by simp at hx
  | a :: r, x, y, hx, hy, hxy => by
    rcases List.mem_cons.1 hx with rfl | hx'
    · rcases List.mem_cons.1 hy with rfl | hy'
      · exact absurd rfl hxy
      · exact ⟨[x, y], (List.singleton_sublist.2 hy').cons_cons x, rfl, fun p => by simp [List.countP_cons, one]; omega⟩
    · rcases List.mem_cons.1 hy with rfl | hy'
      · exact ⟨[y, x], (List.singleton_sublist.2 hx').cons_cons y, rfl, fun p => by simp [List.countP_cons, one]⟩
      · obtain ⟨s, h1, h2, h3⟩ := pair_of hx' hy' hxy
        exact ⟨s, h1.cons a, h2, h3⟩
theorem two_of {r : List Ps} (ha : Asc r) {p : Ps → Bool} (h : 2 ≤ r.countP p) : ∃ x y, x ∈ r ∧ y ∈ r ∧ x ≠ y ∧ p x = true ∧ p y = true := by
  rw [List.countP_eq_length_filter] at h
  have hA : Asc (r.filter p) := ha.sub List.filter_sublist
  match e : r.filter p with
  | [] => rw [e] at h; simp at h
  | [x] => rw [e] at h; simp at h
  | x :: y :: l =>
    have hx : x ∈ r.filter p := by rw [e]; simp
    have hy : y ∈ r.filter p := by rw [e]; simp
    rw [List.mem_filter] at hx hy
    rw [e] at hA
    unfold Asc at hA
    have := (List.pairwise_cons.1 hA).1 y (by simp)
    exact ⟨x, y, hx.1, hy.1, by rintro rfl; omega, hx.2, hy.2⟩
theorem one_of {r : List Ps} {p : Ps → Bool} (h : 1 ≤ r.countP p) : ∃ x, x ∈ r ∧ p x = true := by
  have := List.countP_pos_iff.1 (show 0 < r.countP p by omega)
  exact this
/-- two people who are a team and leave l1 many pairs l1 can be -/
theorem pair_team {r : List Ps} (ha : Asc r) (hk : okS r) {x y : Ps} (hx : x ∈ r) (hy : y ∈ r) (hxy : x ≠ y) (n : Nat) (hn : n + 1 ≤ prs r)
    (e1 : one (bk x) + one (bk y) ≥ 1) (e2 : one (tp x) + one (tp y) ≥ 1) (e3 : one (ei x) + one (ei y) = 2)
    (c1 : n + one (bk x) + one (bk y) ≤ nb r) (c2 : n + one (tp x) + one (tp y) ≤ nt r) : ∃ s, s ∈ teams r ∧ n ≤ prs (wo r s) := by
  obtain ⟨s, h1, h2, h3⟩ := pair_of hx hy hxy
  have w1 := count_wo ha h1 bk
  have w2 := count_wo ha h1 tp
  have w3 := count_wo ha h1 ei
  have s1 := h3 bk
  have s2 := h3 tp
  have s3 := h3 ei
  have hs : teamS s = true := by
    rw [teamS_is (fun t ht => hk t (h1.subset ht)), h2, Bool.and_eq_true, decide_eq_true_eq]
    refine ⟨by decide, ?_⟩
    unfold prs nb nt ne
    omega
  refine ⟨s, mem_teams.2 ⟨h1, hs⟩, ?_⟩
  unfold prs nb nt ne at hn ⊢
  unfold nb at c1
  unfold nt at c2
  omega
theorem ob_bits {x : Ps} (h : ob x = true) : bk x = true ∧ tp x = false := by simpa [ob] using h
theorem ot_bits {x : Ps} (h : ot x = true) : bk x = false ∧ tp x = true := by simp [ot] at h; exact ⟨h.2, h.1⟩
theorem bo_bits {x : Ps} (h : bo x = true) : bk x = true ∧ tp x = true := by simpa [bo] using h
theorem exists_team {r : List Ps} (ha : Asc r) (hk : okS r) (n : Nat) (hn : n + 1 ≤ prs r) : ∃ s, s ∈ teams r ∧ n ≤ prs (wo r s) := by
  have h1 := nb_is r
  have h2 := nt_is r
  have h3 := ne_is r
  have hn' := hn
  unfold prs at hn
  have fin : ∀ x y : Ps, x ∈ r → y ∈ r → x ≠ y → one (bk x) + one (bk y) ≥ 1 → one (tp x) + one (tp y) ≥ 1 → one (ei x) + one (ei y) = 2 → n + one (bk x) + one (bk y) ≤ nb r → n + one (tp x) + one (tp y) ≤ nt r → ∃ s, s ∈ teams r ∧ n ≤ prs (wo r s) :=
    fun x y hx hy hxy a b c d e => pair_team ha hk hx hy hxy n hn' a b c d e
  by_cases b0 : r.countP ob = 0
  · by_cases t0 : r.countP ot = 0
    · obtain ⟨x, y, hx, hy, hxy, px, py⟩ := two_of ha (show 2 ≤ r.countP bo by omega)
      obtain ⟨x1, x2⟩ := bo_bits px
      obtain ⟨y1, y2⟩ := bo_bits py
      refine fin x y hx hy hxy ?_ ?_ ?_ ?_ ?_ <;> simp [one, ei, x1, x2, y1, y2] <;> omega
    · obtain ⟨x, hx, px⟩ := one_of (show 1 ≤ r.countP bo by omega)
      obtain ⟨y, hy, py⟩ := one_of (show 1 ≤ r.countP ot by omega)
      obtain ⟨x1, x2⟩ := bo_bits px
      obtain ⟨y1, y2⟩ := ot_bits py
      refine fin x y hx hy (by rintro rfl; rw [x1] at y1; simp at y1) ?_ ?_ ?_ ?_ ?_ <;> simp [one, ei, x1, x2, y1, y2] <;> omega
  · by_cases t0 : r.countP ot = 0
    · obtain ⟨x, hx, px⟩ := one_of (show 1 ≤ r.countP ob by omega)
      obtain ⟨y, hy, py⟩ := one_of (show 1 ≤ r.countP bo by omega)
      obtain ⟨x1, x2⟩ := ob_bits px
      obtain ⟨y1, y2⟩ := bo_bits py
      refine fin x y hx hy (by rintro rfl; rw [x2] at y2; simp at y2) ?_ ?_ ?_ ?_ ?_ <;> simp [one, ei, x1, x2, y1, y2] <;> omega
    · obtain ⟨x, hx, px⟩ := one_of (show 1 ≤ r.countP ob by omega)
      obtain ⟨y, hy, py⟩ := one_of (show 1 ≤ r.countP ot by omega)
      obtain ⟨x1, x2⟩ := ob_bits px
      obtain ⟨y1, y2⟩ := ot_bits py
      refine fin x y hx hy (by rintro rfl; rw [x1] at y1; simp at y1) ?_ ?_ ?_ ?_ ?_ <;> simp [one, ei, x1, x2, y1, y2] <;> omega
theorem first_team {r : List Ps} (ha : Asc r) (hk : okS r) (n : Nat) (hn : n + 1 ≤ prs r) : first r n ∈ teams r ∧ n ≤ prs (wo r (first r n)) := by
  obtain ⟨s, h1, h2⟩ := exists_team ha hk n hn
  cases e : (teams r).find? (fun s => decide (n ≤ prs (wo r s))) with
  | none =>
    rw [List.find?_eq_none] at e
    have := e s h1
    simp at this; omega
  | some b =>
    have ef : first r n = b := by unfold first; rw [e]; rfl
    rw [ef]
    obtain ⟨q1, q2, -⟩ := first_some ha e
    exact ⟨q1, q2⟩
theorem psplit_len : ∀ n r, (psplit n r).length = n
  | 0, _ => rfl
  | n + 1, r => by rw [psplit, List.length_cons, psplit_len n]
theorem wo_sub (r s : List Ps) : (wo r s).Sublist r := List.filter_sublist
/-- each is a team, no two share anybody -/
theorem psplit_ok : ∀ (n : Nat) {r : List Ps}, Asc r → okS r → n ≤ prs r → (∀ s ∈ psplit n r, s ∈ teams r) ∧ ((psplit n r).flatMap ids).Nodup
  | 0, r, _, _, _ => ⟨fun s h => by simp [psplit] at h, by simp [psplit]⟩
  | n + 1, r, ha, hk, hn => by
    obtain ⟨f1, f2⟩ := first_team ha hk n hn
    obtain ⟨f3, f4⟩ := mem_teams.1 f1
    have hw := wo_sub r (first r n)
    obtain ⟨i1, i2⟩ := psplit_ok n (ha.sub hw) (fun t ht => hk t (hw.subset ht)) f2
    rw [psplit]
    constructor
    · intro s hs
      rcases List.mem_cons.1 hs with rfl | hs
      · exact f1
      · obtain ⟨q1, q2⟩ := mem_teams.1 (i1 s hs)
        exact mem_teams.2 ⟨q1.trans hw, q2⟩
    · rw [List.flatMap_cons, List.nodup_append]
      refine ⟨?_, i2, ?_⟩
      · exact (asc_ids (ha.sub f3)).imp fun {a b} h => by omega
      · intro a h1 b h2
        rintro rfl
        rw [List.mem_flatMap] at h2
        obtain ⟨s, hs, hx⟩ := h2
        obtain ⟨q1, -⟩ := mem_teams.1 (i1 s hs)
        obtain ⟨u, hu, rfl⟩ := List.mem_map.1 hx
        have hw2 := q1.subset hu
        unfold wo at hw2
        rw [List.mem_filter] at hw2
        have := (inP_ids ha (fun v hv => f3.subset hv) hw2.1).2 h1
        rw [this] at hw2
        simp at hw2
theorem no_team {r : List Ps} (ha : Asc r) (hk : okS r) : teams r = [] ↔ prs r = 0 := by
  constructor
  · intro h
    rcases Nat.eq_zero_or_pos (prs r) with e | e
    · exact e
    · obtain ⟨s, h1, -⟩ := exists_team ha hk 0 (by omega)
      rw [h] at h1; simp at h1
  · intro h
    rw [List.eq_nil_iff_forall_not_mem]
    intro s hs
    obtain ⟨h1, h2⟩ := mem_teams.1 hs
    rw [teamS_is (fun t ht => hk t (h1.subset ht)), Bool.and_eq_true, decide_eq_true_eq] at h2
    have a1 := h1.countP_le (p := bk)
    have a2 := h1.countP_le (p := tp)
    have a3 := h1.countP_le (p := ei)
    have := h2.2
    unfold prs nb nt ne at *
    omega
end Go.Proofs.Ytidofckanadkpaa.pt
