/-
  What the laws of the tools ask of the answers: the fits are never worse, the worst check is the worst, readings are read back, every tool is of one kind.
  Conditions: none but those that a theorem names.
-/
import Derived.Test.YtekbiapgbhaibaaTlI
import Derived.Test.YtekbiapgbhaibaaTlJ
import Derived.Test.YtekbiapgbhaibaaTlL
namespace Go.Proofs.Ytekbiapgbhaibaa.tl
set_option linter.unusedVariables false

theorem far_bd (x : Int) : 0 ≤ far x ∧ x ≤ far x ∧ -x ≤ far x := by unfold far; split <;> omega
theorem wst_nn (x : Tl) (cs : List Ck) : ∀ k, 0 ≤ (wst x cs k).1 → 0 ≤ (wst x cs k).2
  | 0, h => by simp [wst] at h
  | k + 1, h => by
    cases hc : cs[k]? with
    | none =>
      have e : wst x cs (k + 1) = wst x cs k := by show (match cs[k]? with | none => wst x cs k | some c => _) = _; rw [hc]
      rw [e] at h ⊢; exact wst_nn x cs k h
    | some c =>
      rw [wst_step hc] at h ⊢
      split at h
      · rename_i q; rw [if_pos q]; exact (far_bd _).1
      · rename_i q; rw [if_neg q]; exact wst_nn x cs k h
theorem wst_mono (x : Tl) (cs : List Ck) (k : Nat) : (wst x cs k).2 ≤ (wst x cs (k + 1)).2 := by
  cases hc : cs[k]? with
  | none => rw [show wst x cs (k + 1) = wst x cs k by show (match cs[k]? with | none => wst x cs k | some c => _) = _; rw [hc]]; exact Int.le_refl _
  | some c => rw [wst_step hc]; split <;> (try simp only []) <;> omega
theorem wst_max (x : Tl) (cs : List Ck) : ∀ k i c, i < k → cs[i]? = some c → far (errV x c) ≤ (wst x cs k).2
  | 0, i, c, h, _ => by omega
  | k + 1, i, c, h, hc => by
    by_cases e : i = k
    · subst e
      rw [wst_step hc]
      split <;> (try simp only []) <;> omega
    · have a := wst_max x cs k i c (by omega) hc
      have b := wst_mono x cs k
      omega
theorem wst_some (x : Tl) (cs : List Ck) : ∀ k, 0 < cs.length → 1 ≤ k → 0 ≤ (wst x cs k).1
  | 0, _, h => by omega
  | 1, h, _ => by
    rw [wst_step (List.getElem?_eq_getElem h), if_pos (by have := (far_bd (errV x cs[0])).1; simp only [wst]; omega)]
    simp
  | k + 2, h, _ => by
    have a := wst_some x cs (k + 1) h (by omega)
    cases hc : cs[k + 1]? with
    | none => rw [show wst x cs (k + 2) = wst x cs (k + 1) by show (match cs[k + 1]? with | none => wst x cs (k + 1) | some c => _) = _; rw [hc]]; exact a
    | some c => rw [wst_step hc]; split <;> (try simp only []) <;> omega
theorem wv_nn {x : Tl} {cs : List Ck} (h : 0 ≤ (wv x cs).1) : 0 ≤ (wv x cs).2 := by
  unfold wv at h ⊢
  split at h
  · rename_i q; rw [if_pos q]; exact wst_nn x cs _ h
  · simp at h
theorem wv_all {x : Tl} {cs : List Ck} (h : 0 ≤ (wv x cs).1) : cs.all (errOk x) = true ∧ ∀ c ∈ cs, errOk x c = true ∧ errV x c ≤ (wv x cs).2 ∧ - errV x c ≤ (wv x cs).2 := by
  unfold wv at h ⊢
  split at h
  · rename_i q
    rw [if_pos q]
    refine ⟨q, fun c hc => ⟨List.all_eq_true.1 q c hc, ?_⟩⟩
    obtain ⟨i, hi⟩ := List.getElem?_of_mem hc
    have a := wst_max x cs cs.length i c (List.getElem?_eq_some_iff.1 hi).1 hi
    have b := far_bd (errV x c)
    omega
  · simp at h

/-- what a search tells -/
theorem fit_spec (mk : Int → Tl) (cs : List Ck) (z0 : Int) : ∀ k, ((fitN mk cs z0 k).2 = -1 ∧ ∀ i : Nat, i < k → ¬ 0 ≤ (wv (mk (z0 + i)) cs).1) ∨
    (0 ≤ (fitN mk cs z0 k).2 ∧ (∃ i : Nat, i < k ∧ (fitN mk cs z0 k).1 = mk (z0 + i)) ∧ 0 ≤ (wv (fitN mk cs z0 k).1 cs).1 ∧ (wv (fitN mk cs z0 k).1 cs).2 = (fitN mk cs z0 k).2 ∧ ∀ i : Nat, i < k → 0 ≤ (wv (mk (z0 + i)) cs).1 → (fitN mk cs z0 k).2 ≤ (wv (mk (z0 + i)) cs).2)
  | 0 => .inl ⟨rfl, fun i hi => by omega⟩
  | k + 1 => by
    have ih := fit_spec mk cs z0 k
    have e : fitN mk cs z0 (k + 1) = fitStep mk cs (fitN mk cs z0 k) (z0 + k) := rfl
    rw [e]
    unfold fitStep
    split
    · rename_i hc
      obtain ⟨h1, h2⟩ := hc
      refine .inr ⟨wv_nn h1, ⟨k, by omega, rfl⟩, h1, rfl, fun i hi hw => ?_⟩
      by_cases ek : i = k
      · subst ek; exact Int.le_refl _
      · rcases ih with ⟨_, hn⟩ | ⟨ha, _, _, _, hm⟩
        · exact absurd hw (hn i (by omega))
        · have a := hm i (by omega) hw
          simp only []
          omega
    · rename_i hc
      rcases ih with ⟨ha, hn⟩ | ⟨ha, ⟨j, hj, he⟩, hb, hd, hm⟩
      · refine .inl ⟨ha, fun i hi => ?_⟩
        by_cases ek : i = k
        · subst ek
          intro hw
          exact hc ⟨hw, .inl (by rw [ha]; decide)⟩
        · exact hn i (by omega)
      · refine .inr ⟨ha, ⟨j, by omega, he⟩, hb, hd, fun i hi hw => ?_⟩
        by_cases ek : i = k
        · subst ek
          rcases Int.lt_or_le (wv (mk (z0 + i)) cs).2 (fitN mk cs z0 i).2 with a | a
          · exact absurd ⟨hw, .inr a⟩ hc
          · exact a
        · exact hm i (by omega) hw
theorem okT_mkZ {x : Tl} {z : Int} (h : okT x = true) (z0 : -50 ≤ z) (z1 : z ≤ 50) : okT (mkZ x z) = true := by
  obtain ⟨a, b, c, d, e⟩ := okT_lim h
  simp only [okT, mkZ, Bool.and_eq_true, Bool.or_eq_true, beq_iff_eq]
  exact ⟨⟨⟨⟨btw_mk a.1 a.2, btw_mk b.1 b.2⟩, btw_mk z0 z1⟩, btw_mk d.1 d.2⟩, e⟩
theorem okT_mkS {x : Tl} {s : Int} (h : okT x = true) (s0 : 900 ≤ s) (s1 : s ≤ 1100) : okT (mkS x s) = true := by
  obtain ⟨a, b, c, d, e⟩ := okT_lim h
  simp only [okT, mkS, Bool.and_eq_true, Bool.or_eq_true, beq_iff_eq]
  exact ⟨⟨⟨⟨btw_mk a.1 a.2, btw_mk (by decide) (by decide)⟩, btw_mk c.1 c.2⟩, btw_mk s0 s1⟩, .inl trivial⟩
theorem mkZ_self (x : Tl) : mkZ x x.zero = x := rfl
theorem mkS_self {x : Tl} (h : x.kind = 0) : mkS x x.scale = x := by cases x; simp [mkS] at h ⊢; exact h.symm
theorem cksOk_parts {x : Tl} {cs : List Ck} (h : cksOk x cs = true) : cs.all (ckOk x) = true ∧ okT x = true ∧ btw 1 cs.length 10 = true := by
  simp only [cksOk, Bool.and_eq_true] at h
  exact ⟨h.1, h.2.1, h.2.2⟩
theorem cksOk_kind {x y : Tl} {cs : List Ck} (h : cksOk x cs = true) (hk : y.kind = x.kind) (hy : okT y = true) : cksOk y cs = true := by
  obtain ⟨a, b, c⟩ := cksOk_parts h
  have e : ckOk y = ckOk x := by funext q; unfold ckOk; rw [hk]
  unfold cksOk
  rw [e, a, hy, c]; rfl
/-- the zero that fits is never worse -/
theorem fitZ_best {x : Tl} {cs : List Ck} (hc : cksOk x cs = true) (hw : 0 ≤ (wv x cs).1) : (fitZ x cs).2 = true ∧ cksOk (fitZ x cs).1 cs = true ∧ 0 ≤ (wv (fitZ x cs).1 cs).1 ∧ (wv (fitZ x cs).1 cs).2 ≤ (wv x cs).2 := by
  obtain ⟨-, hx, -⟩ := cksOk_parts hc
  obtain ⟨-, -, ⟨z0, z1⟩, -, -⟩ := okT_lim hx
  have hi : (-50 : Int) + ((x.zero + 50).toNat : Int) = x.zero := by omega
  have e : fitZ x cs = _ := if_pos hc
  rw [e]
  simp only []
  rcases fit_spec (mkZ x) cs (-50) 101 with ⟨_, hn⟩ | ⟨ha, ⟨j, hj, he⟩, hb, hd, hm⟩
  · have := hn (x.zero + 50).toNat (by omega)
    rw [hi, mkZ_self] at this
    exact absurd hw this
  · have a := hm (x.zero + 50).toNat (by omega) (by rw [hi, mkZ_self]; exact hw)
    rw [hi, mkZ_self] at a
    refine ⟨by simpa using ha, ?_, hb, by omega⟩
    rw [he]
    exact cksOk_kind hc rfl (okT_mkZ hx (by omega) (by omega))
/-- the scale that fits is never worse -/
theorem fitS_best {x : Tl} {cs : List Ck} (hc : cksOk x cs = true) (hk : x.kind = 0) (hw : 0 ≤ (wv x cs).1) : (fitS x cs).2 = true ∧ cksOk (fitS x cs).1 cs = true ∧ 0 ≤ (wv (fitS x cs).1 cs).1 ∧ (wv (fitS x cs).1 cs).2 ≤ (wv x cs).2 := by
  obtain ⟨-, hx, -⟩ := cksOk_parts hc
  obtain ⟨-, -, -, ⟨s0, s1⟩, -⟩ := okT_lim hx
  have hi : (900 : Int) + ((x.scale - 900).toNat : Int) = x.scale := by omega
  have e : fitS x cs = _ := if_pos ⟨hc, hk⟩
  rw [e]
  simp only []
  rcases fit_spec (mkS x) cs 900 201 with ⟨_, hn⟩ | ⟨ha, ⟨j, hj, he⟩, hb, hd, hm⟩
  · have := hn (x.scale - 900).toNat (by omega)
    rw [hi, mkS_self hk] at this
    exact absurd hw this
  · have a := hm (x.scale - 900).toNat (by omega) (by rw [hi, mkS_self hk]; exact hw)
    rw [hi, mkS_self hk] at a
    refine ⟨by simpa using ha, ?_, hb, by omega⟩
    rw [he]
    exact cksOk_kind hc hk.symm (okT_mkS hx (by omega) (by omega))
/-- a told scale keeps the zero and makes a tool -/
theorem fitS_tool {x : Tl} {cs : List Ck} (h : (fitS x cs).2 = true) : (fitS x cs).1.zero = x.zero ∧ okT (fitS x cs).1 = true := by
  unfold fitS at h ⊢
  split at h
  · rename_i q
    rw [if_pos q]
    have hl : 0 ≤ (fitN (mkS x) cs 900 201).2 := by simpa using h
    obtain ⟨-, hx, -⟩ := cksOk_parts q.1
    rcases fit_spec (mkS x) cs 900 201 with ⟨ha, _⟩ | ⟨_, ⟨j, hj, he⟩, _⟩
    · omega
    · simp only [he]
      exact ⟨rfl, okT_mkS hx (by omega) (by omega)⟩
  · simp at h
/-- readings are read back -/
theorem first_le {x : Tl} {c r : Int} (h : hit x c r) (r0 : -90 ≤ r) (r1 : r ≤ 1000) : ∃ q, firstHit x c q ∧ q ≤ r := by
  have key : ∀ (m : Nat) (s : Int), s = -90 + (m : Int) → s ≤ r → (∀ q, -90 ≤ q → q < s → ¬ hit x c q) → ∀ d : Nat, r - s = (d : Int) → ∃ q, firstHit x c q ∧ q ≤ r := by
    intro m s hs hsr hn d
    induction d generalizing m s with
    | zero =>
      intro hd
      obtain rfl : s = r := by omega
      exact ⟨s, ⟨r0, r1, h, hn⟩, Int.le_refl _⟩
    | succ d ih =>
      intro hd
      by_cases hh : hit x c s
      · exact ⟨s, ⟨by omega, by omega, hh, hn⟩, hsr⟩
      · refine ih (m + 1) (s + 1) (by omega) (by omega) (fun q a b => ?_) (by omega)
        by_cases e : q = s
        · subst e; exact hh
        · exact hn q a (by omega)
  exact key 0 (-90) (by decide) r0 (fun q a b => by omega) (r + 90).toNat (by omega)
/-- every tool is of one kind -/
theorem kinds_sum (ts : List Tl) (h : ∀ t ∈ ts, 0 ≤ t.kind ∧ t.kind ≤ 2) : (idsOf ts 0).length + (idsOf ts 1).length + (idsOf ts 2).length = ts.length := by
  unfold idsOf
  simp only [List.length_map]
  induction ts with
  | nil => rfl
  | cons t ts ih =>
    have a := h t (List.mem_cons_self)
    have b := ih (fun q hq => h q (List.mem_cons_of_mem _ hq))
    simp only [List.filter_cons]
    rcases (show t.kind = 0 ∨ t.kind = 1 ∨ t.kind = 2 by omega) with e | e | e <;> simp [e] at * <;> omega
theorem gAll_at (ts : List Tl) : ∀ k, gAll ts k = true → ∀ i, i < k → gAt ts i = true
  | 0, _, i, hi => by omega
  | k + 1, h, i, hi => by
    rw [gAll, Bool.and_eq_true] at h
    by_cases e : i = k
    · subst e; exact h.2
    · exact gAll_at ts k h.1 i (by omega)
theorem good_kinds {ts : List Tl} (h : good ts = true) : ∀ t ∈ ts, 0 ≤ t.kind ∧ t.kind ≤ 2 := by
  intro t ht
  simp only [good, Bool.and_eq_true] at h
  obtain ⟨i, hi⟩ := List.getElem?_of_mem ht
  have a := gAll_at ts ts.length h.1 i (List.getElem?_eq_some_iff.1 hi).1
  unfold gAt at a
  rw [hi] at a
  simp only [Bool.and_eq_true] at a
  exact (okT_lim a.1).2.1
end Go.Proofs.Ytekbiapgbhaibaa.tl
