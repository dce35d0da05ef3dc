/-
  Determinants of rows over columns (pure mathematics): expansions, exchanges, what borders, CRAMER's rule.
  How great determinants can be (pure mathematics).
  The elimination without fractions (pure mathematics): its divisions go out, its last entry is the determinant.
  The balance of a network (pure mathematics): its determinant is positive, its coordinates are the only ones, bridges have no residual.
  The rows of all stations, and trees (pure mathematics).
  Conditions: those that each theorem names.
-/

namespace Go.Proofs.YtnpghhpcloljeabGreatDoor.dt
set_option linter.unusedVariables false

/-- a row: its entry in each column -/
abbrev Rw := Nat → Int

/-- the expansion of a row over columns, where f tells what the other columns have -/
def ex (r : Rw) : (List Nat → Int) → List Nat → Int
  | _, [] => 0
  | f, c :: cs => r c * f cs - ex r (fun l => f (c :: l)) cs

/-- the determinant of rows over columns -/
def dt : List Rw → List Nat → Int
  | [], [] => 1
  | [], _ :: _ => 0
  | r :: rs, cs => ex r (dt rs) cs

theorem dt_cons (r : Rw) (rs : List Rw) (cs : List Nat) : dt (r :: rs) cs = ex r (dt rs) cs := by simp [dt]

theorem ex_congr {r : Rw} : ∀ {cs : List Nat} {f g : List Nat → Int}, (∀ l, l.length + 1 = cs.length → (∀ x ∈ l, x ∈ cs) → f l = g l) → ex r f cs = ex r g cs
  | [], f, g, h => rfl
  | c :: cs, f, g, h => by
    simp only [ex]
    rw [h cs (by simp) (fun x hx => List.mem_cons_of_mem _ hx), ex_congr (cs := cs) (f := fun l => f (c :: l)) (g := fun l => g (c :: l)) (fun l hl hm => h (c :: l) (by simpa using hl) (by
      intro x hx
      rcases List.mem_cons.1 hx with e | e
      · rw [e]; exact List.mem_cons_self ..
      · exact List.mem_cons_of_mem _ (hm x e)))]

theorem ex_row {r s : Rw} : ∀ {cs : List Nat} {f : List Nat → Int}, (∀ c ∈ cs, r c = s c) → ex r f cs = ex s f cs
  | [], f, h => rfl
  | c :: cs, f, h => by
    simp only [ex]
    rw [h c (List.mem_cons_self ..), ex_row (fun x hx => h x (List.mem_cons_of_mem _ hx))]

theorem ex_lin_f (r : Rw) (a b : Int) : ∀ (cs : List Nat) (f g : List Nat → Int), ex r (fun l => a * f l + b * g l) cs = a * ex r f cs + b * ex r g cs
  | [], f, g => by simp [ex]
  | c :: cs, f, g => by
    simp only [ex]
    rw [ex_lin_f r a b cs (fun l => f (c :: l)) (fun l => g (c :: l))]
    grind

theorem ex_mul_f (r : Rw) (a : Int) (cs : List Nat) (f : List Nat → Int) : ex r (fun l => a * f l) cs = a * ex r f cs := by
  have := ex_lin_f r a 0 cs f f
  simpa using this

theorem ex_neg_f (r : Rw) (cs : List Nat) (f : List Nat → Int) : ex r (fun l => - f l) cs = - ex r f cs := by
  have := ex_mul_f r (-1) cs f
  simpa using this

theorem ex_sub_f (r : Rw) (cs : List Nat) (f g : List Nat → Int) : ex r (fun l => f l - g l) cs = ex r f cs - ex r g cs := by
  have := ex_lin_f r 1 (-1) cs f g
  simp only [Int.one_mul, Int.neg_mul] at this
  rw [← Int.sub_eq_add_neg] at this
  rw [← this]
  exact ex_congr (fun l _ _ => by omega)

theorem ex_lin_r (a b : Int) (u v : Rw) : ∀ (cs : List Nat) (f : List Nat → Int), ex (fun c => a * u c + b * v c) f cs = a * ex u f cs + b * ex v f cs
  | [], f => by simp [ex]
  | c :: cs, f => by
    simp only [ex]
    rw [ex_lin_r a b u v cs]
    grind

theorem ex_zero {r : Rw} : ∀ {cs : List Nat} {f : List Nat → Int}, (∀ c ∈ cs, r c = 0) → ex r f cs = 0
  | [], f, h => rfl
  | c :: cs, f, h => by
    simp only [ex]
    rw [h c (List.mem_cons_self ..), ex_zero (fun x hx => h x (List.mem_cons_of_mem _ hx))]
    omega

/-- two expansions change places with the sign -/
theorem ex_ex (r s : Rw) : ∀ (cs : List Nat) (f : List Nat → Int), ex r (ex s f) cs = - ex s (ex r f) cs
  | [], f => by simp [ex]
  | c :: cs, f => by
    simp only [ex]
    rw [ex_sub_f, ex_sub_f, ex_mul_f, ex_mul_f, ex_ex r s cs (fun l => f (c :: l))]
    grind

theorem dt_swap (r s : Rw) (rs : List Rw) (cs : List Nat) : dt (r :: s :: rs) cs = - dt (s :: r :: rs) cs := by
  rw [dt_cons, dt_cons]
  have e1 : dt (s :: rs) = ex s (dt rs) := by funext l; exact dt_cons ..
  have e2 : dt (r :: rs) = ex r (dt rs) := by funext l; exact dt_cons ..
  rw [e1, e2]; exact ex_ex r s cs _

theorem dt_pre_neg {as bs : List Rw} (h : ∀ cs, dt as cs = - dt bs cs) : ∀ (l : List Rw) (cs : List Nat), dt (l ++ as) cs = - dt (l ++ bs) cs
  | [], cs => h cs
  | r :: l, cs => by
    rw [List.cons_append, List.cons_append, dt_cons, dt_cons, ← ex_neg_f]
    exact ex_congr (fun m _ _ => dt_pre_neg h l m)

theorem dt_swap_at (l : List Rw) (r s : Rw) (rs : List Rw) (cs : List Nat) : dt (l ++ r :: s :: rs) cs = - dt (l ++ s :: r :: rs) cs :=
  dt_pre_neg (fun cs => dt_swap r s rs cs) l cs

theorem dt_pre_zero {as : List Rw} (h : ∀ cs, dt as cs = 0) (l : List Rw) (cs : List Nat) : dt (l ++ as) cs = 0 := by
  have := dt_pre_neg (as := as) (bs := as) (fun c => by rw [h c]; rfl) l cs
  omega

/-- the sign of n exchanges -/
def sg (n : Nat) : Int := if n % 2 = 1 then -1 else 1

theorem sg_succ (n : Nat) : sg (n + 1) = - sg n := by
  unfold sg
  by_cases h : n % 2 = 1
  · rw [if_pos h, if_neg (by omega)]; rfl
  · rw [if_neg h, if_pos (by omega)]
theorem sg_zero : sg 0 = 1 := rfl
theorem sg_sq (n : Nat) : sg n * sg n = 1 := by
  unfold sg
  by_cases h : n % 2 = 1
  · rw [if_pos h]; rfl
  · rw [if_neg h]; rfl

theorem dt_front : ∀ (l : List Rw) (r : Rw) (rs : List Rw) (cs : List Nat), dt (l ++ r :: rs) cs = sg l.length * dt (r :: (l ++ rs)) cs
  | [], r, rs, cs => by simp [sg_zero]
  | q :: l, r, rs, cs => by
    rw [List.cons_append, dt_cons, List.length_cons, sg_succ]
    rw [ex_congr (g := fun m => sg l.length * dt (r :: (l ++ rs)) m) (fun m _ _ => dt_front l r rs m), ex_mul_f, ← dt_cons, dt_swap]
    grind

theorem dt_twice (r : Rw) (l rs : List Rw) (cs : List Nat) : dt (r :: (l ++ r :: rs)) cs = 0 := by
  have h1 : dt (r :: r :: (l ++ rs)) cs = 0 := by have := dt_swap r r (l ++ rs) cs; omega
  have h2 : dt (r :: (l ++ r :: rs)) cs = sg l.length * dt (r :: r :: (l ++ rs)) cs := by
    rw [dt_cons, ex_congr (g := fun m => sg l.length * dt (r :: (l ++ rs)) m) (fun m _ _ => dt_front l r rs m), ex_mul_f, ← dt_cons]
  rw [h2, h1]; omega

theorem dt_mem {r : Rw} {rs : List Rw} (h : r ∈ rs) (cs : List Nat) : dt (r :: rs) cs = 0 := by
  obtain ⟨a, b, e⟩ := List.append_of_mem h
  rw [e]; exact dt_twice r a b cs

theorem dt_head_lin (a b : Int) (u v : Rw) (rs : List Rw) (cs : List Nat) : dt ((fun c => a * u c + b * v c) :: rs) cs = a * dt (u :: rs) cs + b * dt (v :: rs) cs := by
  simp only [dt_cons]; exact ex_lin_r a b u v cs _

theorem dt_row {r s : Rw} {rs : List Rw} {cs : List Nat} (h : ∀ c ∈ cs, r c = s c) : dt (r :: rs) cs = dt (s :: rs) cs := by
  simp only [dt_cons]; exact ex_row h

/-- a sum of multiples of rows -/
def sm : (Nat → Int) → List Rw → Rw
  | _, [] => fun _ => 0
  | g, r :: rs => fun c => g 0 * r c + sm (fun i => g (i + 1)) rs c

theorem dt_sm {rs all : List Rw} (cs : List Nat) : ∀ {g : Nat → Int}, (∀ r ∈ rs, r ∈ all) → dt (sm g rs :: all) cs = 0 := by
  induction rs with
  | nil =>
    intro g h
    rw [dt_cons]
    exact ex_zero (fun c _ => rfl)
  | cons r rs ih =>
    intro g h
    have e : dt (sm g (r :: rs) :: all) cs = g 0 * dt (r :: all) cs + 1 * dt (sm (fun i => g (i + 1)) rs :: all) cs := by
      rw [← dt_head_lin]
      exact dt_row (fun c _ => by simp [sm])
    rw [e, dt_mem (h r (List.mem_cons_self ..)), ih (fun s hs => h s (List.mem_cons_of_mem _ hs))]
    omega

/-- the coefficients by which the rows make what stands in a first column more -/
def co : List Rw → List Nat → Nat → Int
  | [], _, _ => 0
  | r :: rs, cs, 0 => dt rs cs
  | r :: rs, cs, i + 1 => - ex r (fun l => co rs l i) cs

theorem ex_sm (r : Rw) : ∀ (rs : List Rw) (cs : List Nat) (g : List Nat → Nat → Int) (j : Nat), ex r (fun l => sm (g l) rs j) cs = sm (fun i => ex r (fun l => g l i) cs) rs j
  | [], cs, g, j => by
    have : ex r (fun l => (0 : Int) * 0) cs = 0 * ex r (fun _ => 0) cs := ex_mul_f r 0 cs (fun _ => 0)
    simpa [sm] using this
  | s :: rs, cs, g, j => by
    simp only [sm]
    have := ex_lin_f r (s j) 1 cs (fun l => g l 0) (fun l => sm (fun i => g l (i + 1)) rs j)
    have e : ex r (fun l => g l 0 * s j + sm (fun i => g l (i + 1)) rs j) cs = ex r (fun l => s j * g l 0 + 1 * sm (fun i => g l (i + 1)) rs j) cs :=
      ex_congr (fun l _ _ => by grind)
    rw [e, this, ex_sm r rs cs (fun l i => g l (i + 1)) j]
    grind

theorem sm_neg : ∀ (rs : List Rw) (g : Nat → Int) (j : Nat), sm (fun i => - g i) rs j = - sm g rs j
  | [], g, j => by simp [sm]
  | s :: rs, g, j => by
    simp only [sm]
    rw [sm_neg rs (fun i => g (i + 1)) j]; grind

theorem dt_col (j : Nat) : ∀ (rs : List Rw) (cs : List Nat), dt rs (j :: cs) = sm (co rs cs) rs j
  | [], cs => by simp [dt, sm]
  | r :: rs, cs => by
    rw [dt_cons]
    simp only [ex, sm]
    have e : ex r (fun l => dt rs (j :: l)) cs = ex r (fun l => sm (co rs l) rs j) cs := ex_congr (fun l _ _ => dt_col j rs l)
    rw [e, ex_sm r rs cs (co rs) j]
    have e2 : (fun i => co (r :: rs) cs (i + 1)) = fun i => - ex r (fun l => co rs l i) cs := by funext i; rfl
    rw [e2, sm_neg]
    have e3 : co (r :: rs) cs 0 = dt rs cs := rfl
    rw [e3]; grind

/-- a row bordering others, and a column -/
def bd (a : Rw) (pre : List Rw) (cs : List Nat) : Rw := fun j => dt (a :: pre) (j :: cs)

theorem bd_is (a : Rw) (pre : List Rw) (cs : List Nat) (j : Nat) : bd a pre cs j = dt pre cs * a j + 1 * sm (fun i => co (a :: pre) cs (i + 1)) pre j := by
  unfold bd
  rw [dt_col]
  simp only [sm]
  have e3 : co (a :: pre) cs 0 = dt pre cs := rfl
  rw [e3]; omega

theorem dt_bd {a : Rw} {pre all : List Rw} {cs ds : List Nat} (h : ∀ r ∈ pre, r ∈ all) : dt (bd a pre cs :: all) ds = dt pre cs * dt (a :: all) ds := by
  have e : dt (bd a pre cs :: all) ds = dt pre cs * dt (a :: all) ds + 1 * dt (sm (fun i => co (a :: pre) cs (i + 1)) pre :: all) ds := by
    rw [← dt_head_lin]
    exact dt_row (fun c _ => bd_is a pre cs c)
  rw [e, dt_sm ds h]; omega

/-! columns -/
def Alt (f : List Nat → Int) : Prop := ∀ l c d m, f (l ++ c :: d :: m) = - f (l ++ d :: c :: m)
theorem Alt.cons {f : List Nat → Int} (h : Alt f) (c : Nat) : Alt (fun l => f (c :: l)) := fun l a b m => h (c :: l) a b m
theorem Alt.ex {r : Rw} : ∀ (l : List Nat) {f : List Nat → Int} (_ : Alt f) (c d : Nat) (m : List Nat), ex r f (l ++ c :: d :: m) = - ex r f (l ++ d :: c :: m)
  | [], f, h, c, d, m => by
    simp only [List.nil_append, dt.ex]
    have e : dt.ex r (fun l => f (c :: d :: l)) m = - dt.ex r (fun l => f (d :: c :: l)) m := by
      rw [← ex_neg_f]; exact ex_congr (fun l _ _ => h [] c d l)
    rw [e]; grind
  | a :: l, f, h, c, d, m => by
    simp only [List.cons_append, dt.ex]
    rw [Alt.ex l (h.cons a) c d m, h l c d m]; grind
theorem dt_alt : ∀ (rs : List Rw), Alt (dt rs)
  | [], l, c, d, m => by cases l <;> simp [dt]
  | r :: rs, l, c, d, m => by
    rw [dt_cons, dt_cons]; exact Alt.ex l (dt_alt rs) c d m

theorem Alt.twice {f : List Nat → Int} (h : Alt f) : ∀ {l : List Nat} {c : Nat} {m : List Nat}, f (c :: (l ++ c :: m)) = 0 := by
  intro l
  induction l generalizing f with
  | nil => intro c m; have := h [] c c m; simp only [List.nil_append] at this ⊢; omega
  | cons a l ih =>
    intro c m
    have h1 := h [] c a (l ++ c :: m)
    simp only [List.nil_append] at h1
    rw [List.cons_append, h1, ih (h.cons a)]; rfl
theorem Alt.mem {f : List Nat → Int} (h : Alt f) {l : List Nat} {c : Nat} (hm : c ∈ l) : f (c :: l) = 0 := by
  obtain ⟨a, b, e⟩ := List.append_of_mem hm
  rw [e]; exact h.twice
/-- a bordered row is zero at the columns that it borders -/
theorem bd_zero {a : Rw} {pre : List Rw} {cs : List Nat} {j : Nat} (h : j ∈ cs) : bd a pre cs j = 0 := (dt_alt _).mem h

/-- a row that is zero everywhere but in the first column -/
theorem dt_first {v : Rw} {rs : List Rw} {j : Nat} {cs : List Nat} (h : ∀ c ∈ cs, v c = 0) : dt (v :: rs) (j :: cs) = v j * dt rs cs := by
  rw [dt_cons]; simp only [ex]
  rw [ex_zero h]; omega

/-- THE STEP of an elimination without fractions -/
theorem bd_step {a b : Rw} {pre : List Rw} {cs : List Nat} {j k : Nat} (hD : dt pre cs ≠ 0) :
    dt pre cs * dt (a :: b :: pre) (j :: k :: cs) = bd a pre cs j * bd b pre cs k - bd a pre cs k * bd b pre cs j := by
  have e1 : dt (bd a pre cs :: bd b pre cs :: pre) (j :: k :: cs) = dt pre cs * (dt pre cs * dt (a :: b :: pre) (j :: k :: cs)) := by
    rw [dt_bd (fun r hr => List.mem_cons_of_mem _ hr), dt_swap, dt_bd (fun r hr => List.mem_cons_of_mem _ hr), dt_swap]; grind
  have e2 : dt (bd a pre cs :: bd b pre cs :: pre) (j :: k :: cs) = dt pre cs * (bd a pre cs j * bd b pre cs k - bd a pre cs k * bd b pre cs j) := by
    rw [dt_cons]; simp only [ex]
    rw [ex_zero (fun c hc => bd_zero hc), dt_first (fun c hc => bd_zero hc), dt_first (fun c hc => bd_zero hc)]
    grind
  rw [e2] at e1
  exact (Int.eq_of_mul_eq_mul_left hD e1).symm

theorem ex_none {r : Rw} : ∀ {cs : List Nat} {f : List Nat → Int}, (∀ l c m, cs = l ++ c :: m → r c * f (l ++ m) = 0) → ex r f cs = 0
  | [], f, h => rfl
  | c :: cs, f, h => by
    simp only [ex]
    have h1 := h [] c cs rfl
    rw [List.nil_append] at h1
    rw [h1, ex_none (cs := cs) (fun l d m e => h (c :: l) d m (by rw [e]; rfl))]
    rfl

/-- rows that are zero in too many columns -/
theorem dt_thin {z : Nat → Bool} {pre : List Rw} : ∀ (vs : List Rw) (cs : List Nat), (∀ v ∈ vs, ∀ c, z c = true → v c = 0) → (cs.filter (fun c => !z c)).length < vs.length → dt (vs ++ pre) cs = 0
  | [], cs, h, hl => by simp at hl
  | v :: vs, cs, h, hl => by
    rw [List.cons_append, dt_cons]
    refine ex_none (fun l c m e => ?_)
    cases hz : z c
    · rw [dt_thin vs (l ++ m) (fun u hu => h u (List.mem_cons_of_mem _ hu)) ?_, Int.mul_zero]
      rw [e] at hl
      simp only [List.filter_append, List.filter_cons, hz, List.length_append, List.length_cons, Bool.not_false, if_true] at hl ⊢
      omega
    · rw [h v (List.mem_cons_self ..) c hz, Int.zero_mul]

/-- without a pivot there is no determinant -/
theorem dt_stuck {pre : List Rw} {cs : List Nat} (hD : dt pre cs ≠ 0) {k : Nat} {rest : List Rw} {ms : List Nat} (hl : ms.length < rest.length) (hr : ∀ r ∈ rest, bd r pre cs k = 0) :
    dt (rest ++ pre) (ms ++ k :: cs) = 0 := by
  have key : ∀ (done todo : List Rw) (ds : List Nat), ∃ D : Int, D ≠ 0 ∧ dt (done.map (fun r => bd r pre cs) ++ (todo ++ pre)) ds = D * dt (done ++ (todo ++ pre)) ds := by
    intro done
    induction done with
    | nil => intro todo ds; exact ⟨1, by omega, by simp⟩
    | cons r done ih =>
      intro todo ds
      have e1 : dt ((r :: done).map (fun r => bd r pre cs) ++ (todo ++ pre)) ds = dt pre cs * dt (r :: (done.map (fun r => bd r pre cs) ++ (todo ++ pre))) ds := by
        rw [List.map_cons, List.cons_append]
        exact dt_bd (fun q hq => List.mem_append_right _ (List.mem_append_right _ hq))
      have e2 : ∃ D : Int, D ≠ 0 ∧ dt (r :: (done.map (fun r => bd r pre cs) ++ (todo ++ pre))) ds = D * dt (r :: (done ++ (todo ++ pre))) ds := by
        obtain ⟨D, h0, h1⟩ := ih (r :: todo) ds
        refine ⟨D, h0, ?_⟩
        have q1 := dt_front (done.map (fun r => bd r pre cs)) r (todo ++ pre) ds
        have q2 := dt_front done r (todo ++ pre) ds
        rw [List.cons_append, q1, q2, List.length_map] at h1
        have h2 : sg done.length * (sg done.length * dt (r :: (done.map (fun r => bd r pre cs) ++ (todo ++ pre))) ds) = sg done.length * (D * (sg done.length * dt (r :: (done ++ (todo ++ pre))) ds)) := by rw [h1]
        have h3 := sg_sq done.length
        grind
      obtain ⟨D, h0, h1⟩ := e2
      refine ⟨dt pre cs * D, Int.mul_ne_zero hD h0, ?_⟩
      rw [e1, h1, List.cons_append]; grind
  obtain ⟨D, h0, h1⟩ := key rest [] (ms ++ k :: cs)
  rw [List.nil_append] at h1
  have h2 : dt (rest.map (fun r => bd r pre cs) ++ pre) (ms ++ k :: cs) = 0 := by
    refine dt_thin (z := fun c => decide (c = k ∨ c ∈ cs)) _ _ ?_ ?_
    · intro v hv c hc
      obtain ⟨r, hr1, e⟩ := List.mem_map.1 hv
      rw [← e]
      rcases of_decide_eq_true hc with q | q
      · rw [q]; exact hr r hr1
      · exact bd_zero q
    · rw [List.length_map, List.filter_append]
      have e : (k :: cs).filter (fun c => !decide (c = k ∨ c ∈ cs)) = [] := by
        rw [List.filter_eq_nil_iff]
        intro c hc
        rw [decide_eq_true (List.mem_cons.1 hc)]; simp
      rw [e, List.append_nil]
      exact Nat.lt_of_le_of_lt (List.length_filter_le ..) hl
  rw [h2] at h1
  rcases Int.mul_eq_zero.1 h1.symm with q | q
  · exact absurd q h0
  · exact q

/-! rows and columns in another order -/
theorem dt_perm_pre (R : Nat → Rw) (f : Nat → Nat) {l m : List Nat} (h : l.Perm m) : ∀ pre : List Nat, dt ((pre ++ l).map R) ((pre ++ l).map f) = dt ((pre ++ m).map R) ((pre ++ m).map f) := by
  induction h with
  | nil => intro pre; rfl
  | cons x _ ih =>
    intro pre
    have := ih (pre ++ [x])
    simpa only [List.append_assoc, List.singleton_append] using this
  | swap x y l =>
    intro pre
    simp only [List.map_append, List.map_cons]
    rw [dt_swap_at, dt_alt _ (pre.map f) (f y) (f x) (l.map f)]; omega
  | trans _ _ ih1 ih2 => intro pre; exact (ih1 pre).trans (ih2 pre)

theorem dt_perm (R : Nat → Rw) (f : Nat → Nat) {l m : List Nat} (h : l.Perm m) : dt (l.map R) (l.map f) = dt (m.map R) (m.map f) := dt_perm_pre R f h []

/-- rows that only tell that their own column is zero can be left out -/
theorem dt_fixed (R : Nat → Rw) (f : Nat → Nat) : ∀ (fs l : List Nat), (∀ s ∈ fs, R s (f s) = 1) → (∀ s ∈ fs, ∀ c ∈ fs ++ l, c ≠ s → R s (f c) = 0) → (fs ++ l).Nodup → dt ((fs ++ l).map R) ((fs ++ l).map f) = dt (l.map R) (l.map f)
  | [], l, h1, h0, hn => rfl
  | s :: fs, l, h1, h0, hn => by
    rw [List.cons_append] at hn ⊢
    rw [List.map_cons, List.map_cons, dt_first, h1 s (List.mem_cons_self ..), Int.one_mul]
    · exact dt_fixed R f fs l (fun x hx => h1 x (List.mem_cons_of_mem _ hx)) (fun x hx c hc => h0 x (List.mem_cons_of_mem _ hx) c (List.mem_cons_of_mem _ hc)) (List.nodup_cons.1 hn).2
    · intro c hc
      obtain ⟨d, hd, e⟩ := List.mem_map.1 hc
      rw [← e]
      refine h0 s (List.mem_cons_self ..) d (List.mem_cons_of_mem _ hd) (fun q => ?_)
      rw [q] at hd
      exact (List.nodup_cons.1 hn).1 hd

/-! the measures in the place of a column -/
def pl (m c : Nat) : Nat → Nat := fun x => if x = c then m else x

/-- the sum over columns of their entries times what stands there with the measures in their place -/
def sr (r : Rw) (m : Nat) : (List Nat → Int) → List Nat → Int
  | _, [] => 0
  | f, c :: cs => r c * f (m :: cs) + sr r m (fun l => f (c :: l)) cs

theorem sr_congr {r : Rw} {m : Nat} : ∀ {cs : List Nat} {f g : List Nat → Int}, (∀ l, f l = g l) → sr r m f cs = sr r m g cs
  | [], f, g, h => rfl
  | c :: cs, f, g, h => by
    simp only [sr]
    rw [h, sr_congr (fun l => h (c :: l))]
theorem sr_neg {r : Rw} {m : Nat} : ∀ {cs : List Nat} {f : List Nat → Int}, sr r m (fun l => - f l) cs = - sr r m f cs
  | [], f => rfl
  | c :: cs, f => by
    simp only [sr]
    rw [sr_neg (f := fun l => f (c :: l))]; grind
theorem ex_sr (r : Rw) (m : Nat) : ∀ (cs : List Nat) {f : List Nat → Int} (_ : Alt f), ex r (fun l => f (m :: l)) cs = sr r m f cs
  | [], f, h => rfl
  | c :: cs, f, h => by
    simp only [ex, sr]
    have e : ex r (fun l => f (m :: c :: l)) cs = - ex r (fun l => f (c :: m :: l)) cs := by
      rw [← ex_neg_f]; exact ex_congr (fun l _ _ => h [] m c l)
    rw [e, ex_sr r m cs (h.cons c)]; omega
theorem sr_is (r : Rw) (m : Nat) : ∀ (cs : List Nat) (f : List Nat → Int), cs.Nodup → sr r m f cs = (cs.map (fun c => r c * f (cs.map (pl m c)))).sum
  | [], f, h => rfl
  | c :: cs, f, h => by
    have hn := List.nodup_cons.1 h
    simp only [sr, List.map_cons, List.sum_cons]
    rw [sr_is r m cs _ hn.2]
    have e1 : pl m c c = m := by simp [pl]
    have e2 : cs.map (pl m c) = cs := by
      have : cs.map (pl m c) = cs.map id := List.map_congr_left (fun x hx => by
        unfold pl; rw [if_neg (fun q => hn.1 (by rw [← q]; exact hx))]; rfl)
      rw [this]; simp
    have e3 : cs.map (fun d => r d * f (c :: cs.map (pl m d))) = cs.map (fun d => r d * f (pl m d c :: cs.map (pl m d))) :=
      List.map_congr_left (fun d hd => by
        have : pl m d c = c := by unfold pl; rw [if_neg (fun q => hn.1 (by rw [q]; exact hd))]
        rw [this])
    rw [e1, e2, e3]

/-- CRAMER's rule -/
theorem cramer {rs : List Rw} {r : Rw} (hr : r ∈ rs) {cs : List Nat} (hn : cs.Nodup) (m : Nat) :
    (cs.map (fun c => r c * dt rs (cs.map (pl m c)))).sum = r m * dt rs cs := by
  have h1 : dt (r :: rs) (m :: cs) = 0 := dt_mem hr _
  rw [dt_cons] at h1
  simp only [ex] at h1
  rw [ex_sr r m cs (dt_alt rs), sr_is r m cs _ hn] at h1
  omega
end Go.Proofs.YtnpghhpcloljeabGreatDoor.dt

namespace Go.Proofs.YtnpghhpcloljeabGreatDoor.dt
set_option linter.unusedVariables false

/-! other names for columns -/
theorem ex_ren (g : Nat → Nat) (r : Rw) : ∀ (cs : List Nat) (f : List Nat → Int), ex (fun c => r (g c)) (fun l => f (l.map g)) cs = ex r f (cs.map g)
  | [], f => rfl
  | c :: cs, f => by
    simp only [ex, List.map_cons]
    rw [ex_ren g r cs (fun l => f (g c :: l))]
theorem dt_ren (g : Nat → Nat) : ∀ (rs : List Rw) (cs : List Nat), dt (rs.map (fun r c => r (g c))) cs = dt rs (cs.map g)
  | [], [] => rfl
  | [], _ :: _ => rfl
  | r :: rs, cs => by
    rw [List.map_cons, dt_cons, dt_cons, ← ex_ren g r cs]
    exact ex_congr (fun l _ _ => dt_ren g rs l)
theorem dt_rows {R S : Nat → Rw} : ∀ {is cs : List Nat}, (∀ i ∈ is, ∀ c ∈ cs, R i c = S i c) → dt (is.map R) cs = dt (is.map S) cs
  | [], cs, h => rfl
  | i :: is, cs, h => by
    rw [List.map_cons, List.map_cons, dt_cons, dt_cons, ex_row (fun c hc => h i (List.mem_cons_self ..) c hc)]
    exact ex_congr (fun l _ hm => dt_rows (fun j hj c hc => h j (List.mem_cons_of_mem _ hj) c (hm c hc)))

/-! bounds -/
def ab (r : Rw) (m : Nat) : List Nat → Int
  | [] => 0
  | c :: cs => (if c = m then (0 : Int) else ((r c).natAbs : Int)) + ab r m cs
theorem ab_pos (r : Rw) (m : Nat) : ∀ cs, 0 ≤ ab r m cs
  | [] => by simp [ab]
  | c :: cs => by
    have := ab_pos r m cs
    simp only [ab]; split <;> omega

def Le (a b : Int) : Prop := -b ≤ a ∧ a ≤ b

theorem mul_le {a b c d : Int} (h : (a.natAbs : Int) ≤ b) (h2 : Le c d) (hd : 0 ≤ d) : Le (a * c) (b * d) := by
  obtain ⟨h3, h4⟩ := h2
  have k1 : ((a * c).natAbs : Int) = (a.natAbs : Int) * (c.natAbs : Int) := by rw [Int.natAbs_mul]; simp
  have k2 : (c.natAbs : Int) ≤ d := by omega
  have k3 : (a.natAbs : Int) * (c.natAbs : Int) ≤ b * d := Int.mul_le_mul h k2 (by omega) (by omega)
  unfold Le; omega

theorem ex_bound (r : Rw) (m : Nat) (K0 K1 : Int) (h0 : 0 ≤ K0) (h1 : 0 ≤ K1) : ∀ (cs : List Nat) (f : List Nat → Int), cs.Nodup →
    (m ∈ cs → ∀ l : List Nat, l.Sublist cs → m ∉ l → Le (f l) K0) → (∀ l : List Nat, l.Sublist cs → (m ∈ cs → m ∈ l) → Le (f l) K1) →
    Le (ex r f cs) (ab r m cs * K1 + if m ∈ cs then (r m).natAbs * K0 else 0)
  | [], f, hn, ha, hb => by simp [ex, ab, Le]
  | c :: cs, f, hn, ha, hb => by
    have hc := List.nodup_cons.1 hn
    simp only [ex, ab]
    by_cases e : c = m
    · subst e
      have a1 : Le (r c * f cs) ((r c).natAbs * K0) := mul_le (by omega) (ha (List.mem_cons_self ..) cs (List.sublist_cons_self ..) hc.1) h0
      have a2 := ex_bound r c K0 K1 h0 h1 cs (fun l => f (c :: l)) hc.2 (fun q => absurd q hc.1) (fun l hl _ => hb (c :: l) (List.Sublist.cons_cons _ hl) (fun _ => List.mem_cons_self ..))
      rw [if_neg hc.1] at a2
      rw [if_pos rfl, if_pos (List.mem_cons_self ..)]
      unfold Le at a1 a2 ⊢; simp only [Int.zero_add, Int.add_zero] at a2 ⊢; omega
    · have hm : m ∈ c :: cs ↔ m ∈ cs := by
        rw [List.mem_cons]; exact ⟨fun q => q.resolve_left (fun z => e z.symm), .inr⟩
      have a1 : Le (r c * f cs) ((r c).natAbs * K1) := mul_le (by omega) (hb cs (List.sublist_cons_self ..) (fun q => hm.1 q)) h1
      have a2 := ex_bound r m K0 K1 h0 h1 cs (fun l => f (c :: l)) hc.2
        (fun q l hl ho => ha (hm.2 q) (c :: l) (List.Sublist.cons_cons _ hl) (fun z => by rcases List.mem_cons.1 z with z | z; exact e z.symm; exact ho z))
        (fun l hl ho => hb (c :: l) (List.Sublist.cons_cons _ hl) (fun q => List.mem_cons_of_mem _ (ho (hm.1 q))))
      rw [if_neg e]
      have e2 : (if m ∈ c :: cs then ((r m).natAbs : Int) * K0 else 0) = (if m ∈ cs then ((r m).natAbs : Int) * K0 else 0) := by
        by_cases q : m ∈ cs
        · rw [if_pos q, if_pos (hm.2 q)]
        · rw [if_neg q, if_neg (fun z => q (hm.1 z))]
      rw [e2]
      have e3 : ((r c).natAbs + ab r m cs) * K1 = (r c).natAbs * K1 + ab r m cs * K1 := by grind
      rw [e3]
      unfold Le at a1 a2 ⊢; omega

def prd (d : Nat → Int) : List Nat → Int
  | [] => 1
  | i :: is => 2 * d i * prd d is
theorem prd_pos {d : Nat → Int} : ∀ {is : List Nat}, (∀ i ∈ is, 0 ≤ d i) → 0 ≤ prd d is
  | [], h => by simp [prd]
  | i :: is, h => by
    simp only [prd]
    exact Int.mul_nonneg (by have := h i (List.mem_cons_self ..); omega) (prd_pos (fun j hj => h j (List.mem_cons_of_mem _ hj)))

theorem dt_bound0 {R : Nat → Rw} {d : Nat → Int} {m : Nat} : ∀ (is cs : List Nat), (∀ i ∈ is, 0 ≤ d i ∧ ∀ l : List Nat, l.Sublist cs → ab (R i) m l ≤ 2 * d i) → cs.Nodup → m ∉ cs → Le (dt (is.map R) cs) (prd d is)
  | [], [], h, hn, hm => by simp [dt, prd, Le]
  | [], _ :: _, h, hn, hm => by simp [dt, prd, Le]
  | i :: is, cs, h, hn, hm => by
    have hp : 0 ≤ prd d is := prd_pos (fun j hj => (h j (List.mem_cons_of_mem _ hj)).1)
    rw [List.map_cons, dt_cons]
    have a := ex_bound (R i) m 0 (prd d is) (by omega) hp cs (dt (is.map R)) hn (fun q => absurd q hm)
      (fun l hl _ => dt_bound0 is l (fun j hj => ⟨(h j (List.mem_cons_of_mem _ hj)).1, fun k hk => (h j (List.mem_cons_of_mem _ hj)).2 k (hk.trans hl)⟩) (hl.nodup hn) (fun q => hm (hl.subset q)))
    rw [if_neg hm, Int.add_zero] at a
    have b : ab (R i) m cs * prd d is ≤ 2 * d i * prd d is := Int.mul_le_mul_of_nonneg_right ((h i (List.mem_cons_self ..)).2 cs (List.Sublist.refl _)) hp
    simp only [prd]
    unfold Le at a ⊢; omega

theorem dt_bound1 {R : Nat → Rw} {d : Nat → Int} {m : Nat} : ∀ (is cs : List Nat), (∀ i ∈ is, 0 ≤ d i ∧ ((R i m).natAbs : Int) ≤ 500 * d i ∧ ∀ l : List Nat, l.Sublist cs → ab (R i) m l ≤ 2 * d i) → cs.Nodup → m ∈ cs → Le (dt (is.map R) cs) (250 * is.length * prd d is)
  | [], [], h, hn, hm => by cases hm
  | [], _ :: _, h, hn, hm => by simp [dt, prd, Le]
  | i :: is, cs, h, hn, hm => by
    have hp : 0 ≤ prd d is := prd_pos (fun j hj => (h j (List.mem_cons_of_mem _ hj)).1)
    have hq : 0 ≤ 250 * (is.length : Int) * prd d is := Int.mul_nonneg (by omega) hp
    rw [List.map_cons, dt_cons]
    have a := ex_bound (R i) m (prd d is) (250 * is.length * prd d is) hp hq cs (dt (is.map R)) hn
      (fun _ l hl ho => dt_bound0 is l (fun j hj => ⟨(h j (List.mem_cons_of_mem _ hj)).1, fun k hk => (h j (List.mem_cons_of_mem _ hj)).2.2 k (hk.trans hl)⟩) (hl.nodup hn) ho)
      (fun l hl ho => dt_bound1 is l (fun j hj => ⟨(h j (List.mem_cons_of_mem _ hj)).1, (h j (List.mem_cons_of_mem _ hj)).2.1, fun k hk => (h j (List.mem_cons_of_mem _ hj)).2.2 k (hk.trans hl)⟩) (hl.nodup hn) (ho hm))
    rw [if_pos hm] at a
    obtain ⟨g0, g1, g2⟩ := h i (List.mem_cons_self ..)
    have b : ab (R i) m cs * (250 * is.length * prd d is) ≤ 2 * d i * (250 * is.length * prd d is) := Int.mul_le_mul_of_nonneg_right (g2 cs (List.Sublist.refl _)) hq
    have c : ((R i m).natAbs : Int) * prd d is ≤ 500 * d i * prd d is := Int.mul_le_mul_of_nonneg_right g1 hp
    have e : 250 * ((is.length + 1 : Nat) : Int) * (2 * d i * prd d is) = 2 * d i * (250 * is.length * prd d is) + 500 * d i * prd d is := by
      rw [Int.natCast_add]; grind
    simp only [prd, List.length_cons]
    rw [e]
    unfold Le at a ⊢; omega

/-- how great the product of the rows' ends can be -/
theorem prd_le {d : Nat → Int} : ∀ {is : List Nat}, (∀ i ∈ is, 0 ≤ d i) → ∃ s : Nat, (is.map d).sum = s ∧ prd d is * (3 ^ s * 64 ^ is.length) ≤ 162 ^ is.length * 4 ^ s
  | [], h => ⟨0, by simp, by simp [prd]⟩
  | i :: is, h => by
    obtain ⟨s, hs, hp⟩ := prd_le (is := is) (fun j hj => h j (List.mem_cons_of_mem _ hj))
    have h0 := h i (List.mem_cons_self ..)
    obtain ⟨n, hn⟩ : ∃ n : Nat, d i = n := ⟨(d i).toNat, by omega⟩
    refine ⟨n + s, by rw [List.map_cons, List.sum_cons, hs, hn]; omega, ?_⟩
    have key : ∀ n : Nat, 2 * (n : Int) * (3 ^ n * 64) ≤ 162 * 4 ^ n := by
      intro n
      have small : ∀ k : Nat, k < 5 → 2 * (k : Int) * (3 ^ k * 64) ≤ 162 * 4 ^ k := by decide
      have big : ∀ k : Nat, 2 * ((k + 4 : Nat) : Int) * (3 ^ (k + 4) * 64) ≤ 162 * 4 ^ (k + 4) := by
        intro k
        induction k with
        | zero => decide
        | succ k ih =>
          have e1 : (3 : Int) ^ (k + 1 + 4) = 3 * 3 ^ (k + 4) := by rw [show k + 1 + 4 = (k + 4) + 1 by omega, Int.pow_succ]; omega
          have e2 : (4 : Int) ^ (k + 1 + 4) = 4 * 4 ^ (k + 4) := by rw [show k + 1 + 4 = (k + 4) + 1 by omega, Int.pow_succ]; omega
          rw [e1, e2]
          have hpos : (0 : Int) < 3 ^ (k + 4) := Int.pow_pos (by omega)
          have e3 : 2 * ((k + 1 + 4 : Nat) : Int) * (3 * 3 ^ (k + 4) * 64) = 3 * (2 * ((k + 4 : Nat) : Int) * (3 ^ (k + 4) * 64)) + 6 * 64 * 3 ^ (k + 4) := by
            have : ((k + 1 + 4 : Nat) : Int) = ((k + 4 : Nat) : Int) + 1 := by omega
            rw [this]; grind
          have e4 : 6 * 64 * (3 : Int) ^ (k + 4) ≤ 2 * ((k + 4 : Nat) : Int) * (3 ^ (k + 4) * 64) := by
            have : (6 * 64 : Int) * 3 ^ (k + 4) ≤ (2 * ((k + 4 : Nat) : Int) * 64) * 3 ^ (k + 4) := by
              rcases Nat.eq_zero_or_pos k with q | q
              · subst q; decide
              · exact Int.mul_le_mul_of_nonneg_right (by omega) (by omega)
            have e5 : (2 * ((k + 4 : Nat) : Int) * 64) * 3 ^ (k + 4) = 2 * ((k + 4 : Nat) : Int) * (3 ^ (k + 4) * 64) := by grind
            omega
          omega
      by_cases hk : n < 5
      · exact small n hk
      · have := big (n - 4)
        rw [show n - 4 + 4 = n by omega] at this
        exact this
    have k := key n
    simp only [prd, List.length_cons]
    rw [hn]
    have p3 : (3 : Int) ^ (n + s) = 3 ^ n * 3 ^ s := Int.pow_add ..
    have p4 : (4 : Int) ^ (n + s) = 4 ^ n * 4 ^ s := Int.pow_add ..
    rw [p3, p4, Int.pow_succ, Int.pow_succ]
    have q0 : (0 : Int) ≤ prd d is * (3 ^ s * 64 ^ is.length) := Int.mul_nonneg (prd_pos (fun j hj => h j (List.mem_cons_of_mem _ hj))) (Int.mul_nonneg (Int.le_of_lt (Int.pow_pos (by omega))) (Int.le_of_lt (Int.pow_pos (by omega))))
    have := Int.mul_le_mul k hp q0 (Int.mul_nonneg (by omega) (Int.le_of_lt (Int.pow_pos (by omega))))
    have e1 : 2 * (n : Int) * prd d is * (3 ^ n * 3 ^ s * (64 ^ is.length * 64)) = 2 * (n : Int) * (3 ^ n * 64) * (prd d is * (3 ^ s * 64 ^ is.length)) := by grind
    have e2 : (162 : Int) ^ is.length * 162 * (4 ^ n * 4 ^ s) = 162 * 4 ^ n * (162 ^ is.length * 4 ^ s) := by grind
    rw [e1, e2]; exact this

theorem prd_small {d : Nat → Int} {is : List Nat} (h : ∀ i ∈ is, 0 ≤ d i) (hl : is.length ≤ 7) (hs : (is.map d).sum ≤ 24) : prd d is ≤ 663552 := by
  obtain ⟨s, e, hp⟩ := prd_le h
  have h24 : s ≤ 24 := by omega
  have key : ∀ n : Nat, n < 8 → ∀ s : Nat, s < 25 → (162 : Int) ^ n * 4 ^ s ≤ 663552 * (3 ^ s * 64 ^ n) := by decide
  have k := key is.length (by omega) s (by omega)
  have hpos : (0 : Int) < 3 ^ s * 64 ^ is.length := Int.mul_pos (Int.pow_pos (by omega)) (Int.pow_pos (by omega))
  exact Int.le_of_mul_le_mul_right (Int.le_trans hp k) hpos
end Go.Proofs.YtnpghhpcloljeabGreatDoor.dt

namespace Go.Proofs.YtnpghhpcloljeabGreatDoor.dt
set_option linter.unusedVariables false

/-! the elimination without fractions -/
def rv (n : Nat) : List Nat := (List.range n).reverse
theorem rv_succ (n : Nat) : rv (n + 1) = n :: rv n := by simp [rv, List.range_succ]
theorem rv_zero : rv 0 = [] := rfl
theorem mem_rv {n x : Nat} : x ∈ rv n ↔ x < n := by simp [rv]
theorem rv_nodup (n : Nat) : (rv n).Nodup := by
  unfold rv List.Nodup; rw [List.pairwise_reverse]
  exact List.nodup_range.imp (fun h => h.symm)
theorem rv_length (n : Nat) : (rv n).length = n := by simp [rv]
theorem rv_split {k n : Nat} (h : k ≤ n) : ∃ l : List Nat, rv n = l ++ rv k ∧ l.length = n - k ∧ ∀ x ∈ l, k ≤ x ∧ x < n := by
  induction n with
  | zero => exact ⟨[], by rw [show k = 0 by omega]; rfl, by simp, by simp⟩
  | succ n ih =>
    by_cases e : k = n + 1
    · exact ⟨[], by rw [e]; rfl, by simp [e], by simp⟩
    · obtain ⟨l, h1, h2, h3⟩ := ih (by omega)
      refine ⟨n :: l, by rw [rv_succ, h1]; rfl, by rw [List.length_cons, h2]; omega, fun x hx => ?_⟩
      rcases List.mem_cons.1 hx with q | q
      · omega
      · have := h3 x q; omega

/-- p and k changed -/
def sw (p k : Nat) : Nat → Nat := fun i => if i = p then k else if i = k then p else i
theorem sw_p (p k : Nat) : sw p k p = k := by simp [sw]
theorem sw_k (p k : Nat) : sw p k k = p := by unfold sw; split <;> simp_all
theorem sw_o {p k i : Nat} (h1 : i ≠ p) (h2 : i ≠ k) : sw p k i = i := by simp [sw, h1, h2]
theorem sw_lt {p k i n : Nat} (hp : p < n) (hk : k < n) (hi : i < n) : sw p k i < n := by
  unfold sw; split
  · omega
  · split <;> omega
theorem sw_ge {p k i m : Nat} (hp : m ≤ p) (hk : m ≤ k) (hi : m ≤ i) : m ≤ sw p k i := by
  unfold sw; split
  · omega
  · split <;> omega
theorem sw_sw (p k i : Nat) : sw p k (sw p k i) = i := by
  unfold sw
  by_cases h : i = p
  · subst h; simp
  · by_cases h2 : i = k
    · subst h2; simp [h]
    · simp [h, h2]
theorem sw_inj {p k i j : Nat} (h : sw p k i = sw p k j) : i = j := by
  have := congrArg (sw p k) h
  rwa [sw_sw, sw_sw] at this

theorem dt_change (l1 l2 l3 : List Rw) (x y : Rw) (cs : List Nat) : dt (l1 ++ x :: (l2 ++ y :: l3)) cs = - dt (l1 ++ y :: (l2 ++ x :: l3)) cs := by
  refine dt_pre_neg (fun cs => ?_) l1 cs
  have h1 : ∀ x y : Rw, dt (x :: (l2 ++ y :: l3)) cs = sg l2.length * dt (x :: y :: (l2 ++ l3)) cs := fun x y => by
    rw [dt_cons, ex_congr (g := fun m => sg l2.length * dt (y :: (l2 ++ l3)) m) (fun m _ _ => dt_front l2 y l3 m), ex_mul_f, ← dt_cons]
  rw [h1, h1, dt_swap]; grind

theorem dt_sw {a : Nat → Rw} {p k : Nat} {l : List Nat} (hl : l.Nodup) (hp : p ∈ l) (hk : k ∈ l) (hpk : p ≠ k) (cs : List Nat) : dt (l.map (fun i => a (sw p k i))) cs = - dt (l.map a) cs := by
  have same : ∀ {m : List Nat}, p ∉ m → k ∉ m → m.map (fun i => a (sw p k i)) = m.map a := fun {m} h1 h2 =>
    List.map_congr_left (fun i hi => by rw [sw_o (fun q => h1 (by rw [← q]; exact hi)) (fun q => h2 (by rw [← q]; exact hi))])
  obtain ⟨u, v, e⟩ := List.append_of_mem hp
  subst e
  have n1 := List.nodup_append.1 hl
  have n2 := List.nodup_cons.1 n1.2.1
  have pu : p ∉ u := fun q => n1.2.2 p q p (List.mem_cons_self ..) rfl
  rcases List.mem_append.1 hk with hk | hk
  · obtain ⟨u1, u2, e⟩ := List.append_of_mem hk
    subst e
    have n3 := List.nodup_append.1 n1.1
    have n4 := List.nodup_cons.1 n3.2.1
    have k1 : k ∉ u1 := fun q => n3.2.2 k q k (List.mem_cons_self ..) rfl
    have kv : k ∉ v := fun q => n1.2.2 k hk k (List.mem_cons_of_mem _ q) rfl
    simp only [List.map_append, List.map_cons, sw_p, sw_k, List.append_assoc, List.cons_append]
    rw [same (fun q => pu (List.mem_append_left _ q)) k1, same (fun q => pu (List.mem_append_right _ (List.mem_cons_of_mem _ q))) n4.1, same n2.1 kv]
    exact dt_change ..
  · have hk2 : k ∈ v := (List.mem_cons.1 hk).resolve_left (fun q => hpk q.symm)
    obtain ⟨v1, v2, e⟩ := List.append_of_mem hk2
    subst e
    have n3 := List.nodup_append.1 n2.2
    have n4 := List.nodup_cons.1 n3.2.1
    have k1 : k ∉ v1 := fun q => n3.2.2 k q k (List.mem_cons_self ..) rfl
    have ku : k ∉ u := fun q => n1.2.2 k q k hk rfl
    simp only [List.map_append, List.map_cons, sw_p, sw_k]
    rw [same pu ku, same (fun q => n2.1 (List.mem_append_left _ q)) k1, same (fun q => n2.1 (List.mem_append_right _ (List.mem_cons_of_mem _ q))) n4.1]
    exact dt_change ..

/-- every determinant of some of the rows and columns is at most B -/
def Bdd (n : Nat) (a : Nat → Rw) (B : Int) : Prop :=
  ∀ is cs : List Nat, is.Nodup → cs.Nodup → (∀ i ∈ is, i < n) → (∀ c ∈ cs, c < n) → Le (dt (is.map a) cs) B
theorem Bdd.sw {n : Nat} {a : Nat → Rw} {B : Int} (h : Bdd n a B) {p k : Nat} (hp : p < n) (hk : k < n) : Bdd n (fun i => a (sw p k i)) B := by
  intro is cs h1 h2 h3 h4
  have e : is.map (fun i => a (dt.sw p k i)) = (is.map (dt.sw p k)).map a := by rw [List.map_map]; rfl
  rw [e]
  refine h _ _ ?_ h2 ?_ h4
  · exact List.Pairwise.map _ (fun x y q z => q (sw_inj z)) h1
  · intro i hi
    obtain ⟨j, hj, e⟩ := List.mem_map.1 hi
    rw [← e]; exact sw_lt hp hk (h3 j hj)

/-- what an elimination keeps: n rows; k of them done; a: the rows as they lie; M: what lies there -/
structure El (n k : Nat) (a : Nat → Rw) (M : Nat → Nat → Int) (last sign det B : Int) : Prop where
  hk : k ≤ n
  hB : Bdd n a B
  hs : sign = 1 ∨ sign = -1
  hd : sign * dt ((rv n).map a) (rv n) = det
  h0 : last ≠ 0
  hl : last = dt ((rv k).map a) (rv k)
  hM : ∀ i j, k ≤ i → i < n → k ≤ j → j < n → M i j = bd (a i) ((rv k).map a) (rv k) j

theorem El.start {n : Nat} {a : Nat → Rw} {M : Nat → Nat → Int} {B : Int} (hB : Bdd n a B) (hM : ∀ i j, i < n → j < n → M i j = a i j) : El n 0 a M 1 1 (dt ((rv n).map a) (rv n)) B where
  hk := by omega
  hB := hB
  hs := .inl rfl
  hd := by omega
  h0 := by omega
  hl := rfl
  hM := fun i j _ hi _ hj => by
    rw [hM i j hi hj]
    simp [bd, rv_zero, dt, ex]
theorem El.congr {n k : Nat} {a : Nat → Rw} {M M' : Nat → Nat → Int} {last sign det B : Int} (h : El n k a M last sign det B) (hM : ∀ i j, k ≤ i → i < n → k ≤ j → j < n → M' i j = M i j) : El n k a M' last sign det B :=
  { h with hM := fun i j h1 h2 h3 h4 => by rw [hM i j h1 h2 h3 h4]; exact h.hM i j h1 h2 h3 h4 }
theorem El.change {n k : Nat} {a : Nat → Rw} {M : Nat → Nat → Int} {last sign det B : Int} (h : El n k a M last sign det B) {p : Nat} (hp : k < p) (hn : p < n) :
    El n k (fun i => a (sw p k i)) (fun i => M (sw p k i)) last (-sign) det B where
  hk := h.hk
  hB := h.hB.sw hn (by omega)
  hs := by rcases h.hs with e | e <;> rw [e] <;> simp
  hd := by
    rw [dt_sw (rv_nodup n) (mem_rv.2 hn) (mem_rv.2 (by omega)) (by omega), Int.neg_mul_neg]; exact h.hd
  h0 := h.h0
  hl := by
    rw [h.hl]
    congr 1
    refine List.map_congr_left (fun i hi => ?_)
    have := mem_rv.1 hi
    rw [sw_o (by omega) (by omega)]
  hM := fun i j h1 h2 h3 h4 => by
    have e : (rv k).map (fun i => a (sw p k i)) = (rv k).map a := List.map_congr_left (fun i hi => by
      have := mem_rv.1 hi
      rw [sw_o (by omega) (by omega)])
    rw [e]
    exact h.hM _ j (sw_ge (by omega) (by omega) h1) (sw_lt hn (by omega) h2) h3 h4
theorem El.bound {n k : Nat} {a : Nat → Rw} {M : Nat → Nat → Int} {last sign det B : Int} (h : El n k a M last sign det B) {i j : Nat} (h1 : k ≤ i) (h2 : i < n) (h3 : k ≤ j) (h4 : j < n) : -B ≤ M i j ∧ M i j ≤ B := by
  rw [h.hM i j h1 h2 h3 h4]
  refine h.hB (i :: rv k) (j :: rv k) ?_ ?_ ?_ ?_
  · exact List.nodup_cons.2 ⟨fun q => by have := mem_rv.1 q; omega, rv_nodup k⟩
  · exact List.nodup_cons.2 ⟨fun q => by have := mem_rv.1 q; omega, rv_nodup k⟩
  · intro x hx
    rcases List.mem_cons.1 hx with q | q
    · omega
    · have := mem_rv.1 q; omega
  · intro x hx
    rcases List.mem_cons.1 hx with q | q
    · omega
    · have := mem_rv.1 q; omega
theorem El.last {n k : Nat} {a : Nat → Rw} {M : Nat → Nat → Int} {last sign det B : Int} (h : El n k a M last sign det B) : -B ≤ last ∧ last ≤ B := by
  rw [h.hl]
  have := h.hk
  exact h.hB (rv k) (rv k) (rv_nodup k) (rv_nodup k) (fun i hi => by have := mem_rv.1 hi; omega) (fun i hi => by have := mem_rv.1 hi; omega)
theorem El.det_le {n k : Nat} {a : Nat → Rw} {M : Nat → Nat → Int} {last sign det B : Int} (h : El n k a M last sign det B) : -B ≤ det ∧ det ≤ B := by
  have e := h.hd
  have b : Le (dt ((rv n).map a) (rv n)) B := h.hB (rv n) (rv n) (rv_nodup n) (rv_nodup n) (fun i hi => mem_rv.1 hi) (fun i hi => mem_rv.1 hi)
  unfold Le at b
  rcases h.hs with q | q <;> rw [q] at e <;> omega
theorem El.stuck {n k : Nat} {a : Nat → Rw} {M : Nat → Nat → Int} {last sign det B : Int} (h : El n k a M last sign det B) (hkn : k < n) (hz : ∀ p, k ≤ p → p < n → M p k = 0) : det = 0 := by
  obtain ⟨l, e, hl, hx⟩ := rv_split (show k + 1 ≤ n by omega)
  have hD := h.h0
  rw [h.hl] at hD
  have := dt_stuck hD (k := k) (rest := (l ++ [k]).map a) (ms := l) (by simp) (fun r hr => by
    obtain ⟨i, hi, q⟩ := List.mem_map.1 hr
    rw [← q]
    have hi2 : k ≤ i ∧ i < n := by
      rcases List.mem_append.1 hi with z | z
      · have := hx i z; omega
      · have : i = k := by simpa using z
        omega
    rw [← h.hM i k hi2.1 hi2.2 (Nat.le_refl k) hkn]; exact hz i hi2.1 hi2.2)
  have e2 : rv n = l ++ k :: rv k := by rw [e, rv_succ]
  have e3 : (rv n).map a = (l ++ [k]).map a ++ (rv k).map a := by rw [e2]; simp
  rw [← h.hd, e3, e2, this]; omega
/-- one step: the pivot is not 0, and every division goes out -/
theorem El.step {n k : Nat} {a : Nat → Rw} {M : Nat → Nat → Int} {last sign det B : Int} (h : El n k a M last sign det B) (hkn : k < n) (hp : M k k ≠ 0) :
    El n (k + 1) a (fun i j => if k < i then (M i j * M k k - M i k * M k j).tdiv last else M i j) (M k k) sign det B where
  hk := hkn
  hB := h.hB
  hs := h.hs
  hd := h.hd
  h0 := hp
  hl := by
    rw [h.hM k k (Nat.le_refl _) hkn (Nat.le_refl _) hkn, rv_succ, List.map_cons]; rfl
  hM := fun i j h1 h2 h3 h4 => by
    show (if k < i then _ else _) = _
    rw [if_pos (by omega), h.hM i j (by omega) h2 (by omega) h4, h.hM k k (Nat.le_refl _) hkn (Nat.le_refl _) hkn, h.hM i k (by omega) h2 (Nat.le_refl _) hkn, h.hM k j (Nat.le_refl _) hkn (by omega) h4]
    have hD := h.h0
    rw [h.hl] at hD ⊢
    rw [← bd_step hD, Int.mul_tdiv_cancel_left _ hD, rv_succ, List.map_cons]; rfl
theorem El.zero {n k : Nat} {a : Nat → Rw} {M : Nat → Nat → Int} {last sign det B : Int} (h : El n k a M last sign det B) {i : Nat} : (M i k * M k k - M i k * M k k).tdiv last = 0 := by simp
theorem El.done {n : Nat} {a : Nat → Rw} {M : Nat → Nat → Int} {last sign det B : Int} (h : El n n a M last sign det B) : sign * last = det := by
  rw [h.hl]; exact h.hd
end Go.Proofs.YtnpghhpcloljeabGreatDoor.dt

namespace Go.Proofs.YtnpghhpcloljeabGreatDoor.dt
set_option linter.unusedVariables false

/-! the balance of a network -/
structure Ed where
  f : Nat
  t : Nat
  mu : Int
def dl (a b : Nat) : Int := if a = b then 1 else 0
theorem dl_self (a : Nat) : dl a a = 1 := by simp [dl]
theorem dl_ne {a b : Nat} (h : a ≠ b) : dl a b = 0 := by simp [dl, h]
theorem dl_range (a b : Nat) : 0 ≤ dl a b ∧ dl a b ≤ 1 := by unfold dl; split <;> omega
/-- what a leg adds to the equation of a station -/
def ent (x : Ed) (s : Nat) : Rw := fun c => (dl s x.t - dl s x.f) * (dl c x.t - dl c x.f + x.mu * dl c 8)
def AA : List Ed → Nat → Rw
  | [], _ => fun _ => 0
  | x :: us, s => fun c => ent x s c + AA us s c
def deg : List Ed → Nat → Int
  | [], _ => 0
  | x :: us, s => dl s x.t + dl s x.f + deg us s
def EdOk (x : Ed) : Prop := x.f < 8 ∧ x.t < 8 ∧ x.f ≠ x.t ∧ -500 ≤ x.mu ∧ x.mu ≤ 500

theorem AA_snoc : ∀ (us : List Ed) (x : Ed) (s c : Nat), AA (us ++ [x]) s c = AA us s c + ent x s c
  | [], x, s, c => by simp [AA]
  | y :: us, x, s, c => by simp only [List.cons_append, AA]; rw [AA_snoc us x s c]; omega
theorem AA_perm {us vs : List Ed} (h : us.Perm vs) (s c : Nat) : AA us s c = AA vs s c := by
  induction h with
  | nil => rfl
  | cons x _ ih => simp only [AA]; rw [ih]
  | swap x y l => simp only [AA]; omega
  | trans _ _ h1 h2 => rw [h1, h2]
theorem deg_pos (us : List Ed) (s : Nat) : 0 ≤ deg us s := by
  induction us with
  | nil => simp [deg]
  | cons x us ih => have := dl_range s x.t; have := dl_range s x.f; simp only [deg]; omega

theorem sum_dl {l : List Nat} (h : l.Nodup) (a : Nat) : (l.map (fun s => dl s a)).sum ≤ 1 ∧ 0 ≤ (l.map (fun s => dl s a)).sum ∧ (a ∉ l → (l.map (fun s => dl s a)).sum = 0) ∧ (a ∈ l → (l.map (fun s => dl s a)).sum = 1) := by
  induction l with
  | nil => simp
  | cons b l ih =>
    obtain ⟨h1, h2⟩ := List.nodup_cons.1 h
    obtain ⟨i1, i2, i3, i4⟩ := ih h2
    rw [List.map_cons, List.sum_cons]
    by_cases e : b = a
    · subst e
      rw [dl_self, i3 h1]
      exact ⟨by omega, by omega, fun q => absurd (List.mem_cons_self ..) q, fun _ => by omega⟩
    · rw [dl_ne e]
      exact ⟨by omega, by omega, fun q => by rw [i3 (fun z => q (List.mem_cons_of_mem _ z))]; omega, fun q => by rw [i4 ((List.mem_cons.1 q).resolve_left (fun z => e z.symm))]; omega⟩
theorem deg_sum {us : List Ed} {l : List Nat} (h : l.Nodup) : (l.map (deg us)).sum ≤ 2 * us.length := by
  induction us with
  | nil =>
    have : ∀ l : List Nat, (l.map (deg [])).sum = 0 := by intro l; induction l with
      | nil => rfl
      | cons a l ih => rw [List.map_cons, List.sum_cons, ih]; simp [deg]
    rw [this]; simp
  | cons x us ih =>
    have e : ∀ l : List Nat, (l.map (deg (x :: us))).sum = (l.map (fun s => dl s x.t)).sum + (l.map (fun s => dl s x.f)).sum + (l.map (deg us)).sum := by
      intro l
      induction l with
      | nil => rfl
      | cons a l ih => simp only [List.map_cons, List.sum_cons]; rw [ih]; simp only [deg]; omega
    rw [e]
    have a1 := (sum_dl h x.t).1
    have a2 := (sum_dl h x.f).1
    rw [List.length_cons]; omega

theorem ab_add (u v : Rw) (m : Nat) : ∀ cs, ab (fun c => u c + v c) m cs ≤ ab u m cs + ab v m cs
  | [] => by simp [ab]
  | c :: cs => by
    have := ab_add u v m cs
    simp only [ab]
    split
    · omega
    · have : ((u c + v c).natAbs : Int) ≤ (u c).natAbs + (v c).natAbs := by omega
      omega
theorem ab_ent {x : Ed} {s : Nat} {cs : List Nat} (hn : cs.Nodup) : ab (ent x s) 8 cs ≤ 2 * (dl s x.t + dl s x.f) := by
  have h1 := dl_range s x.t
  have h2 := dl_range s x.f
  have key : ∀ l : List Nat, ab (ent x s) 8 l ≤ (dl s x.t + dl s x.f) * ((l.map (fun c => dl c x.t)).sum + (l.map (fun c => dl c x.f)).sum) := by
    intro l
    induction l with
    | nil => simp [ab]
    | cons c l ih =>
      simp only [ab, List.map_cons, List.sum_cons]
      have e : (dl s x.t + dl s x.f) * (dl c x.t + (l.map (fun c => dl c x.t)).sum + (dl c x.f + (l.map (fun c => dl c x.f)).sum)) = (dl s x.t + dl s x.f) * ((l.map (fun c => dl c x.t)).sum + (l.map (fun c => dl c x.f)).sum) + (dl s x.t + dl s x.f) * (dl c x.t + dl c x.f) := by grind
      rw [e]
      have h3 := dl_range c x.t
      have h4 := dl_range c x.f
      have h5 : 0 ≤ (dl s x.t + dl s x.f) * (dl c x.t + dl c x.f) := Int.mul_nonneg (by omega) (by omega)
      split
      · omega
      · rename_i hc
        have e2 : ent x s c = (dl s x.t - dl s x.f) * (dl c x.t - dl c x.f) := by unfold ent; rw [dl_ne hc]; simp
        have e3 : ((ent x s c).natAbs : Int) ≤ (dl s x.t + dl s x.f) * (dl c x.t + dl c x.f) := by
          rw [e2, Int.natAbs_mul, Int.natCast_mul]
          exact Int.mul_le_mul (by omega) (by omega) (by omega) (by omega)
        omega
  have a1 := (sum_dl hn x.t).1
  have a2 := (sum_dl hn x.f).1
  have := key cs
  have k : (dl s x.t + dl s x.f) * ((cs.map (fun c => dl c x.t)).sum + (cs.map (fun c => dl c x.f)).sum) ≤ (dl s x.t + dl s x.f) * 2 := Int.mul_le_mul_of_nonneg_left (by omega) (by omega)
  omega
theorem ab_AA {us : List Ed} {s : Nat} {cs : List Nat} (hn : cs.Nodup) : ab (AA us s) 8 cs ≤ 2 * deg us s := by
  induction us with
  | nil =>
    have : ∀ l, ab (AA [] s) 8 l = 0 := by intro l; induction l with
      | nil => rfl
      | cons c l ih => simp only [ab]; rw [ih]; simp [AA]
    rw [this]; simp [deg]
  | cons x us ih =>
    have := ab_add (ent x s) (AA us s) 8 cs
    have := ab_ent (x := x) (s := s) hn
    simp only [AA, deg]; omega
theorem AA_m {us : List Ed} (hu : ∀ x ∈ us, EdOk x) (s : Nat) : ((AA us s 8).natAbs : Int) ≤ 500 * deg us s := by
  induction us with
  | nil => simp [AA, deg]
  | cons x us ih =>
    have i := ih (fun y hy => hu y (List.mem_cons_of_mem _ hy))
    obtain ⟨h1, h2, h3, h4, h5⟩ := hu x (List.mem_cons_self ..)
    simp only [AA, deg]
    have e : ent x s 8 = (dl s x.t - dl s x.f) * x.mu := by unfold ent; rw [dl_ne (a := 8) (b := x.t) (by omega), dl_ne (a := 8) (b := x.f) (by omega), dl_self]; simp
    have a1 := dl_range s x.t
    have a2 := dl_range s x.f
    have e2 : ((ent x s 8).natAbs : Int) ≤ (dl s x.t + dl s x.f) * 500 := by
      rw [e, Int.natAbs_mul, Int.natCast_mul]
      exact Int.mul_le_mul (by omega) (by omega) (by omega) (by omega)
    omega

/-- the greatest determinant that can come -/
def BB : Int := 1161216000
theorem AA_bound {us : List Ed} (hu : ∀ x ∈ us, EdOk x) (hl : us.length ≤ 12) {L C : List Nat} (hL : L.Nodup) (hL7 : L.length ≤ 7) (hC : C.Nodup) : Le (dt (L.map (AA us)) C) BB ∧ (8 ∉ C → Le (dt (L.map (AA us)) C) 663552) := by
  have hs := deg_sum (us := us) hL
  have hp : prd (deg us) L ≤ 663552 := prd_small (fun i _ => deg_pos us i) hL7 (by omega)
  have h0 : 8 ∉ C → Le (dt (L.map (AA us)) C) 663552 := fun hm => by
    have := dt_bound0 (R := AA us) (d := deg us) (m := 8) L C (fun i _ => ⟨deg_pos us i, fun l hl => ab_AA (hl.nodup hC)⟩) hC hm
    unfold Le at this ⊢; omega
  refine ⟨?_, h0⟩
  by_cases hm : 8 ∈ C
  · have := dt_bound1 (R := AA us) (d := deg us) (m := 8) L C (fun i _ => ⟨deg_pos us i, AA_m hu i, fun l hl => ab_AA (hl.nodup hC)⟩) hC hm
    have h2 : 250 * (L.length : Int) * prd (deg us) L ≤ 1750 * 663552 := Int.mul_le_mul (by omega) hp (prd_pos (fun i _ => deg_pos us i)) (by omega)
    unfold Le BB at *; omega
  · have := h0 hm
    unfold Le BB at *; omega

/-! sums over the legs -/
def sme (us : List Ed) (g : Ed → Int) : Int := (us.map g).sum
theorem sme_nil (g : Ed → Int) : sme [] g = 0 := rfl
theorem sme_cons (x : Ed) (us : List Ed) (g : Ed → Int) : sme (x :: us) g = g x + sme us g := by simp [sme]
theorem sme_congr {us : List Ed} {g h : Ed → Int} (e : ∀ x ∈ us, g x = h x) : sme us g = sme us h := by unfold sme; rw [List.map_congr_left e]
theorem sme_lin (a b : Int) (us : List Ed) (g h : Ed → Int) : sme us (fun x => a * g x + b * h x) = a * sme us g + b * sme us h := by
  induction us with
  | nil => simp [sme_nil]
  | cons x us ih => simp only [sme_cons]; rw [ih]; grind
/-- what a function of the stations lets arrive at a station -/
def arr (us : List Ed) (g : Ed → Int) (s : Nat) : Int := sme us (fun x => (dl s x.t - dl s x.f) * g x)
theorem sum_add {l : List Nat} (u v : Nat → Int) : (l.map (fun s => u s + v s)).sum = (l.map u).sum + (l.map v).sum := by
  induction l with
  | nil => rfl
  | cons a l ih => simp only [List.map_cons, List.sum_cons]; rw [ih]; omega
theorem sum_mul {l : List Nat} (k : Int) (u : Nat → Int) : (l.map (fun s => k * u s)).sum = k * (l.map u).sum := by
  induction l with
  | nil => simp
  | cons a l ih => simp only [List.map_cons, List.sum_cons]; rw [ih]; grind
theorem sum_congr {l : List Nat} {u v : Nat → Int} (h : ∀ s ∈ l, u s = v s) : (l.map u).sum = (l.map v).sum := by rw [List.map_congr_left h]
theorem sum_pick {l : List Nat} (h : l.Nodup) (z : Nat → Int) {a : Nat} (ha : a ∈ l ∨ z a = 0) : (l.map (fun s => z s * dl s a)).sum = z a := by
  have e : (l.map (fun s => z s * dl s a)).sum = (l.map (fun s => z a * dl s a)).sum := sum_congr (fun s _ => by
    by_cases q : s = a
    · rw [q]
    · rw [dl_ne q]; simp)
  rw [e, sum_mul]
  by_cases hm : a ∈ l
  · rw [(sum_dl h a).2.2.2 hm]; omega
  · rw [ha.resolve_left hm]; simp
/-- summing over stations what arrives there -/
theorem sum_arr {l : List Nat} (hn : l.Nodup) {us : List Ed} {z : Nat → Int} (hz : ∀ x ∈ us, (x.t ∈ l ∨ z x.t = 0) ∧ (x.f ∈ l ∨ z x.f = 0)) (g : Ed → Int) : (l.map (fun s => z s * arr us g s)).sum = sme us (fun x => (z x.t - z x.f) * g x) := by
  induction us with
  | nil =>
    have : (l.map (fun s => z s * arr [] g s)).sum = (l.map (fun s => 0 * (0 : Int))).sum := sum_congr (fun s _ => by simp [arr, sme_nil])
    rw [this, sum_mul]; simp [sme_nil]
  | cons x us ih =>
    obtain ⟨h1, h2⟩ := hz x (List.mem_cons_self ..)
    have e : (l.map (fun s => z s * arr (x :: us) g s)).sum = (l.map (fun s => (g x * (z s * dl s x.t) + (-(g x)) * (z s * dl s x.f)) + z s * arr us g s)).sum := sum_congr (fun s _ => by
      unfold arr; rw [sme_cons]; grind)
    rw [e, sum_add, sum_add, sum_mul, sum_mul, sum_pick hn z h1, sum_pick hn z h2, ih (fun y hy => hz y (List.mem_cons_of_mem _ hy)), sme_cons]
    grind

/-- the equations of the stations, as sums over the legs -/
theorem AA_sum {us : List Ed} {l : List Nat} (hn : l.Nodup) (h8 : 8 ∉ l) {y : Nat → Int} (hy : ∀ x ∈ us, (x.t ∈ l ∨ y x.t = 0) ∧ (x.f ∈ l ∨ y x.f = 0)) (s : Nat) :
    (l.map (fun c => AA us s c * y c)).sum = arr us (fun x => y x.t - y x.f) s := by
  induction us with
  | nil =>
    have : (l.map (fun c => AA [] s c * y c)).sum = (l.map (fun c => 0 * (0 : Int))).sum := sum_congr (fun c _ => by simp [AA])
    rw [this, sum_mul]; simp [arr, sme_nil]
  | cons x us ih =>
    obtain ⟨h1, h2⟩ := hy x (List.mem_cons_self ..)
    have e : (l.map (fun c => AA (x :: us) s c * y c)).sum = (l.map (fun c => ((dl s x.t - dl s x.f) * (y c * dl c x.t) + (-(dl s x.t - dl s x.f)) * (y c * dl c x.f)) + AA us s c * y c)).sum := sum_congr (fun c hc => by
      have q : c ≠ 8 := fun q => h8 (by rw [← q]; exact hc)
      simp only [AA]; unfold ent; rw [dl_ne q]; grind)
    rw [e, sum_add, sum_add, sum_mul, sum_mul, sum_pick hn y h1, sum_pick hn y h2, ih (fun y hy' => hy y (List.mem_cons_of_mem _ hy'))]
    unfold arr; rw [sme_cons]; grind
theorem AA_rhs {us : List Ed} (hu : ∀ x ∈ us, EdOk x) (s : Nat) : AA us s 8 = arr us (fun x => x.mu) s := by
  induction us with
  | nil => rfl
  | cons x us ih =>
    obtain ⟨h1, h2, -, -⟩ := hu x (List.mem_cons_self ..)
    unfold arr; rw [sme_cons]
    simp only [AA]; rw [ih (fun y hy => hu y (List.mem_cons_of_mem _ hy))]
    unfold ent arr; rw [dl_ne (a := 8) (b := x.t) (by omega), dl_ne (a := 8) (b := x.f) (by omega), dl_self]; grind

/-! what hangs together -/
def Rigid (us : List Ed) (l : List Nat) : Prop := ∀ y : Nat → Int, (∀ s, s ∉ l → y s = 0) → (∀ x ∈ us, y x.t = y x.f) → ∀ s, y s = 0
theorem Rigid.sub {us : List Ed} {l m : List Nat} (h : Rigid us l) (hs : ∀ s ∈ m, s ∈ l) : Rigid us m := fun y h0 h1 => h y (fun s hn => h0 s (fun q => hn (hs s q))) h1
theorem sme_sq_nonneg (us : List Ed) (g : Ed → Int) : 0 ≤ sme us (fun x => g x * g x) := by
  induction us with
  | nil => simp [sme_nil]
  | cons x us ih => rw [sme_cons]; have : 0 ≤ g x * g x := by rw [← Int.natAbs_mul_self]; omega
                    omega
theorem sme_sq_zero {us : List Ed} {g : Ed → Int} (h : sme us (fun x => g x * g x) = 0) : ∀ x ∈ us, g x = 0 := by
  induction us with
  | nil => intro x hx; cases hx
  | cons y us ih =>
    rw [sme_cons] at h
    have h1 := sme_sq_nonneg us g
    have h2 : 0 ≤ g y * g y := by rw [← Int.natAbs_mul_self]; omega
    intro x hx
    rcases List.mem_cons.1 hx with e | e
    · subst e
      have : g x * g x = 0 := by omega
      rcases Int.mul_eq_zero.1 this with q | q <;> exact q
    · exact ih (by omega) x e
theorem sme_sq_le {us : List Ed} {g : Ed → Int} : ∀ x ∈ us, g x * g x ≤ sme us (fun x => g x * g x) := by
  induction us with
  | nil => intro x hx; cases hx
  | cons y us ih =>
    have h1 := sme_sq_nonneg us g
    have h2 : 0 ≤ g y * g y := by rw [← Int.natAbs_mul_self]; omega
    intro x hx
    rw [sme_cons]
    rcases List.mem_cons.1 hx with e | e
    · subst e; omega
    · have := ih x e; omega

/-- what stands beside a row's entries in its expansion -/
def yv : (List Nat → Int) → List Nat → Nat → Int
  | _, [], _ => 0
  | f, c :: cs, x => if x = c then f cs else - yv (fun l => f (c :: l)) cs x
theorem yv_out : ∀ {cs : List Nat} {f : List Nat → Int} {x : Nat}, x ∉ cs → yv f cs x = 0
  | [], f, x, h => rfl
  | c :: cs, f, x, h => by
    rw [List.mem_cons, not_or] at h
    simp only [yv]; rw [if_neg h.1, yv_out h.2]; rfl
theorem ex_yv (r : Rw) : ∀ (cs : List Nat) (f : List Nat → Int), cs.Nodup → ex r f cs = (cs.map (fun c => r c * yv f cs c)).sum
  | [], f, h => rfl
  | c :: cs, f, h => by
    have hn := List.nodup_cons.1 h
    simp only [ex, List.map_cons, List.sum_cons]
    rw [ex_yv r cs _ hn.2]
    have e : (cs.map (fun d => r d * yv f (c :: cs) d)).sum = (cs.map (fun d => (-1) * (r d * yv (fun l => f (c :: l)) cs d))).sum := sum_congr (fun d hd => by
      simp only [yv]; rw [if_neg (fun q => hn.1 (by rw [← q]; exact hd))]; grind)
    rw [e, sum_mul]
    simp only [yv, if_true]; omega

/-- THE DETERMINANT IS POSITIVE -/
theorem det_pos {us : List Ed} : ∀ {l : List Nat}, l.Nodup → 8 ∉ l → Rigid us l → 0 < dt (l.map (AA us)) l
  | [], hn, h8, hr => by simp [dt]
  | s :: l, hn, h8, hr => by
    have hc := List.nodup_cons.1 hn
    have ih := det_pos hc.2 (fun q => h8 (List.mem_cons_of_mem _ q)) (hr.sub (fun x hx => List.mem_cons_of_mem _ hx))
    obtain ⟨y, hy⟩ : ∃ y, y = yv (dt (l.map (AA us))) (s :: l) := ⟨_, rfl⟩
    have ys : y s = dt (l.map (AA us)) l := by rw [hy]; simp [yv]
    have y0 : ∀ x, x ∉ s :: l → y x = 0 := fun x hx => by rw [hy]; exact yv_out hx
    have yin : ∀ x ∈ us, (x.t ∈ s :: l ∨ y x.t = 0) ∧ (x.f ∈ s :: l ∨ y x.f = 0) := fun x _ => ⟨(Classical.em _).imp_right (y0 _), (Classical.em _).imp_right (y0 _)⟩
    have row : ∀ r : Rw, dt (r :: l.map (AA us)) (s :: l) = ((s :: l).map (fun c => r c * y c)).sum := fun r => by rw [dt_cons, ex_yv r _ _ hn, ← hy]
    have at_ : ∀ i, arr us (fun x => y x.t - y x.f) i = dt (AA us i :: l.map (AA us)) (s :: l) := fun i => by rw [row, AA_sum hn h8 yin]
    have q1 : ((s :: l).map (fun i => y i * arr us (fun x => y x.t - y x.f) i)).sum = dt (l.map (AA us)) l * dt ((s :: l).map (AA us)) (s :: l) := by
      rw [List.map_cons, List.sum_cons, at_ s, ys, List.map_cons]
      have : (l.map (fun i => y i * arr us (fun x => y x.t - y x.f) i)).sum = (l.map (fun i => 0 * (0 : Int))).sum := sum_congr (fun i hi => by
        rw [at_ i, dt_mem (List.mem_map_of_mem hi)]; simp)
      rw [this, sum_mul]; omega
    rw [sum_arr hn yin] at q1
    have q2 := sme_sq_nonneg us (fun x => y x.t - y x.f)
    rcases Int.lt_or_eq_of_le q2 with q | q
    · rw [q1] at q
      exact Int.pos_of_mul_pos_right q ih
    · have := hr y y0 (fun x hx => by have := sme_sq_zero q.symm x hx; omega) s
      rw [ys] at this; omega

/-! the adjusted coordinates -/
def DD (us : List Ed) (l : List Nat) : Int := dt (l.map (AA us)) l
def XX (us : List Ed) (l : List Nat) (c : Nat) : Int := if c ∈ l then dt (l.map (AA us)) (l.map (pl 8 c)) else 0
/-- a network: its placed stations but 0, its placed legs -/
structure Nw (us : List Ed) (l : List Nat) : Prop where
  hn : l.Nodup
  h0 : 0 ∉ l
  h8 : ∀ s ∈ l, s < 8
  hu : ∀ x ∈ us, EdOk x
  hin : ∀ x ∈ us, (x.t = 0 ∨ x.t ∈ l) ∧ (x.f = 0 ∨ x.f ∈ l)
  hr : Rigid us l
/-- the residual, times the number of trees -/
def res (us : List Ed) (l : List Nat) (x : Ed) : Int := x.mu * DD us l - (XX us l x.t - XX us l x.f)
section
variable {us : List Ed} {l : List Nat}
theorem Nw.n8 (h : Nw us l) : 8 ∉ l := fun q => by have := h.h8 8 q; omega
theorem XX_out {c : Nat} (h : c ∉ l) : XX us l c = 0 := by simp [XX, h]
theorem Nw.ends (h : Nw us l) (y : Nat → Int) (h0 : y 0 = 0) : ∀ x ∈ us, (x.t ∈ l ∨ y x.t = 0) ∧ (x.f ∈ l ∨ y x.f = 0) := fun x hx => by
  obtain ⟨h1, h2⟩ := h.hin x hx
  exact ⟨h1.symm.imp_right (fun e => by rw [e]; exact h0), h2.symm.imp_right (fun e => by rw [e]; exact h0)⟩
theorem Nw.pos (h : Nw us l) : 0 < DD us l := det_pos h.hn h.n8 h.hr
theorem Nw.solves (h : Nw us l) {s : Nat} (hs : s ∈ l) : arr us (fun x => XX us l x.t - XX us l x.f) s = DD us l * arr us (fun x => x.mu) s := by
  rw [← AA_sum h.hn h.n8 (h.ends _ (XX_out h.h0)), ← AA_rhs h.hu]
  have c := cramer (rs := l.map (AA us)) (List.mem_map_of_mem hs : AA us s ∈ l.map (AA us)) h.hn 8
  have e : (l.map (fun c => AA us s c * XX us l c)).sum = (l.map (fun c => AA us s c * dt (l.map (AA us)) (l.map (pl 8 c)))).sum := sum_congr (fun c hc => by unfold XX; rw [if_pos hc])
  rw [e, c]; unfold DD; exact Int.mul_comm ..
theorem res_arr (s : Nat) : arr us (res us l) s = DD us l * arr us (fun x => x.mu) s - arr us (fun x => XX us l x.t - XX us l x.f) s := by
  have : arr us (res us l) s = sme us (fun x => DD us l * ((dl s x.t - dl s x.f) * x.mu) + (-1) * ((dl s x.t - dl s x.f) * (XX us l x.t - XX us l x.f))) := sme_congr (fun x _ => by unfold res; grind)
  rw [this, sme_lin]; show _ = DD us l * sme us (fun x => (dl s x.t - dl s x.f) * x.mu) - sme us (fun x => (dl s x.t - dl s x.f) * (XX us l x.t - XX us l x.f)); omega
theorem Nw.balanced (h : Nw us l) {s : Nat} (hs : s ∈ l) : arr us (res us l) s = 0 := by rw [res_arr, h.solves hs]; omega
theorem Nw.balanced_with (h : Nw us l) (z : Nat → Int) : sme us (fun x => (z x.t - z x.f) * res us l x) = 0 := by
  have hz : ∀ x ∈ us, (x.t ∈ l ∨ z x.t - z 0 = 0) ∧ (x.f ∈ l ∨ z x.f - z 0 = 0) := h.ends (fun s => z s - z 0) (by omega)
  have := sum_arr h.hn (z := fun s => z s - z 0) hz (res us l)
  have e : (l.map (fun s => (z s - z 0) * arr us (res us l) s)).sum = (l.map (fun s => 0 * (0 : Int))).sum := sum_congr (fun s hs => by rw [h.balanced hs]; simp)
  rw [e, sum_mul] at this
  have e2 : sme us (fun x => (z x.t - z x.f) * res us l x) = sme us (fun x => ((z x.t - z 0) - (z x.f - z 0)) * res us l x) := sme_congr (fun x _ => by congr 1; omega)
  rw [e2, ← this]; omega
/-- the residuals balance at the station 0 too -/
theorem Nw.balanced_all (h : Nw us l) (s : Nat) : arr us (res us l) s = 0 := by
  have := h.balanced_with (fun a => dl s a)
  exact this
/-- the residual of a leg that alone leads between two parts is 0 -/
theorem Nw.bridge (h : Nw us l) {a b : List Ed} {e : Ed} (hu : us = a ++ e :: b) (z : Nat → Bool) (hz : ∀ x ∈ a ++ b, z x.t = z x.f) (he : z e.t ≠ z e.f) : res us l e = 0 := by
  have := h.balanced_with (fun s => if z s = true then 1 else 0)
  obtain ⟨r, hr⟩ : ∃ r, r = res us l := ⟨_, rfl⟩
  rw [← hr] at this ⊢
  rw [hu] at this
  have sm0 : ∀ us : List Ed, (∀ x ∈ us, z x.t = z x.f) → sme us (fun x => ((if z x.t = true then 1 else 0) - (if z x.f = true then 1 else 0)) * r x) = 0 := by
    intro us
    induction us with
    | nil => intro _; rfl
    | cons x us ih => intro q; rw [sme_cons, ih (fun y hy => q y (List.mem_cons_of_mem _ hy)), q x (List.mem_cons_self ..)]; simp
  have app : ∀ (u v : List Ed) (g : Ed → Int), sme (u ++ v) g = sme u g + sme v g := by intro u v g; unfold sme; rw [List.map_append, List.sum_append]
  rw [app, sme_cons, sm0 a (fun x hx => hz x (List.mem_append_left _ hx)), sm0 b (fun x hx => hz x (List.mem_append_right _ hx))] at this
  cases h1 : z e.t <;> cases h2 : z e.f <;> simp [h1, h2] at this he ⊢ <;> omega
/-- the sum of the squares is not greater than that of the measures -/
theorem Nw.squares (h : Nw us l) : sme us (fun x => res us l x * res us l x) ≤ DD us l * DD us l * sme us (fun x => x.mu * x.mu) := by
  have b := h.balanced_with (XX us l)
  have q := sme_sq_nonneg us (fun x => XX us l x.t - XX us l x.f)
  have e1 : sme us (fun x => (x.mu * DD us l) * (x.mu * DD us l)) = DD us l * DD us l * sme us (fun x => x.mu * x.mu) := by
    have := sme_lin (DD us l * DD us l) 0 us (fun x => x.mu * x.mu) (fun _ => 0)
    have e0 : sme us (fun x => (x.mu * DD us l) * (x.mu * DD us l)) = sme us (fun x => DD us l * DD us l * (x.mu * x.mu) + 0 * 0) := sme_congr (fun x _ => by grind)
    rw [e0, this]; omega
  have e2 : sme us (fun x => (x.mu * DD us l) * (x.mu * DD us l)) = sme us (fun x => res us l x * res us l x) + (2 * sme us (fun x => (XX us l x.t - XX us l x.f) * res us l x) + sme us (fun x => (XX us l x.t - XX us l x.f) * (XX us l x.t - XX us l x.f))) := by
    have a1 := sme_lin 2 1 us (fun x => (XX us l x.t - XX us l x.f) * res us l x) (fun x => (XX us l x.t - XX us l x.f) * (XX us l x.t - XX us l x.f))
    have a2 := sme_lin 1 1 us (fun x => res us l x * res us l x) (fun x => 2 * ((XX us l x.t - XX us l x.f) * res us l x) + 1 * ((XX us l x.t - XX us l x.f) * (XX us l x.t - XX us l x.f)))
    rw [a1] at a2
    have e3 : sme us (fun x => (x.mu * DD us l) * (x.mu * DD us l)) = sme us (fun x => 1 * (res us l x * res us l x) + 1 * (2 * ((XX us l x.t - XX us l x.f) * res us l x) + 1 * ((XX us l x.t - XX us l x.f) * (XX us l x.t - XX us l x.f)))) := sme_congr (fun x _ => by unfold res; grind)
    rw [e3, a2]; omega
  rw [b] at e2
  omega
/-- other coordinates that solve the equations are the same -/
theorem Nw.only (h : Nw us l) {y : Nat → Int} (h0 : ∀ s, s ∉ l → y s = 0) (hy : ∀ s ∈ l, arr us (fun x => y x.t - y x.f) s = DD us l * arr us (fun x => x.mu) s) (s : Nat) : XX us l s = y s := by
  obtain ⟨d, hd⟩ : ∃ d : Nat → Int, d = fun s => XX us l s - y s := ⟨_, rfl⟩
  have d0 : ∀ s, s ∉ l → d s = 0 := fun s hs => by rw [hd]; show XX us l s - y s = 0; rw [XX_out hs, h0 s hs]; rfl
  have q1 := sum_arr h.hn (z := d) (h.ends d (d0 0 h.h0)) (fun x => d x.t - d x.f)
  have e : ∀ s ∈ l, arr us (fun x => d x.t - d x.f) s = 0 := fun s hs => by
    have a := h.solves hs
    have b := hy s hs
    have : arr us (fun x => d x.t - d x.f) s = sme us (fun x => 1 * ((dl s x.t - dl s x.f) * (XX us l x.t - XX us l x.f)) + (-1) * ((dl s x.t - dl s x.f) * (y x.t - y x.f))) := sme_congr (fun x _ => by rw [hd]; grind)
    rw [this, sme_lin]
    have a' : sme us (fun x => (dl s x.t - dl s x.f) * (XX us l x.t - XX us l x.f)) = DD us l * sme us (fun x => (dl s x.t - dl s x.f) * x.mu) := a
    have b' : sme us (fun x => (dl s x.t - dl s x.f) * (y x.t - y x.f)) = DD us l * sme us (fun x => (dl s x.t - dl s x.f) * x.mu) := b
    omega
  have e2 : (l.map (fun s => d s * arr us (fun x => d x.t - d x.f) s)).sum = (l.map (fun s => 0 * (0 : Int))).sum := sum_congr (fun s hs => by rw [e s hs]; simp)
  rw [e2, sum_mul] at q1
  have q2 := h.hr d d0 (fun x hx => by have := sme_sq_zero (g := fun x => d x.t - d x.f) (by omega) x hx; omega) s
  rw [hd] at q2
  have : XX us l s - y s = 0 := q2
  omega
/-- places that leave no residual -/
theorem Nw.places (h : Nw us l) {p : Nat → Int} (h0 : ∀ s, s ∉ l → p s = 0) (hp : ∀ x ∈ us, p x.t - p x.f = x.mu) (s : Nat) : XX us l s = DD us l * p s := by
  refine h.only (y := fun s => DD us l * p s) (fun s hs => by show DD us l * p s = 0; rw [h0 s hs]; simp) (fun s hs => ?_) s
  have : arr us (fun x => DD us l * p x.t - DD us l * p x.f) s = sme us (fun x => DD us l * ((dl s x.t - dl s x.f) * x.mu) + 0 * 0) := sme_congr (fun x hx => by rw [← hp x hx]; grind)
  rw [this, sme_lin]; show _ = DD us l * sme us (fun x => (dl s x.t - dl s x.f) * x.mu); omega
end
end Go.Proofs.YtnpghhpcloljeabGreatDoor.dt

namespace Go.Proofs.YtnpghhpcloljeabGreatDoor.dt
set_option linter.unusedVariables false

/-! other orders; rows that fix a station -/
theorem DD_perm {us : List Ed} {l m : List Nat} (h : l.Perm m) : DD us l = DD us m := by
  have := dt_perm (AA us) id h
  simpa [DD] using this
theorem XX_perm {us : List Ed} {l m : List Nat} (h : l.Perm m) (c : Nat) : XX us l c = XX us m c := by
  unfold XX
  by_cases q : c ∈ l
  · rw [if_pos q, if_pos (h.mem_iff.1 q)]; exact dt_perm (AA us) (pl 8 c) h
  · rw [if_neg q, if_neg (fun z => q (h.mem_iff.2 z))]

/-- the rows of all stations -/
def PR (us : List Ed) (l : List Nat) (s : Nat) : Rw := if s ∈ l then AA us s else fun c => dl c s
theorem rv_perm {l : List Nat} {n : Nat} (hn : l.Nodup) (h : ∀ s ∈ l, s < n) : (rv n).Perm ((rv n).filter (fun s => !decide (s ∈ l)) ++ l) := by
  have h1 : ((rv n).filter (fun s => decide (s ∈ l))).Perm l := by
    rw [List.perm_ext_iff_of_nodup ((rv_nodup n).filter _) hn]
    intro a
    rw [List.mem_filter, mem_rv, decide_eq_true_eq]
    exact ⟨fun q => q.2, fun q => ⟨h a q, q⟩⟩
  have h2 := List.filter_append_perm (fun s => !decide (s ∈ l)) (rv n)
  simp only [Bool.not_not] at h2
  exact h2.symm.trans (List.Perm.append_left _ h1)
theorem PR_fixed {us : List Ed} {l : List Nat} (hn : l.Nodup) (h8 : ∀ s ∈ l, s < 8) {f : Nat → Nat} (hf : ∀ s, s ∉ l → s < 8 → f s = s) (hi : ∀ s c, s ∉ l → s < 8 → c ≠ s → f c ≠ s) :
    dt ((rv 8).map (PR us l)) ((rv 8).map f) = dt (l.map (AA us)) (l.map f) := by
  rw [dt_perm (PR us l) f (rv_perm hn h8), dt_fixed]
  · exact dt_rows (fun i hi c _ => by unfold PR; rw [if_pos hi])
  · intro s hs
    have := List.mem_filter.1 hs
    have h1 : s ∉ l := by simpa using this.2
    rw [hf s h1 (mem_rv.1 this.1)]; unfold PR; rw [if_neg h1]; exact dl_self s
  · intro s hs c _ hc
    have := List.mem_filter.1 hs
    have h1 : s ∉ l := by simpa using this.2
    unfold PR; rw [if_neg h1]; exact dl_ne (hi s c h1 (mem_rv.1 this.1) hc)
  · rw [List.nodup_append]
    refine ⟨(rv_nodup 8).filter _, hn, ?_⟩
    intro a ha b hb e
    have := (List.mem_filter.1 ha).2
    rw [e] at this
    simp [hb] at this
theorem PR_DD {us : List Ed} {l : List Nat} (hn : l.Nodup) (h8 : ∀ s ∈ l, s < 8) : dt ((rv 8).map (PR us l)) (rv 8) = DD us l := by
  have := PR_fixed (us := us) hn h8 (f := id) (fun s _ _ => rfl) (fun s c _ _ h => h)
  simpa [DD] using this
theorem PR_XX {us : List Ed} {l : List Nat} (hn : l.Nodup) (h8 : ∀ s ∈ l, s < 8) {c : Nat} (hc : c < 8) : dt ((rv 8).map (PR us l)) ((rv 8).map (pl 8 c)) = XX us l c := by
  by_cases q : c ∈ l
  · unfold XX; rw [if_pos q]
    refine PR_fixed hn h8 (fun s h1 h2 => ?_) (fun s d h1 h2 h3 => ?_)
    · unfold pl; rw [if_neg (fun e => h1 (by rw [e]; exact q))]
    · unfold pl; split <;> omega
  · rw [XX_out q]
    obtain ⟨a, b, e⟩ := List.append_of_mem (mem_rv.2 hc)
    have p : (rv 8).Perm (c :: (a ++ b)) := by rw [e]; exact List.perm_middle
    rw [dt_perm (PR us l) (pl 8 c) p, List.map_cons, dt_cons]
    refine ex_zero (fun d hd => ?_)
    unfold PR; rw [if_neg q]
    refine dl_ne (fun z => ?_)
    obtain ⟨x, hx, e2⟩ := List.mem_map.1 hd
    unfold pl at e2
    split at e2 <;> omega
/-- the measures behind all columns, brought into a column's place -/
theorem dt_bring (rs : List Rw) (m c : Nat) : ∀ (u v : List Nat), dt rs (m :: (u ++ v)) = sg u.length * dt rs (u ++ m :: v) := by
  intro u v
  have key : ∀ (u : List Nat) (f : List Nat → Int), Alt f → f (m :: (u ++ v)) = sg u.length * f (u ++ m :: v) := by
    intro u
    induction u with
    | nil => intro f _; simp [sg_zero]
    | cons a u ih =>
      intro f hf
      have h1 := hf [] m a (u ++ v)
      have h2 := ih (fun l => f (a :: l)) (hf.cons a)
      simp only [List.nil_append, List.cons_append] at h1 h2 ⊢
      rw [h1, h2, List.length_cons, sg_succ]; grind
  exact key u _ (dt_alt rs)
theorem dt_place {rs : List Rw} {c : Nat} (hc : c < 8) : dt rs ((rv 8).map (pl 8 c)) = sg (7 - c) * dt rs (8 :: (rv 8).filter (fun x => x != c)) := by
  have h : ∀ c : Nat, c < 8 → ∃ u v : List Nat, (rv 8).map (pl 8 c) = u ++ 8 :: v ∧ (rv 8).filter (fun x => x != c) = u ++ v ∧ u.length = 7 - c := by
    intro c hc
    have : c = 0 ∨ c = 1 ∨ c = 2 ∨ c = 3 ∨ c = 4 ∨ c = 5 ∨ c = 6 ∨ c = 7 := by omega
    rcases this with e | e | e | e | e | e | e | e <;> subst e
    · exact ⟨[7, 6, 5, 4, 3, 2, 1], [], by decide, by decide, by decide⟩
    · exact ⟨[7, 6, 5, 4, 3, 2], [0], by decide, by decide, by decide⟩
    · exact ⟨[7, 6, 5, 4, 3], [1, 0], by decide, by decide, by decide⟩
    · exact ⟨[7, 6, 5, 4], [2, 1, 0], by decide, by decide, by decide⟩
    · exact ⟨[7, 6, 5], [3, 2, 1, 0], by decide, by decide, by decide⟩
    · exact ⟨[7, 6], [4, 3, 2, 1, 0], by decide, by decide, by decide⟩
    · exact ⟨[7], [5, 4, 3, 2, 1, 0], by decide, by decide, by decide⟩
    · exact ⟨[], [6, 5, 4, 3, 2, 1, 0], by decide, by decide, by decide⟩
  obtain ⟨u, v, h1, h2, h3⟩ := h c hc
  rw [h1, h2, dt_bring rs 8 c u v, h3, ← Int.mul_assoc, sg_sq]; omega

/-! a tree has one tree -/
inductive Tr : List Nat → List Ed → Prop
  | nil : Tr [] []
  | more {l : List Nat} {us : List Ed} {e : Ed} {p c : Nat} : Tr l us → (p = 0 ∨ p ∈ l) → c ≠ 0 → c ≠ 8 → p ≠ 8 → c ∉ l → (e.f = p ∧ e.t = c ∨ e.t = p ∧ e.f = c) → Tr (c :: l) (e :: us)
theorem Tr.ends {l : List Nat} {us : List Ed} (h : Tr l us) : ∀ x ∈ us, (x.t = 0 ∨ x.t ∈ l) ∧ (x.f = 0 ∨ x.f ∈ l) := by
  induction h with
  | nil => intro x hx; cases hx
  | more ht hp hc h8 hp8 hn he ih =>
    intro x hx
    rcases List.mem_cons.1 hx with q | q
    · subst q
      rcases he with ⟨e1, e2⟩ | ⟨e1, e2⟩ <;> rw [e1, e2]
      · exact ⟨.inr (List.mem_cons_self ..), hp.imp_right (List.mem_cons_of_mem _)⟩
      · exact ⟨hp.imp_right (List.mem_cons_of_mem _), .inr (List.mem_cons_self ..)⟩
    · exact ⟨(ih x q).1.imp_right (List.mem_cons_of_mem _), (ih x q).2.imp_right (List.mem_cons_of_mem _)⟩
theorem AA_away {us : List Ed} {s : Nat} (h : ∀ x ∈ us, s ≠ x.t ∧ s ≠ x.f) (c : Nat) : AA us s c = 0 := by
  induction us with
  | nil => rfl
  | cons x us ih =>
    simp only [AA]
    rw [ih (fun y hy => h y (List.mem_cons_of_mem _ hy))]
    unfold ent; rw [dl_ne (h x (List.mem_cons_self ..)).1, dl_ne (h x (List.mem_cons_self ..)).2]; simp
theorem AA_col {us : List Ed} {c : Nat} (h8 : c ≠ 8) (h : ∀ x ∈ us, c ≠ x.t ∧ c ≠ x.f) (s : Nat) : AA us s c = 0 := by
  induction us with
  | nil => rfl
  | cons x us ih =>
    simp only [AA]
    rw [ih (fun y hy => h y (List.mem_cons_of_mem _ hy))]
    unfold ent; rw [dl_ne (h x (List.mem_cons_self ..)).1, dl_ne (h x (List.mem_cons_self ..)).2, dl_ne h8]; simp
theorem dt_more {v : Rw} {R S : Nat → Rw} {cs : List Nat} : ∀ (l done : List Nat), (∀ i ∈ l, ∃ k : Int, ∀ c ∈ cs, R i c = S i c + k * v c) → dt (v :: (done.map S ++ l.map R)) cs = dt (v :: (done.map S ++ l.map S)) cs
  | [], done, h => rfl
  | i :: l, done, h => by
    obtain ⟨k, hk⟩ := h i (List.mem_cons_self ..)
    have e : ∀ T : Rw, dt (v :: (done.map S ++ T :: l.map R)) cs = sg (done.length + 1) * dt (T :: v :: (done.map S ++ l.map R)) cs := fun T => by
      have := dt_front (v :: done.map S) T (l.map R) cs
      simpa using this
    have e2 : dt (v :: (done.map S ++ R i :: l.map R)) cs = dt (v :: (done.map S ++ S i :: l.map R)) cs := by
      rw [e, e]
      have : dt (R i :: v :: (done.map S ++ l.map R)) cs = 1 * dt (S i :: v :: (done.map S ++ l.map R)) cs + k * dt (v :: v :: (done.map S ++ l.map R)) cs := by
        rw [← dt_head_lin]; exact dt_row (fun c hc => by rw [hk c hc]; omega)
      rw [this, dt_mem (List.mem_cons_self ..)]; simp
    have ih := dt_more l (done ++ [i]) (fun j hj => h j (List.mem_cons_of_mem _ hj))
    simp only [List.map_append, List.map_cons, List.map_nil, List.append_assoc, List.singleton_append] at ih
    rw [List.map_cons, List.map_cons, e2, ih]
theorem dt_col_zero {rs : List Rw} {c : Nat} {cs : List Nat} (h : ∀ r ∈ rs, r c = 0) : dt rs (c :: cs) = 0 := by
  rw [dt_col]
  have : ∀ (rs : List Rw) (g : Nat → Int), (∀ r ∈ rs, r c = 0) → sm g rs c = 0 := by
    intro rs
    induction rs with
    | nil => intro g _; rfl
    | cons r rs ih => intro g q; simp only [sm]; rw [q r (List.mem_cons_self ..), ih _ (fun s hs => q s (List.mem_cons_of_mem _ hs))]; simp
  exact this rs _ h
theorem Tr.one {l : List Nat} {us : List Ed} (h : Tr l us) : 8 ∉ l → DD us l = 1 := by
  induction h with
  | nil => intro _; rfl
  | @more l us e p c ht hp hc h8 hp8 hn he ih =>
    intro hm
    have hl8 : 8 ∉ l := fun q => hm (List.mem_cons_of_mem _ q)
    rw [← ih hl8]
    have away : ∀ x ∈ us, c ≠ x.t ∧ c ≠ x.f := fun x hx => by
      have := ht.ends x hx
      refine ⟨fun q => ?_, fun q => ?_⟩
      · rcases this.1 with z | z
        · exact hc (by rw [q, z])
        · exact hn (by rw [q]; exact z)
      · rcases this.2 with z | z
        · exact hc (by rw [q, z])
        · exact hn (by rw [q]; exact z)
    have hpc : p ≠ c := fun q => by
      rcases hp with z | z
      · exact hc (by rw [← q, z])
      · exact hn (by rw [← q]; exact z)
    have en : ∀ s j, j ≠ 8 → ent e s j = (dl s c - dl s p) * (dl j c - dl j p) := fun s j hj => by
      unfold ent; rw [dl_ne hj]
      rcases he with ⟨e1, e2⟩ | ⟨e1, e2⟩ <;> rw [e1, e2] <;> grind
    have rc : ∀ j, j ≠ 8 → AA (e :: us) c j = dl j c - dl j p := fun j hj => by
      simp only [AA]; rw [AA_away away, en c j hj, dl_self, dl_ne (fun q => hpc q.symm)]; omega
    unfold DD
    rw [List.map_cons]
    have k := dt_more (v := AA (e :: us) c) (R := AA (e :: us)) (S := AA us) (cs := c :: l) l [] (fun i hi => by
      refine ⟨-(dl i p), fun j hj => ?_⟩
      have j8 : j ≠ 8 := by
        rcases List.mem_cons.1 hj with q | q
        · omega
        · exact fun z => hl8 (by rw [← z]; exact q)
      rw [rc j j8]
      simp only [AA]; rw [en i j j8, dl_ne (fun q => hn (by rw [← q]; exact hi))]; grind)
    simp only [List.map_nil, List.nil_append] at k
    rw [k, dt_cons]
    simp only [ex]
    rw [rc c h8, dl_self, dl_ne (fun q => hpc q.symm)]
    have z : ex (AA (e :: us) c) (fun m => dt (l.map (AA us)) (c :: m)) l = 0 := by
      rw [ex_congr (g := fun _ => 0 * 0) (fun m _ _ => dt_col_zero (fun r hr => by
        obtain ⟨i, _, q⟩ := List.mem_map.1 hr
        rw [← q]; exact AA_col h8 away i)), ex_mul_f]; simp
    rw [z]; omega
end Go.Proofs.YtnpghhpcloljeabGreatDoor.dt
