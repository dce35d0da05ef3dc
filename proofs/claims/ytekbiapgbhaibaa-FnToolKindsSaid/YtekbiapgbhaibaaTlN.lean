/-
  The program's tools: limits, readings, the correction, the error of a check.
  Conditions: none but those that a theorem names.
-/
import Derived.Test.YtekbiapgbhaibaaTlD
import Derived.LoopTactic
namespace Go.Proofs.Ytekbiapgbhaibaa.tli
open Go.RowKit
open reads tl
set_option linter.unusedVariables false

/-- all numbers of a list lie within two others -/
def allIn (lo hi : Int) (xs : List Int) : Bool := xs.all fun x => decide (lo ≤ x) && decide (x ≤ hi)
/-- a list of numbers lies in a block -/
def IntsAt (w : World) (g : Nat) (xs : List Int) : Prop := ∀ k x, xs[k]? = some x → w.cell? ⟨g, k, none⟩ = some (.int .i64 x)
theorem allIn_take (lo hi : Int) (xs : List Int) (k : Nat) (x : Int) (hx : xs[k]? = some x) (h : allIn lo hi (xs.take k) = true) (h0 : lo ≤ x) (h1 : x ≤ hi) : allIn lo hi (xs.take (k + 1)) = true := by
  obtain ⟨hk, rfl⟩ := List.getElem?_eq_some_iff.1 hx
  unfold allIn at h ⊢
  rw [List.take_succ_eq_append_getElem hk, List.all_append, h]
  simp [h0, h1]
theorem allIn_out (lo hi : Int) (xs : List Int) (k : Nat) (x : Int) (hx : xs[k]? = some x) (h : x < lo ∨ hi < x) : allIn lo hi xs = false := by
  unfold allIn
  rw [List.all_eq_false]
  refine ⟨x, List.mem_of_getElem? hx, ?_⟩
  simp
  omega
theorem ret_bool {a b : Bool} (h : a = b) : Ending.returned (.bool a) = .returned (.bool b) := by rw [h]

set_option maxHeartbeats 1000000 in
set_option maxRecDepth 100000 in
theorem within_any (lo hi : Int) (g n c : Nat) (xs : List Int) (w : World) (hn : Hid (xs.length = n)) (hn8 : n ≤ 8) (hc : Hid (IntsAt w g xs)) :
    Calls Try.prog 61 #[.int .i64 lo, .int .i64 hi, .slice (some ⟨g, 0, none⟩) n c] w fun e w' => e = .returned (.bool (allIn lo hi xs)) ∧ w = w' := by
  go_enter Try.func61, Try.ntmps61
  go_wp2_with fail
  go_loop [11] (fun i => ∃ k : Nat, k ≤ n ∧ i = .int .i64 k ∧ Hid (allIn lo hi (xs.take k) = true)) (fun i => n - (intOf i).toNat)
  case atStart => exact ⟨0, Nat.zero_le _, rfl, Lib.hid (by simp [allIn])⟩
  case round =>
    obtain ⟨k, hk, rfl, HI⟩ := hrel
    by_cases hlt : k < n
    · obtain ⟨x, hx⟩ : ∃ x, xs[k]? = some x := ⟨_, List.getElem?_eq_getElem (by rw [hn.out]; exact hlt)⟩
      have hcell := hc.out k x hx
      have HX := Lib.hid hx
      clear hx
      by_cases h0 : lo ≤ x
      · have d0 : decide (x < lo) = false := by simpa using h0
        by_cases h1 : x ≤ hi
        · have d1 : decide (hi < x) = false := by simpa using h1
          go_wp2_with fail
          go_round
          case rel => exact ⟨k + 1, by omega, by go_num, Lib.hid (allIn_take lo hi xs k x HX.out HI.out h0 h1)⟩
          case measure => simp [intOf]; omega
        · have d1 : decide (hi < x) = true := by simpa using h1
          have HF := Lib.hid (allIn_out lo hi xs k x HX.out (by omega))
          go_wp2_with fail
          go_ret
          exact ⟨ret_bool HF.out.symm, rfl⟩
      · have d0 : decide (x < lo) = true := by simpa using h0
        have HF := Lib.hid (allIn_out lo hi xs k x HX.out (by omega))
        go_wp2_with fail
        go_ret
        exact ⟨ret_bool HF.out.symm, rfl⟩
    · have HF := Lib.hid (show allIn lo hi xs = true by have := HI.out; rwa [List.take_of_length_le (by rw [hn.out]; omega)] at this)
      go_wp2_with fail
      go_ret
      exact ⟨ret_bool HF.out.symm, rfl⟩

/-- a list of numbers that the call has made -/
theorem ints_new (w : World) (t : TypeId) (xs : List Int) : IntsAt (w.alloc (.cells (xs.map (Value.int .i64)).toArray t)) w.heap.size xs := by
  intro k x hx
  rw [(Blk.new w t _).cell k]
  simp [hx]
/-- one number within two others -/
theorem within_new (lo hi a : Int) (c : Nat) (t : TypeId) (b : Bool) (w : World) (g : Nat) (hg : w.heap.size = g) (hb : Hid (btw lo a hi = b)) :
    Calls Try.prog 61 #[.int .i64 lo, .int .i64 hi, .slice (some ⟨g, 0, none⟩) 1 c] (w.alloc (.cells #[.int .i64 a] t)) fun e w' => e = .returned (.bool b) ∧ w.alloc (.cells #[.int .i64 a] t) = w' := by
  subst hg
  have hb' : allIn lo hi [a] = b := by rw [← hb.out]; simp [allIn, btw]
  rw [← hb']
  exact within_any lo hi w.heap.size 1 c [a] _ (Lib.hid rfl) (by decide) (Lib.hid (ints_new w t [a]))

/-- the rounded quotient -/
theorem quot_pos (a b : Int) (w : World) (a0 : 0 ≤ a) (a1 : a ≤ 1000000000) (b0 : 1 ≤ b) (b1 : b ≤ 1000000) :
    Calls Try.prog 56 #[.int .i64 a, .int .i64 b] w fun e w' => e = .returned (.int .i64 (rdiv a b)) ∧ w = w' := by
  have HA := Lib.hid (show rdiv a b = (2 * a + b) / (2 * b) from if_neg (by omega))
  have q0 : 0 ≤ (2 * a + b) / (2 * b) := Int.ediv_nonneg (by omega) (by omega)
  have q1 : (2 * a + b) / (2 * b) ≤ 3000000000 := Int.le_trans (Int.ediv_le_self _ (by omega)) (by omega)
  have hb2 : ¬ 2 * b = 0 := by omega
  go_enter Try.func56, Try.ntmps56
  go_wp2_with fail
  go_ret
  exact ⟨by rw [HA.out]; rfl, rfl⟩
theorem quot_any (a b : Int) (w : World) (a0 : -1000000000 ≤ a) (a1 : a ≤ 1000000000) (b0 : 1 ≤ b) (b1 : b ≤ 1000000) :
    Calls Try.prog 56 #[.int .i64 a, .int .i64 b] w fun e w' => e = .returned (.int .i64 (rdiv a b)) ∧ w = w' := by
  by_cases h : a < 0
  · have HA := Lib.hid (rdiv_flip a b h)
    have hq := rdiv_bd (-a) b (by omega) (by omega) b0 b1
    go_enter Try.func56, Try.ntmps56
    go_wp2_with fail
    refine (quot_pos (-a) b _ (by omega) (by omega) b0 b1).mono ?_
    rintro e w' ⟨rfl, rfl⟩
    go_wp2_with fail
    go_ret
    exact ⟨by rw [HA.out]; rfl, rfl⟩
  · exact quot_pos a b w (by omega) a1 b0 b1
theorem quot_is (a b r : Int) (h : Hid (rdiv a b = r)) (w : World) (a0 : -1000000000 ≤ a) (a1 : a ≤ 1000000000) (b0 : 1 ≤ b) (b1 : b ≤ 1000000) :
    Calls Try.prog 56 #[.int .i64 a, .int .i64 b] w fun e w' => e = .returned (.int .i64 r) ∧ w = w' := by
  rw [← h.out]; exact quot_any a b w a0 a1 b0 b1
/-- the bearing with the direction of an angle -/
theorem bearingOf_is (d r : Int) (h : Hid (d % 360 = r)) (w : World) (h0 : -1000000 ≤ d) (h1 : d ≤ 1000000) :
    Calls Try.prog 57 #[.int .i64 d] w fun e w' => e = .returned (.int .i64 r) ∧ w = w' := by
  have ht0 : -360 < d.tmod 360 := Int.lt_tmod_of_pos d (by decide)
  have ht1 : d.tmod 360 < 360 := Int.tmod_lt_of_pos d (by decide)
  have HD := Lib.hid (show (d.tmod 360 + 360) % 360 = r by have := Int.tmod_def d 360; have := h.out; omega)
  clear h
  go_enter Try.func57, Try.ntmps57
  go_wp2_with fail
  go_ret
  exact ⟨by rw [← HD.out]; rfl, rfl⟩

/-- the bounds of a kind's readings -/
def rlo (k : Int) : Int := if k = 0 then 0 else if k = 1 then 0 else -90
def rhi (k : Int) : Int := if k = 0 then 1000 else if k = 1 then 359 else 90
theorem rdg_lim (k r : Int) : rdg k r = btw (rlo k) r (rhi k) := by
  unfold rdg rlo rhi
  split
  · rfl
  · split <;> rfl
theorem rlo_bd (k : Int) : -90 ≤ rlo k ∧ rlo k ≤ 0 ∧ 90 ≤ rhi k ∧ rhi k ≤ 1000 := by
  unfold rlo rhi
  split
  · simp
  · split <;> simp
theorem bounds_is (k lo hi : Int) (h0 : Hid (rlo k = lo)) (h1 : Hid (rhi k = hi)) (w : World) :
    Calls Try.prog 62 #[.int .i64 k] w fun e w' => e = .returned (.tuple #[.int .i64 lo, .int .i64 hi]) ∧ w = w' := by
  rw [← h0.out, ← h1.out]
  clear h0 h1
  by_cases k0 : k = 0
  · subst k0
    go_enter Try.func62, Try.ntmps62
    go_wp2_with fail
    go_ret2
    exact ⟨rfl, rfl⟩
  · by_cases k1 : k = 1
    · subst k1
      go_enter Try.func62, Try.ntmps62
      go_wp2_with fail
      go_ret2
      exact ⟨rfl, rfl⟩
    · have HL := Lib.hid (show rlo k = -90 by unfold rlo; rw [if_neg k0, if_neg k1])
      have HH := Lib.hid (show rhi k = 90 by unfold rhi; rw [if_neg k0, if_neg k1])
      have d0 : (k == 0) = false := by simpa using k0
      have d1 : (k == 1) = false := by simpa using k1
      go_enter Try.func62, Try.ntmps62
      go_wp2_with fail
      go_ret2
      exact ⟨by rw [HL.out, HH.out]; rfl, rfl⟩
theorem isReading_is (k r : Int) (t : Bool) (h : Hid (rdg k r = t)) (w : World) :
    Calls Try.prog 55 #[.int .i64 k, .int .i64 r] w (BPost t w) := by
  obtain ⟨lo, H0⟩ : ∃ lo, Hid (rlo k = lo) := ⟨_, Lib.hid rfl⟩
  obtain ⟨hi, H1⟩ : ∃ hi, Hid (rhi k = hi) := ⟨_, Lib.hid rfl⟩
  have HT := Lib.hid (show btw lo r hi = t by rw [← H0.out, ← H1.out, ← rdg_lim]; exact h.out)
  clear h
  go_enter Try.func55, Try.ntmps55
  go_wp2_with fail
  refine (bounds_is k lo hi H0 H1 _).mono ?_
  rintro e w' ⟨rfl, rfl⟩
  go_wp2_with fail
  refine (within_new lo hi r _ _ t _ _ rfl HT).mono ?_
  rintro e w' ⟨rfl, rfl⟩
  go_wp2_with fail
  go_ret
  exact ⟨rfl, (Below.refl _ _).alloc (Nat.le_refl _) _⟩
theorem signedTurn_is (d r : Int) (h : Hid ((d + 360 + 179) % 360 - 179 = r)) (w : World) (h0 : -1000 ≤ d) (h1 : d ≤ 1000) :
    Calls Try.prog 67 #[.int .i64 d] w fun e w' => e = .returned (.int .i64 r) ∧ w = w' := by
  obtain ⟨y, HY⟩ : ∃ y, Hid (d % 360 = y) := ⟨_, Lib.hid rfl⟩
  have hy : 0 ≤ y ∧ y < 360 := by rw [← HY.out]; omega
  by_cases c : 180 < y
  · have HR := Lib.hid (show y - 360 = r by rw [← h.out, ← HY.out]; have := HY.out; omega)
    clear h
    go_enter Try.func67, Try.ntmps67
    go_wp2_with fail
    refine (bearingOf_is d y HY _ (by omega) (by omega)).mono ?_
    rintro e w' ⟨rfl, rfl⟩
    go_wp2_with fail
    go_ret
    exact ⟨by rw [← HR.out]; rfl, rfl⟩
  · have HR := Lib.hid (show y = r by rw [← h.out, ← HY.out]; have := HY.out; omega)
    have cd : decide (180 < y) = false := by simpa using c
    clear h
    go_enter Try.func67, Try.ntmps67
    go_wp2_with fail
    refine (bearingOf_is d y HY _ (by omega) (by omega)).mono ?_
    rintro e w' ⟨rfl, rfl⟩
    go_wp2_with fail
    go_ret
    exact ⟨by rw [← HR.out]; rfl, rfl⟩

/-- a valid tool, asked as the program asks -/
theorem okT_alt (x : Tl) : okT x = (btw 1 x.id 99 && btw (-50) x.zero 50 && (if x.kind = 0 then btw 900 x.scale 1100 else if x.kind = 1 ∨ x.kind = 2 then x.scale == 1000 else false)) := by
  unfold okT
  rcases Int.lt_trichotomy x.kind 0 with h | h | h
  · rw [if_neg (by omega), if_neg (by omega)]
    have : btw 0 x.kind 2 = false := by simp [btw]; omega
    simp [this]
  · rw [if_pos h, h]
    simp [show btw 0 0 2 = true from rfl]
  · rw [if_neg (by omega)]
    by_cases c : x.kind = 1 ∨ x.kind = 2
    · rw [if_pos c]
      have : btw 0 x.kind 2 = true := by simp [btw]; omega
      have hz : (x.kind == 0) = false := by simp; omega
      simp only [this, hz, Bool.and_true, Bool.false_or]
      cases hs : (x.scale == 1000)
      · simp
      · have : x.scale = 1000 := by simpa using hs
        simp [this, btw]
    · rw [if_neg c]
      have : btw 0 x.kind 2 = false := by simp [btw]; omega
      simp [this]
set_option maxHeartbeats 1000000 in
theorem isTool_impl (x : Tl) (w : World) : Calls Try.prog 18 #[.agg #[.int .i64 x.id, .int .i64 x.kind, .int .i64 x.zero, .int .i64 x.scale]] w (BPost (okT x) w) := by
  obtain ⟨t1, H1⟩ : ∃ t, Hid (btw 1 x.id 99 = t) := ⟨_, Lib.hid rfl⟩
  obtain ⟨t2, H2⟩ : ∃ t, Hid (btw (-50) x.zero 50 = t) := ⟨_, Lib.hid rfl⟩
  obtain ⟨t3, H3⟩ : ∃ t, Hid (btw 900 x.scale 1100 = t) := ⟨_, Lib.hid rfl⟩
  obtain ⟨t4, H4⟩ : ∃ t, Hid ((x.scale == 1000) = t) := ⟨_, Lib.hid rfl⟩
  have HA := Lib.hid (okT_alt x)
  cases t1
  · have HR := Lib.hid (show okT x = false by rw [HA.out, H1.out]; rfl)
    go_enter Try.func18, Try.ntmps18
    go_wp2_with fail
    refine (within_new _ _ x.id _ _ false _ _ (by simp) H1).mono ?_
    rintro e w' ⟨rfl, rfl⟩
    go_wp2_with fail
    go_ret
    exact ⟨by rw [HR.out]; rfl, ((Below.refl _ _).alloc (Nat.le_refl _) _).alloc (by simp) _⟩
  cases t2
  · have HR := Lib.hid (show okT x = false by rw [HA.out, H1.out, H2.out]; rfl)
    go_enter Try.func18, Try.ntmps18
    go_wp2_with fail
    refine (within_new _ _ x.id _ _ true _ _ (by simp) H1).mono ?_
    rintro e w' ⟨rfl, rfl⟩
    go_wp2_with fail
    refine (within_new _ _ x.zero _ _ false _ _ (by simp) H2).mono ?_
    rintro e w' ⟨rfl, rfl⟩
    go_wp2_with fail
    go_ret
    exact ⟨by rw [HR.out]; rfl, (((Below.refl _ _).alloc (Nat.le_refl _) _).alloc (by simp) _).alloc (by simp; omega) _⟩
  by_cases k0 : x.kind = 0
  · have HR := Lib.hid (show okT x = t3 by rw [HA.out, H1.out, H2.out, if_pos k0, H3.out]; rfl)
    have d0 : (x.kind == 0) = true := by simpa using k0
    clear k0
    go_enter Try.func18, Try.ntmps18
    go_wp2_with fail
    refine (within_new _ _ x.id _ _ true _ _ (by simp) H1).mono ?_
    rintro e w' ⟨rfl, rfl⟩
    go_wp2_with fail
    refine (within_new _ _ x.zero _ _ true _ _ (by simp) H2).mono ?_
    rintro e w' ⟨rfl, rfl⟩
    go_wp2_with fail
    refine (within_new _ _ x.scale _ _ t3 _ _ (by simp) H3).mono ?_
    rintro e w' ⟨rfl, rfl⟩
    go_wp2_with fail
    go_ret
    exact ⟨by rw [HR.out]; rfl, ((((Below.refl _ _).alloc (Nat.le_refl _) _).alloc (by simp) _).alloc (by simp; omega) _).alloc (by simp; omega) _⟩
  have d0 : (x.kind == 0) = false := by simpa using k0
  by_cases k1 : x.kind = 1
  · have HR := Lib.hid (show okT x = t4 by rw [HA.out, H1.out, H2.out, if_neg k0, if_pos (Or.inl k1), H4.out]; rfl)
    have d1 : (x.kind == 1) = true := by simpa using k1
    have d4 := H4.out
    clear k0 k1
    go_enter Try.func18, Try.ntmps18
    go_wp2_with fail
    refine (within_new _ _ x.id _ _ true _ _ (by simp) H1).mono ?_
    rintro e w' ⟨rfl, rfl⟩
    go_wp2_with fail
    refine (within_new _ _ x.zero _ _ true _ _ (by simp) H2).mono ?_
    rintro e w' ⟨rfl, rfl⟩
    go_wp2_with fail
    go_ret
    exact ⟨by rw [HR.out]; rfl, (((Below.refl _ _).alloc (Nat.le_refl _) _).alloc (by simp) _).alloc (by simp; omega) _⟩
  have d1 : (x.kind == 1) = false := by simpa using k1
  by_cases k2 : x.kind = 2
  · have HR := Lib.hid (show okT x = t4 by rw [HA.out, H1.out, H2.out, if_neg k0, if_pos (Or.inr k2), H4.out]; rfl)
    have d2 : (x.kind == 2) = true := by simpa using k2
    have d4 := H4.out
    clear k0 k1 k2
    go_enter Try.func18, Try.ntmps18
    go_wp2_with fail
    refine (within_new _ _ x.id _ _ true _ _ (by simp) H1).mono ?_
    rintro e w' ⟨rfl, rfl⟩
    go_wp2_with fail
    refine (within_new _ _ x.zero _ _ true _ _ (by simp) H2).mono ?_
    rintro e w' ⟨rfl, rfl⟩
    go_wp2_with fail
    go_ret
    exact ⟨by rw [HR.out]; rfl, (((Below.refl _ _).alloc (Nat.le_refl _) _).alloc (by simp) _).alloc (by simp; omega) _⟩
  · have HR := Lib.hid (show okT x = false by rw [HA.out, H1.out, H2.out, if_neg k0, if_neg (by omega)]; rfl)
    have d2 : (x.kind == 2) = false := by simpa using k2
    clear k0 k1 k2
    go_enter Try.func18, Try.ntmps18
    go_wp2_with fail
    refine (within_new _ _ x.id _ _ true _ _ (by simp) H1).mono ?_
    rintro e w' ⟨rfl, rfl⟩
    go_wp2_with fail
    refine (within_new _ _ x.zero _ _ true _ _ (by simp) H2).mono ?_
    rintro e w' ⟨rfl, rfl⟩
    go_wp2_with fail
    go_ret
    exact ⟨by rw [HR.out]; rfl, (((Below.refl _ _).alloc (Nat.le_refl _) _).alloc (by simp) _).alloc (by simp; omega) _⟩
theorem isTool_is (x : Tl) (t : Bool) (h : Hid (okT x = t)) (w : World) : Calls Try.prog 18 #[.agg #[.int .i64 x.id, .int .i64 x.kind, .int .i64 x.zero, .int .i64 x.scale]] w (BPost t w) := by
  rw [← h.out]; exact isTool_impl x w
end Go.Proofs.Ytekbiapgbhaibaa.tli
