/-
  The program's best bearing and best slope.
  Conditions: the variable holds the table of the sines; else none but those that a theorem names.
-/
import Derived.Test.YtekbiapgbhaibabDoorAngT
import Derived.Test.YtekbiapgbhaibabDoorAngS
namespace Go.Proofs.YtekbiapgbhaibabDoor.angi
open Go.RowKit
open reads ang
set_option linter.unusedVariables false

/-- how an angle fits -/
def fitA (l u d : Int) : Int := l * cosZ d + u * sinZ d
theorem fitA_bd (l u d : Int) (l0 : -100000 ≤ l) (l1 : l ≤ 100000) (u0 : -100000 ≤ u) (u1 : u ≤ 100000) : -200000000 ≤ fitA l u d ∧ fitA l u d ≤ 200000000 := by
  have hs := sinZ_bd d
  have hc := cosZ_bd d
  have a := prod_bd l (cosZ d) l0 l1 hc.1 hc.2
  have b := prod_bd u (sinZ d) u0 u1 hs.1 hs.2
  unfold fitA
  omega
theorem fitOf_is (l u d v : Int) (h : Hid (fitA l u d = v)) (w : World) (l0 : -100000 ≤ l) (l1 : l ≤ 100000) (u0 : -100000 ≤ u) (u1 : u ≤ 100000) (d0 : -10000 ≤ d) (d1 : d ≤ 10000) (hT : Hid (Tab w)) :
    Calls Tryd.prog 65 #[.int .i64 l, .int .i64 u, .int .i64 d] w fun e w' => e = .returned (.int .i64 v) ∧ w = w' := by
  have hs := sinZ_bd d
  have hc := cosZ_bd d
  obtain ⟨a0, a1⟩ := prod_bd l (cosZ d) l0 l1 hc.1 hc.2
  obtain ⟨b0, b1⟩ := prod_bd u (sinZ d) u0 u1 hs.1 hs.2
  obtain ⟨sv, HS⟩ : ∃ v, Hid (sinZ d = v) := ⟨_, Lib.hid rfl⟩
  obtain ⟨cv, HC⟩ : ∃ v, Hid (cosZ d = v) := ⟨_, Lib.hid rfl⟩
  rw [HC.out] at a0 a1
  rw [HS.out] at b0 b1
  have HV := Lib.hid (show v = l * cv + u * sv by rw [← h.out, ← HS.out, ← HC.out]; rfl)
  clear hs hc
  go_enter Tryd.func65, Tryd.ntmps65
  go_wp2_with fail
  refine (cosineAt_is d cv HC _ (by omega) (by omega) hT).mono ?_
  rintro e w' ⟨rfl, rfl⟩
  go_wp2_with fail
  refine (sineAt_is d sv HS _ (by omega) (by omega) hT).mono ?_
  rintro e w' ⟨rfl, rfl⟩
  go_wp2_with fail
  go_ret
  exact ⟨by rw [HV.out]; rfl, rfl⟩

/-- the better one of two angles -/
def btr (l u b x : Int) : Int := if fitA l u b < fitA l u x then x else b
/-- the best one of an angle and a list -/
def btrs (l u b : Int) (xs : List Int) : Int := xs.foldl (btr l u) b
theorem btr_bd (l u b x : Int) (b0 : -1000 ≤ b ∧ b ≤ 1000) (x0 : -1000 ≤ x ∧ x ≤ 1000) : -1000 ≤ btr l u b x ∧ btr l u b x ≤ 1000 := by unfold btr; split <;> omega
theorem btrs_take (l u b : Int) (xs : List Int) (k : Nat) (x : Int) (hx : xs[k]? = some x) : btrs l u b (xs.take (k + 1)) = btr l u (btrs l u b (xs.take k)) x := by
  obtain ⟨hk, rfl⟩ := List.getElem?_eq_some_iff.1 hx
  unfold btrs
  rw [List.take_succ_eq_append_getElem hk, List.foldl_append]
  rfl

set_option maxHeartbeats 1000000 in
set_option maxRecDepth 100000 in
theorem better_any (l u b : Int) (g n c : Nat) (xs : List Int) (w : World) (hn : Hid (xs.length = n)) (hn8 : n ≤ 8) (hc : Hid (IntsAt w g xs)) (hx : Hid (∀ x ∈ xs, -1000 ≤ x ∧ x ≤ 1000))
    (l0 : -100000 ≤ l) (l1 : l ≤ 100000) (u0 : -100000 ≤ u) (u1 : u ≤ 100000) (b0 : -1000 ≤ b) (b1 : b ≤ 1000) (hT : Hid (Tab w)) :
    Calls Tryd.prog 58 #[.int .i64 l, .int .i64 u, .int .i64 b, .slice (some ⟨g, 0, none⟩) n c] w fun e w' => e = .returned (.int .i64 (btrs l u b xs)) ∧ w = w' := by
  go_enter Tryd.func58, Tryd.ntmps58
  go_wp2_with fail
  go_loop [2, 13] (fun v i => ∃ (k : Nat) (m : Int), k ≤ n ∧ i = .int .i64 k ∧ v = .int .i64 m ∧ -1000 ≤ m ∧ m ≤ 1000 ∧ Hid (btrs l u b (xs.take k) = m)) (fun _ i => n - (intOf i).toNat)
  case atStart => exact ⟨0, b, Nat.zero_le _, rfl, rfl, b0, b1, Lib.hid (by simp [btrs])⟩
  case round =>
    obtain ⟨k, m, hk, rfl, rfl, m0, m1, HM⟩ := hrel
    by_cases hlt : k < n
    · obtain ⟨x, hxk⟩ : ∃ x, xs[k]? = some x := ⟨_, List.getElem?_eq_getElem (by rw [hn.out]; exact hlt)⟩
      have hcell := hc.out k x hxk
      obtain ⟨x0, x1⟩ := hx.out x (List.mem_of_getElem? hxk)
      have HK := Lib.hid (btrs_take l u b xs k x hxk)
      clear hxk
      rw [HM.out] at HK
      have f0 := fitA_bd l u x l0 l1 u0 u1
      have f1 := fitA_bd l u m l0 l1 u0 u1
      obtain ⟨p, HP⟩ : ∃ v, Hid (fitA l u x = v) := ⟨_, Lib.hid rfl⟩
      obtain ⟨q, HQ⟩ : ∃ v, Hid (fitA l u m = v) := ⟨_, Lib.hid rfl⟩
      rw [HP.out] at f0
      rw [HQ.out] at f1
      go_wp2_with fail
      refine (fitOf_is l u x p HP _ l0 l1 u0 u1 (by omega) (by omega) hT).mono ?_
      rintro e w' ⟨rfl, rfl⟩
      go_wp2_with fail
      refine (fitOf_is l u m q HQ _ l0 l1 u0 u1 (by omega) (by omega) hT).mono ?_
      rintro e w' ⟨rfl, rfl⟩
      by_cases hgt : q < p
      · have HR := Lib.hid (show btrs l u b (xs.take (k + 1)) = x by rw [HK.out]; unfold btr; rw [HP.out, HQ.out, if_pos hgt])
        go_wp2_with fail
        go_round
        case rel => exact ⟨k + 1, x, by omega, by go_num, rfl, x0, x1, HR⟩
        case measure => simp [intOf]; omega
      · have HR := Lib.hid (show btrs l u b (xs.take (k + 1)) = m by rw [HK.out]; unfold btr; rw [HP.out, HQ.out, if_neg hgt])
        go_wp2_with fail
        go_round
        case rel => exact ⟨k + 1, m, by omega, by go_num, rfl, m0, m1, HR⟩
        case measure => simp [intOf]; omega
    · have HF := Lib.hid (show btrs l u b xs = m by have := HM.out; rwa [List.take_of_length_le (by rw [hn.out]; omega)] at this)
      go_wp2_with fail
      go_ret
      exact ⟨by rw [HF.out]; rfl, rfl⟩
theorem better_new (l u b : Int) (c : Nat) (xs : List Int) (n : Nat) (t : TypeId) (cs : Array Value) (v : Int) (w : World) (g : Nat) (hg : w.heap.size = g) (hn : xs.length = n) (hn8 : n ≤ 8) (hcs : cs = (xs.map (Value.int .i64)).toArray)
    (hx : ∀ x ∈ xs, -1000 ≤ x ∧ x ≤ 1000) (l0 : -100000 ≤ l) (l1 : l ≤ 100000) (u0 : -100000 ≤ u) (u1 : u ≤ 100000) (b0 : -1000 ≤ b) (b1 : b ≤ 1000) (hT : Hid (Tab w)) (hv : Hid (btrs l u b xs = v)) :
    Calls Tryd.prog 58 #[.int .i64 l, .int .i64 u, .int .i64 b, .slice (some ⟨g, 0, none⟩) n c] (w.alloc (.cells cs t)) fun e w' => e = .returned (.int .i64 v) ∧ w.alloc (.cells cs t) = w' := by
  subst hcs hg
  rw [← hv.out]
  exact better_any l u b w.heap.size n c xs _ (Lib.hid hn) hn8 (Lib.hid (ints_new w t xs)) (Lib.hid hx) l0 l1 u0 u1 b0 b1 (Lib.hid (hT.out.alloc _))

theorem fit_bearing (e n : Int) (b : Nat) : fitA n e b = fitB e n b := by unfold fitA fitB; omega
theorem best_step (e n : Int) (k : Nat) : btrs n e (bst (fitB e n) (k - 1) : Nat) [(k : Int)] = (bst (fitB e n) (k + 1 - 1) : Nat) := by
  show btr n e _ _ = _
  unfold btr
  rw [fit_bearing, fit_bearing]
  cases k with
  | zero => simp [bst]
  | succ j =>
    show (if fitB e n (bst (fitB e n) j) < fitB e n (j + 1) then _ else _) = ((bst (fitB e n) (j + 1) : Nat) : Int)
    rw [bst]
    split <;> rfl

set_option maxHeartbeats 4000000 in
set_option maxRecDepth 100000 in
theorem bearing_go (e n : Int) (w : World) (e0 : -100000 ≤ e) (e1 : e ≤ 100000) (n0 : -100000 ≤ n) (n1 : n ≤ 100000) (hz : Hid (¬ (e = 0 ∧ n = 0))) (hT : Hid (Tab w)) :
    Calls Tryd.prog 30 #[.int .i64 e, .int .i64 n] w (APost (.tuple #[.int .i64 (bestB e n), .bool true]) w) := by
  have H1 := Lib.hid (decide_eq_true (show (-100000 ≤ e ∧ e ≤ 100000) ∧ (-100000 ≤ n ∧ n ≤ 100000) from ⟨⟨e0, e1⟩, n0, n1⟩))
  by_cases c : e = 0
  · have d1 : (e == 0) = true := by simpa using c
    have d2 : (n == 0) = false := by have := hz.out; simp; omega
    clear c
    go_enter Tryd.func30, Tryd.ntmps30
    go_wp2_with fail
    refine (lengths_new _ [e, n] _ _ _ true _ _ rfl rfl (by simp) rfl (all2 H1.out)).mono ?_
    rintro r w' ⟨rfl, rfl⟩
    go_wp2_with fail
    go_loopw [6, 21] (fun v i wr => ∃ (k m : Nat), k ≤ 360 ∧ i = .int .i64 k ∧ v = .int .i64 m ∧ m ≤ 359 ∧ Hid (bst (fitB e n) (k - 1) = m) ∧ Below w.heap.size w wr) (fun _ i _ => 360 - (intOf i).toNat)
    case atStart => exact ⟨0, 0, by decide, rfl, rfl, by decide, Lib.hid rfl, (Below.refl _ _).alloc (Nat.le_refl _) _⟩
    case round =>
      obtain ⟨k, m, hk, rfl, rfl, hm, HM, hB⟩ := hrel
      have HT := Lib.hid (hT.out.below hB)
      have HB := Lib.hid hB
      clear hB
      by_cases hlt : k < 360
      · obtain ⟨m', HR⟩ : ∃ m' : Nat, Hid (bst (fitB e n) (k + 1 - 1) = m') := ⟨_, Lib.hid rfl⟩
        have HV := Lib.hid (show btrs n e m [(k : Int)] = (m' : Int) by rw [← HM.out, ← HR.out]; exact best_step e n k)
        have hm' : m' ≤ 359 := by rw [← HR.out]; have := bst_le (fitB e n) (k + 1 - 1); omega
        go_wp2_with fail
        refine (better_new n e m _ [(k : Int)] _ _ _ m' _ _ rfl rfl (by simp) rfl (by simp; omega) n0 n1 e0 e1 (by omega) (by omega) HT HV).mono ?_
        rintro r w' ⟨rfl, rfl⟩
        go_wp2_with fail
        go_roundw
        case rel => exact ⟨k + 1, m', by omega, by go_num, rfl, hm', HR, HB.out.alloc HB.out.size _⟩
        case measure => simp [intOf]; omega
      · have HE := Lib.hid (show bestB e n = m by rw [← HM.out, bestB]; congr 1; omega)
        go_wp2_with fail
        go_ret2
        exact ⟨by rw [HE.out]; rfl, HB.out⟩
  · have d1 : (e == 0) = false := by simpa using c
    clear c
    go_enter Tryd.func30, Tryd.ntmps30
    go_wp2_with fail
    refine (lengths_new _ [e, n] _ _ _ true _ _ rfl rfl (by simp) rfl (all2 H1.out)).mono ?_
    rintro r w' ⟨rfl, rfl⟩
    go_wp2_with fail
    go_loopw [6, 21] (fun v i wr => ∃ (k m : Nat), k ≤ 360 ∧ i = .int .i64 k ∧ v = .int .i64 m ∧ m ≤ 359 ∧ Hid (bst (fitB e n) (k - 1) = m) ∧ Below w.heap.size w wr) (fun _ i _ => 360 - (intOf i).toNat)
    case atStart => exact ⟨0, 0, by decide, rfl, rfl, by decide, Lib.hid rfl, (Below.refl _ _).alloc (Nat.le_refl _) _⟩
    case round =>
      obtain ⟨k, m, hk, rfl, rfl, hm, HM, hB⟩ := hrel
      have HT := Lib.hid (hT.out.below hB)
      have HB := Lib.hid hB
      clear hB
      by_cases hlt : k < 360
      · obtain ⟨m', HR⟩ : ∃ m' : Nat, Hid (bst (fitB e n) (k + 1 - 1) = m') := ⟨_, Lib.hid rfl⟩
        have HV := Lib.hid (show btrs n e m [(k : Int)] = (m' : Int) by rw [← HM.out, ← HR.out]; exact best_step e n k)
        have hm' : m' ≤ 359 := by rw [← HR.out]; have := bst_le (fitB e n) (k + 1 - 1); omega
        go_wp2_with fail
        refine (better_new n e m _ [(k : Int)] _ _ _ m' _ _ rfl rfl (by simp) rfl (by simp; omega) n0 n1 e0 e1 (by omega) (by omega) HT HV).mono ?_
        rintro r w' ⟨rfl, rfl⟩
        go_wp2_with fail
        go_roundw
        case rel => exact ⟨k + 1, m', by omega, by go_num, rfl, hm', HR, HB.out.alloc HB.out.size _⟩
        case measure => simp [intOf]; omega
      · have HE := Lib.hid (show bestB e n = m by rw [← HM.out, bestB]; congr 1; omega)
        go_wp2_with fail
        go_ret2
        exact ⟨by rw [HE.out]; rfl, HB.out⟩

theorem bearingTo_impl (e n : Int) (w : World) (hT : Hid (Tab w)) : Calls Tryd.prog 30 #[.int .i64 e, .int .i64 n] w (APost (ansBearing e n) w) := by
  by_cases h : (-100000 ≤ e ∧ e ≤ 100000) ∧ (-100000 ≤ n ∧ n ≤ 100000)
  · by_cases z : e = 0 ∧ n = 0
    · rw [show ansBearing e n = .tuple #[.int .i64 0, .bool false] from if_neg (fun c => c.2.2 z)]
      have H1 := Lib.hid (decide_eq_true h)
      have d1 : (e == 0) = true := by simpa using z.1
      have d2 : (n == 0) = true := by simpa using z.2
      clear h z
      go_enter Tryd.func30, Tryd.ntmps30
      go_wp2_with fail
      refine (lengths_new _ [e, n] _ _ _ true _ _ rfl rfl (by simp) rfl (all2 H1.out)).mono ?_
      rintro r w' ⟨rfl, rfl⟩
      go_wp2_with fail
      go_ret2
      exact ⟨rfl, (Below.refl _ _).alloc (Nat.le_refl _) _⟩
    · rw [show ansBearing e n = .tuple #[.int .i64 (bestB e n), .bool true] from if_pos ⟨h.1, h.2, z⟩]
      exact bearing_go e n w h.1.1 h.1.2 h.2.1 h.2.2 (Lib.hid z) hT
  · rw [show ansBearing e n = .tuple #[.int .i64 0, .bool false] from if_neg (fun c => h ⟨c.1, c.2.1⟩)]
    have H1 := Lib.hid (decide_eq_false h)
    clear h
    go_enter Tryd.func30, Tryd.ntmps30
    go_wp2_with fail
    refine (lengths_new _ [e, n] _ _ _ false _ _ rfl rfl (by simp) rfl (all2 H1.out)).mono ?_
    rintro r w' ⟨rfl, rfl⟩
    go_wp2_with fail
    go_ret2
    exact ⟨rfl, (Below.refl _ _).alloc (Nat.le_refl _) _⟩

theorem fit_slope (l u : Int) (i : Nat) : fitA l u (cand i) = fitS l u i := rfl
theorem slope_step (l u : Int) (j : Nat) (h : 1 ≤ j) : btrs l u (cand (bst (fitS l u) (2 * (j - 1)))) [(j : Int), -(j : Int)] = cand (bst (fitS l u) (2 * (j + 1 - 1))) := by
  have a := cand_odd j h
  have b := cand_even j h
  have e2 : 2 * (j + 1 - 1) = 2 * (j - 1) + 2 := by omega
  rw [e2]
  generalize 2 * (j - 1) = i at a b
  show btr l u (btr l u _ _) _ = _
  rw [← b, ← a, show bst (fitS l u) (i + 2) = if fitS l u (bst (fitS l u) (i + 1)) < fitS l u (i + 2) then i + 2 else bst (fitS l u) (i + 1) from rfl]
  have s1 : btr l u (cand (bst (fitS l u) i)) (cand (i + 1)) = cand (bst (fitS l u) (i + 1)) := by
    unfold btr
    rw [fit_slope, fit_slope, show bst (fitS l u) (i + 1) = if fitS l u (bst (fitS l u) i) < fitS l u (i + 1) then i + 1 else bst (fitS l u) i from rfl]
    split <;> rfl
  rw [s1]
  unfold btr
  rw [fit_slope, fit_slope]
  split <;> rfl

set_option maxHeartbeats 4000000 in
set_option maxRecDepth 100000 in
theorem slope_go (l u : Int) (w : World) (l0 : 0 ≤ l) (l1 : l ≤ 100000) (u0 : -100000 ≤ u) (u1 : u ≤ 100000) (hz : Hid (¬ (l = 0 ∧ u = 0))) (hT : Hid (Tab w)) :
    Calls Tryd.prog 33 #[.int .i64 l, .int .i64 u] w (APost (.tuple #[.int .i64 (bestS l u), .bool true]) w) := by
  have H1 := Lib.hid (decide_eq_true (show (-100000 ≤ l ∧ l ≤ 100000) ∧ (-100000 ≤ u ∧ u ≤ 100000) from ⟨⟨by omega, l1⟩, u0, u1⟩))
  by_cases c : l = 0
  · have d1 : (l == 0) = true := by simpa using c
    have d2 : (u == 0) = false := by have := hz.out; simp; omega
    clear c
    go_enter Tryd.func33, Tryd.ntmps33
    go_wp2_with fail
    refine (lengths_new _ [l, u] _ _ _ true _ _ rfl rfl (by simp) rfl (all2 H1.out)).mono ?_
    rintro r w' ⟨rfl, rfl⟩
    go_wp2_with fail
    go_loopw [6, 7] (fun v s wr => ∃ (j : Nat) (m : Int), 1 ≤ j ∧ j ≤ 91 ∧ s = .int .i64 j ∧ v = .int .i64 m ∧ -90 ≤ m ∧ m ≤ 90 ∧ Hid (cand (bst (fitS l u) (2 * (j - 1))) = m) ∧ Below w.heap.size w wr) (fun _ s _ => 91 - (intOf s).toNat)
    case atStart => exact ⟨1, 0, Nat.le_refl _, by decide, rfl, rfl, by decide, by decide, Lib.hid (by simp [bst, cand]), (Below.refl _ _).alloc (Nat.le_refl _) _⟩
    case round =>
      obtain ⟨j, m, j1, j2, rfl, rfl, m0, m1, HM, hB⟩ := hrel
      have HT := Lib.hid (hT.out.below hB)
      have HB := Lib.hid hB
      clear hB
      by_cases hlt : j < 91
      · have hj90 : (j : Int) ≤ 90 := by omega
        have hjn : j ≤ 90 := by omega
        have hjd : decide ((j : Int) ≤ 90) = true := by simpa using hj90
        have hjd2 : decide (j ≤ 90) = true := by simpa using hjn
        obtain ⟨m', HR⟩ : ∃ m' : Int, Hid (cand (bst (fitS l u) (2 * (j + 1 - 1))) = m') := ⟨_, Lib.hid rfl⟩
        have HV := Lib.hid (show btrs l u m [(j : Int), -(j : Int)] = m' by rw [← HM.out, ← HR.out]; exact slope_step l u j j1)
        obtain ⟨m2, m3⟩ : -90 ≤ m' ∧ m' ≤ 90 := by rw [← HR.out]; exact cand_bd _ (by have := bst_le (fitS l u) (2 * (j + 1 - 1)); omega)
        go_wp2_with fail
        refine (better_new l u m _ [(j : Int), -(j : Int)] _ _ _ m' _ _ rfl rfl (by simp) rfl (by simp; omega) (by omega) l1 u0 u1 (by omega) (by omega) HT HV).mono ?_
        rintro r w' ⟨rfl, rfl⟩
        go_wp2_with fail
        go_roundw
        case rel => exact ⟨j + 1, m', by omega, by omega, by go_num, rfl, m2, m3, HR, HB.out.alloc HB.out.size _⟩
        case measure => simp [intOf]; omega
      · have hjd : decide ((j : Int) ≤ 90) = false := by simp; omega
        have hjd2 : decide (j ≤ 90) = false := by simp; omega
        have HE := Lib.hid (show bestS l u = m by rw [← HM.out, bestS, show 2 * (j - 1) = 180 by omega])
        go_wp2_with fail
        go_ret2
        exact ⟨by rw [HE.out]; rfl, HB.out⟩
  · have d1 : (l == 0) = false := by simpa using c
    clear c
    go_enter Tryd.func33, Tryd.ntmps33
    go_wp2_with fail
    refine (lengths_new _ [l, u] _ _ _ true _ _ rfl rfl (by simp) rfl (all2 H1.out)).mono ?_
    rintro r w' ⟨rfl, rfl⟩
    go_wp2_with fail
    go_loopw [6, 7] (fun v s wr => ∃ (j : Nat) (m : Int), 1 ≤ j ∧ j ≤ 91 ∧ s = .int .i64 j ∧ v = .int .i64 m ∧ -90 ≤ m ∧ m ≤ 90 ∧ Hid (cand (bst (fitS l u) (2 * (j - 1))) = m) ∧ Below w.heap.size w wr) (fun _ s _ => 91 - (intOf s).toNat)
    case atStart => exact ⟨1, 0, Nat.le_refl _, by decide, rfl, rfl, by decide, by decide, Lib.hid (by simp [bst, cand]), (Below.refl _ _).alloc (Nat.le_refl _) _⟩
    case round =>
      obtain ⟨j, m, j1, j2, rfl, rfl, m0, m1, HM, hB⟩ := hrel
      have HT := Lib.hid (hT.out.below hB)
      have HB := Lib.hid hB
      clear hB
      by_cases hlt : j < 91
      · have hj90 : (j : Int) ≤ 90 := by omega
        have hjn : j ≤ 90 := by omega
        have hjd : decide ((j : Int) ≤ 90) = true := by simpa using hj90
        have hjd2 : decide (j ≤ 90) = true := by simpa using hjn
        obtain ⟨m', HR⟩ : ∃ m' : Int, Hid (cand (bst (fitS l u) (2 * (j + 1 - 1))) = m') := ⟨_, Lib.hid rfl⟩
        have HV := Lib.hid (show btrs l u m [(j : Int), -(j : Int)] = m' by rw [← HM.out, ← HR.out]; exact slope_step l u j j1)
        obtain ⟨m2, m3⟩ : -90 ≤ m' ∧ m' ≤ 90 := by rw [← HR.out]; exact cand_bd _ (by have := bst_le (fitS l u) (2 * (j + 1 - 1)); omega)
        go_wp2_with fail
        refine (better_new l u m _ [(j : Int), -(j : Int)] _ _ _ m' _ _ rfl rfl (by simp) rfl (by simp; omega) (by omega) l1 u0 u1 (by omega) (by omega) HT HV).mono ?_
        rintro r w' ⟨rfl, rfl⟩
        go_wp2_with fail
        go_roundw
        case rel => exact ⟨j + 1, m', by omega, by omega, by go_num, rfl, m2, m3, HR, HB.out.alloc HB.out.size _⟩
        case measure => simp [intOf]; omega
      · have hjd : decide ((j : Int) ≤ 90) = false := by simp; omega
        have hjd2 : decide (j ≤ 90) = false := by simp; omega
        have HE := Lib.hid (show bestS l u = m by rw [← HM.out, bestS, show 2 * (j - 1) = 180 by omega])
        go_wp2_with fail
        go_ret2
        exact ⟨by rw [HE.out]; rfl, HB.out⟩

theorem slopeTo_impl (l u : Int) (w : World) (hT : Hid (Tab w)) : Calls Tryd.prog 33 #[.int .i64 l, .int .i64 u] w (APost (ansSlope l u) w) := by
  by_cases h : (-100000 ≤ l ∧ l ≤ 100000) ∧ (-100000 ≤ u ∧ u ≤ 100000)
  · by_cases z : 0 ≤ l
    · by_cases y : l = 0 ∧ u = 0
      · rw [show ansSlope l u = .tuple #[.int .i64 0, .bool false] from if_neg (fun c => c.2.2 y)]
        have H1 := Lib.hid (decide_eq_true h)
        have d1 : (l == 0) = true := by simpa using y.1
        have d2 : (u == 0) = true := by simpa using y.2
        clear h y
        go_enter Tryd.func33, Tryd.ntmps33
        go_wp2_with fail
        refine (lengths_new _ [l, u] _ _ _ true _ _ rfl rfl (by simp) rfl (all2 H1.out)).mono ?_
        rintro r w' ⟨rfl, rfl⟩
        go_wp2_with fail
        go_ret2
        exact ⟨rfl, (Below.refl _ _).alloc (Nat.le_refl _) _⟩
      · rw [show ansSlope l u = .tuple #[.int .i64 (bestS l u), .bool true] from if_pos ⟨⟨z, h.1.2⟩, h.2, y⟩]
        exact slope_go l u w z h.1.2 h.2.1 h.2.2 (Lib.hid y) hT
    · rw [show ansSlope l u = .tuple #[.int .i64 0, .bool false] from if_neg (fun c => z c.1.1)]
      have H1 := Lib.hid (decide_eq_true h)
      have d1 : decide (l < 0) = true := by simpa using z
      clear h
      go_enter Tryd.func33, Tryd.ntmps33
      go_wp2_with fail
      refine (lengths_new _ [l, u] _ _ _ true _ _ rfl rfl (by simp) rfl (all2 H1.out)).mono ?_
      rintro r w' ⟨rfl, rfl⟩
      go_wp2_with fail
      go_ret2
      exact ⟨rfl, (Below.refl _ _).alloc (Nat.le_refl _) _⟩
  · rw [show ansSlope l u = .tuple #[.int .i64 0, .bool false] from if_neg (fun c => h ⟨⟨by have := c.1.1; omega, c.1.2⟩, c.2.1⟩)]
    have H1 := Lib.hid (decide_eq_false h)
    clear h
    go_enter Tryd.func33, Tryd.ntmps33
    go_wp2_with fail
    refine (lengths_new _ [l, u] _ _ _ false _ _ rfl rfl (by simp) rfl (all2 H1.out)).mono ?_
    rintro r w' ⟨rfl, rfl⟩
    go_wp2_with fail
    go_ret2
    exact ⟨rfl, (Below.refl _ _).alloc (Nat.le_refl _) _⟩
end Go.Proofs.YtekbiapgbhaibabDoor.angi
