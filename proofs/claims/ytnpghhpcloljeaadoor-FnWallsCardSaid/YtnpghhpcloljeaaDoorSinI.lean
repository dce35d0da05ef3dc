/-
  The program's sines: the table that is a package-level variable, the sine and the cosine of any angle, PartOf.
  Conditions: the variable holds the table; else none but those that a theorem names.
-/
import Derived.Test.YtnpghhpcloljeaaDoorSin
import Derived.Test.YtnpghhpcloljeaaDoorWin
import Derived.Test.YtnpghhpcloljeaaDoorBear
import Derived.Lib.LaidTab
import Derived.WalkSmall
namespace Go.Proofs.YtnpghhpcloljeaaDoor.win
open Go.RowKit
open reads base sn
set_option linter.unusedVariables false
set_option linter.unusedSimpArgs false

theorem gTab : Tryd.prog.globalNamed "loop.example/g00933/impl.sines" = some 0 := by kernel_rfl
/-- the variable holds the table -/
def Tab (w : World) : Prop := Lib.TabIs Tryd.prog w "loop.example/g00933/impl.sines" .i64 tbl
theorem var_lt {w : World} {n : String} {g : Nat} {cs : Array Value} (hg : Tryd.prog.globalNamed n = some g) (h : w.var? Tryd.prog n = some cs) : g < w.heap.size := by
  rcases Nat.lt_or_ge g w.heap.size with hlt | hge
  · exact hlt
  · unfold World.var? at h
    simp only [hg, Option.bind_some, Array.getElem?_eq_none hge] at h
    simp at h
theorem Tab.below {w w' : World} (h : Tab w) (hb : Below w.heap.size w w') : Tab w' := var?_below hb gTab (var_lt gTab h) h
theorem Tab.cell {w : World} (h : Tab w) (k : Nat) (hk : k < 91) : w.cell? ⟨0, k, none⟩ = some (.int .i64 (tat k)) :=
  Lib.TabIs.cell h gTab k (by rw [tbl_len]; exact hk)
theorem Tab.alloc {w : World} (h : Tab w) (o : Obj) : Tab (w.alloc o) := h.below ((Below.refl _ w).alloc (Nat.le_refl _) o)

/-- the sine within half a turn -/
theorem sineAt_half (d : Int) (k : Nat) (w : World) (h0 : -1000000 ≤ d) (h1 : d ≤ 1000000) (hk : (d % 360).toNat = k) (hk2 : k ≤ 180) (hT : Tab w) :
    Calls Tryd.prog 80 #[.int .i64 d] w fun e w' => e = .returned (.int .i64 (sin0 k)) ∧ w = w' := by
  have HD := Lib.hid (show d % 360 = (k : Int) by omega)
  clear hk
  by_cases c1 : k ≤ 90
  · have HC := Lib.hid (show sin0 k = tat k by unfold sin0; rw [if_pos c1])
    have hc := hT.cell k (by omega)
    clear hT
    go_enter Tryd.func80, Tryd.ntmps80
    go_wp2_with fail
    refine (bearingOf_is d _ HD _ h0 h1).mono ?_
    rintro e w' ⟨rfl, rfl⟩
    go_wp2_with fail
    go_ret
    exact ⟨by rw [HC.out]; rfl, rfl⟩
  · have HC := Lib.hid (show sin0 k = tat (180 - k) by unfold sin0; rw [if_neg c1, if_pos hk2])
    have hc := hT.cell (180 - k) (by omega)
    have hi : (180 : Int) - (k : Int) = ((180 - k : Nat) : Int) := by omega
    clear hT
    go_enter Tryd.func80, Tryd.ntmps80
    go_wp2_with fail
    refine (bearingOf_is d _ HD _ h0 h1).mono ?_
    rintro e w' ⟨rfl, rfl⟩
    go_wp2_with fail
    go_ret
    exact ⟨by rw [HC.out]; rfl, rfl⟩
theorem sin0_half : ∀ k : Fin 360, 180 < k.val → sin0 k.val = - sin0 (360 - k.val) := by decide +kernel
theorem sineAt_is (d v : Int) (h : Hid (sinZ d = v)) (w : World) (h0 : -1000000 ≤ d) (h1 : d ≤ 1000000) (hT : Hid (Tab w)) :
    Calls Tryd.prog 80 #[.int .i64 d] w fun e w' => e = .returned (.int .i64 v) ∧ w = w' := by
  obtain ⟨k, hk⟩ : ∃ k : Nat, (d % 360).toNat = k := ⟨_, rfl⟩
  have hk1 : k < 360 := by omega
  have HS := Lib.hid (show v = sin0 k by rw [← h.out]; unfold sinZ; rw [hk])
  clear h
  by_cases c : k ≤ 180
  · rw [HS.out]; exact sineAt_half d k w h0 h1 hk c hT.out
  · have HD := Lib.hid (show d % 360 = (k : Int) by omega)
    clear hk
    obtain ⟨j, HJ⟩ : ∃ j, Hid (sin0 (360 - k) = j) := ⟨_, Lib.hid rfl⟩
    have hb := sin0_bd (360 - k)
    rw [HJ.out] at hb
    have HV := Lib.hid (show v = - j by rw [HS.out, ← HJ.out]; exact sin0_half ⟨k, hk1⟩ (by show 180 < k; omega))
    go_enter Tryd.func80, Tryd.ntmps80
    go_wp2_with fail
    refine (bearingOf_is d _ HD _ h0 h1).mono ?_
    rintro e w' ⟨rfl, rfl⟩
    go_wp2_with fail
    refine (sineAt_half (360 - (k : Int)) (360 - k) _ (by omega) (by omega) (by omega) (by omega) hT.out).mono ?_
    rintro e w' ⟨rfl, rfl⟩
    rw [HJ.out]
    go_wp2_with fail
    go_ret
    exact ⟨by rw [HV.out]; rfl, rfl⟩
theorem cosineAt_is (d v : Int) (h : Hid (cosZ d = v)) (w : World) (h0 : -100000 ≤ d) (h1 : d ≤ 100000) (hT : Hid (Tab w)) :
    Calls Tryd.prog 79 #[.int .i64 d] w fun e w' => e = .returned (.int .i64 v) ∧ w = w' := by
  have H := Lib.hid (show sinZ (d + 90) = v from h.out)
  clear h
  go_enter Tryd.func79, Tryd.ntmps79
  go_wp2_with fail
  refine (sineAt_is (d + 90) v H _ (by omega) (by omega) hT).mono ?_
  rintro e w' ⟨rfl, rfl⟩
  go_wp2_with fail
  go_ret
  exact ⟨rfl, rfl⟩
/-- the rounded quotient -/
theorem quot_pos (a b : Int) (w : World) (a0 : 0 ≤ a) (a1 : a ≤ 1000000000) (b0 : 1 ≤ b) (b1 : b ≤ 1000000) :
    Calls Tryd.prog 78 #[.int .i64 a, .int .i64 b] w fun e w' => e = .returned (.int .i64 (rdiv a b)) ∧ w = w' := by
  have HA := Lib.hid (show rdiv a b = (2 * a + b) / (2 * b) from if_neg (by omega))
  have q0 : 0 ≤ (2 * a + b) / (2 * b) := Int.ediv_nonneg (by omega) (by omega)
  have q1 : (2 * a + b) / (2 * b) ≤ 3000000000 := Int.le_trans (Int.ediv_le_self _ (by omega)) (by omega)
  have hb2 : ¬ 2 * b = 0 := by omega
  go_enter Tryd.func78, Tryd.ntmps78
  go_wp2_with fail
  go_ret
  exact ⟨by rw [HA.out]; rfl, rfl⟩
theorem rdiv_flip (a b : Int) (h : a < 0) : rdiv a b = - rdiv (-a) b := by
  unfold rdiv
  rw [if_pos h, if_neg (by omega)]
  congr 2; omega
theorem rdiv_bd (a b : Int) (a0 : 0 ≤ a) (a1 : a ≤ 1000000000) (b0 : 1 ≤ b) (b1 : b ≤ 1000000) : 0 ≤ rdiv a b ∧ rdiv a b ≤ 3000000000 := by
  rw [show rdiv a b = (2 * a + b) / (2 * b) from if_neg (by omega)]
  exact ⟨Int.ediv_nonneg (by omega) (by omega), Int.le_trans (Int.ediv_le_self _ (by omega)) (by omega)⟩
theorem quot_any (a b : Int) (w : World) (a0 : -1000000000 ≤ a) (a1 : a ≤ 1000000000) (b0 : 1 ≤ b) (b1 : b ≤ 1000000) :
    Calls Tryd.prog 78 #[.int .i64 a, .int .i64 b] w fun e w' => e = .returned (.int .i64 (rdiv a b)) ∧ w = w' := by
  by_cases h : a < 0
  · have HA := Lib.hid (rdiv_flip a b h)
    have hq := rdiv_bd (-a) b (by omega) (by omega) b0 b1
    go_enter Tryd.func78, Tryd.ntmps78
    go_wp2_with fail
    refine (quot_pos (-a) b _ (by omega) (by omega) b0 b1).mono ?_
    rintro e w' ⟨rfl, rfl⟩
    go_wp2_with fail
    go_ret
    exact ⟨by rw [HA.out]; rfl, rfl⟩
  · exact quot_pos a b w (by omega) a1 b0 b1
set_option maxHeartbeats 1000000 in
theorem lengths_any (g n c : Nat) (xs : List Int) (b : Bool) (w : World) (hn : Hid (xs.length = n)) (hn8 : n ≤ 8) (hc : Hid (IntsAt w g xs)) (hb : Hid (allIn (-100000) 100000 xs = b)) :
    Calls Tryd.prog 76 #[.slice (some ⟨g, 0, none⟩) n c] w fun e w' => e = .returned (.bool b) ∧ w = w' := by
  go_enter Tryd.func76, Tryd.ntmps76
  go_wp2_with fail
  refine (within_any _ _ g n c xs w hn hn8 hc).mono ?_
  rintro e w' ⟨rfl, rfl⟩
  rw [hb.out]
  go_wp2_with fail
  go_ret
  exact ⟨rfl, rfl⟩
theorem lengths_new (c : Nat) (xs : List Int) (n : Nat) (t : TypeId) (cs : Array Value) (b : Bool) (w : World) (g : Nat) (hg : w.heap.size = g) (hn : xs.length = n) (hn8 : n ≤ 8) (hcs : cs = (xs.map (Value.int .i64)).toArray) (hb : allIn (-100000) 100000 xs = b) :
    Calls Tryd.prog 76 #[.slice (some ⟨g, 0, none⟩) n c] (w.alloc (.cells cs t)) fun e w' => e = .returned (.bool b) ∧ w.alloc (.cells cs t) = w' := by
  subst hcs hg
  exact lengths_any w.heap.size n c xs b _ (Lib.hid hn) hn8 (Lib.hid (ints_new w t xs)) (Lib.hid hb)
theorem isAngle_is (x : Int) (t : Bool) (h : Hid (btw (-3600) x 3600 = t)) (w : World) :
    Calls Tryd.prog 77 #[.int .i64 x] w (BPost t w) := by
  go_enter Tryd.func77, Tryd.ntmps77
  go_wp2_with fail
  refine (within_new _ _ _ [x] _ _ _ t _ _ rfl rfl (by simp) rfl (one_in h.out)).mono ?_
  rintro e w' ⟨rfl, rfl⟩
  go_wp2_with fail
  go_ret
  exact ⟨rfl, (Below.refl _ _).alloc (Nat.le_refl _) _⟩
/-- what PartOf answers within the limits -/
def partV (a d : Int) : Value := .tuple #[.int .i64 (rdiv (a * cosZ d) 1000), .int .i64 (rdiv (a * sinZ d) 1000), .bool true]
theorem partOf_in (a d : Int) (w : World) (h0 : -100000 ≤ a) (h1 : a ≤ 100000) (k0 : -3600 ≤ d) (k1 : d ≤ 3600) (hT : Hid (Tab w)) : Calls Tryd.prog 64 #[.int .i64 a, .int .i64 d] w (APost (partV a d) w) := by
  have H1 := Lib.hid (one_in (btw_mk h0 h1))
  have H2 := Lib.hid (btw_mk k0 k1)
  have hs := sinZ_bd d
  have hc := cosZ_bd d
  obtain ⟨s0, s1⟩ := prod_bd a (sinZ d) h0 h1 hs.1 hs.2
  obtain ⟨c0, c1⟩ := prod_bd a (cosZ d) h0 h1 hc.1 hc.2
  obtain ⟨sv, HS⟩ : ∃ v, Hid (sinZ d = v) := ⟨_, Lib.hid rfl⟩
  obtain ⟨cv, HC⟩ : ∃ v, Hid (cosZ d = v) := ⟨_, Lib.hid rfl⟩
  rw [HS.out] at hs s0 s1
  rw [HC.out] at hc c0 c1
  have HA := Lib.hid (show partV a d = .tuple #[.int .i64 (rdiv (a * cv) 1000), .int .i64 (rdiv (a * sv) 1000), .bool true] by unfold partV; rw [HS.out, HC.out])
  go_enter Tryd.func64, Tryd.ntmps64
  go_wp2_with fail
  refine (lengths_new _ [a] _ _ _ true _ _ rfl rfl (by simp) rfl H1.out).mono ?_
  rintro e w' ⟨rfl, rfl⟩
  go_wp2_with fail
  refine (isAngle_is d true H2 _).mono ?_
  rintro e w1 ⟨rfl, b1⟩
  have b2 := ((Below.refl w.heap.size w).alloc (Nat.le_refl _) _).trans (b1.mono (by simp))
  have HT := Lib.hid (hT.out.below b2)
  have HB := Lib.hid b2
  clear b1 b2
  go_wp2_with fail
  refine (cosineAt_is d cv HC _ (by omega) (by omega) HT).mono ?_
  rintro e w' ⟨rfl, rfl⟩
  go_wp2_with fail
  refine (quot_any (a * cv) 1000 _ (by omega) (by omega) (by decide) (by decide)).mono ?_
  rintro e w' ⟨rfl, rfl⟩
  go_wp2_with fail
  refine (sineAt_is d sv HS _ (by omega) (by omega) HT).mono ?_
  rintro e w' ⟨rfl, rfl⟩
  go_wp2_with fail
  refine (quot_any (a * sv) 1000 _ (by omega) (by omega) (by decide) (by decide)).mono ?_
  rintro e w' ⟨rfl, rfl⟩
  go_wp2_with fail
  go_ret3
  exact ⟨by rw [HA.out]; rfl, HB.out⟩
end Go.Proofs.YtnpghhpcloljeaaDoor.win
