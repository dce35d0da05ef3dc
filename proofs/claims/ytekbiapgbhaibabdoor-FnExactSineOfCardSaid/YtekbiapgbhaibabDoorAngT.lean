/-
  The program's sines: the table that is a package-level variable, the sine and the cosine of any angle, SineOf, CosineOf, PartOf.
  Conditions: the variable holds the table; else none but those that a theorem names.
-/
import Derived.Test.YtekbiapgbhaibabDoorAngJ
import Derived.Test.YtekbiapgbhaibabDoorAng
import Derived.Lib.LaidTab
import Derived.WalkSmall
namespace Go.Proofs.YtekbiapgbhaibabDoor.angi
open Go.RowKit
open reads ang
set_option linter.unusedVariables false

theorem gTab : Tryd.prog.globalNamed "loop.example/g00933/impl.sines" = some 0 := by kernel_rfl
/-- the variable holds the table -/
def Tab (w : World) : Prop := Lib.TabIs Tryd.prog w "loop.example/g00933/impl.sines" .i64 tbl
theorem var_lt {w : World} {n : String} {g : Nat} {cs : Array Value} (hg : Tryd.prog.globalNamed n = some g) (h : w.var? Tryd.prog n = some cs) : g < w.heap.size := by
  rcases Nat.lt_or_ge g w.heap.size with hlt | hge
  · exact hlt
  · unfold World.var? at h
    simp only [hg, Option.bind_some, Array.getElem?_eq_none hge] at h
    simp at h
theorem Tab.below {w w' : World} (h : Tab w) (hb : Below w.heap.size w w') : Tab w' := var?_below hb gTab (var_lt gTab h) h
theorem Tab.cell {w : World} (h : Tab w) (k : Nat) (hk : k < 91) : w.cell? ⟨0, k, none⟩ = some (.int .i64 (tat k)) :=
  Lib.TabIs.cell h gTab k (by rw [tbl_len]; exact hk)
theorem Tab.alloc {w : World} (h : Tab w) (o : Obj) : Tab (w.alloc o) := h.below ((Below.refl _ w).alloc (Nat.le_refl _) o)

/-- the bearing with the direction of an angle -/
theorem bearingOf_is (d r : Int) (h : Hid (d % 360 = r)) (w : World) (h0 : -1000000 ≤ d) (h1 : d ≤ 1000000) :
    Calls Tryd.prog 62 #[.int .i64 d] w fun e w' => e = .returned (.int .i64 r) ∧ w = w' := by
  have ht0 : -360 < d.tmod 360 := Int.lt_tmod_of_pos d (by decide)
  have ht1 : d.tmod 360 < 360 := Int.tmod_lt_of_pos d (by decide)
  have HD := Lib.hid (show (d.tmod 360 + 360) % 360 = r by have := Int.tmod_def d 360; have := h.out; omega)
  clear h
  go_enter Tryd.func62, Tryd.ntmps62
  go_wp2_with fail
  go_ret
  exact ⟨by rw [← HD.out]; rfl, rfl⟩
/-- the sine within half a turn -/
theorem sineAt_half (d : Int) (k : Nat) (w : World) (h0 : -1000000 ≤ d) (h1 : d ≤ 1000000) (hk : (d % 360).toNat = k) (hk2 : k ≤ 180) (hT : Tab w) :
    Calls Tryd.prog 40 #[.int .i64 d] w fun e w' => e = .returned (.int .i64 (sin0 k)) ∧ w = w' := by
  have HD := Lib.hid (show d % 360 = (k : Int) by omega)
  clear hk
  by_cases c1 : k ≤ 90
  · have HC := Lib.hid (show sin0 k = tat k by unfold sin0; rw [if_pos c1])
    have hc := hT.cell k (by omega)
    clear hT
    go_enter Tryd.func40, Tryd.ntmps40
    go_wp2_with fail
    refine (bearingOf_is d _ HD _ h0 h1).mono ?_
    rintro e w' ⟨rfl, rfl⟩
    go_wp2_with fail
    go_ret
    exact ⟨by rw [HC.out]; rfl, rfl⟩
  · have HC := Lib.hid (show sin0 k = tat (180 - k) by unfold sin0; rw [if_neg c1, if_pos hk2])
    have hc := hT.cell (180 - k) (by omega)
    have hi : (180 : Int) - (k : Int) = ((180 - k : Nat) : Int) := by omega
    clear hT
    go_enter Tryd.func40, Tryd.ntmps40
    go_wp2_with fail
    refine (bearingOf_is d _ HD _ h0 h1).mono ?_
    rintro e w' ⟨rfl, rfl⟩
    go_wp2_with fail
    go_ret
    exact ⟨by rw [HC.out]; rfl, rfl⟩
theorem sin0_half : ∀ k : Fin 360, 180 < k.val → sin0 k.val = - sin0 (360 - k.val) := by decide +kernel
theorem sineAt_is (d v : Int) (h : Hid (sinZ d = v)) (w : World) (h0 : -1000000 ≤ d) (h1 : d ≤ 1000000) (hT : Hid (Tab w)) :
    Calls Tryd.prog 40 #[.int .i64 d] w fun e w' => e = .returned (.int .i64 v) ∧ w = w' := by
  obtain ⟨k, hk⟩ : ∃ k : Nat, (d % 360).toNat = k := ⟨_, rfl⟩
  have hk1 : k < 360 := by omega
  have HS := Lib.hid (show v = sin0 k by rw [← h.out]; unfold sinZ; rw [hk])
  clear h
  by_cases c : k ≤ 180
  · rw [HS.out]; exact sineAt_half d k w h0 h1 hk c hT.out
  · have HD := Lib.hid (show d % 360 = (k : Int) by omega)
    clear hk
    obtain ⟨j, HJ⟩ : ∃ j, Hid (sin0 (360 - k) = j) := ⟨_, Lib.hid rfl⟩
    have hb := sin0_bd (360 - k)
    rw [HJ.out] at hb
    have HV := Lib.hid (show v = - j by rw [HS.out, ← HJ.out]; exact sin0_half ⟨k, hk1⟩ (by show 180 < k; omega))
    go_enter Tryd.func40, Tryd.ntmps40
    go_wp2_with fail
    refine (bearingOf_is d _ HD _ h0 h1).mono ?_
    rintro e w' ⟨rfl, rfl⟩
    go_wp2_with fail
    refine (sineAt_half (360 - (k : Int)) (360 - k) _ (by omega) (by omega) (by omega) (by omega) hT.out).mono ?_
    rintro e w' ⟨rfl, rfl⟩
    rw [HJ.out]
    go_wp2_with fail
    go_ret
    exact ⟨by rw [HV.out]; rfl, rfl⟩
theorem cosineAt_is (d v : Int) (h : Hid (cosZ d = v)) (w : World) (h0 : -100000 ≤ d) (h1 : d ≤ 100000) (hT : Hid (Tab w)) :
    Calls Tryd.prog 41 #[.int .i64 d] w fun e w' => e = .returned (.int .i64 v) ∧ w = w' := by
  have H := Lib.hid (show sinZ (d + 90) = v from h.out)
  clear h
  go_enter Tryd.func41, Tryd.ntmps41
  go_wp2_with fail
  refine (sineAt_is (d + 90) v H _ (by omega) (by omega) hT).mono ?_
  rintro e w' ⟨rfl, rfl⟩
  go_wp2_with fail
  go_ret
  exact ⟨rfl, rfl⟩
/-- a test that makes memory -/
def BPost (t : Bool) (w : World) (e : Ending) (w' : World) : Prop := e = .returned (.bool t) ∧ Below w.heap.size w w'
theorem isAngle_is (x : Int) (t : Bool) (h : Hid ((decide (-3600 ≤ x) && decide (x ≤ 3600)) = t)) (w : World) :
    Calls Tryd.prog 39 #[.int .i64 x] w (BPost t w) := by
  go_enter Tryd.func39, Tryd.ntmps39
  go_wp2_with fail
  refine (within_new _ _ _ [x] _ _ _ t _ _ rfl rfl (by simp) rfl (all1 h.out)).mono ?_
  rintro e w' ⟨rfl, rfl⟩
  go_wp2_with fail
  go_ret
  exact ⟨rfl, (Below.refl _ _).alloc (Nat.le_refl _) _⟩

theorem sineOf_impl (d : Int) (w : World) (hT : Hid (Tab w)) : Calls Tryd.prog 12 #[.int .i64 d] w (APost (ansSine d) w) := by
  by_cases h : -3600 ≤ d ∧ d ≤ 3600
  · have HA := Lib.hid (show ansSine d = .tuple #[.int .i64 (sinZ d), .bool true] from if_pos h)
    have H1 := Lib.hid (band h.1 h.2)
    obtain ⟨h0, h1⟩ := h
    go_enter Tryd.func12, Tryd.ntmps12
    go_wp2_with fail
    refine (isAngle_is d true H1 _).mono ?_
    rintro e w1 ⟨rfl, b1⟩
    have HT := Lib.hid (hT.out.below b1)
    have HB := Lib.hid b1
    clear b1
    go_wp2_with fail
    refine (sineAt_is d _ (Lib.hid rfl) _ (by omega) (by omega) HT).mono ?_
    rintro e w' ⟨rfl, rfl⟩
    go_wp2_with fail
    go_ret2
    exact ⟨by rw [HA.out]; rfl, HB.out⟩
  · have HA := Lib.hid (show ansSine d = .tuple #[.int .i64 0, .bool false] from if_neg h)
    have H1 := Lib.hid (bout h)
    clear h
    go_enter Tryd.func12, Tryd.ntmps12
    go_wp2_with fail
    refine (isAngle_is d false H1 _).mono ?_
    rintro e w1 ⟨rfl, b1⟩
    have HB := Lib.hid b1
    clear b1
    go_wp2_with fail
    go_ret2
    exact ⟨by rw [HA.out]; rfl, HB.out⟩
theorem cosineOf_impl (d : Int) (w : World) (hT : Hid (Tab w)) : Calls Tryd.prog 13 #[.int .i64 d] w (APost (ansCosine d) w) := by
  by_cases h : -3600 ≤ d ∧ d ≤ 3600
  · have HA := Lib.hid (show ansCosine d = .tuple #[.int .i64 (cosZ d), .bool true] from if_pos h)
    have H1 := Lib.hid (band h.1 h.2)
    obtain ⟨h0, h1⟩ := h
    go_enter Tryd.func13, Tryd.ntmps13
    go_wp2_with fail
    refine (isAngle_is d true H1 _).mono ?_
    rintro e w1 ⟨rfl, b1⟩
    have HT := Lib.hid (hT.out.below b1)
    have HB := Lib.hid b1
    clear b1
    go_wp2_with fail
    refine (cosineAt_is d _ (Lib.hid rfl) _ (by omega) (by omega) HT).mono ?_
    rintro e w' ⟨rfl, rfl⟩
    go_wp2_with fail
    go_ret2
    exact ⟨by rw [HA.out]; rfl, HB.out⟩
  · have HA := Lib.hid (show ansCosine d = .tuple #[.int .i64 0, .bool false] from if_neg h)
    have H1 := Lib.hid (bout h)
    clear h
    go_enter Tryd.func13, Tryd.ntmps13
    go_wp2_with fail
    refine (isAngle_is d false H1 _).mono ?_
    rintro e w1 ⟨rfl, b1⟩
    have HB := Lib.hid b1
    clear b1
    go_wp2_with fail
    go_ret2
    exact ⟨by rw [HA.out]; rfl, HB.out⟩

theorem partOf_impl (a d : Int) (w : World) (hT : Hid (Tab w)) : Calls Tryd.prog 21 #[.int .i64 a, .int .i64 d] w (APost (ansPart a d) w) := by
  by_cases h : -100000 ≤ a ∧ a ≤ 100000
  · by_cases k : -3600 ≤ d ∧ d ≤ 3600
    · have HA := Lib.hid (show ansPart a d = .tuple #[.int .i64 (rdiv (a * cosZ d) 1000), .int .i64 (rdiv (a * sinZ d) 1000), .bool true] from if_pos ⟨h, k⟩)
      have H1 := Lib.hid (band h.1 h.2)
      have H2 := Lib.hid (band k.1 k.2)
      have hs := sinZ_bd d
      have hc := cosZ_bd d
      obtain ⟨s0, s1⟩ := prod_bd a (sinZ d) h.1 h.2 hs.1 hs.2
      obtain ⟨c0, c1⟩ := prod_bd a (cosZ d) h.1 h.2 hc.1 hc.2
      obtain ⟨k0, k1⟩ := k
      obtain ⟨sv, HS⟩ : ∃ v, Hid (sinZ d = v) := ⟨_, Lib.hid rfl⟩
      obtain ⟨cv, HC⟩ : ∃ v, Hid (cosZ d = v) := ⟨_, Lib.hid rfl⟩
      rw [HS.out] at hs s0 s1
      rw [HC.out] at hc c0 c1
      rw [HS.out, HC.out] at HA
      clear h
      go_enter Tryd.func21, Tryd.ntmps21
      go_wp2_with fail
      refine (lengths_new _ [a] _ _ _ true _ _ rfl rfl (by simp) rfl (all1 H1.out)).mono ?_
      rintro e w' ⟨rfl, rfl⟩
      go_wp2_with fail
      refine (isAngle_is d true H2 _).mono ?_
      rintro e w1 ⟨rfl, b1⟩
      have b2 := ((Below.refl w.heap.size w).alloc (Nat.le_refl _) _).trans (b1.mono (by simp))
      have HT := Lib.hid (hT.out.below b2)
      have HB := Lib.hid b2
      clear b1 b2
      go_wp2_with fail
      refine (cosineAt_is d cv HC _ (by omega) (by omega) HT).mono ?_
      rintro e w' ⟨rfl, rfl⟩
      go_wp2_with fail
      refine (quot_any (a * cv) 1000 _ (by omega) (by omega) (by decide) (by decide)).mono ?_
      rintro e w' ⟨rfl, rfl⟩
      go_wp2_with fail
      refine (sineAt_is d sv HS _ (by omega) (by omega) HT).mono ?_
      rintro e w' ⟨rfl, rfl⟩
      go_wp2_with fail
      refine (quot_any (a * sv) 1000 _ (by omega) (by omega) (by decide) (by decide)).mono ?_
      rintro e w' ⟨rfl, rfl⟩
      go_wp2_with fail
      go_ret3
      exact ⟨by rw [HA.out]; rfl, HB.out⟩
    · have HA := Lib.hid (show ansPart a d = .tuple #[.int .i64 0, .int .i64 0, .bool false] from if_neg (fun c => k c.2))
      have H1 := Lib.hid (band h.1 h.2)
      have H2 := Lib.hid (bout k)
      clear h k
      go_enter Tryd.func21, Tryd.ntmps21
      go_wp2_with fail
      refine (lengths_new _ [a] _ _ _ true _ _ rfl rfl (by simp) rfl (all1 H1.out)).mono ?_
      rintro e w' ⟨rfl, rfl⟩
      go_wp2_with fail
      refine (isAngle_is d false H2 _).mono ?_
      rintro e w1 ⟨rfl, b1⟩
      have HB := Lib.hid (((Below.refl w.heap.size w).alloc (Nat.le_refl _) _).trans (b1.mono (by simp)))
      clear b1
      go_wp2_with fail
      go_ret3
      exact ⟨by rw [HA.out]; rfl, HB.out⟩
  · have HA := Lib.hid (show ansPart a d = .tuple #[.int .i64 0, .int .i64 0, .bool false] from if_neg (fun c => h c.1))
    have H1 := Lib.hid (bout h)
    clear h
    go_enter Tryd.func21, Tryd.ntmps21
    go_wp2_with fail
    refine (lengths_new _ [a] _ _ _ false _ _ rfl rfl (by simp) rfl (all1 H1.out)).mono ?_
    rintro e w' ⟨rfl, rfl⟩
    go_wp2_with fail
    go_ret3
    exact ⟨by rw [HA.out]; rfl, (Below.refl _ _).alloc (Nat.le_refl _) _⟩
end Go.Proofs.YtekbiapgbhaibabDoor.angi
