/-
  The model of the angles: sines and cosines.
  Conditions: the numbers keep within the limits that each theorem names.
-/
import Derived.Test.YtekbiapgbhaibabDoorAngA
namespace Go.Proofs.YtekbiapgbhaibabDoor.ang
open Go.RowKit
open reads
set_option linter.unusedVariables false

/-- the sines of 0 to 90 degrees -/
def tbl : List Int := [0, 17, 35, 52, 70, 87, 105, 122, 139, 156, 174, 191, 208, 225, 242, 259, 276, 292, 309, 326, 342, 358, 375, 391, 407, 423, 438, 454, 469, 485,
  500, 515, 530, 545, 559, 574, 588, 602, 616, 629, 643, 656, 669, 682, 695, 707, 719, 731, 743, 755, 766, 777, 788, 799, 809, 819, 829, 839, 848, 857,
  866, 875, 883, 891, 899, 906, 914, 921, 927, 934, 940, 946, 951, 956, 961, 966, 970, 974, 978, 982, 985, 988, 990, 993, 995, 996, 998, 999, 999, 1000, 1000]
theorem tbl_len : tbl.length = 91 := rfl
theorem tbl_bd : ∀ v ∈ tbl, 0 ≤ v ∧ v ≤ 1000 := by decide
/-- the sine at a place of the table -/
def tat (k : Nat) : Int := tbl.getD k 0
theorem tat_bd (k : Nat) : 0 ≤ tat k ∧ tat k ≤ 1000 := by
  unfold tat
  rw [List.getD_eq_getElem?_getD]
  cases h : tbl[k]? with
  | none => simp
  | some v => exact tbl_bd v (List.mem_of_getElem? h)
/-- the sine within a turn -/
def sin0 (k : Nat) : Int := if k ≤ 90 then tat k else if k ≤ 180 then tat (180 - k) else if k ≤ 270 then - tat (k - 180) else - tat (360 - k)
/-- the sine of any angle -/
def sinZ (d : Int) : Int := sin0 (d % 360).toNat
def cosZ (d : Int) : Int := sinZ (d + 90)
theorem sin0_bd (k : Nat) : -1000 ≤ sin0 k ∧ sin0 k ≤ 1000 := by
  have a := tat_bd k
  have b := tat_bd (180 - k)
  have c := tat_bd (k - 180)
  have d := tat_bd (360 - k)
  unfold sin0
  split
  · omega
  · split
    · omega
    · split <;> omega
theorem sinZ_bd (d : Int) : -1000 ≤ sinZ d ∧ sinZ d ≤ 1000 := sin0_bd _
theorem cosZ_bd (d : Int) : -1000 ≤ cosZ d ∧ cosZ d ≤ 1000 := sin0_bd _

theorem angle_any (x : Int) (w : World) :
    Calls Tryd.prog 42 #[.int .i64 x] w fun e w' => e = .returned (.bool (decide (-3600 ≤ x) && decide (x ≤ 3600))) ∧ w = w' := by
  go_enter Tryd.func42, Tryd.ntmps42
  go_wp2_with fail
  refine (in_any _ _ _ _).mono ?_
  rintro e w' ⟨rfl, rfl⟩
  go_wp2_with fail
  go_ret
  exact ⟨rfl, rfl⟩
theorem angle_is (x : Int) (t : Bool) (h : (decide (-3600 ≤ x) && decide (x ≤ 3600)) = t) (w : World) :
    Calls Tryd.prog 42 #[.int .i64 x] w fun e w' => e = .returned (.bool t) ∧ w = w' := by rw [← h]; exact angle_any x w
/-- the table, made anew -/
def TPost (w : World) (e : Ending) (w' : World) : Prop :=
  ∃ g, e = .returned (.slice (some ⟨g, 0, none⟩) 91 91) ∧ (∀ k, k < 91 → w'.cell? ⟨g, k, none⟩ = some (.int .i64 (tat k))) ∧ Below w.heap.size w w'
set_option maxHeartbeats 4000000 in
set_option maxRecDepth 100000 in
theorem table_any (w : World) : Calls Tryd.prog 63 #[] w (TPost w) := by
  go_enter Tryd.func63, Tryd.ntmps63
  go_wp2_with fail
  go_ret
  refine ⟨w.heap.size, rfl, fun k hk => ?_, (Below.refl _ w).alloc (Nat.le_refl _) _⟩
  have h := (Blk.new w 3 (tbl.map (Value.int .i64)).toArray).cell k
  refine Eq.trans h ?_
  have hk' : k < tbl.length := by rw [tbl_len]; exact hk
  simp [tat, List.getD_eq_getElem?_getD, List.getElem?_eq_getElem hk']

/-- an answer, memory left to the caller -/
def IPost (v : Int) (w : World) (e : Ending) (w' : World) : Prop := e = .returned (.int .i64 v) ∧ Below w.heap.size w w'
theorem sine_any (d : Int) (w : World) (h0 : -1000000 ≤ d) (h1 : d ≤ 1000000) :
    Calls Tryd.prog 43 #[.int .i64 d] w (IPost (sinZ d) w) := by
  obtain ⟨k, hk⟩ : ∃ k : Nat, (d % 360).toNat = k := ⟨_, rfl⟩
  have hk1 : k < 360 := by omega
  have ht0 : -360 < d.tmod 360 := Int.lt_tmod_of_pos d (by decide)
  have ht1 : d.tmod 360 < 360 := Int.tmod_lt_of_pos d (by decide)
  have hd : (d.tmod 360 + 360) % 360 = (k : Int) := by have := Int.tmod_def d 360; omega
  have HS := Lib.hid (show sinZ d = sin0 k by unfold sinZ; rw [hk])
  clear hk
  by_cases c1 : k ≤ 90
  · have HC := Lib.hid (show sin0 k = tat k by unfold sin0; rw [if_pos c1])
    go_enter Tryd.func43, Tryd.ntmps43
    go_wp2_with fail
    refine (table_any _).mono ?_
    rintro e w1 ⟨g, rfl, hc, hb⟩
    have hc' := hc k (by omega)
    have HB := Lib.hid hb
    clear hc hb
    go_wp2_with fail
    go_ret
    exact ⟨by rw [HS.out, HC.out]; rfl, HB.out⟩
  by_cases c2 : k ≤ 180
  · have HC := Lib.hid (show sin0 k = tat (180 - k) by unfold sin0; rw [if_neg c1, if_pos c2])
    have hi : (180 : Int) - (k : Int) = ((180 - k : Nat) : Int) := by omega
    go_enter Tryd.func43, Tryd.ntmps43
    go_wp2_with fail
    refine (table_any _).mono ?_
    rintro e w1 ⟨g, rfl, hc, hb⟩
    have hc' := hc (180 - k) (by omega)
    have HB := Lib.hid hb
    clear hc hb
    go_wp2_with fail
    go_ret
    exact ⟨by rw [HS.out, HC.out]; rfl, HB.out⟩
  by_cases c3 : k ≤ 270
  · have HC := Lib.hid (show sin0 k = - tat (k - 180) by unfold sin0; rw [if_neg c1, if_neg c2, if_pos c3])
    have hi : (k : Int) - 180 = ((k - 180 : Nat) : Int) := by omega
    have hq := tat_bd (k - 180)
    go_enter Tryd.func43, Tryd.ntmps43
    go_wp2_with fail
    refine (table_any _).mono ?_
    rintro e w1 ⟨g, rfl, hc, hb⟩
    have hc' := hc (k - 180) (by omega)
    have HB := Lib.hid hb
    clear hc hb
    go_wp2_with fail
    go_ret
    exact ⟨by rw [HS.out, HC.out]; rfl, HB.out⟩
  · have HC := Lib.hid (show sin0 k = - tat (360 - k) by unfold sin0; rw [if_neg c1, if_neg c2, if_neg c3])
    have hi : (360 : Int) - (k : Int) = ((360 - k : Nat) : Int) := by omega
    have hq := tat_bd (360 - k)
    go_enter Tryd.func43, Tryd.ntmps43
    go_wp2_with fail
    refine (table_any _).mono ?_
    rintro e w1 ⟨g, rfl, hc, hb⟩
    have hc' := hc (360 - k) (by omega)
    have HB := Lib.hid hb
    clear hc hb
    go_wp2_with fail
    go_ret
    exact ⟨by rw [HS.out, HC.out]; rfl, HB.out⟩
theorem sine_is (d v : Int) (h : sinZ d = v) (w : World) (h0 : -1000000 ≤ d) (h1 : d ≤ 1000000) :
    Calls Tryd.prog 43 #[.int .i64 d] w (IPost v w) := by rw [← h]; exact sine_any d w h0 h1
theorem cosine_is (d v : Int) (h : cosZ d = v) (w : World) (h0 : -100000 ≤ d) (h1 : d ≤ 100000) :
    Calls Tryd.prog 44 #[.int .i64 d] w (IPost v w) := by
  have H := Lib.hid (show sinZ (d + 90) = v from h)
  clear h
  go_enter Tryd.func44, Tryd.ntmps44
  go_wp2_with fail
  refine (sine_is (d + 90) v H.out _ (by omega) (by omega)).mono ?_
  rintro e w1 ⟨rfl, hb⟩
  have HB := Lib.hid hb
  clear hb
  go_wp2_with fail
  go_ret
  exact ⟨rfl, HB.out⟩

/-- what SineOf answers -/
def ansSine (d : Int) : Value := if -3600 ≤ d ∧ d ≤ 3600 then .tuple #[.int .i64 (sinZ d), .bool true] else .tuple #[.int .i64 0, .bool false]
def ansCosine (d : Int) : Value := if -3600 ≤ d ∧ d ≤ 3600 then .tuple #[.int .i64 (cosZ d), .bool true] else .tuple #[.int .i64 0, .bool false]
theorem sineOf_model (d : Int) (w : World) : Calls Tryd.prog 14 #[.int .i64 d] w (APost (ansSine d) w) := by
  by_cases h : -3600 ≤ d ∧ d ≤ 3600
  · have HA := Lib.hid (show ansSine d = .tuple #[.int .i64 (sinZ d), .bool true] from if_pos h)
    obtain ⟨h0, h1⟩ := h
    go_enter Tryd.func14, Tryd.ntmps14
    go_wp2_with fail
    refine (angle_is d true (by simp [h0, h1]) _).mono ?_
    rintro e w' ⟨rfl, rfl⟩
    go_wp2_with fail
    refine (sine_any d _ (by omega) (by omega)).mono ?_
    rintro e w1 ⟨rfl, hb⟩
    have HB := Lib.hid hb
    clear hb
    go_wp2_with fail
    go_ret2
    exact ⟨by rw [HA.out]; rfl, HB.out⟩
  · have HA := Lib.hid (show ansSine d = .tuple #[.int .i64 0, .bool false] from if_neg h)
    have hd : (decide (-3600 ≤ d) && decide (d ≤ 3600)) = false := by simp; omega
    have HD := Lib.hid hd
    clear h hd
    go_enter Tryd.func14, Tryd.ntmps14
    go_wp2_with fail
    refine (angle_is d false HD.out _).mono ?_
    rintro e w' ⟨rfl, rfl⟩
    go_wp2_with fail
    go_ret2
    exact ⟨by rw [HA.out]; rfl, Below.refl _ _⟩
theorem cosineOf_model (d : Int) (w : World) : Calls Tryd.prog 15 #[.int .i64 d] w (APost (ansCosine d) w) := by
  by_cases h : -3600 ≤ d ∧ d ≤ 3600
  · have HA := Lib.hid (show ansCosine d = .tuple #[.int .i64 (cosZ d), .bool true] from if_pos h)
    obtain ⟨h0, h1⟩ := h
    go_enter Tryd.func15, Tryd.ntmps15
    go_wp2_with fail
    refine (angle_is d true (by simp [h0, h1]) _).mono ?_
    rintro e w' ⟨rfl, rfl⟩
    go_wp2_with fail
    refine (cosine_is d _ rfl _ (by omega) (by omega)).mono ?_
    rintro e w1 ⟨rfl, hb⟩
    have HB := Lib.hid hb
    clear hb
    go_wp2_with fail
    go_ret2
    exact ⟨by rw [HA.out]; rfl, HB.out⟩
  · have HA := Lib.hid (show ansCosine d = .tuple #[.int .i64 0, .bool false] from if_neg h)
    have hd : (decide (-3600 ≤ d) && decide (d ≤ 3600)) = false := by simp; omega
    have HD := Lib.hid hd
    clear h hd
    go_enter Tryd.func15, Tryd.ntmps15
    go_wp2_with fail
    refine (angle_is d false HD.out _).mono ?_
    rintro e w' ⟨rfl, rfl⟩
    go_wp2_with fail
    go_ret2
    exact ⟨by rw [HA.out]; rfl, Below.refl _ _⟩

/-- what PartOf answers -/
def ansPart (a d : Int) : Value := if (-100000 ≤ a ∧ a ≤ 100000) ∧ (-3600 ≤ d ∧ d ≤ 3600) then .tuple #[.int .i64 (rdiv (a * cosZ d) 1000), .int .i64 (rdiv (a * sinZ d) 1000), .bool true] else .tuple #[.int .i64 0, .int .i64 0, .bool false]
theorem partOf_model (a d : Int) (w : World) : Calls Tryd.prog 22 #[.int .i64 a, .int .i64 d] w (APost (ansPart a d) w) := by
  by_cases h : -100000 ≤ a ∧ a ≤ 100000
  · by_cases k : -3600 ≤ d ∧ d ≤ 3600
    · have HA := Lib.hid (show ansPart a d = .tuple #[.int .i64 (rdiv (a * cosZ d) 1000), .int .i64 (rdiv (a * sinZ d) 1000), .bool true] from if_pos ⟨h, k⟩)
      have H1 := Lib.hid (band h.1 h.2)
      have H2 := Lib.hid (band k.1 k.2)
      have hs := sinZ_bd d
      have hc := cosZ_bd d
      obtain ⟨s0, s1⟩ := prod_bd a (sinZ d) h.1 h.2 hs.1 hs.2
      obtain ⟨c0, c1⟩ := prod_bd a (cosZ d) h.1 h.2 hc.1 hc.2
      obtain ⟨k0, k1⟩ := k
      obtain ⟨sv, HS⟩ : ∃ v, Hid (sinZ d = v) := ⟨_, Lib.hid rfl⟩
      obtain ⟨cv, HC⟩ : ∃ v, Hid (cosZ d = v) := ⟨_, Lib.hid rfl⟩
      rw [HS.out] at hs s0 s1
      rw [HC.out] at hc c0 c1
      rw [HS.out, HC.out] at HA
      clear h
      go_enter Tryd.func22, Tryd.ntmps22
      go_wp2_with fail
      refine (long_is _ true H1.out _).mono ?_
      rintro e w' ⟨rfl, rfl⟩
      go_wp2_with fail
      refine (angle_is _ true H2.out _).mono ?_
      rintro e w' ⟨rfl, rfl⟩
      go_wp2_with fail
      refine (cosine_is d cv HC.out _ (by omega) (by omega)).mono ?_
      rintro e w1 ⟨rfl, b1⟩
      go_wp2_with fail
      refine (div_any (a * cv) 1000 _ (by omega) (by omega) (by decide) (by decide)).mono ?_
      rintro e w' ⟨rfl, rfl⟩
      go_wp2_with fail
      refine (sine_is d sv HS.out _ (by omega) (by omega)).mono ?_
      rintro e w2 ⟨rfl, b2⟩
      have HB := Lib.hid (b1.trans (b2.mono b1.size))
      clear b1 b2
      go_wp2_with fail
      refine (div_any (a * sv) 1000 _ (by omega) (by omega) (by decide) (by decide)).mono ?_
      rintro e w' ⟨rfl, rfl⟩
      go_wp2_with fail
      go_ret3
      exact ⟨by rw [HA.out]; rfl, HB.out⟩
    · have HA := Lib.hid (show ansPart a d = .tuple #[.int .i64 0, .int .i64 0, .bool false] from if_neg (fun c => k c.2))
      have H1 := Lib.hid (band h.1 h.2)
      have H2 := Lib.hid (bout k)
      clear h k
      go_enter Tryd.func22, Tryd.ntmps22
      go_wp2_with fail
      refine (long_is _ true H1.out _).mono ?_
      rintro e w' ⟨rfl, rfl⟩
      go_wp2_with fail
      refine (angle_is _ false H2.out _).mono ?_
      rintro e w' ⟨rfl, rfl⟩
      go_wp2_with fail
      go_ret3
      exact ⟨by rw [HA.out]; rfl, Below.refl _ _⟩
  · have HA := Lib.hid (show ansPart a d = .tuple #[.int .i64 0, .int .i64 0, .bool false] from if_neg (fun c => h c.1))
    have H1 := Lib.hid (bout h)
    clear h
    go_enter Tryd.func22, Tryd.ntmps22
    go_wp2_with fail
    refine (long_is _ false H1.out _).mono ?_
    rintro e w' ⟨rfl, rfl⟩
    go_wp2_with fail
    go_ret3
    exact ⟨by rw [HA.out]; rfl, Below.refl _ _⟩

end Go.Proofs.YtekbiapgbhaibabDoor.ang
