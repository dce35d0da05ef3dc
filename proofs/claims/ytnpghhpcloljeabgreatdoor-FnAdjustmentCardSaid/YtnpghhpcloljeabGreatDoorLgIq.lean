/-
  The program's legs: which are valid, lists of them.
  The program's bearing of an angle.
  The program's sines: the table that is a package-level variable, the sine and the cosine of any angle, PartOf.
  Conditions: those that each theorem names.
-/
import Derived.Test.YtnpghhpcloljeabGreatDoorTyLegq
import Derived.Test.YtnpghhpcloljeabGreatDoorMostq
import Derived.Test.YtnpghhpcloljeabGreatDoorSin
import Derived.Lib.LaidTab
import Derived.WalkSmall
namespace Go.Proofs.YtnpghhpcloljeabGreatDoor.lgi
open Go.RowKit
open reads base ty win lg
set_option linter.unusedVariables false
set_option linter.unusedSimpArgs false

set_option maxHeartbeats 1000000 in
theorem stations_any (g n c : Nat) (xs : List Int) (b : Bool) (w : World) (hn : Hid (xs.length = n)) (hn8 : n ≤ 8) (hc : Hid (IntsAt w g xs)) (hb : Hid (allIn 0 7 xs = b)) :
    Calls Tryz.prog 167 #[.slice (some ⟨g, 0, none⟩) n c] w fun e w' => e = .returned (.bool b) ∧ w = w' := by
  go_enter Tryz.func167, Tryz.ntmps167
  go_wp2_with fail
  refine (within_any _ _ g n c xs w hn hn8 hc).mono ?_
  rintro e w' ⟨rfl, rfl⟩
  rw [hb.out]
  go_wp2_with fail
  go_ret
  exact ⟨rfl, rfl⟩
theorem stations_new (c : Nat) (xs : List Int) (n : Nat) (t : TypeId) (cs : Array Value) (b : Bool) (w : World) (g : Nat) (hg : w.heap.size = g) (hn : xs.length = n) (hn8 : n ≤ 8) (hcs : cs = (xs.map (Value.int .i64)).toArray) (hb : allIn 0 7 xs = b) :
    Calls Tryz.prog 167 #[.slice (some ⟨g, 0, none⟩) n c] (w.alloc (.cells cs t)) fun e w' => e = .returned (.bool b) ∧ w.alloc (.cells cs t) = w' := by
  subst hcs hg
  exact stations_any w.heap.size n c xs b _ (Lib.hid hn) hn8 (Lib.hid (ints_new w t xs)) (Lib.hid hb)
/-- a leg in a box, and nothing old has turned -/
def LX (w : World) (x : Lg) (v : World) : Prop := Blk v w.heap.size 87 #[.int .i64 x.frm, .int .i64 x.to_, .int .i64 x.tape, .int .i64 x.comp, .int .i64 x.slope] ∧ Below w.heap.size w v
theorem LX.start (w : World) (x : Lg) : LX w x (w.alloc (.cells #[.int .i64 x.frm, .int .i64 x.to_, .int .i64 x.tape, .int .i64 x.comp, .int .i64 x.slope] 87)) := ⟨Blk.new w _ _, (Below.refl _ _).alloc (Nat.le_refl _) _⟩
theorem LX.step {w v v' : World} {x : Lg} (h : LX w x v) (hb : Below v.heap.size v v') : LX w x v' := ⟨h.1.below hb h.1.lt, h.2.trans (hb.mono h.2.size)⟩
theorem LX.alloc {w v : World} {x : Lg} (h : LX w x v) (o : Obj) : LX w x (v.alloc o) := h.step ((Below.refl _ _).alloc (Nat.le_refl _) o)
theorem LX.cs {w v : World} {x : Lg} (h : LX w x v) : v.cell? ⟨w.heap.size, 0, none⟩ = some (.int .i64 x.frm) ∧ v.cell? ⟨w.heap.size, 1, none⟩ = some (.int .i64 x.to_) ∧ v.cell? ⟨w.heap.size, 2, none⟩ = some (.int .i64 x.tape) ∧ v.cell? ⟨w.heap.size, 3, none⟩ = some (.int .i64 x.comp) ∧ v.cell? ⟨w.heap.size, 4, none⟩ = some (.int .i64 x.slope) ∧ w.heap.size < v.heap.size := ⟨h.1.cell 0, h.1.cell 1, h.1.cell 2, h.1.cell 3, h.1.cell 4, h.1.lt⟩
set_option maxHeartbeats 4000000 in
set_option maxRecDepth 100000 in
theorem isLeg_any (x : Lg) (w : World) : Calls Tryz.prog 144 #[.agg #[.int .i64 x.frm, .int .i64 x.to_, .int .i64 x.tape, .int .i64 x.comp, .int .i64 x.slope]] w (BPost (okLg x) w) := by
  obtain ⟨s0, hs0⟩ : ∃ t, btw 0 x.frm 7 = t := ⟨_, rfl⟩
  obtain ⟨s1, hs1⟩ : ∃ t, btw 0 x.to_ 7 = t := ⟨_, rfl⟩
  obtain ⟨t2, h2⟩ : ∃ t, (x.frm != x.to_) = t := ⟨_, rfl⟩
  obtain ⟨t3, h3⟩ : ∃ t, btw 1 x.tape 500 = t := ⟨_, rfl⟩
  obtain ⟨t4, h4⟩ : ∃ t, btw 0 x.comp 359 = t := ⟨_, rfl⟩
  obtain ⟨t5, h5⟩ : ∃ t, btw (-90) x.slope 90 = t := ⟨_, rfl⟩
  obtain ⟨t0, h0⟩ : ∃ t, (s0 && s1) = t := ⟨_, rfl⟩
  have HA := Lib.hid (show okLg x = (t0 && t2 && t3 && t4 && t5) by unfold okLg; rw [hs0, hs1, h0, h2, h3, h4, h5])
  have K0 := Lib.hid (show allIn 0 7 [x.frm, x.to_] = t0 by rw [two_in hs0 hs1, h0])
  have K3 := Lib.hid (one_in h3)
  have K4 := Lib.hid (one_in h4)
  have K5 := Lib.hid (one_in h5)
  clear hs0 hs1 h0 h3 h4 h5 s0 s1
  have HS0 := Lib.hid (LX.start w x)
  go_enter Tryz.func144, Tryz.ntmps144
  go_wp2_with fail
  refine (stations_new _ [x.frm, x.to_] _ _ _ t0 _ _ (by simp) rfl (by simp) rfl K0.out).mono ?_
  rintro e w1 ⟨rfl, hw⟩
  have HS1 := Lib.hid (show LX w x w1 by rw [← hw]; exact HS0.out.alloc _)
  clear hw
  cases t0
  · go_wp2_with fail
    go_ret
    exact ⟨by rw [HA.out]; rfl, HS1.out.2⟩
  obtain ⟨y0, y1, y2, y3, y4, hl⟩ := HS1.out.cs
  cases t2
  · go_wp2_with fail
    go_ret
    exact ⟨by rw [HA.out]; rfl, HS1.out.2⟩
  go_wp2_with fail
  refine (within_new _ _ _ [x.tape] _ _ _ t3 _ _ rfl rfl (by simp) rfl K3.out).mono ?_
  rintro e w2 ⟨rfl, hw⟩
  have HS2 := Lib.hid (show LX w x w2 by rw [← hw]; exact HS1.out.alloc _)
  clear hw y0 y1 y2 y3 y4 hl
  cases t3
  · go_wp2_with fail
    go_ret
    exact ⟨by rw [HA.out]; rfl, HS2.out.2⟩
  obtain ⟨y0, y1, y2, y3, y4, hl⟩ := HS2.out.cs
  go_wp2_with fail
  refine (bearings_new _ [x.comp] _ _ _ t4 _ _ rfl rfl (by simp) rfl K4.out).mono ?_
  rintro e w3 ⟨rfl, hw⟩
  have HS3 := Lib.hid (show LX w x w3 by rw [← hw]; exact HS2.out.alloc _)
  clear hw y0 y1 y2 y3 y4 hl
  cases t4
  · go_wp2_with fail
    go_ret
    exact ⟨by rw [HA.out]; rfl, HS3.out.2⟩
  obtain ⟨y0, y1, y2, y3, y4, hl⟩ := HS3.out.cs
  go_wp2_with fail
  refine (within_new _ _ _ [x.slope] _ _ _ t5 _ _ rfl rfl (by simp) rfl K5.out).mono ?_
  rintro e w4 ⟨rfl, hw⟩
  have HS4 := Lib.hid (show LX w x w4 by rw [← hw]; exact HS3.out.alloc _)
  clear hw y0 y1 y2 y3 y4 hl
  go_wp2_with fail
  go_ret
  exact ⟨by rw [HA.out]; rfl, HS4.out.2⟩
theorem isLeg_is (x : Lg) (t : Bool) (h : Hid (okLg x = t)) (w : World) : Calls Tryz.prog 144 #[.agg #[.int .i64 x.frm, .int .i64 x.to_, .int .i64 x.tape, .int .i64 x.comp, .int .i64 x.slope]] w (BPost t w) := by rw [← h.out]; exact isLeg_any x w
theorem isLeg_impl (x : Lg) (w : World) : Calls Tryz.prog 144 #[.agg #[.int .i64 x.frm, .int .i64 x.to_, .int .i64 x.tape, .int .i64 x.comp, .int .i64 x.slope]] w (BPost (okLg x) w) := isLeg_any x w
set_option maxHeartbeats 4000000 in
set_option maxRecDepth 100000 in
theorem areLegs_any (A : Option Addr) (n cap : Nat) (ts : List Lg) (w : World) (hn : n ≤ 2000000) (hts : Hid (LgAt w w.heap.size A n ts)) :
    Calls Tryz.prog 119 #[.slice A n cap] w (BPost (goodLg ts) w) := by
  have hL : Hid (ts.length = n) := Lib.hid hts.out.1
  by_cases h8 : 12 < n
  · have HF := Lib.hid (show goodLg ts = false by
      cases q : goodLg ts
      · rfl
      · have := goodLg_len q; rw [hL.out] at this; omega)
    have h8d : decide ((12 : Int) < (n : Int)) = true := by simp; omega
    go_enter Tryz.func119, Tryz.ntmps119
    go_wp2_with fail
    go_ret
    exact ⟨ret_bool HF.out.symm, Below.refl _ _⟩
  have h8d : decide ((12 : Int) < (n : Int)) = false := by simp; omega
  have hn8 : n ≤ 12 := by omega
  clear h8
  go_enter Tryz.func119, Tryz.ntmps119
  go_wp2_with fail
  go_loopw [10] (fun i wr => ∃ k : Nat, k ≤ n ∧ i = .int .i64 k ∧ Hid ((ts.take k).all okLg = true) ∧ Below w.heap.size w wr) (fun i _ => n - (intOf i).toNat)
  case atStart => exact ⟨0, Nat.zero_le _, rfl, Lib.hid (by simp), Below.refl _ _⟩
  case round =>
    obtain ⟨k, hk, rfl, HI, hB⟩ := hrel
    have HB := Lib.hid hB
    clear hB
    by_cases hlt : k < n
    · obtain ⟨t, htk⟩ := at_lt hL.out hlt
      obtain ⟨g, rfl, hg, h0, h1, h2, h3, h4⟩ := (hts.out.below HB.out).2 k t htk
      have HK := Lib.hid htk
      clear htk
      have hki : (k : Int) < (n : Int) := by omega
      have hk0 : 0 ≤ (k : Int) := by omega
      have hkd : decide (k < n) = true := by simpa using hlt
      have HBA := Lib.hid (HB.out.alloc HB.out.size (.cells #[.int .i64 t.frm, .int .i64 t.to_, .int .i64 t.tape, .int .i64 t.comp, .int .i64 t.slope] 87))
      cases ot : okLg t
      · have OT := Lib.hid ot
        have HF := Lib.hid (show goodLg ts = false by unfold goodLg; rw [all_no HK.out ot]; rfl)
        clear ot
        go_wp2_with fail
        refine (isLeg_is t false OT _).mono ?_
        rintro e w1 ⟨rfl, b1⟩
        have HS := Lib.hid (HBA.out.trans (b1.mono HBA.out.size))
        clear b1
        go_wp2_with fail
        go_ret
        exact ⟨ret_bool HF.out.symm, HS.out⟩
      · have OT := Lib.hid ot
        have HN := Lib.hid (all_take HK.out HI.out ot)
        clear ot
        go_wp2_with fail
        refine (isLeg_is t true OT _).mono ?_
        rintro e w1 ⟨rfl, b1⟩
        have HS := Lib.hid (HBA.out.trans (b1.mono HBA.out.size))
        clear b1
        go_wp2_with fail
        go_roundw
        case rel => exact ⟨k + 1, by omega, by go_num, HN, HS.out⟩
        case measure => simp [intOf]; omega
    · have hkd : decide (k < n) = false := by simpa using hlt
      obtain rfl : k = n := by omega
      have HF := Lib.hid (show goodLg ts = true by unfold goodLg; rw [hL.out, show ts.all okLg = true by have := HI.out; rwa [List.take_of_length_le (by rw [hL.out]; omega)] at this]; simpa using hn8)
      clear hlt
      go_wp2_with fail
      go_ret
      exact ⟨ret_bool HF.out.symm, HB.out⟩
theorem areLegs_is (A : Option Addr) (n cap : Nat) (ts : List Lg) (t : Bool) (w : World) (hn : n ≤ 2000000) (hts : Hid (LgAt w w.heap.size A n ts)) (h : Hid (goodLg ts = t)) :
    Calls Tryz.prog 119 #[.slice A n cap] w (BPost t w) := by rw [← h.out]; exact areLegs_any A n cap ts w hn hts
end Go.Proofs.YtnpghhpcloljeabGreatDoor.lgi

namespace Go.Proofs.YtnpghhpcloljeabGreatDoor.win
open Go.RowKit
open reads base
set_option linter.unusedVariables false
set_option linter.unusedSimpArgs false

theorem rem360_is (d r : Int) (h : Hid (d % 360 = r)) (w : World) (h0 : -1000000 ≤ d) (h1 : d ≤ 1000000) :
    Calls Tryz.prog 183 #[.int .i64 d, .int .i64 360] w fun e w' => e = .returned (.int .i64 r) ∧ w = w' := by
  have ht0 : -360 < d.tmod 360 := Int.lt_tmod_of_pos d (by decide)
  have ht1 : d.tmod 360 < 360 := Int.tmod_lt_of_pos d (by decide)
  have HD := Lib.hid (show (d.tmod 360 + 360) % 360 = r by have := Int.tmod_def d 360; have := h.out; omega)
  clear h
  go_enter Tryz.func183, Tryz.ntmps183
  go_wp2_with fail
  go_ret
  exact ⟨by rw [← HD.out]; rfl, rfl⟩
theorem bearingOf_is (d r : Int) (h : Hid (d % 360 = r)) (w : World) (h0 : -1000000 ≤ d) (h1 : d ≤ 1000000) :
    Calls Tryz.prog 182 #[.int .i64 d] w fun e w' => e = .returned (.int .i64 r) ∧ w = w' := by
  go_enter Tryz.func182, Tryz.ntmps182
  go_wp2_with fail
  refine (rem360_is d r h _ h0 h1).mono ?_
  rintro e w' ⟨rfl, rfl⟩
  go_wp2_with fail
  go_ret
  exact ⟨rfl, rfl⟩
end Go.Proofs.YtnpghhpcloljeabGreatDoor.win

namespace Go.Proofs.YtnpghhpcloljeabGreatDoor.win
open Go.RowKit
open reads base sn
set_option linter.unusedVariables false
set_option linter.unusedSimpArgs false

theorem gTab : Tryz.prog.globalNamed "loop.example/g00933/impl.sines" = some 0 := by kernel_rfl
/-- the variable holds the table -/
def Tab (w : World) : Prop := Lib.TabIs Tryz.prog w "loop.example/g00933/impl.sines" .i64 tbl
theorem var_lt {w : World} {n : String} {g : Nat} {cs : Array Value} (hg : Tryz.prog.globalNamed n = some g) (h : w.var? Tryz.prog n = some cs) : g < w.heap.size := by
  rcases Nat.lt_or_ge g w.heap.size with hlt | hge
  · exact hlt
  · unfold World.var? at h
    simp only [hg, Option.bind_some, Array.getElem?_eq_none hge] at h
    simp at h
theorem Tab.below {w w' : World} (h : Tab w) (hb : Below w.heap.size w w') : Tab w' := var?_below hb gTab (var_lt gTab h) h
theorem Tab.cell {w : World} (h : Tab w) (k : Nat) (hk : k < 91) : w.cell? ⟨0, k, none⟩ = some (.int .i64 (tat k)) :=
  Lib.TabIs.cell h gTab k (by rw [tbl_len]; exact hk)
theorem Tab.alloc {w : World} (h : Tab w) (o : Obj) : Tab (w.alloc o) := h.below ((Below.refl _ w).alloc (Nat.le_refl _) o)

/-- the sine within half a turn -/
theorem sineAt_half (d : Int) (k : Nat) (w : World) (h0 : -1000000 ≤ d) (h1 : d ≤ 1000000) (hk : (d % 360).toNat = k) (hk2 : k ≤ 180) (hT : Tab w) :
    Calls Tryz.prog 181 #[.int .i64 d] w fun e w' => e = .returned (.int .i64 (sin0 k)) ∧ w = w' := by
  have HD := Lib.hid (show d % 360 = (k : Int) by omega)
  clear hk
  by_cases c1 : k ≤ 90
  · have HC := Lib.hid (show sin0 k = tat k by unfold sin0; rw [if_pos c1])
    have hc := hT.cell k (by omega)
    clear hT
    go_enter Tryz.func181, Tryz.ntmps181
    go_wp2_with fail
    refine (bearingOf_is d _ HD _ h0 h1).mono ?_
    rintro e w' ⟨rfl, rfl⟩
    go_wp2_with fail
    go_ret
    exact ⟨by rw [HC.out]; rfl, rfl⟩
  · have HC := Lib.hid (show sin0 k = tat (180 - k) by unfold sin0; rw [if_neg c1, if_pos hk2])
    have hc := hT.cell (180 - k) (by omega)
    have hi : (180 : Int) - (k : Int) = ((180 - k : Nat) : Int) := by omega
    clear hT
    go_enter Tryz.func181, Tryz.ntmps181
    go_wp2_with fail
    refine (bearingOf_is d _ HD _ h0 h1).mono ?_
    rintro e w' ⟨rfl, rfl⟩
    go_wp2_with fail
    go_ret
    exact ⟨by rw [HC.out]; rfl, rfl⟩
theorem sin0_half : ∀ k : Fin 360, 180 < k.val → sin0 k.val = - sin0 (360 - k.val) := by decide +kernel
theorem sineAt_is (d v : Int) (h : Hid (sinZ d = v)) (w : World) (h0 : -1000000 ≤ d) (h1 : d ≤ 1000000) (hT : Hid (Tab w)) :
    Calls Tryz.prog 181 #[.int .i64 d] w fun e w' => e = .returned (.int .i64 v) ∧ w = w' := by
  obtain ⟨k, hk⟩ : ∃ k : Nat, (d % 360).toNat = k := ⟨_, rfl⟩
  have hk1 : k < 360 := by omega
  have HS := Lib.hid (show v = sin0 k by rw [← h.out]; unfold sinZ; rw [hk])
  clear h
  by_cases c : k ≤ 180
  · rw [HS.out]; exact sineAt_half d k w h0 h1 hk c hT.out
  · have HD := Lib.hid (show d % 360 = (k : Int) by omega)
    clear hk
    obtain ⟨j, HJ⟩ : ∃ j, Hid (sin0 (360 - k) = j) := ⟨_, Lib.hid rfl⟩
    have hb := sin0_bd (360 - k)
    rw [HJ.out] at hb
    have HV := Lib.hid (show v = - j by rw [HS.out, ← HJ.out]; exact sin0_half ⟨k, hk1⟩ (by show 180 < k; omega))
    go_enter Tryz.func181, Tryz.ntmps181
    go_wp2_with fail
    refine (bearingOf_is d _ HD _ h0 h1).mono ?_
    rintro e w' ⟨rfl, rfl⟩
    go_wp2_with fail
    refine (sineAt_half (360 - (k : Int)) (360 - k) _ (by omega) (by omega) (by omega) (by omega) hT.out).mono ?_
    rintro e w' ⟨rfl, rfl⟩
    rw [HJ.out]
    go_wp2_with fail
    go_ret
    exact ⟨by rw [HV.out]; rfl, rfl⟩
theorem cosineAt_is (d v : Int) (h : Hid (cosZ d = v)) (w : World) (h0 : -100000 ≤ d) (h1 : d ≤ 100000) (hT : Hid (Tab w)) :
    Calls Tryz.prog 180 #[.int .i64 d] w fun e w' => e = .returned (.int .i64 v) ∧ w = w' := by
  have H := Lib.hid (show sinZ (d + 90) = v from h.out)
  clear h
  go_enter Tryz.func180, Tryz.ntmps180
  go_wp2_with fail
  refine (sineAt_is (d + 90) v H _ (by omega) (by omega) hT).mono ?_
  rintro e w' ⟨rfl, rfl⟩
  go_wp2_with fail
  go_ret
  exact ⟨rfl, rfl⟩
/-- the rounded quotient -/
theorem quot_pos (a b : Int) (w : World) (a0 : 0 ≤ a) (a1 : a ≤ 1000000000) (b0 : 1 ≤ b) (b1 : b ≤ 1000000) :
    Calls Tryz.prog 179 #[.int .i64 a, .int .i64 b] w fun e w' => e = .returned (.int .i64 (rdiv a b)) ∧ w = w' := by
  have HA := Lib.hid (show rdiv a b = (2 * a + b) / (2 * b) from if_neg (by omega))
  have q0 : 0 ≤ (2 * a + b) / (2 * b) := Int.ediv_nonneg (by omega) (by omega)
  have q1 : (2 * a + b) / (2 * b) ≤ 3000000000 := Int.le_trans (Int.ediv_le_self _ (by omega)) (by omega)
  have hb2 : ¬ 2 * b = 0 := by omega
  go_enter Tryz.func179, Tryz.ntmps179
  go_wp2_with fail
  go_ret
  exact ⟨by rw [HA.out]; rfl, rfl⟩
theorem rdiv_flip (a b : Int) (h : a < 0) : rdiv a b = - rdiv (-a) b := by
  unfold rdiv
  rw [if_pos h, if_neg (by omega)]
  congr 2; omega
theorem rdiv_bd (a b : Int) (a0 : 0 ≤ a) (a1 : a ≤ 1000000000) (b0 : 1 ≤ b) (b1 : b ≤ 1000000) : 0 ≤ rdiv a b ∧ rdiv a b ≤ 3000000000 := by
  rw [show rdiv a b = (2 * a + b) / (2 * b) from if_neg (by omega)]
  exact ⟨Int.ediv_nonneg (by omega) (by omega), Int.le_trans (Int.ediv_le_self _ (by omega)) (by omega)⟩
theorem quot_any (a b : Int) (w : World) (a0 : -1000000000 ≤ a) (a1 : a ≤ 1000000000) (b0 : 1 ≤ b) (b1 : b ≤ 1000000) :
    Calls Tryz.prog 179 #[.int .i64 a, .int .i64 b] w fun e w' => e = .returned (.int .i64 (rdiv a b)) ∧ w = w' := by
  by_cases h : a < 0
  · have HA := Lib.hid (rdiv_flip a b h)
    have hq := rdiv_bd (-a) b (by omega) (by omega) b0 b1
    go_enter Tryz.func179, Tryz.ntmps179
    go_wp2_with fail
    refine (quot_pos (-a) b _ (by omega) (by omega) b0 b1).mono ?_
    rintro e w' ⟨rfl, rfl⟩
    go_wp2_with fail
    go_ret
    exact ⟨by rw [HA.out]; rfl, rfl⟩
  · exact quot_pos a b w (by omega) a1 b0 b1
set_option maxHeartbeats 1000000 in
theorem lengths_any (g n c : Nat) (xs : List Int) (b : Bool) (w : World) (hn : Hid (xs.length = n)) (hn8 : n ≤ 8) (hc : Hid (IntsAt w g xs)) (hb : Hid (allIn (-100000) 100000 xs = b)) :
    Calls Tryz.prog 177 #[.slice (some ⟨g, 0, none⟩) n c] w fun e w' => e = .returned (.bool b) ∧ w = w' := by
  go_enter Tryz.func177, Tryz.ntmps177
  go_wp2_with fail
  refine (within_any _ _ g n c xs w hn hn8 hc).mono ?_
  rintro e w' ⟨rfl, rfl⟩
  rw [hb.out]
  go_wp2_with fail
  go_ret
  exact ⟨rfl, rfl⟩
theorem lengths_new (c : Nat) (xs : List Int) (n : Nat) (t : TypeId) (cs : Array Value) (b : Bool) (w : World) (g : Nat) (hg : w.heap.size = g) (hn : xs.length = n) (hn8 : n ≤ 8) (hcs : cs = (xs.map (Value.int .i64)).toArray) (hb : allIn (-100000) 100000 xs = b) :
    Calls Tryz.prog 177 #[.slice (some ⟨g, 0, none⟩) n c] (w.alloc (.cells cs t)) fun e w' => e = .returned (.bool b) ∧ w.alloc (.cells cs t) = w' := by
  subst hcs hg
  exact lengths_any w.heap.size n c xs b _ (Lib.hid hn) hn8 (Lib.hid (ints_new w t xs)) (Lib.hid hb)
theorem isAngle_is (x : Int) (t : Bool) (h : Hid (btw (-3600) x 3600 = t)) (w : World) :
    Calls Tryz.prog 178 #[.int .i64 x] w (BPost t w) := by
  go_enter Tryz.func178, Tryz.ntmps178
  go_wp2_with fail
  refine (within_new _ _ _ [x] _ _ _ t _ _ rfl rfl (by simp) rfl (one_in h.out)).mono ?_
  rintro e w' ⟨rfl, rfl⟩
  go_wp2_with fail
  go_ret
  exact ⟨rfl, (Below.refl _ _).alloc (Nat.le_refl _) _⟩
/-- what PartOf answers within the limits -/
def partV (a d : Int) : Value := .tuple #[.int .i64 (rdiv (a * cosZ d) 1000), .int .i64 (rdiv (a * sinZ d) 1000), .bool true]
theorem partOf_in (a d : Int) (w : World) (h0 : -100000 ≤ a) (h1 : a ≤ 100000) (k0 : -3600 ≤ d) (k1 : d ≤ 3600) (hT : Hid (Tab w)) : Calls Tryz.prog 172 #[.int .i64 a, .int .i64 d] w (APost (partV a d) w) := by
  have H1 := Lib.hid (one_in (btw_mk h0 h1))
  have H2 := Lib.hid (btw_mk k0 k1)
  have hs := sinZ_bd d
  have hc := cosZ_bd d
  obtain ⟨s0, s1⟩ := prod_bd a (sinZ d) h0 h1 hs.1 hs.2
  obtain ⟨c0, c1⟩ := prod_bd a (cosZ d) h0 h1 hc.1 hc.2
  obtain ⟨sv, HS⟩ : ∃ v, Hid (sinZ d = v) := ⟨_, Lib.hid rfl⟩
  obtain ⟨cv, HC⟩ : ∃ v, Hid (cosZ d = v) := ⟨_, Lib.hid rfl⟩
  rw [HS.out] at hs s0 s1
  rw [HC.out] at hc c0 c1
  have HA := Lib.hid (show partV a d = .tuple #[.int .i64 (rdiv (a * cv) 1000), .int .i64 (rdiv (a * sv) 1000), .bool true] by unfold partV; rw [HS.out, HC.out])
  go_enter Tryz.func172, Tryz.ntmps172
  go_wp2_with fail
  refine (lengths_new _ [a] _ _ _ true _ _ rfl rfl (by simp) rfl H1.out).mono ?_
  rintro e w' ⟨rfl, rfl⟩
  go_wp2_with fail
  refine (isAngle_is d true H2 _).mono ?_
  rintro e w1 ⟨rfl, b1⟩
  have b2 := ((Below.refl w.heap.size w).alloc (Nat.le_refl _) _).trans (b1.mono (by simp))
  have HT := Lib.hid (hT.out.below b2)
  have HB := Lib.hid b2
  clear b1 b2
  go_wp2_with fail
  refine (cosineAt_is d cv HC _ (by omega) (by omega) HT).mono ?_
  rintro e w' ⟨rfl, rfl⟩
  go_wp2_with fail
  refine (quot_any (a * cv) 1000 _ (by omega) (by omega) (by decide) (by decide)).mono ?_
  rintro e w' ⟨rfl, rfl⟩
  go_wp2_with fail
  refine (sineAt_is d sv HS _ (by omega) (by omega) HT).mono ?_
  rintro e w' ⟨rfl, rfl⟩
  go_wp2_with fail
  refine (quot_any (a * sv) 1000 _ (by omega) (by omega) (by decide) (by decide)).mono ?_
  rintro e w' ⟨rfl, rfl⟩
  go_wp2_with fail
  go_ret3
  exact ⟨by rw [HA.out]; rfl, HB.out⟩
end Go.Proofs.YtnpghhpcloljeabGreatDoor.win
