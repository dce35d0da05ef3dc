/-
  The program's entries of field books: which are valid, their legs, books of them, their length.
  Conditions: none but those that a theorem names.
-/
import Derived.Test.YtnlljdepcldibaaGreatDoorEnT
import Derived.Test.YtnlljdepcldibaaGreatDoorLgI0
import Derived.Deep.DeepCutAuto
import Derived.Deep.RegionWith
import Derived.Deep.QuietTactic
import Derived.BigQuiet
namespace Go.Proofs.YtnlljdepcldibaaGreatDoor.eni
open Go.RowKit
open reads base ty win lg lgi en
set_option linter.unusedVariables false
set_option linter.unusedSimpArgs false

/-- the leg in the direction in which it was read -/
def asRead (x : En) : Lg := if x.back then ⟨x.to_, x.frm, x.tape, x.comp, x.slope⟩ else asLg x
theorem asRead_ok (x : En) : okLg (asRead x) = okEn x := by
  unfold asRead
  split
  · unfold okEn okLg asLg
    simp only []
    rw [Bool.and_comm (btw 0 x.to_ 7), show (x.to_ != x.frm) = (x.frm != x.to_) by rw [Bool.eq_iff_iff]; simp only [bne_iff_ne, ne_eq]; exact ⟨fun h k => h k.symm, fun h k => h k.symm⟩]
  · rfl
set_option maxHeartbeats 4000000 in
set_option maxRecDepth 100000 in
theorem asRead_any (x : En) (w : World) : Calls Tryz.prog 27 #[.agg #[.int .i64 x.frm, .int .i64 x.to_, .int .i64 x.tape, .int .i64 x.comp, .int .i64 x.slope, .bool x.back]] w (APost (.agg #[.int .i64 (asRead x).frm, .int .i64 (asRead x).to_, .int .i64 (asRead x).tape, .int .i64 (asRead x).comp, .int .i64 (asRead x).slope]) w) := by
  cases hb : x.back
  · have HR := Lib.hid (show asRead x = ⟨x.frm, x.to_, x.tape, x.comp, x.slope⟩ by unfold asRead asLg; rw [hb]; rfl)
    rw [HR.out]
    go_enter Tryz.func27, Tryz.ntmps27
    go_wp2_with fail
    refine bodyPost_ret (v := .agg #[.int .i64 x.frm, .int .i64 x.to_, .int .i64 x.tape, .int .i64 x.comp, .int .i64 x.slope]) (by simp [results, Tryz.results27, go_sem, hb]) rfl ⟨rfl, ?_⟩
    repeat (first | exact HB.out | exact (Below.refl _ _) | refine Below.setCell ?_ (by first | (simp; done) | (simp; omega)) _ | refine Below.alloc ?_ (by first | (simp; done) | (simp; omega)) _)
  · have HR := Lib.hid (show asRead x = ⟨x.to_, x.frm, x.tape, x.comp, x.slope⟩ by unfold asRead; rw [hb]; rfl)
    rw [HR.out]
    go_enter Tryz.func27, Tryz.ntmps27
    go_wp2_with fail
    go_region
    go_wp2_with fail
    refine bodyPost_ret (v := .agg #[.int .i64 x.to_, .int .i64 x.frm, .int .i64 x.tape, .int .i64 x.comp, .int .i64 x.slope]) (by simp [results, Tryz.results27, go_sem, hb]) rfl ⟨rfl, ?_⟩
    refine Below.trans ?_ ((drewN_below _ 1).mono (by first | (simp; done) | (simp; omega)))
    repeat (first | exact HB.out | exact (Below.refl _ _) | refine Below.setCell ?_ (by first | (simp; done) | (simp; omega)) _ | refine Below.alloc ?_ (by first | (simp; done) | (simp; omega)) _)
theorem asRead_is (x : En) (y : Lg) (h : Hid (asRead x = y)) (w : World) : Calls Tryz.prog 27 #[.agg #[.int .i64 x.frm, .int .i64 x.to_, .int .i64 x.tape, .int .i64 x.comp, .int .i64 x.slope, .bool x.back]] w (APost (.agg #[.int .i64 y.frm, .int .i64 y.to_, .int .i64 y.tape, .int .i64 y.comp, .int .i64 y.slope]) w) := by rw [← h.out]; exact asRead_any x w
set_option maxHeartbeats 4000000 in
set_option maxRecDepth 100000 in
theorem isEntry_any (x : En) (w : World) : Calls Tryz.prog 8 #[.agg #[.int .i64 x.frm, .int .i64 x.to_, .int .i64 x.tape, .int .i64 x.comp, .int .i64 x.slope, .bool x.back]] w (BPost (okEn x) w) := by
  obtain ⟨y, hy⟩ : ∃ y, asRead x = y := ⟨_, rfl⟩
  have HO := Lib.hid (show okLg y = okEn x by rw [← hy]; exact asRead_ok x)
  have HY := Lib.hid hy
  clear hy
  go_enter Tryz.func8, Tryz.ntmps8
  go_wp2_with fail
  refine (asRead_is x y HY _).mono ?_
  rintro e w1 ⟨rfl, b1⟩
  have HB := Lib.hid (((Below.refl w.heap.size w).alloc (Nat.le_refl _) _).trans (b1.mono (by simp)))
  clear b1
  go_wp2_with fail
  refine (isLeg_is y _ HO _).mono ?_
  rintro e w2 ⟨rfl, b2⟩
  have HB2 := Lib.hid (HB.out.trans (b2.mono HB.out.size))
  clear b2
  go_wp2_with fail
  go_ret
  exact ⟨rfl, HB2.out⟩
theorem isEntry_is (x : En) (t : Bool) (h : Hid (okEn x = t)) (w : World) : Calls Tryz.prog 8 #[.agg #[.int .i64 x.frm, .int .i64 x.to_, .int .i64 x.tape, .int .i64 x.comp, .int .i64 x.slope, .bool x.back]] w (BPost t w) := by rw [← h.out]; exact isEntry_any x w
theorem isEntry_impl (x : En) (w : World) : Calls Tryz.prog 8 #[.agg #[.int .i64 x.frm, .int .i64 x.to_, .int .i64 x.tape, .int .i64 x.comp, .int .i64 x.slope, .bool x.back]] w (BPost (okEn x) w) := isEntry_any x w
set_option maxHeartbeats 4000000 in
set_option maxRecDepth 100000 in
theorem isBook_any (A : Option Addr) (n cap : Nat) (ts : List En) (w : World) (hn : n ≤ 2000000) (hts : Hid (EnAt w w.heap.size A n ts)) :
    Calls Tryz.prog 37 #[.slice A n cap] w (BPost (goodEn ts) w) := by
  have hL : Hid (ts.length = n) := Lib.hid hts.out.1
  by_cases h8 : 12 < n
  · have HF := Lib.hid (show goodEn ts = false by
      cases q : goodEn ts
      · rfl
      · have := goodEn_len q; rw [hL.out] at this; omega)
    have h8d : decide ((12 : Int) < (n : Int)) = true := by simp; omega
    go_enter Tryz.func37, Tryz.ntmps37
    go_wp2_with fail
    go_ret
    exact ⟨ret_bool HF.out.symm, Below.refl _ _⟩
  have h8d : decide ((12 : Int) < (n : Int)) = false := by simp; omega
  have hn8 : n ≤ 12 := by omega
  clear h8
  go_enter Tryz.func37, Tryz.ntmps37
  go_wp2_with fail
  go_loopw [10] (fun i wr => ∃ k : Nat, k ≤ n ∧ i = .int .i64 k ∧ Hid ((ts.take k).all okEn = true) ∧ Below w.heap.size w wr) (fun i _ => n - (intOf i).toNat)
  case atStart => exact ⟨0, Nat.zero_le _, rfl, Lib.hid (by simp), Below.refl _ _⟩
  case round =>
    obtain ⟨k, hk, rfl, HI, hB⟩ := hrel
    have HB := Lib.hid hB
    clear hB
    by_cases hlt : k < n
    · obtain ⟨t, htk⟩ := at_lt hL.out hlt
      obtain ⟨g, rfl, hg, h0, h1, h2, h3, h4, h5⟩ := (hts.out.below HB.out).2 k t htk
      have HK := Lib.hid htk
      clear htk
      have hki : (k : Int) < (n : Int) := by omega
      have hk0 : 0 ≤ (k : Int) := by omega
      have hkd : decide (k < n) = true := by simpa using hlt
      have HBA := Lib.hid (HB.out.alloc HB.out.size (.cells #[.int .i64 t.frm, .int .i64 t.to_, .int .i64 t.tape, .int .i64 t.comp, .int .i64 t.slope, .bool t.back] 25))
      cases ot : okEn t
      · have OT := Lib.hid ot
        have HF := Lib.hid (show goodEn ts = false by unfold goodEn; rw [all_no HK.out ot]; rfl)
        clear ot
        go_wp2_with fail
        refine (isEntry_is t false OT _).mono ?_
        rintro e w1 ⟨rfl, b1⟩
        have HS := Lib.hid (HBA.out.trans (b1.mono HBA.out.size))
        clear b1
        go_wp2_with fail
        go_ret
        exact ⟨ret_bool HF.out.symm, HS.out⟩
      · have OT := Lib.hid ot
        have HN := Lib.hid (all_take HK.out HI.out ot)
        clear ot
        go_wp2_with fail
        refine (isEntry_is t true OT _).mono ?_
        rintro e w1 ⟨rfl, b1⟩
        have HS := Lib.hid (HBA.out.trans (b1.mono HBA.out.size))
        clear b1
        go_wp2_with fail
        go_roundw
        case rel => exact ⟨k + 1, by omega, by go_num, HN, HS.out⟩
        case measure => simp [intOf]; omega
    · have hkd : decide (k < n) = false := by simpa using hlt
      obtain rfl : k = n := by omega
      have HF := Lib.hid (show goodEn ts = true by unfold goodEn; rw [hL.out, show ts.all okEn = true by have := HI.out; rwa [List.take_of_length_le (by rw [hL.out]; omega)] at this]; simpa using hn8)
      clear hlt
      go_wp2_with fail
      go_ret
      exact ⟨ret_bool HF.out.symm, HB.out⟩
theorem isBook_is (A : Option Addr) (n cap : Nat) (ts : List En) (t : Bool) (w : World) (hn : n ≤ 2000000) (hts : Hid (EnAt w w.heap.size A n ts)) (h : Hid (goodEn ts = t)) :
    Calls Tryz.prog 37 #[.slice A n cap] w (BPost t w) := by rw [← h.out]; exact isBook_any A n cap ts w hn hts
end Go.Proofs.YtnlljdepcldibaaGreatDoor.eni
