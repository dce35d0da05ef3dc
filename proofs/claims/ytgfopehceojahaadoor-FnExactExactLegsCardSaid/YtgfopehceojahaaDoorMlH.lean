/-
  Valid axes, AdjustAxis and ResidualOf, by the model.
  Conditions: the legs lie in one block, at most 2000000 of them.
-/
import Derived.Test.YtgfopehceojahaaDoorMlG
namespace Go.Proofs.YtgfopehceojahaaDoor.ml
open Go.RowKit
open reads base inn ty lg rowi hs nt mt dt
set_option linter.unusedVariables false
set_option linter.unusedSimpArgs false

/-- whether legs and an axis are valid -/
def axOk (ts : List Lg) (ax : Int) : Bool := goodLg ts && btw 0 ax 2
set_option maxHeartbeats 4000000 in
set_option maxRecDepth 100000 in
theorem axis_is (A : Option Addr) (n cap : Nat) (ts : List Lg) (ax : Int) (t : Bool) (w : World) (hn : n ≤ 2000000) (hts : Hid (LgAt w w.heap.size A n ts)) (ht : Hid (axOk ts ax = t)) :
    Calls Tryd.prog 40 #[.slice A n cap, .int .i64 ax] w (BPost t w) := by
  obtain ⟨g, HG⟩ : ∃ g, Hid (goodLg ts = g) := ⟨_, Lib.hid rfl⟩
  obtain ⟨p, HP⟩ : ∃ g, Hid (btw 0 ax 2 = g) := ⟨_, Lib.hid rfl⟩
  have HT := Lib.hid (show (g && p) = t by rw [← HG.out, ← HP.out]; exact ht.out)
  go_enter Tryd.func40, Tryd.ntmps40
  go_wp2_with fail
  refine (legs_is A n cap ts g _ hn hts HG).mono ?_
  rintro e w1 ⟨rfl, b1⟩
  have HB := Lib.hid b1
  clear b1
  cases g
  · obtain rfl : t = false := HT.out.symm
    go_wp2_with fail
    go_ret
    exact ⟨rfl, HB.out⟩
  · obtain rfl : p = t := by simpa using HT.out
    go_wp2_with fail
    refine (in_is ax 0 2 p HP _).mono ?_
    rintro e w9 ⟨rfl, rfl⟩
    go_wp2_with fail
    go_ret
    exact ⟨rfl, HB.out⟩
/-- AdjustAxis's answer -/
def axL (ts : List Lg) (ax : Int) : List Int := if axOk ts ax then xcN ts ax else []
def axD (ts : List Lg) (ax : Int) : Int := if axOk ts ax then TC ts else 0
def A3Post (xs : List Int) (d : Int) (t : Bool) (w : World) (e : Ending) (w' : World) : Prop :=
  ∃ v, e = .returned (.tuple #[v, .int .i64 d, .bool t]) ∧ w'.ownsRow w.heap.size 3 1 v xs.length (ints.intsV xs) ∧ Below w.heap.size w w'
theorem axL_len (ts : List Lg) (ax : Int) : (axL ts ax).length ≤ 8 := by
  unfold axL; split
  · rw [xcN_len]; exact Nat.le_refl _
  · simp
set_option maxHeartbeats 8000000 in
set_option maxRecDepth 100000 in
theorem adjustAxis_model (A : Option Addr) (n cap : Nat) (ts : List Lg) (ax : Int) (w : World) (hn : n ≤ 2000000) (hts : Hid (LgAt w w.heap.size A n ts)) :
    Calls Tryd.prog 16 #[.slice A n cap, .int .i64 ax] w (A3Post (axL ts ax) (axD ts ax) (axOk ts ax) w) := by
  obtain ⟨t, HT⟩ : ∃ t, Hid (axOk ts ax = t) := ⟨_, Lib.hid rfl⟩
  cases t
  · have HF := Lib.hid (show axL ts ax = [] ∧ axD ts ax = 0 by unfold axL axD; rw [HT.out]; exact ⟨rfl, rfl⟩)
    rw [HF.out.1, HF.out.2, HT.out]
    go_enter Tryd.func16, Tryd.ntmps16
    go_wp2_with fail
    refine (axis_is A n cap ts ax false _ hn hts HT).mono ?_
    rintro e w1 ⟨rfl, b1⟩
    have HB := Lib.hid b1
    have HR := Lib.hid (show (w1.alloc (.cells #[] 3)).ownsRow w.heap.size 3 1 (.slice (some ⟨w1.heap.size, 0, none⟩) 0 0) 0 [] from World.ownsRow_made w1 #[] 0 b1.size (by decide) (by simp))
    clear b1
    go_wp2_with fail
    go_ret3
    exact ⟨_, rfl, HR.out, HB.out.alloc HB.out.size _⟩
  · have HGA := Lib.hid (show goodLg ts = true ∧ btw 0 ax 2 = true by have := HT.out; unfold axOk at this; rwa [Bool.and_eq_true] at this)
    have HG := Lib.hid HGA.out.1
    have hax := btw_yes HGA.out.2
    obtain ⟨d, HD⟩ : ∃ d, Hid (TC ts = d) := ⟨_, Lib.hid rfl⟩
    have HF := Lib.hid (show axL ts ax = xcN ts ax ∧ axD ts ax = d by unfold axL axD; rw [HT.out]; exact ⟨rfl, HD.out⟩)
    rw [HF.out.1, HF.out.2, HT.out]
    go_enter Tryd.func16, Tryd.ntmps16
    go_wp2_with fail
    refine (axis_is A n cap ts ax true _ hn hts HT).mono ?_
    rintro e w1 ⟨rfl, b1⟩
    have HB := Lib.hid b1
    clear b1
    go_wp2_with fail
    refine (adjust_any A n cap ts ax _ hax.1 hax.2 HG (Lib.hid (hts.out.step HB.out))).mono ?_
    rintro e w2 ⟨v2, rfl, hO, b2⟩
    have HO := Lib.hid (own_mono hO HB.out.size)
    have HB2 := Lib.hid (HB.out.trans (b2.mono HB.out.size))
    obtain ⟨A2, c2, rfl⟩ := row_slice hO
    clear hO b2
    go_wp2_with fail
    refine (trees_any A n cap ts _ HG (Lib.hid (hts.out.step HB2.out))).mono ?_
    rintro e w3 ⟨rfl, b3⟩
    rw [HD.out]
    have HO3 := Lib.hid (row_below HO.out b3)
    have HB3 := Lib.hid (HB2.out.trans (b3.mono HB2.out.size))
    clear b3
    go_wp2_with fail
    go_ret3
    exact ⟨_, rfl, HO3.out, HB3.out⟩
#print axioms adjustAxis_model
end Go.Proofs.YtgfopehceojahaaDoor.ml
