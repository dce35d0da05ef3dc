/-
  The model of the tools: WorstCheck, FitZero, FitScale.
  Conditions: the checks lie in one block below the call's own.
-/
import Derived.Test.YtekbiapgbhaibaaTlF
namespace Go.Proofs.Ytekbiapgbhaibaa.tl
open Go.RowKit
open reads
set_option linter.unusedVariables false
set_option linter.unusedSimpArgs false

/-- the worst check as the model tells it: (-1, 0) if some check has no error -/
def wv (x : Tl) (cs : List Ck) : Int × Int := if cs.all (errOk x) = true then wst x cs cs.length else (-1, 0)
theorem ansWst_wv (x : Tl) (cs : List Ck) : ansWst x cs = .tuple #[.int .i64 (wv x cs).1, .int .i64 (wv x cs).2] := by
  unfold ansWst wv
  split <;> rfl
theorem wv_bd (x : Tl) (cs : List Ck) (hn : cs.length ≤ 2000000) : -1 ≤ (wv x cs).1 ∧ (wv x cs).1 ≤ 2000000 ∧ -1 ≤ (wv x cs).2 ∧ (wv x cs).2 ≤ 2000 := by
  unfold wv
  split
  · rename_i h
    have := wst_bd' x cs cs.length (by rw [List.take_length]; exact h)
    omega
  · simp
theorem checks_is (x : Tl) (A : Option Addr) (n cap : Nat) (cs : List Ck) (t : Bool) (w : World) (hn : n ≤ 2000000) (hcs : Hid (CksAt w w.heap.size A n cs)) (ht : Hid (cksOk x cs = t)) :
    Calls Try.prog 65 #[.agg #[.int .i64 x.id, .int .i64 x.kind, .int .i64 x.zero, .int .i64 x.scale], .slice A n cap] w (BPost t w) := by
  rw [← ht.out]; exact checks_any x A n cap cs w hn hcs
theorem worst_is (x : Tl) (A : Option Addr) (n cap : Nat) (cs : List Ck) (u v : Int) (w : World) (hn : n ≤ 2000000) (hcs : Hid (CksAt w w.heap.size A n cs)) (hu : Hid (wv x cs = (u, v))) :
    Calls Try.prog 66 #[.agg #[.int .i64 x.id, .int .i64 x.kind, .int .i64 x.zero, .int .i64 x.scale], .slice A n cap] w (APost (.tuple #[.int .i64 u, .int .i64 v]) w) := by
  have h := worst_any x A n cap cs w hn hcs
  rw [ansWst_wv, hu.out] at h
  exact h

/-- what WorstCheck answers -/
def ansWorst (x : Tl) (cs : List Ck) : Value := if cksOk x cs = true ∧ 0 ≤ (wv x cs).1 then .tuple #[.int .i64 (wv x cs).1, .int .i64 (wv x cs).2, .bool true] else .tuple #[.int .i64 0, .int .i64 0, .bool false]
theorem cks_alloc {w : World} {A : Option Addr} {n : Nat} {cs : List Ck} (h : CksAt w w.heap.size A n cs) (o : Obj) : CksAt (w.alloc o) (w.alloc o).heap.size A n cs :=
  (h.below ((Below.refl _ _).alloc (Nat.le_refl _) _)).more (by simp)
theorem cks_step {w w' : World} {A : Option Addr} {n : Nat} {cs : List Ck} (h : CksAt w w.heap.size A n cs) (hb : Below w.heap.size w w') : CksAt w' w'.heap.size A n cs := (h.below hb).more hb.size
set_option maxHeartbeats 1000000 in
theorem worstCheck_model (x : Tl) (A : Option Addr) (n cap : Nat) (cs : List Ck) (w : World) (hn : n ≤ 2000000) (hcs : Hid (CksAt w w.heap.size A n cs)) :
    Calls Try.prog 25 #[.agg #[.int .i64 x.id, .int .i64 x.kind, .int .i64 x.zero, .int .i64 x.scale], .slice A n cap] w (APost (ansWorst x cs) w) := by
  have H0 := Lib.hid (cks_alloc hcs.out (.cells #[.int .i64 x.id, .int .i64 x.kind, .int .i64 x.zero, .int .i64 x.scale] 25))
  cases hc : cksOk x cs
  · have HA := Lib.hid (show ansWorst x cs = .tuple #[.int .i64 0, .int .i64 0, .bool false] by unfold ansWorst; rw [if_neg (by rw [hc]; simp)])
    have HC := Lib.hid hc
    clear hc
    go_enter Try.func25, Try.ntmps25
    go_wp2_with fail
    refine (checks_is x A n cap cs false _ hn H0 HC).mono ?_
    rintro e w1 ⟨rfl, b1⟩
    have HB := Lib.hid (((Below.refl w.heap.size w).alloc (Nat.le_refl _) _).trans (b1.mono (by simp)))
    clear b1
    go_wp2_with fail
    go_ret3
    exact ⟨by rw [HA.out]; rfl, HB.out⟩
  · obtain ⟨u, v, HU⟩ : ∃ u v, Hid (wv x cs = (u, v)) := ⟨_, _, Lib.hid rfl⟩
    have HC := Lib.hid hc
    have hb := wv_bd x cs (by have := hcs.out.1; omega)
    rw [HU.out] at hb
    simp only [] at hb
    have HA := Lib.hid (show ansWorst x cs = if 0 ≤ u then .tuple #[.int .i64 u, .int .i64 v, .bool true] else .tuple #[.int .i64 0, .int .i64 0, .bool false] by unfold ansWorst; simp only [hc, HU.out, true_and])
    clear hc
    go_enter Try.func25, Try.ntmps25
    go_wp2_with fail
    refine (checks_is x A n cap cs true _ hn H0 HC).mono ?_
    rintro e w1 ⟨rfl, b1⟩
    obtain ⟨hc1, hf1⟩ := bcell b1
    have H1 := Lib.hid (cks_step H0.out b1)
    have HB := Lib.hid (((Below.refl w.heap.size w).alloc (Nat.le_refl _) _).trans (b1.mono (by simp)))
    clear b1
    go_wp2_with fail
    refine (worst_is x A n cap cs u v _ hn H1 HU).mono ?_
    rintro e w2 ⟨rfl, b2⟩
    have HB2 := Lib.hid (HB.out.trans (b2.mono HB.out.size))
    clear b2
    by_cases h0 : 0 ≤ u
    · have HA2 := Lib.hid (HA.out.trans (if_pos h0))
      go_wp2_with fail
      go_ret3
      exact ⟨by rw [HA2.out]; rfl, HB2.out⟩
    · have HA2 := Lib.hid (HA.out.trans (if_neg h0))
      go_wp2_with fail
      go_ret3
      exact ⟨by rw [HA2.out]; rfl, HB2.out⟩

/-- the search for a fit -/
def fitStep (mk : Int → Tl) (cs : List Ck) (st : Tl × Int) (z : Int) : Tl × Int :=
  if 0 ≤ (wv (mk z) cs).1 ∧ (st.2 < 0 ∨ (wv (mk z) cs).2 < st.2) then (mk z, (wv (mk z) cs).2) else st
def fitN (mk : Int → Tl) (cs : List Ck) (z0 : Int) : Nat → Tl × Int
  | 0 => (⟨0, 0, 0, 0⟩, -1)
  | k + 1 => fitStep mk cs (fitN mk cs z0 k) (z0 + k)
theorem fitN_bd (mk : Int → Tl) (cs : List Ck) (z0 : Int) (hn : cs.length ≤ 2000000) : ∀ k, -1 ≤ (fitN mk cs z0 k).2 ∧ (fitN mk cs z0 k).2 ≤ 2000
  | 0 => by unfold fitN; simp
  | k + 1 => by
    have a := fitN_bd mk cs z0 hn k
    have b := wv_bd (mk (z0 + k)) cs hn
    unfold fitN fitStep
    split
    · simp only []; omega
    · exact a
def mkZ (x : Tl) (z : Int) : Tl := ⟨x.id, x.kind, z, x.scale⟩
def mkS (x : Tl) (s : Int) : Tl := ⟨x.id, 0, x.zero, s⟩
/-- what FitZero answers -/
def fitZ (x : Tl) (cs : List Ck) : Tl × Bool := if cksOk x cs = true then ((fitN (mkZ x) cs (-50) 101).1, decide (0 ≤ (fitN (mkZ x) cs (-50) 101).2)) else (⟨0, 0, 0, 0⟩, false)
def fitS (x : Tl) (cs : List Ck) : Tl × Bool := if cksOk x cs = true ∧ x.kind = 0 then ((fitN (mkS x) cs 900 201).1, decide (0 ≤ (fitN (mkS x) cs 900 201).2)) else (⟨0, 0, 0, 0⟩, false)
/-- a tool and a word -/
def TPost (r : Tl × Bool) (w : World) (e : Ending) (w' : World) : Prop := e = .returned (.tuple #[.agg #[.int .i64 r.1.id, .int .i64 r.1.kind, .int .i64 r.1.zero, .int .i64 r.1.scale], .bool r.2]) ∧ Below w.heap.size w w'

set_option maxHeartbeats 4000000 in
set_option maxRecDepth 100000 in
theorem fitZero_bad (x : Tl) (A : Option Addr) (n cap : Nat) (cs : List Ck) (w : World) (hn : n ≤ 2000000) (hcs : Hid (CksAt w w.heap.size A n cs)) (hc : Hid (cksOk x cs = false)) :
    Calls Try.prog 23 #[.agg #[.int .i64 x.id, .int .i64 x.kind, .int .i64 x.zero, .int .i64 x.scale], .slice A n cap] w (TPost (⟨0, 0, 0, 0⟩, false) w) := by
  have H0 := Lib.hid (cks_alloc (cks_alloc (cks_alloc hcs.out (.cells #[.int .i64 x.id, .int .i64 x.kind, .int .i64 x.zero, .int .i64 x.scale] 25)) (.cells #[.int .i64 0, .int .i64 0, .int .i64 0, .int .i64 0] 25)) (.cells #[.int .i64 0, .int .i64 0, .int .i64 0, .int .i64 0] 25))
  go_enter Try.func23, Try.ntmps23
  go_wp2_with fail
  refine (checks_is x A n cap cs false _ hn H0 hc).mono ?_
  rintro e w1 ⟨rfl, b1⟩
  obtain ⟨hc1, hf1⟩ := bcell b1
  have hz : w.heap.size + 3 ≤ w1.heap.size := by have := b1.size; simp at this; omega
  have HB := Lib.hid (((((Below.refl w.heap.size w).alloc (Nat.le_refl _) _).alloc (by simp) _).alloc (by simp; omega) _).trans (b1.mono (by simp; omega)))
  clear b1
  go_wp2_with fail
  refine bodyPost_ret (v := .tuple #[.agg #[.int .i64 0, .int .i64 0, .int .i64 0, .int .i64 0], .bool false]) (by simp [results, Try.results23, go_sem, hc1]) rfl ⟨rfl, ?_⟩
  exact (((HB.out.setCell (by simp) _).setCell (by simp) _).setCell (by simp) _).setCell (by simp) _
end Go.Proofs.Ytekbiapgbhaibaa.tl
