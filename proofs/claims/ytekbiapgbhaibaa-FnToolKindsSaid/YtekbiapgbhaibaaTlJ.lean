/-
  The model of the tools: ReadBack.
  Conditions: none but those that a theorem names.
-/
import Derived.Test.YtekbiapgbhaibaaTlE
namespace Go.Proofs.Ytekbiapgbhaibaa.tl
open Go.RowKit
open reads
set_option linter.unusedVariables false

/-- a reading with a corrected reading -/
def hit (x : Tl) (c r : Int) : Prop := rdg x.kind r = true ∧ corr x r = c
def firstHit (x : Tl) (c r : Int) : Prop := -90 ≤ r ∧ r ≤ 1000 ∧ hit x c r ∧ ∀ q, -90 ≤ q → q < r → ¬ hit x c q
theorem first_uniq {x : Tl} {c r q : Int} (h : firstHit x c r) (k : firstHit x c q) : r = q := by
  rcases Int.lt_trichotomy r q with a | a | a
  · exact absurd h.2.2.1 (k.2.2.2 r h.1 a)
  · exact a
  · exact absurd k.2.2.1 (h.2.2.2 q k.1 a)
def rbOk (x : Tl) (c : Int) : Bool := okT x && rdg x.kind c
/-- what ReadBack answers -/
def RBPost (x : Tl) (c : Int) (w : World) (e : Ending) (w' : World) : Prop :=
  ((rbOk x c = true ∧ ∃ r, firstHit x c r ∧ e = .returned (.tuple #[.int .i64 r, .bool true])) ∨ ((rbOk x c = false ∨ ∀ q, -90 ≤ q → q ≤ 1000 → ¬ hit x c q) ∧ e = .returned (.tuple #[.int .i64 0, .bool false]))) ∧ Below w.heap.size w w'

set_option maxHeartbeats 4000000 in
set_option maxRecDepth 100000 in
theorem readBack_model (x : Tl) (c : Int) (w : World) :
    Calls Try.prog 38 #[.agg #[.int .i64 x.id, .int .i64 x.kind, .int .i64 x.zero, .int .i64 x.scale], .int .i64 c] w (RBPost x c w) := by
  obtain ⟨c0, c1, c2, c3, HB⟩ := box4 w 25 (.int .i64 x.id) (.int .i64 x.kind) (.int .i64 x.zero) (.int .i64 x.scale)
  have HB0 := Lib.hid HB
  clear HB
  cases hx : okT x
  · have HX := Lib.hid hx
    have HR := Lib.hid (show rbOk x c = false by unfold rbOk; rw [hx]; rfl)
    clear hx
    go_enter Try.func38, Try.ntmps38
    go_wp2_with fail
    refine (one_is x false HX _).mono ?_
    rintro e w1 ⟨rfl, b1⟩
    have HE := Lib.hid (HB0.out.trans (b1.mono HB0.out.size))
    clear b1
    go_wp2_with fail
    go_ret2
    exact ⟨.inr ⟨.inl HR.out, rfl⟩, HE.out⟩
  have HX := Lib.hid hx
  cases hr : rdg x.kind c
  · have HQ := Lib.hid hr
    have HR := Lib.hid (show rbOk x c = false by unfold rbOk; rw [hr]; simp)
    clear hx hr
    go_enter Try.func38, Try.ntmps38
    go_wp2_with fail
    refine (one_is x true HX _).mono ?_
    rintro e w1 ⟨rfl, b1⟩
    have HE := Lib.hid (HB0.out.trans (b1.mono HB0.out.size))
    obtain ⟨hc1, hf1⟩ := bcell b1
    clear b1
    go_wp2_with fail
    refine (reading_is _ _ false HQ _).mono ?_
    rintro e w' ⟨rfl, rfl⟩
    go_wp2_with fail
    go_ret2
    exact ⟨.inr ⟨.inl HR.out, rfl⟩, HE.out⟩
  have HQ := Lib.hid hr
  have HR := Lib.hid (show rbOk x c = true by unfold rbOk; rw [hx, hr]; rfl)
  clear hx hr
  go_enter Try.func38, Try.ntmps38
  go_wp2_with fail
  obtain ⟨W0, HW0⟩ : ∃ W0, Hid (w.alloc (.cells #[.int .i64 x.id, .int .i64 x.kind, .int .i64 x.zero, .int .i64 x.scale] 25) = W0) := ⟨_, Lib.hid rfl⟩
  obtain ⟨B, HBB⟩ : ∃ B, Hid (w.heap.size + 1 = B) := ⟨_, Lib.hid rfl⟩
  obtain ⟨b, HBb⟩ : ∃ b, Hid (w.heap.size = b) := ⟨_, Lib.hid rfl⟩
  have hbB : b < B := by rw [← HBB.out, ← HBb.out]; omega
  have HWB := Lib.hid (show B ≤ W0.heap.size by rw [← HBB.out, ← HW0.out]; simp)
  have HB1 := Lib.hid (show ∀ v, Below B W0 v → Below w.heap.size w v from fun v hv => by
    rw [← HBB.out, ← HW0.out] at hv
    exact HB0.out.trans (hv.mono (by omega)))
  rw [HW0.out, HBb.out] at c0 c1 c2 c3
  rw [HW0.out, HBb.out]
  clear HW0 HBB HB0
  refine (one_is x true HX _).mono ?_
  rintro e w1 ⟨rfl, b1⟩
  have H1 := Lib.hid (show Below B W0 w1 from b1.mono HWB.out)
  have d0 := (H1.out.cell (p := ⟨b, 0, none⟩) hbB).trans c0
  have d1 := (H1.out.cell (p := ⟨b, 1, none⟩) hbB).trans c1
  clear b1
  go_wp2_with fail
  refine (reading_is _ _ true HQ _).mono ?_
  rintro e w' ⟨rfl, rfl⟩
  go_wp2_with fail
  clear d0 d1
  go_loopw [6] (fun i wr => ∃ r : Int, -90 ≤ r ∧ r ≤ 1001 ∧ i = .int .i64 r ∧ Hid (∀ q, -90 ≤ q → q < r → ¬ hit x c q) ∧ Below B W0 wr) (fun i _ => (1001 - intOf i).toNat)
  case atStart => exact ⟨-90, by decide, by decide, rfl, Lib.hid (fun q h0 h1 => by omega), H1.out⟩
  case round =>
    obtain ⟨r, r0, r1, rfl, HN, hBr⟩ := hrel
    have HS := Lib.hid hBr
    have d0 := (HS.out.cell (p := ⟨b, 0, none⟩) hbB).trans c0
    have d1 := (HS.out.cell (p := ⟨b, 1, none⟩) hbB).trans c1
    have d2 := (HS.out.cell (p := ⟨b, 2, none⟩) hbB).trans c2
    have d3 := (HS.out.cell (p := ⟨b, 3, none⟩) hbB).trans c3
    clear hBr H1
    by_cases hlt : r ≤ 1000
    · cases hr : rdg x.kind r
      · have HR1 := Lib.hid hr
        have HN2 := Lib.hid (show ∀ q, -90 ≤ q → q < r + 1 → ¬ hit x c q from fun q h0 h1 hh => by
          by_cases e : q = r
          · subst e; have := hh.1; rw [HR1.out] at this; cases this
          · exact HN.out q h0 (by omega) hh)
        clear hr
        go_wp2_with fail
        refine (reading_is _ _ false HR1 _).mono ?_
        rintro e w' ⟨rfl, rfl⟩
        go_wp2_with fail
        go_roundw
        case rel => exact ⟨r + 1, by omega, by omega, rfl, HN2, HS.out⟩
        case measure => simp [intOf]; omega
      · have HR1 := Lib.hid hr
        clear hr
        obtain ⟨y, HY⟩ : ∃ y, Hid (corr x r = y) := ⟨_, Lib.hid rfl⟩
        by_cases hy : y = c
        · subst hy
          have HF := Lib.hid (show firstHit x y r from ⟨r0, hlt, ⟨HR1.out, HY.out⟩, HN.out⟩)
          go_wp2_with fail
          refine (reading_is _ _ true HR1 _).mono ?_
          rintro e w' ⟨rfl, rfl⟩
          go_wp2_with fail
          refine (correct_any x r _ HX (by omega) (by omega)).mono ?_
          rintro e w2 ⟨rfl, b2⟩
          rw [HY.out]
          have HS2 := Lib.hid (HS.out.trans (b2.mono (Nat.le_trans HWB.out HS.out.size)))
          clear b2
          go_wp2_with fail
          go_ret2
          exact ⟨.inl ⟨HR.out, r, HF.out, rfl⟩, HB1.out _ HS2.out⟩
        · have HN2 := Lib.hid (show ∀ q, -90 ≤ q → q < r + 1 → ¬ hit x c q from fun q h0 h1 hh => by
            by_cases e : q = r
            · subst e; exact hy (HY.out.symm.trans hh.2)
            · exact HN.out q h0 (by omega) hh)
          have dy : (y == c) = false := by simpa using hy
          go_wp2_with fail
          refine (reading_is _ _ true HR1 _).mono ?_
          rintro e w' ⟨rfl, rfl⟩
          go_wp2_with fail
          refine (correct_any x r _ HX (by omega) (by omega)).mono ?_
          rintro e w2 ⟨rfl, b2⟩
          rw [HY.out]
          have HS2 := Lib.hid (HS.out.trans (b2.mono (Nat.le_trans HWB.out HS.out.size)))
          clear b2
          go_wp2_with fail
          go_roundw
          case rel => exact ⟨r + 1, by omega, by omega, rfl, HN2, HS2.out⟩
          case measure => simp [intOf]; omega
    · have HN2 := Lib.hid (show ∀ q, -90 ≤ q → q ≤ 1000 → ¬ hit x c q from fun q h0 h1 => HN.out q h0 (by omega))
      go_wp2_with fail
      go_ret2
      exact ⟨.inr ⟨.inr HN2.out, rfl⟩, HB1.out _ HS.out⟩
end Go.Proofs.Ytekbiapgbhaibaa.tl
