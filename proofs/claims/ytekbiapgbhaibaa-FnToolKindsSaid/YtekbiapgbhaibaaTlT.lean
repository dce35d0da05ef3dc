/-
  What the draws of chapter 3 answer: a tool and checks.
  Conditions: the code has at most 65536 bytes.
-/
import Derived.Test.YtekbiapgbhaibaaTlS
namespace Go.Proofs.Ytekbiapgbhaibaa.tlp
open Go.RowKit
open reads curs curd tl
set_option linter.unusedVariables false
set_option linter.unusedSimpArgs false

theorem own_base {w : World} {base base' n : Nat} {e : TypeId} {v : Value} {xs : List Value} (hb : base' ≤ base) (h : w.ownsRow base e 2 v n xs) : w.ownsRow base' e 2 v n xs := by
  refine ⟨h.1, ?_⟩
  rcases h.2 with h' | ⟨g, cap, cur, h1, h2, h3⟩
  · exact .inl h'
  · exact .inr ⟨g, cap, cur, h1, by omega, h3⟩
theorem own_far {w : World} {base n g : Nat} {e : TypeId} {v : Value} {xs : List Value} (h : w.ownsRow base e 2 v n xs) (hg : g < base) (o : Nat) (y : Value) : (w.setCell ⟨g, o, none⟩ y).ownsRow base e 2 v n xs :=
  h.kept (row := some g) ⟨rfl, rfl, rfl, by simp [World.setCell], fun i hi hne => Below.heap_setCell w ⟨g, o, none⟩ y i (by rintro rfl; exact hne rfl)⟩ (.inr (fun e => by have := (h.lt g e).1; omega))
/-- a drawn tool and drawn checks -/
def TKPost (w : World) (e : Ending) (w' : World) : Prop :=
  ∃ (t : Tl) (v : Value) (cs : List Ck), e = .returned (.tuple #[.agg #[.int .i64 t.id, .int .i64 t.kind, .int .i64 t.zero, .int .i64 t.scale], v]) ∧ w'.ownsRow w.heap.size 40 2 v cs.length (flat cs) ∧ cs.length ≤ 12 ∧ Below w.heap.size w w'

set_option maxHeartbeats 8000000 in
set_option maxRecDepth 100000 in
theorem worst_draw (A : Option Addr) (n cap : Nat) (zs : List UInt8) (w : World) (h : Hid (curs.Code w A n zs)) :
    Calls Try.prog 63 #[.slice A n cap] w (TKPost w) := by
  have H0 := Lib.hid (cur_start cap h.out (.cells #[.int .i64 0, .int .i64 0, .int .i64 0, .int .i64 0] 25))
  go_enter Try.func63, Try.ntmps63
  go_wp2_with fail
  refine (tool_any w.heap.size (w.heap.size + 1) 0 A n cap zs 1 _ (by decide) H0).mono ?_
  rintro e w1 ⟨t, rfl, hC, hg⟩
  have HD0 := Lib.hid (DS.start (t := t) _ hC hg)
  obtain ⟨R, HR⟩ : ∃ R, Hid (w.heap.size = R) := ⟨_, Lib.hid rfl⟩
  obtain ⟨X, HX⟩ : ∃ X, Hid (w1.heap.size = X) := ⟨_, Lib.hid rfl⟩
  obtain ⟨b, Hb⟩ : ∃ b, Hid (w.heap.size + 1 = b) := ⟨_, Lib.hid rfl⟩
  have HD := Lib.hid (show DS w R b X (0 + 5) A n cap zs t (w1.alloc (.cells #[.int .i64 t.id, .int .i64 t.kind, .int .i64 t.zero, .int .i64 t.scale] 25)) by rw [← HR.out, ← HX.out, ← Hb.out]; exact HD0.out)
  clear hC hg H0 HD0
  go_wp2_with fail
  obtain ⟨W2, HW2⟩ : ∃ W2, Hid (w1.alloc (.cells #[.int .i64 t.id, .int .i64 t.kind, .int .i64 t.zero, .int .i64 t.scale] 25) = W2) := ⟨_, Lib.hid rfl⟩
  rw [HW2.out] at HD ⊢
  rw [HX.out, Hb.out, HR.out]
  clear HW2 HX Hb
  refine wp_region_held_drew (S := (fun w' => w'.cell? ⟨X, 0, none⟩ = some (.int .i64 t.id) ∧ w'.cell? ⟨X, 1, none⟩ = some (.int .i64 t.kind) ∧ w'.cell? ⟨X, 2, none⟩ = some (.int .i64 t.zero) ∧ w'.cell? ⟨X, 3, none⟩ = some (.int .i64 t.scale))) (by kernel_rfl) ?_ (fun hHeld => ?_)
  · exact HD.out.drew.cells
  refine' wpAnyH_take (i := 0) (v := ?vr1_0) rfl (by kernel_rfl) (by kernel_rfl) (by kernel_rfl) (fun _ _ _ h => h) (Or.inl ⟨by rfl, ?hyr1_0⟩) (by assumption) ?restr1_0
  case hyr1_0 => (intro w hSw; (try dsimp only at hSw); go_simp; try (with_reducible rfl))
  simp only [Act.put, List.getElem_toArray, List.getElem_cons_succ, List.getElem_cons_zero, List.setIfInBounds_toArray, List.set_cons_zero, List.set_cons_succ]
  refine' wpAnyH_take (i := 1) (v := ?vr1_1) rfl (by kernel_rfl) (by kernel_rfl) (by kernel_rfl) (fun _ _ _ h => h) (Or.inl ⟨by rfl, ?hyr1_1⟩) (by assumption) ?restr1_1
  case hyr1_1 => (intro w hSw; (try dsimp only at hSw); go_simp; try (with_reducible rfl))
  simp only [Act.put, List.getElem_toArray, List.getElem_cons_succ, List.getElem_cons_zero, List.setIfInBounds_toArray, List.set_cons_zero, List.set_cons_succ]
  refine' wpAnyH_take (i := 2) (v := ?vr1_2) rfl (by kernel_rfl) (by kernel_rfl) (by kernel_rfl) (fun _ _ _ h => h) (Or.inl ⟨by rfl, ?hyr1_2⟩) (by assumption) ?restr1_2
  case hyr1_2 => (intro w hSw; (try dsimp only at hSw); go_simp; try (with_reducible rfl))
  simp only [Act.put, List.getElem_toArray, List.getElem_cons_succ, List.getElem_cons_zero, List.setIfInBounds_toArray, List.set_cons_zero, List.set_cons_succ]
  refine wpAnyH_ready (rs := [3]) (by kernel_rfl) (by simp) ?_
  refine AllReadyH.cons rfl (fun K hK => ?_) AllReadyH.nil
  go_simp
  refine (checks_any w.heap.size b (0 + 5) A n cap zs t _ (by decide) (Lib.hid HD.out.drew.1)).mono ?_
  rintro e w3 ⟨v, cs, rfl, hO, hl, hC, hg⟩
  have HE := Lib.hid (HD.out.drew.step hC hg)
  have HO := Lib.hid hO
  have hlr : R < W2.drew.heap.size := HD.out.drew.2.1.lt
  clear hC hg hO
  refine hK.out _ _ (HE.out.cells) (fun hHeld1 => ?_)
  clear hK K hHeld
  have hHeld := hHeld1
  clear hHeld1
  try simp only [Act.put, List.getElem_toArray, List.getElem_cons_succ, List.getElem_cons_zero, List.setIfInBounds_toArray, List.set_cons_zero, List.set_cons_succ]
  obtain ⟨D0, D1, D2, D3⟩ := HE.out.rcells
  obtain ⟨F0, F1, F2, F3⟩ := HE.out.rfro
  have hRX : R ≠ X := HE.out.2.2.2.2.2.2.2
  have hXR : X ≠ R := Ne.symm hRX
  refine wpAnyH_ready (rs := [4]) (by kernel_rfl) (by simp) ?_
  refine AllReadyH.cons rfl (fun K hK => ?_) AllReadyH.nil
  go_simp
  refine hK.out _ _ (xfar (xfar (xfar (xfar HE.out.cells hXR _ _) hXR _ _) hXR _ _) hXR _ _) (fun hHeld1 => ?_)
  clear hK K hHeld
  have hHeld := hHeld1
  clear hHeld1
  try simp only [Act.put, List.getElem_toArray, List.getElem_cons_succ, List.getElem_cons_zero, List.setIfInBounds_toArray, List.set_cons_zero, List.set_cons_succ]
  refine' wpAnyH_take (i := 5) (v := ?vr2_5) rfl (by kernel_rfl) (by kernel_rfl) (by kernel_rfl) (fun _ _ _ h => h) (Or.inl ⟨by rfl, ?hyr2_5⟩) (by assumption) ?restr2_5
  case hyr2_5 => (intro w hSw; (try dsimp only at hSw); go_simp; try (with_reducible rfl))
  simp only [Act.put, List.getElem_toArray, List.getElem_cons_succ, List.getElem_cons_zero, List.setIfInBounds_toArray, List.set_cons_zero, List.set_cons_succ]
  refine wpAnyH_done (by kernel_rfl) ?_ _
  go_wp2_with fail
  refine bodyPost_ret (v := .tuple #[.agg #[.int .i64 t.id, .int .i64 t.kind, .int .i64 t.zero, .int .i64 t.scale], v]) (by simp [results, Try.results63, go_sem, *]) rfl ⟨t, v, cs, rfl, ?_, hl, ?_⟩
  · have hwr : w.heap.size ≤ W2.drew.heap.size + 1 := by have := HR.out; omega
    exact own_base hwr (own_far (own_far (own_far (own_far HO.out (by omega) 0 _) (by omega) 1 _) (by omega) 2 _) (by omega) 3 _)
  · have hB := HE.out.2.2.2.1
    have hR := HE.out.2.2.2.2.1
    exact (((hB.setCell hR _).setCell hR _).setCell hR _).setCell hR _
theorem zero_draw (A : Option Addr) (n cap : Nat) (zs : List UInt8) (w : World) (h : Hid (curs.Code w A n zs)) : Calls Try.prog 21 #[.slice A n cap] w (TKPost w) := by
  have H1 := Lib.hid (h.out.below ((Below.refl _ _).alloc (Nat.le_refl _) (.cells #[.int .i64 0, .int .i64 0, .int .i64 0, .int .i64 0] 25)))
  go_enter Try.func21, Try.ntmps21
  go_wp2_with fail
  refine (worst_draw A n cap zs _ H1).mono ?_
  rintro e w1 ⟨t, v, cs, rfl, hO, hl, b1⟩
  obtain ⟨hc1, hf1⟩ := bcell b1
  have HO := Lib.hid hO
  have HB := Lib.hid (((Below.refl w.heap.size w).alloc (Nat.le_refl _) _).trans (b1.mono (by simp)))
  clear b1 hO
  go_wp2_with fail
  refine bodyPost_ret (v := .tuple #[.agg #[.int .i64 t.id, .int .i64 t.kind, .int .i64 t.zero, .int .i64 t.scale], v]) (by simp [results, Try.results21, go_sem, hc1]) rfl ⟨t, v, cs, rfl, ?_, hl, ?_⟩
  · have k := own_base (base' := w.heap.size) (by simp) (own_far (own_far (own_far (own_far HO.out (g := w.heap.size) (by simp) 0 (.int .i64 t.id)) (g := w.heap.size) (by simp) 1 (.int .i64 t.kind)) (g := w.heap.size) (by simp) 2 (.int .i64 t.zero)) (g := w.heap.size) (by simp) 3 (.int .i64 t.scale))
    exact k
  · exact (((HB.out.setCell (Nat.le_refl _) _).setCell (Nat.le_refl _) _).setCell (Nat.le_refl _) _).setCell (Nat.le_refl _) _
theorem scale_draw (A : Option Addr) (n cap : Nat) (zs : List UInt8) (w : World) (h : Hid (curs.Code w A n zs)) : Calls Try.prog 29 #[.slice A n cap] w (TKPost w) := by
  have H1 := Lib.hid (h.out.below ((Below.refl _ _).alloc (Nat.le_refl _) (.cells #[.int .i64 0, .int .i64 0, .int .i64 0, .int .i64 0] 25)))
  go_enter Try.func29, Try.ntmps29
  go_wp2_with fail
  refine (worst_draw A n cap zs _ H1).mono ?_
  rintro e w1 ⟨t, v, cs, rfl, hO, hl, b1⟩
  obtain ⟨hc1, hf1⟩ := bcell b1
  have HO := Lib.hid hO
  have HB := Lib.hid (((Below.refl w.heap.size w).alloc (Nat.le_refl _) _).trans (b1.mono (by simp)))
  clear b1 hO
  go_wp2_with fail
  refine bodyPost_ret (v := .tuple #[.agg #[.int .i64 t.id, .int .i64 t.kind, .int .i64 t.zero, .int .i64 t.scale], v]) (by simp [results, Try.results29, go_sem, hc1]) rfl ⟨t, v, cs, rfl, ?_, hl, ?_⟩
  · have k := own_base (base' := w.heap.size) (by simp) (own_far (own_far (own_far (own_far HO.out (g := w.heap.size) (by simp) 0 (.int .i64 t.id)) (g := w.heap.size) (by simp) 1 (.int .i64 t.kind)) (g := w.heap.size) (by simp) 2 (.int .i64 t.zero)) (g := w.heap.size) (by simp) 3 (.int .i64 t.scale))
    exact k
  · exact (((HB.out.setCell (Nat.le_refl _) _).setCell (Nat.le_refl _) _).setCell (Nat.le_refl _) _).setCell (Nat.le_refl _) _
end Go.Proofs.Ytekbiapgbhaibaa.tlp
