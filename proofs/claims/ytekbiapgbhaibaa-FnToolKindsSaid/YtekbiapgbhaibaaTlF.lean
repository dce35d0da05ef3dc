/-
  The model of the tools: the worst check.
  Conditions: the checks lie in one block below the call's own.
-/
import Derived.Test.YtekbiapgbhaibaaTlE
namespace Go.Proofs.Ytekbiapgbhaibaa.tl
open Go.RowKit
open reads
set_option linter.unusedVariables false
set_option linter.unusedSimpArgs false

theorem error_is (x : Tl) (c : Ck) (v : Value) (h : Hid (ansErr x c = v)) (w : World) : Calls Try.prog 68 #[.agg #[.int .i64 x.id, .int .i64 x.kind, .int .i64 x.zero, .int .i64 x.scale], .agg #[.int .i64 c.read, .int .i64 c.tru]] w (APost v w) := by
  rw [← h.out]; exact error_any x c w
/-- the distance from 0 -/
def far (x : Int) : Int := if x < 0 then -x else x
theorem most_is (a v : Int) (h : Hid (far a = v)) (w : World) (a0 : -1000000 ≤ a) (a1 : a ≤ 1000000) : Calls Try.prog 78 #[.int .i64 a, .int .i64 (-a)] w fun e w' => e = .returned (.int .i64 v) ∧ w = w' := by
  by_cases c : -a < a
  · have HV := Lib.hid (show v = a by rw [← h.out]; exact if_neg (by omega))
    go_enter Try.func78, Try.ntmps78
    go_wp2_with fail
    go_ret
    exact ⟨by rw [HV.out]; rfl, rfl⟩
  · have HV := Lib.hid (show v = -a by rw [← h.out]; unfold far; split <;> omega)
    go_enter Try.func78, Try.ntmps78
    go_wp2_with fail
    go_ret
    exact ⟨by rw [HV.out]; rfl, rfl⟩
theorem errV_bd {x : Tl} {c : Ck} (h : errOk x c = true) : -2000 ≤ errV x c ∧ errV x c ≤ 2000 := by
  simp only [errOk, Bool.and_eq_true] at h
  obtain ⟨k1, k2, k3⟩ := corrOk_yes h.1
  have a := rdg_bd k3
  have b := rdg_bd h.2
  unfold errV
  split
  · omega
  · omega

/-- the worst one of the first k checks, and its distance -/
def wst (x : Tl) (cs : List Ck) : Nat → Int × Int
  | 0 => (-1, -1)
  | k + 1 => match cs[k]? with
    | none => wst x cs k
    | some c => if (wst x cs k).2 < far (errV x c) then ((k : Int), far (errV x c)) else wst x cs k
theorem wst_step {x : Tl} {cs : List Ck} {k : Nat} {c : Ck} (h : cs[k]? = some c) : wst x cs (k + 1) = if (wst x cs k).2 < far (errV x c) then ((k : Int), far (errV x c)) else wst x cs k := by
  show (match cs[k]? with | none => wst x cs k | some c => _) = _
  rw [h]
theorem wst_bd (x : Tl) (cs : List Ck) (h : cs.all (errOk x) = true) : ∀ k, -1 ≤ (wst x cs k).1 ∧ (wst x cs k).1 < max k 1 ∧ -1 ≤ (wst x cs k).2 ∧ (wst x cs k).2 ≤ 2000
  | 0 => by unfold wst; omega
  | k + 1 => by
    obtain ⟨a, b, c, d⟩ := wst_bd x cs h k
    cases hc : cs[k]? with
    | none => rw [show wst x cs (k + 1) = wst x cs k by show (match cs[k]? with | none => wst x cs k | some c => _) = _; rw [hc]]; omega
    | some q =>
      rw [wst_step hc]
      have e := errV_bd (List.all_eq_true.1 h q (List.mem_of_getElem? hc))
      split
      · unfold far; simp only []; split <;> omega
      · omega
/-- the same over a prefix that has its errors -/
theorem wst_bd' (x : Tl) (cs : List Ck) : ∀ k, (cs.take k).all (errOk x) = true → -1 ≤ (wst x cs k).1 ∧ (wst x cs k).1 ≤ k ∧ -1 ≤ (wst x cs k).2 ∧ (wst x cs k).2 ≤ 2000
  | 0, _ => by unfold wst; omega
  | k + 1, h => by
    have hp : (cs.take k).all (errOk x) = true := by
      rw [List.all_eq_true] at h ⊢
      intro c hc
      exact h c (List.take_subset_take_left cs (show k ≤ k + 1 by omega) hc)
    obtain ⟨a, b, c, d⟩ := wst_bd' x cs k hp
    cases hc : cs[k]? with
    | none => rw [show wst x cs (k + 1) = wst x cs k by show (match cs[k]? with | none => wst x cs k | some c => _) = _; rw [hc]]; omega
    | some q =>
      rw [wst_step hc]
      have hq : errOk x q = true := by
        rw [List.all_eq_true] at h
        obtain ⟨hk, rfl⟩ := List.getElem?_eq_some_iff.1 hc
        refine h _ ?_
        rw [List.take_succ_eq_append_getElem hk]
        exact List.mem_append_right _ (List.mem_singleton.2 rfl)
      have e := errV_bd hq
      split
      · unfold far; simp only []; split <;> omega
      · omega
def ansWst (x : Tl) (cs : List Ck) : Value := if cs.all (errOk x) = true then .tuple #[.int .i64 (wst x cs cs.length).1, .int .i64 (wst x cs cs.length).2] else .tuple #[.int .i64 (-1), .int .i64 0]

set_option maxHeartbeats 4000000 in
set_option maxRecDepth 100000 in
theorem worst_any (x : Tl) (A : Option Addr) (n cap : Nat) (cs : List Ck) (w : World) (hn : n ≤ 2000000) (hcs : Hid (CksAt w w.heap.size A n cs)) :
    Calls Try.prog 66 #[.agg #[.int .i64 x.id, .int .i64 x.kind, .int .i64 x.zero, .int .i64 x.scale], .slice A n cap] w (APost (ansWst x cs) w) := by
  obtain ⟨c0, c1, c2, c3, HB⟩ := box4 w 25 (.int .i64 x.id) (.int .i64 x.kind) (.int .i64 x.zero) (.int .i64 x.scale)
  have HB0 := Lib.hid HB
  have hL : Hid (cs.length = n) := Lib.hid hcs.out.1
  go_enter Try.func66, Try.ntmps66
  go_wp2_with fail
  obtain ⟨W0, HW0⟩ : ∃ W0, Hid (w.alloc (.cells #[.int .i64 x.id, .int .i64 x.kind, .int .i64 x.zero, .int .i64 x.scale] 25) = W0) := ⟨_, Lib.hid rfl⟩
  obtain ⟨B, HBB⟩ : ∃ B, Hid (w.heap.size + 1 = B) := ⟨_, Lib.hid rfl⟩
  obtain ⟨b, HBb⟩ : ∃ b, Hid (w.heap.size = b) := ⟨_, Lib.hid rfl⟩
  have hbB : b < B := by rw [← HBB.out, ← HBb.out]; omega
  have HWB := Lib.hid (show B ≤ W0.heap.size by rw [← HBB.out, ← HW0.out]; simp)
  have HC0 := Lib.hid (show CksAt W0 B A n cs by rw [← HW0.out, ← HBB.out]; exact ((hcs.out.below ((Below.refl _ _).alloc (Nat.le_refl _) _)).more (by omega)))
  have HB1 := Lib.hid (show ∀ v, Below B W0 v → Below w.heap.size w v from fun v hv => by
    rw [← HBB.out, ← HW0.out] at hv
    exact HB0.out.trans (hv.mono (by omega)))
  rw [HW0.out, HBb.out] at c0 c1 c2 c3
  clear HB
  rw [HW0.out, HBb.out]
  clear HW0 HBB hcs HB0
  go_loopw [6, 7, 8] (fun p q i wr => ∃ (k : Nat) (u v : Int), k ≤ n ∧ i = .int .i64 k ∧ p = .int .i64 u ∧ q = .int .i64 v ∧ Hid ((cs.take k).all (errOk x) = true) ∧ Hid (wst x cs k = (u, v)) ∧ Below B W0 wr) (fun _ _ i _ => n - (intOf i).toNat)
  case atStart => exact ⟨0, -1, -1, Nat.zero_le _, rfl, rfl, rfl, Lib.hid (by simp), Lib.hid rfl, Below.refl _ _⟩
  case round =>
    obtain ⟨k, u, v, hk, rfl, rfl, rfl, HI, HU, hBr⟩ := hrel
    have HR := Lib.hid hBr
    have hub := wst_bd' x cs k HI.out
    rw [HU.out] at hub
    obtain ⟨u0, u1, v0, v1⟩ := hub
    simp only [] at u0 u1 v0 v1
    clear hBr
    by_cases hlt : k < n
    · obtain ⟨c, hck⟩ : ∃ c, cs[k]? = some c := ⟨_, List.getElem?_eq_getElem (by rw [hL.out]; exact hlt)⟩
      obtain ⟨g, rfl, hg, h0, h1⟩ := HC0.out.2 k c hck
      have HK := Lib.hid hck
      clear hck
      have hki : (k : Int) < (n : Int) := by omega
      have hk0 : 0 ≤ (k : Int) := by omega
      have hkd : decide (k < n) = true := by simpa using hlt
      cases r1 : errOk x c
      · have HE := Lib.hid (show ansErr x c = .tuple #[.int .i64 0, .bool false] by unfold ansErr; rw [r1]; rfl)
        have HF := Lib.hid (show ansWst x cs = .tuple #[.int .i64 (-1), .int .i64 0] by unfold ansWst; rw [all_no HK.out r1]; rfl)
        clear r1
        go_wp2_with fail
        refine wp_region_held_drew (S := (fun w' => (∀ b o, b < B → w'.cell? ⟨b, o, none⟩ = W0.cell? ⟨b, o, none⟩) ∧ Below B W0 w')) (by kernel_rfl) ?_ (fun hHeld => ?_)
        · exact sb_start HR.out
        refine' wpAnyH_take (i := 0) (v := ?vr1_0) rfl (by kernel_rfl) (by kernel_rfl) (by kernel_rfl) (fun _ _ _ h => h) (Or.inl ⟨by rfl, ?hyr1_0⟩) (by assumption) ?restr1_0
        case hyr1_0 => (intro w hSw; (try dsimp only at hSw); go_simp; try (with_reducible rfl))
        simp only [Act.put, List.getElem_toArray, List.getElem_cons_succ, List.getElem_cons_zero, List.setIfInBounds_toArray, List.set_cons_zero, List.set_cons_succ]
        refine' wpAnyH_take (i := 1) (v := ?vr1_1) rfl (by kernel_rfl) (by kernel_rfl) (by kernel_rfl) (fun _ _ _ h => h) (Or.inl ⟨by rfl, ?hyr1_1⟩) (by assumption) ?restr1_1
        case hyr1_1 => (intro w hSw; (try dsimp only at hSw); go_simp; try (with_reducible rfl))
        simp only [Act.put, List.getElem_toArray, List.getElem_cons_succ, List.getElem_cons_zero, List.setIfInBounds_toArray, List.set_cons_zero, List.set_cons_succ]
        refine' wpAnyH_take (i := 2) (v := ?vr1_2) rfl (by kernel_rfl) (by kernel_rfl) (by kernel_rfl) (fun _ _ _ h => h) (Or.inl ⟨by rfl, ?hyr1_2⟩) (by assumption) ?restr1_2
        case hyr1_2 => (intro w hSw; (try dsimp only at hSw); go_simp; try (with_reducible rfl))
        simp only [Act.put, List.getElem_toArray, List.getElem_cons_succ, List.getElem_cons_zero, List.setIfInBounds_toArray, List.set_cons_zero, List.set_cons_succ]
        refine' wpAnyH_take (i := 3) (v := ?vr1_3) rfl (by kernel_rfl) (by kernel_rfl) (by kernel_rfl) (fun _ _ _ h => h) (Or.inl ⟨by rfl, ?hyr1_3⟩) (by assumption) ?restr1_3
        case hyr1_3 => (intro w hSw; (try dsimp only at hSw); go_simp; try (with_reducible rfl))
        simp only [Act.put, List.getElem_toArray, List.getElem_cons_succ, List.getElem_cons_zero, List.setIfInBounds_toArray, List.set_cons_zero, List.set_cons_succ]
        refine' wpAnyH_take (i := 4) (v := ?vr1_4) rfl (by kernel_rfl) (by kernel_rfl) (by kernel_rfl) (fun _ _ _ h => h) (Or.inl ⟨by rfl, ?hyr1_4⟩) (by assumption) ?restr1_4
        case hyr1_4 => (intro w hSw; (try dsimp only at hSw); go_simp; try (with_reducible rfl))
        simp only [Act.put, List.getElem_toArray, List.getElem_cons_succ, List.getElem_cons_zero, List.setIfInBounds_toArray, List.set_cons_zero, List.set_cons_succ]
        refine wpAnyH_ready (rs := [5]) (by kernel_rfl) (by simp) ?_
        refine AllReadyH.cons rfl (fun K hK => ?_) AllReadyH.nil
        go_simp
        refine (error_is x c _ HE _).mono ?_
        rintro e w1 ⟨rfl, b1⟩
        refine hK.out _ _ (sb_step hHeld HWB.out b1) (fun hHeld1 => ?_)
        clear hK K hHeld
        have hHeld := hHeld1
        clear hHeld1
        try simp only [Act.put, List.getElem_toArray, List.getElem_cons_succ, List.getElem_cons_zero, List.setIfInBounds_toArray, List.set_cons_zero, List.set_cons_succ]
        refine' wpAnyH_take (i := 6) (v := ?vr1_6) rfl (by kernel_rfl) (by kernel_rfl) (by kernel_rfl) (fun _ _ _ h => h) (Or.inl ⟨by rfl, ?hyr1_6⟩) (by assumption) ?restr1_6
        case hyr1_6 => (intro w hSw; (try dsimp only at hSw); go_simp; try (with_reducible rfl))
        simp only [Act.put, List.getElem_toArray, List.getElem_cons_succ, List.getElem_cons_zero, List.setIfInBounds_toArray, List.set_cons_zero, List.set_cons_succ]
        refine' wpAnyH_take (i := 7) (v := ?vr1_7) rfl (by kernel_rfl) (by kernel_rfl) (by kernel_rfl) (fun _ _ _ h => h) (Or.inl ⟨by rfl, ?hyr1_7⟩) (by assumption) ?restr1_7
        case hyr1_7 => (intro w hSw; (try dsimp only at hSw); go_simp; try (with_reducible rfl))
        simp only [Act.put, List.getElem_toArray, List.getElem_cons_succ, List.getElem_cons_zero, List.setIfInBounds_toArray, List.set_cons_zero, List.set_cons_succ]
        refine' wpAnyH_take (i := 8) (v := ?vr1_8) rfl (by kernel_rfl) (by kernel_rfl) (by kernel_rfl) (fun _ _ _ h => h) (Or.inl ⟨by rfl, ?hyr1_8⟩) (by assumption) ?restr1_8
        case hyr1_8 => (intro w hSw; (try dsimp only at hSw); go_simp; try (with_reducible rfl))
        simp only [Act.put, List.getElem_toArray, List.getElem_cons_succ, List.getElem_cons_zero, List.setIfInBounds_toArray, List.set_cons_zero, List.set_cons_succ]
        refine' wpAnyH_take (i := 9) (v := ?vr1_9) rfl (by kernel_rfl) (by kernel_rfl) (by kernel_rfl) (fun _ _ _ h => h) (Or.inl ⟨by rfl, ?hyr1_9⟩) (by assumption) ?restr1_9
        case hyr1_9 => (intro w hSw; (try dsimp only at hSw); go_simp; try (with_reducible rfl))
        simp only [Act.put, List.getElem_toArray, List.getElem_cons_succ, List.getElem_cons_zero, List.setIfInBounds_toArray, List.set_cons_zero, List.set_cons_succ]
        refine' wpAnyH_take (i := 10) (v := ?vr1_10) rfl (by kernel_rfl) (by kernel_rfl) (by kernel_rfl) (fun _ _ _ h => h) (Or.inl ⟨by rfl, ?hyr1_10⟩) (by assumption) ?restr1_10
        case hyr1_10 => (intro w hSw; (try dsimp only at hSw); go_simp; try (with_reducible rfl))
        simp only [Act.put, List.getElem_toArray, List.getElem_cons_succ, List.getElem_cons_zero, List.setIfInBounds_toArray, List.set_cons_zero, List.set_cons_succ]
        refine wpAnyH_done (by kernel_rfl) ?_ _
        go_wp2_with fail
        go_ret2
        exact ⟨by rw [HF.out]; rfl, HB1.out _ hHeld.2⟩
      · obtain ⟨y, HY⟩ : ∃ y, Hid (errV x c = y) := ⟨_, Lib.hid rfl⟩
        have yb := errV_bd r1
        rw [HY.out] at yb
        have HE := Lib.hid (show ansErr x c = .tuple #[.int .i64 y, .bool true] by unfold ansErr; rw [r1, HY.out]; rfl)
        have HN := Lib.hid (all_take HK.out HI.out r1)
        obtain ⟨f, HFa⟩ : ∃ f, Hid (far y = f) := ⟨_, Lib.hid rfl⟩
        have fb : 0 ≤ f ∧ f ≤ 2000 := by rw [← HFa.out]; unfold far; split <;> omega
        have HW := Lib.hid (show wst x cs (k + 1) = if v < f then ((k : Int), f) else (u, v) by rw [wst_step HK.out, HU.out, HY.out, HFa.out])
        clear r1
        go_wp2_with fail
        refine wp_region_held_drew (S := (fun w' => (∀ b o, b < B → w'.cell? ⟨b, o, none⟩ = W0.cell? ⟨b, o, none⟩) ∧ Below B W0 w')) (by kernel_rfl) ?_ (fun hHeld => ?_)
        · exact sb_start HR.out
        refine' wpAnyH_take (i := 0) (v := ?vr2_0) rfl (by kernel_rfl) (by kernel_rfl) (by kernel_rfl) (fun _ _ _ h => h) (Or.inl ⟨by rfl, ?hyr2_0⟩) (by assumption) ?restr2_0
        case hyr2_0 => (intro w hSw; (try dsimp only at hSw); go_simp; try (with_reducible rfl))
        simp only [Act.put, List.getElem_toArray, List.getElem_cons_succ, List.getElem_cons_zero, List.setIfInBounds_toArray, List.set_cons_zero, List.set_cons_succ]
        refine' wpAnyH_take (i := 1) (v := ?vr2_1) rfl (by kernel_rfl) (by kernel_rfl) (by kernel_rfl) (fun _ _ _ h => h) (Or.inl ⟨by rfl, ?hyr2_1⟩) (by assumption) ?restr2_1
        case hyr2_1 => (intro w hSw; (try dsimp only at hSw); go_simp; try (with_reducible rfl))
        simp only [Act.put, List.getElem_toArray, List.getElem_cons_succ, List.getElem_cons_zero, List.setIfInBounds_toArray, List.set_cons_zero, List.set_cons_succ]
        refine' wpAnyH_take (i := 2) (v := ?vr2_2) rfl (by kernel_rfl) (by kernel_rfl) (by kernel_rfl) (fun _ _ _ h => h) (Or.inl ⟨by rfl, ?hyr2_2⟩) (by assumption) ?restr2_2
        case hyr2_2 => (intro w hSw; (try dsimp only at hSw); go_simp; try (with_reducible rfl))
        simp only [Act.put, List.getElem_toArray, List.getElem_cons_succ, List.getElem_cons_zero, List.setIfInBounds_toArray, List.set_cons_zero, List.set_cons_succ]
        refine' wpAnyH_take (i := 3) (v := ?vr2_3) rfl (by kernel_rfl) (by kernel_rfl) (by kernel_rfl) (fun _ _ _ h => h) (Or.inl ⟨by rfl, ?hyr2_3⟩) (by assumption) ?restr2_3
        case hyr2_3 => (intro w hSw; (try dsimp only at hSw); go_simp; try (with_reducible rfl))
        simp only [Act.put, List.getElem_toArray, List.getElem_cons_succ, List.getElem_cons_zero, List.setIfInBounds_toArray, List.set_cons_zero, List.set_cons_succ]
        refine' wpAnyH_take (i := 4) (v := ?vr2_4) rfl (by kernel_rfl) (by kernel_rfl) (by kernel_rfl) (fun _ _ _ h => h) (Or.inl ⟨by rfl, ?hyr2_4⟩) (by assumption) ?restr2_4
        case hyr2_4 => (intro w hSw; (try dsimp only at hSw); go_simp; try (with_reducible rfl))
        simp only [Act.put, List.getElem_toArray, List.getElem_cons_succ, List.getElem_cons_zero, List.setIfInBounds_toArray, List.set_cons_zero, List.set_cons_succ]
        refine wpAnyH_ready (rs := [5]) (by kernel_rfl) (by simp) ?_
        refine AllReadyH.cons rfl (fun K hK => ?_) AllReadyH.nil
        go_simp
        refine (error_is x c _ HE _).mono ?_
        rintro e w1 ⟨rfl, b1⟩
        refine hK.out _ _ (sb_step hHeld HWB.out b1) (fun hHeld1 => ?_)
        clear hK K hHeld
        have hHeld := hHeld1
        clear hHeld1
        try simp only [Act.put, List.getElem_toArray, List.getElem_cons_succ, List.getElem_cons_zero, List.setIfInBounds_toArray, List.set_cons_zero, List.set_cons_succ]
        refine' wpAnyH_take (i := 6) (v := ?vr2_6) rfl (by kernel_rfl) (by kernel_rfl) (by kernel_rfl) (fun _ _ _ h => h) (Or.inl ⟨by rfl, ?hyr2_6⟩) (by assumption) ?restr2_6
        case hyr2_6 => (intro w hSw; (try dsimp only at hSw); go_simp; try (with_reducible rfl))
        simp only [Act.put, List.getElem_toArray, List.getElem_cons_succ, List.getElem_cons_zero, List.setIfInBounds_toArray, List.set_cons_zero, List.set_cons_succ]
        refine' wpAnyH_take (i := 7) (v := ?vr2_7) rfl (by kernel_rfl) (by kernel_rfl) (by kernel_rfl) (fun _ _ _ h => h) (Or.inl ⟨by rfl, ?hyr2_7⟩) (by assumption) ?restr2_7
        case hyr2_7 => (intro w hSw; (try dsimp only at hSw); go_simp; try (with_reducible rfl))
        simp only [Act.put, List.getElem_toArray, List.getElem_cons_succ, List.getElem_cons_zero, List.setIfInBounds_toArray, List.set_cons_zero, List.set_cons_succ]
        refine' wpAnyH_take (i := 8) (v := ?vr2_8) rfl (by kernel_rfl) (by kernel_rfl) (by kernel_rfl) (fun _ _ _ h => h) (Or.inl ⟨by rfl, ?hyr2_8⟩) (by assumption) ?restr2_8
        case hyr2_8 => (intro w hSw; (try dsimp only at hSw); go_simp; try (with_reducible rfl))
        simp only [Act.put, List.getElem_toArray, List.getElem_cons_succ, List.getElem_cons_zero, List.setIfInBounds_toArray, List.set_cons_zero, List.set_cons_succ]
        refine' wpAnyH_take (i := 9) (v := ?vr2_9) rfl (by kernel_rfl) (by kernel_rfl) (by kernel_rfl) (fun _ _ _ h => h) (Or.inl ⟨by rfl, ?hyr2_9⟩) (by assumption) ?restr2_9
        case hyr2_9 => (intro w hSw; (try dsimp only at hSw); go_simp; try (with_reducible rfl))
        simp only [Act.put, List.getElem_toArray, List.getElem_cons_succ, List.getElem_cons_zero, List.setIfInBounds_toArray, List.set_cons_zero, List.set_cons_succ]
        refine' wpAnyH_take (i := 10) (v := ?vr2_10) rfl (by kernel_rfl) (by kernel_rfl) (by kernel_rfl) (fun _ _ _ h => h) (Or.inl ⟨by rfl, ?hyr2_10⟩) (by assumption) ?restr2_10
        case hyr2_10 => (intro w hSw; (try dsimp only at hSw); go_simp; try (with_reducible rfl))
        simp only [Act.put, List.getElem_toArray, List.getElem_cons_succ, List.getElem_cons_zero, List.setIfInBounds_toArray, List.set_cons_zero, List.set_cons_succ]
        refine wpAnyH_done (by kernel_rfl) ?_ _
        have HS := Lib.hid hHeld.2
        clear hHeld
        go_wp2_with fail
        refine (most_is y f HFa _ (by omega) (by omega)).mono ?_
        rintro e w' ⟨rfl, rfl⟩
        by_cases hvf : v < f
        · have HW2 := Lib.hid (show wst x cs (k + 1) = ((k : Int), f) by rw [HW.out, if_pos hvf])
          go_wp2_with fail
          go_roundw
          case rel => exact ⟨k + 1, k, f, by omega, by go_num, rfl, rfl, HN, HW2, HS.out⟩
          case measure => simp [intOf]; omega
        · have HW2 := Lib.hid (show wst x cs (k + 1) = (u, v) by rw [HW.out, if_neg hvf])
          go_wp2_with fail
          go_roundw
          case rel => exact ⟨k + 1, u, v, by omega, by go_num, rfl, rfl, HN, HW2, HS.out⟩
          case measure => simp [intOf]; omega
    · have hkd : decide (k < n) = false := by simpa using hlt
      obtain rfl : k = n := by omega
      have HA := Lib.hid (show ansWst x cs = .tuple #[.int .i64 u, .int .i64 v] by
        have := HI.out
        rw [List.take_of_length_le (by rw [hL.out]; omega)] at this
        unfold ansWst
        rw [if_pos this, hL.out, HU.out])
      clear hlt
      go_wp2_with fail
      go_ret2
      exact ⟨by rw [HA.out]; rfl, HB1.out _ HR.out⟩
end Go.Proofs.Ytekbiapgbhaibaa.tl
