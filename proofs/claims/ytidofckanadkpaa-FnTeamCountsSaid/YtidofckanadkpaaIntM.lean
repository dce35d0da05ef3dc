/-
  The exact laws' helpers at lists of lists of ints: what marks there are.
  The exact laws' helpers at lists of lists of ints: equality, marks, marks that are held.
  A list of lists of ints whose blocks lie between two numbers: what leaves it as it is.
  Conditions: those that each theorem names.
-/
import Derived.Test.YtidofckanadkpaaInts
import Derived.Test.YtidofckanadkpaaTab
import Derived.Test.YtidofckanadkpaaEnd
import Derived.Deep.RegionHeld3
namespace Go.Proofs.Ytidofckanadkpaa.intt
open Go.RowKit
open reads base tab ints
set_option linter.unusedVariables false

/-- how many ints lists hold together -/
def off : List (List Int) → Nat
  | [] => 0
  | x :: t => x.length + off t
theorem off_app : ∀ (a b : List (List Int)), off (a ++ b) = off a + off b
  | [], b => by simp [off]
  | x :: a, b => by rw [List.cons_append, off, off, off_app a b]; omega
theorem off_le : ∀ {L : List (List Int)} {x : List Int}, x ∈ L → x.length ≤ off L
  | [], x, h => by simp at h
  | y :: t, x, h => by
    rw [off]
    rcases List.mem_cons.1 h with rfl | h
    · omega
    · have := off_le h; omega
theorem off_take (L : List (List Int)) (j : Nat) : off (L.take j) ≤ off L := by
  have h := off_app (L.take j) (L.drop j)
  rw [List.take_append_drop] at h
  omega
theorem off_next {L : List (List Int)} {j : Nat} {x : List Int} (h : L[j]? = some x) : off (L.take (j + 1)) = off (L.take j) + x.length := by
  rw [List.take_add_one, h, off_app]
  simp [off]
/-- marks from k on, list by list -/
def mt (k : Int) : List (List Int) → List (List Int)
  | [] => []
  | x :: t => marks k x.length :: mt (k + (x.length : Int)) t
theorem mt_len : ∀ (k : Int) (L : List (List Int)), (mt k L).length = L.length
  | k, [] => rfl
  | k, x :: t => by rw [mt, List.length_cons, List.length_cons, mt_len]
theorem mt_app : ∀ (k : Int) (a b : List (List Int)), mt k (a ++ b) = mt k a ++ mt (k + (off a : Int)) b
  | k, [], b => by simp [mt, off]
  | k, x :: a, b => by
    rw [List.cons_append, mt, mt, mt_app _ a b, off, List.cons_append]
    congr 3
    push_cast
    omega
theorem mt_at : ∀ {L : List (List Int)} {k : Int} {j : Nat} {x : List Int}, L[j]? = some x → (mt k L)[j]? = some (marks (k + (off (L.take j) : Int)) x.length)
  | [], k, j, x, h => by simp at h
  | y :: t, k, 0, x, h => by
    obtain rfl : y = x := by simpa using h
    simp [mt, off]
  | y :: t, k, j + 1, x, h => by
    have h2 : t[j]? = some x := by simpa using h
    have := mt_at (k := k + (y.length : Int)) h2
    rw [mt, List.getElem?_cons_succ, this, List.take_succ_cons, off]
    congr 2
    push_cast
    omega
theorem mt_lens {L : List (List Int)} {k : Int} {x : List Int} (h : x ∈ mt k L) : x.length ≤ off L := by
  obtain ⟨j, hj⟩ := List.getElem?_of_mem h
  have hl : j < L.length := by rw [← mt_len k L]; exact (List.getElem?_eq_some_iff.1 hj).1
  have h2 := List.getElem?_eq_getElem hl
  rw [mt_at h2] at hj
  obtain rfl := Option.some.inj hj
  rw [marks_len]
  exact off_le (List.mem_of_getElem? h2)
/-- one more list is marked -/
theorem mt_set {L : List (List Int)} {k : Int} {j : Nat} {x : List Int} (h : L[j]? = some x) : (mt k (L.take j) ++ L.drop j).set j (marks (k + (off (L.take j) : Int)) x.length) = mt k (L.take (j + 1)) ++ L.drop (j + 1) := by
  obtain ⟨hl, rfl⟩ := List.getElem?_eq_some_iff.1 h
  have h1 : L.take (j + 1) = L.take j ++ [L[j]] := by rw [List.take_add_one, h]; rfl
  have h2 : L.drop j = L[j] :: L.drop (j + 1) := List.drop_eq_getElem_cons hl
  have h3 : (mt k (L.take j)).length = j := by rw [mt_len, List.length_take]; omega
  have h4 : mt (k + (off (L.take j) : Int)) [L[j]] = [marks (k + (off (L.take j) : Int)) (L[j]).length] := rfl
  rw [h1, mt_app, h4, h2, List.set_append_right _ _ (by omega), h3, Nat.sub_self, List.set_cons_zero, List.append_assoc]
  rfl
section
variable {w w' : World} {base : Nat} {vs : List Value} {L : List (List Int)}
/-- the rows are of the lengths of their lists -/
theorem row_at {E : TypeId} {n : Nat} (h : TabV E 1 intsV w base vs L) {j : Nat} {x : List Int} (hx : L[j]? = some x) : ∃ A c, vs[j]? = some (.slice A x.length c) ∧ w.ownsRow base E 1 (.slice A x.length c) x.length (intsV x) := by
  obtain ⟨v, hv, ho⟩ := h.at_ hx
  obtain ⟨A, c, rfl⟩ := own_slice ho
  exact ⟨A, c, hv, ho⟩
/-- one row is written anew -/
theorem tab_set {E : TypeId} (h : TabV E 1 intsV w base vs L) (hd : Disj vs) {j : Nat} {v : Value} {x : List Int} (hv : vs[j]? = some v) (hg : w.grownBy w' v.ownBlock) (ho : w'.ownsRow base E 1 v x.length (intsV x)) : TabV E 1 intsV w' base vs (L.set j x) := by
  refine ⟨by rw [h.1, List.length_set], fun i u y h1 h2 => ?_⟩
  by_cases hij : j = i
  · subst hij
    obtain rfl : v = u := by rw [hv] at h1; exact Option.some.inj h1
    rw [List.getElem?_set_self (by rw [← h.1]; exact (List.getElem?_eq_some_iff.1 hv).1)] at h2
    obtain rfl := Option.some.inj h2
    exact ho
  · rw [List.getElem?_set_ne hij] at h2
    refine (h.2 i u y h1 h2).kept hg ?_
    obtain ⟨hi1, hi2⟩ := List.getElem?_eq_some_iff.1 h1
    obtain ⟨hj1, hj2⟩ := List.getElem?_eq_some_iff.1 hv
    have hd2 := List.pairwise_iff_getElem.1 hd
    rcases Nat.lt_or_ge i j with q | q
    · have := hd2 i j hi1 hj1 q
      rw [hi2, hj2] at this
      exact this
    · have := hd2 j i hj1 hi1 (by omega)
      rw [hi2, hj2] at this
      cases e : u.ownBlock with
      | none => exact .inl rfl
      | some g =>
        refine .inr fun e2 => ?_
        rcases this with t | t
        · rw [t] at e2; cases e2
        · exact t (by rw [e, ← e2])
end
end Go.Proofs.Ytidofckanadkpaa.intt

namespace Go.Proofs.Ytidofckanadkpaa.intt
open Go.RowKit
open reads base tab ints
set_option linter.unusedVariables false
set_option linter.unusedSimpArgs false

set_option maxHeartbeats 4000000 in
theorem eq_tab (A A' : Option Addr) (n c c' b b' : Nat) (vs vs' : List Value) (L : List (List Int)) (w : World) (hn : n ≤ 2000000) (hl : Hid (off L ≤ 2000000)) (hL : Hid (L.length = n)) (ho : Hid (w.ownsRow b 27 1 (.slice A n c) n vs)) (ht : Hid (TabV 3 1 intsV w b vs L)) (ho' : Hid (w.ownsRow b' 27 1 (.slice A' n c') n vs')) (ht' : Hid (TabV 3 1 intsV w b' vs' L)) :
    Calls Try.prog 52 #[.slice A n c, .slice A' n c'] w (BPost true w) := by
  obtain ⟨B, HBB⟩ : ∃ B, Hid (w.heap.size = B) := ⟨_, Lib.hid rfl⟩
  obtain ⟨W0, HW0⟩ : ∃ W0, Hid (w = W0) := ⟨_, Lib.hid rfl⟩
  have HO := Lib.hid (show W0.ownsRow b 27 1 (.slice A n c) n vs by rw [← HW0.out]; exact ho.out)
  have HO' := Lib.hid (show W0.ownsRow b' 27 1 (.slice A' n c') n vs' by rw [← HW0.out]; exact ho'.out)
  have HT := Lib.hid (show TabV 3 1 intsV W0 b vs L by rw [← HW0.out]; exact ht.out)
  have HT' := Lib.hid (show TabV 3 1 intsV W0 b' vs' L by rw [← HW0.out]; exact ht'.out)
  have HWB := Lib.hid (show B = W0.heap.size by rw [← HW0.out, ← HBB.out])
  have HB1 := Lib.hid (show ∀ v, Below B W0 v → Below w.heap.size w v from fun v hv => by rw [HBB.out, HW0.out]; exact hv)
  clear ho ho' ht ht'
  go_enter Try.func52, Try.ntmps52
  go_wp2_with fail
  go_loopw [5] (fun i wr => ∃ k : Nat, k ≤ n ∧ i = .int .i64 k ∧ Below B W0 wr) (fun i _ => n - (intOf i).toNat)
  case atStart => exact ⟨0, Nat.zero_le _, rfl, by rw [HW0.out]; exact Below.refl _ _⟩
  case round =>
    obtain ⟨k, hk, rfl, hBr⟩ := hrel
    have HR := Lib.hid hBr
    clear hBr
    by_cases hlt : k < n
    · obtain ⟨x, hx⟩ : ∃ x, L[k]? = some x := ⟨_, List.getElem?_eq_getElem (by rw [hL.out]; exact hlt)⟩
      have HX := Lib.hid hx
      have hxl : x.length ≤ 2000000 := Nat.le_trans (off_le (List.mem_of_getElem? hx)) hl.out
      obtain ⟨X, cx, hv, hrow⟩ := row_at (n := n) HT.out hx
      obtain ⟨X', cx', hv', hrow'⟩ := row_at (n := n) HT'.out hx
      obtain ⟨g, cap, hg1, -, -⟩ := HO.out.form (by omega)
      obtain ⟨g', cap', hg2, -, -⟩ := HO'.out.form (by omega)
      injection hg1 with hA _ hc
      injection hg2 with hA' _ hc'
      subst hA hA' hc hc'
      have hgB : g < B := by rw [HWB.out]; exact (HO.out.lt g rfl).2
      have hgB' : g' < B := by rw [HWB.out]; exact (HO'.out.lt g' rfl).2
      have h0 : W0.cell? ⟨g, k, none⟩ = some (.slice X x.length cx) := (HO.out.cellAt k (by omega)).trans hv
      have h0' : W0.cell? ⟨g', k, none⟩ = some (.slice X' x.length cx') := (HO'.out.cellAt k (by omega)).trans hv'
      have HRW := Lib.hid hrow
      have HRW' := Lib.hid hrow'
      clear hx hv hv' hrow hrow'
      have hki : (k : Int) < (n : Int) := by omega
      have hk0 : 0 ≤ (k : Int) := by omega
      have hkd : decide (k < n) = true := by simpa using hlt
      have HEQ := Lib.hid (show ∀ v : World, Below B W0 v → Calls Try.prog 47 #[.slice X x.length cx, .slice X' x.length cx'] v (BPost true v) from fun v hb => (eq_any X X' x.length cx cx' x v hxl (Lib.hid (IL.of_own (row_below HRW.out (by rw [← HWB.out]; exact hb)))) (Lib.hid (IL.of_own (row_below HRW'.out (by rw [← HWB.out]; exact hb))))).mono (by rintro e w' ⟨rfl, m, rfl⟩; exact ⟨rfl, ends.below_drewN (Below.refl _ _) m⟩))
      have HWB' := Lib.hid (show B ≤ W0.heap.size by rw [HWB.out]; exact Nat.le_refl _)
      obtain ⟨xl, hxl2⟩ : ∃ xl, Hid (x.length = xl) := ⟨_, Lib.hid rfl⟩
      rw [hxl2.out] at h0 h0' HEQ
      go_wp2_with fail
      refine wp_region_held_drew (S := (fun w' => (∀ b o, b < B → w'.cell? ⟨b, o, none⟩ = W0.cell? ⟨b, o, none⟩) ∧ Below B W0 w')) (by kernel_rfl) ?_ (fun hHeld => ?_)
      · exact sb_start HR.out
      refine' wpAnyH_take (i := 0) (v := ?vr1_0) rfl (by kernel_rfl) (by kernel_rfl) (by kernel_rfl) (fun _ _ _ h => h) (Or.inl ⟨by rfl, ?hyr1_0⟩) (by assumption) ?restr1_0
      case hyr1_0 => (intro w hSw; (try dsimp only at hSw); go_simp; try (with_reducible rfl))
      simp only [Act.put, List.getElem_toArray, List.getElem_cons_succ, List.getElem_cons_zero, List.setIfInBounds_toArray, List.set_cons_zero, List.set_cons_succ]
      refine' wpAnyH_take (i := 1) (v := ?vr1_1) rfl (by kernel_rfl) (by kernel_rfl) (by kernel_rfl) (fun _ _ _ h => h) (Or.inl ⟨by rfl, ?hyr1_1⟩) (by assumption) ?restr1_1
      case hyr1_1 => (intro w hSw; (try dsimp only at hSw); go_simp; try (with_reducible rfl))
      simp only [Act.put, List.getElem_toArray, List.getElem_cons_succ, List.getElem_cons_zero, List.setIfInBounds_toArray, List.set_cons_zero, List.set_cons_succ]
      refine' wpAnyH_take (i := 2) (v := ?vr1_2) rfl (by kernel_rfl) (by kernel_rfl) (by kernel_rfl) (fun _ _ _ h => h) (Or.inl ⟨by rfl, ?hyr1_2⟩) (by assumption) ?restr1_2
      case hyr1_2 => (intro w hSw; (try dsimp only at hSw); go_simp; try (with_reducible rfl))
      simp only [Act.put, List.getElem_toArray, List.getElem_cons_succ, List.getElem_cons_zero, List.setIfInBounds_toArray, List.set_cons_zero, List.set_cons_succ]
      refine' wpAnyH_take (i := 3) (v := ?vr1_3) rfl (by kernel_rfl) (by kernel_rfl) (by kernel_rfl) (fun _ _ _ h => h) (Or.inl ⟨by rfl, ?hyr1_3⟩) (by assumption) ?restr1_3
      case hyr1_3 => (intro w hSw; (try dsimp only at hSw); go_simp; try (with_reducible rfl))
      simp only [Act.put, List.getElem_toArray, List.getElem_cons_succ, List.getElem_cons_zero, List.setIfInBounds_toArray, List.set_cons_zero, List.set_cons_succ]
      refine' wpAnyH_take (i := 4) (v := ?vr1_4) rfl (by kernel_rfl) (by kernel_rfl) (by kernel_rfl) (fun _ _ _ h => h) (Or.inl ⟨by rfl, ?hyr1_4⟩) (by assumption) ?restr1_4
      case hyr1_4 => (intro w hSw; (try dsimp only at hSw); go_simp; try (with_reducible rfl))
      simp only [Act.put, List.getElem_toArray, List.getElem_cons_succ, List.getElem_cons_zero, List.setIfInBounds_toArray, List.set_cons_zero, List.set_cons_succ]
      refine' wpAnyH_take (i := 5) (v := ?vr1_5) rfl (by kernel_rfl) (by kernel_rfl) (by kernel_rfl) (fun _ _ _ h => h) (Or.inl ⟨by rfl, ?hyr1_5⟩) (by assumption) ?restr1_5
      case hyr1_5 => (intro w hSw; (try dsimp only at hSw); go_simp; try (with_reducible rfl))
      simp only [Act.put, List.getElem_toArray, List.getElem_cons_succ, List.getElem_cons_zero, List.setIfInBounds_toArray, List.set_cons_zero, List.set_cons_succ]
      refine' wpAnyH_take (i := 6) (v := ?vr1_6) rfl (by kernel_rfl) (by kernel_rfl) (by kernel_rfl) (fun _ _ _ h => h) (Or.inl ⟨by rfl, ?hyr1_6⟩) (by assumption) ?restr1_6
      case hyr1_6 => (intro w hSw; (try dsimp only at hSw); go_simp; try (with_reducible rfl))
      simp only [Act.put, List.getElem_toArray, List.getElem_cons_succ, List.getElem_cons_zero, List.setIfInBounds_toArray, List.set_cons_zero, List.set_cons_succ]
      refine' wpAnyH_take (i := 7) (v := ?vr1_7) rfl (by kernel_rfl) (by kernel_rfl) (by kernel_rfl) (fun _ _ _ h => h) (Or.inl ⟨by rfl, ?hyr1_7⟩) (by assumption) ?restr1_7
      case hyr1_7 => (intro w hSw; (try dsimp only at hSw); go_simp; try (with_reducible rfl))
      simp only [Act.put, List.getElem_toArray, List.getElem_cons_succ, List.getElem_cons_zero, List.setIfInBounds_toArray, List.set_cons_zero, List.set_cons_succ]
      refine wpAnyH_ready (rs := [8]) (by kernel_rfl) (by simp) ?_
      refine AllReadyH.cons rfl (fun K hK => ?_) AllReadyH.nil
      go_simp
      refine (HEQ.out _ hHeld.2).mono ?_
      rintro e w1 ⟨rfl, b1⟩
      refine hK.out _ _ (sb_step hHeld HWB'.out b1) (fun hHeld1 => ?_)
      clear hK K hHeld
      have hHeld := hHeld1
      clear hHeld1
      try simp only [Act.put, List.getElem_toArray, List.getElem_cons_succ, List.getElem_cons_zero, List.setIfInBounds_toArray, List.set_cons_zero, List.set_cons_succ]
      refine' wpAnyH_take (i := 9) (v := ?vr1_9) rfl (by kernel_rfl) (by kernel_rfl) (by kernel_rfl) (fun _ _ _ h => h) (Or.inl ⟨by rfl, ?hyr1_9⟩) (by assumption) ?restr1_9
      case hyr1_9 => (intro w hSw; (try dsimp only at hSw); go_simp; try (with_reducible rfl))
      simp only [Act.put, List.getElem_toArray, List.getElem_cons_succ, List.getElem_cons_zero, List.setIfInBounds_toArray, List.set_cons_zero, List.set_cons_succ]
      refine wpAnyH_done (by kernel_rfl) ?_ _
      have HR2 := Lib.hid hHeld.2
      clear hHeld
      go_wp2_with fail
      go_roundw
      case rel => exact ⟨k + 1, by omega, by go_num, HR2.out⟩
      case measure => simp [intOf]; omega
    · have hkd : decide (k < n) = false := by simpa using hlt
      go_wp2_with fail
      go_ret
      exact ⟨rfl, HB1.out _ HR.out⟩
set_option maxHeartbeats 4000000 in
theorem mark_tab (b n : Nat) (v : Value) (vs : List Value) (L : List (List Int)) (k : Int) (w : World) (hn : n ≤ 2000000) (k0 : 0 ≤ k) (k1 : k ≤ 1000000) (hl : Hid (off L ≤ 2000000)) (hL : Hid (L.length = n)) (hd : Hid (Disj vs)) (ho : Hid (w.ownsRow b 27 1 v n vs)) (ht : Hid (TabV 3 1 intsV w b vs L)) (hb : Hid (b ≤ w.heap.size)) :
    Calls Try.prog 53 #[v, .int .i64 k] w fun e w' => e = .returned (.int .i64 (k + (off L : Int))) ∧ w'.ownsRow b 27 1 v n vs ∧ TabV 3 1 intsV w' b vs (mt k L) ∧ Below b w w' := by
  obtain ⟨A, c, rfl⟩ := row_slice ho.out
  go_enter Try.func53, Try.ntmps53
  go_wp2_with fail
  go_loopw [1, 5] (fun q i wr => ∃ j o : Nat, j ≤ n ∧ i = .int .i64 j ∧ q = .int .i64 (k + (o : Int)) ∧ o ≤ 2000000 ∧ Hid (off (L.take j) = o) ∧ Hid (wr.ownsRow b 27 1 (.slice A n c) n vs) ∧ Hid (TabV 3 1 intsV wr b vs (mt k (L.take j) ++ L.drop j)) ∧ Below b w wr) (fun _ i _ => n - (intOf i).toNat)
  case atStart => exact ⟨0, 0, Nat.zero_le _, rfl, by go_num, by omega, Lib.hid rfl, ho, Lib.hid (by simpa [mt] using ht.out), Below.refl _ _⟩
  case round =>
    obtain ⟨j, o, hj, rfl, rfl, ho2, HF, HO, HT, hB⟩ := hrel
    have HB := Lib.hid hB
    clear hB
    by_cases hlt : j < n
    · obtain ⟨x, hx⟩ : ∃ x, L[j]? = some x := ⟨_, List.getElem?_eq_getElem (by rw [hL.out]; exact hlt)⟩
      have hx2 : (mt k (L.take j) ++ L.drop j)[j]? = some x := by
        have hl1 : (mt k (L.take j)).length = j := by rw [mt_len, List.length_take, hL.out]; omega
        rw [List.getElem?_append_right (by omega), hl1, Nat.sub_self, List.getElem?_drop, Nat.add_zero]; exact hx
      have hxl : x.length ≤ 2000000 := Nat.le_trans (off_le (List.mem_of_getElem? hx)) hl.out
      have HNX := Lib.hid (show off (L.take (j + 1)) = o + x.length by rw [off_next hx, HF.out])
      have hox : o + x.length ≤ 2000000 := by rw [← HNX.out]; exact Nat.le_trans (off_take L (j + 1)) hl.out
      have HST := Lib.hid (show (mt k (L.take j) ++ L.drop j).set j (marks (k + (o : Int)) x.length) = mt k (L.take (j + 1)) ++ L.drop (j + 1) by rw [← HF.out]; exact mt_set hx)
      obtain ⟨X, cx, hv, hrow⟩ := row_at (n := n) HT.out hx2
      obtain ⟨g, cap, hg1, -, -⟩ := HO.out.form (by omega)
      injection hg1 with hA _ hc
      subst hA hc
      have h0 : wr.cell? ⟨g, j, none⟩ = some (.slice X x.length cx) := (HO.out.cellAt j (by omega)).trans hv
      have HRW := Lib.hid hrow
      have HV := Lib.hid hv
      obtain ⟨xl, hxl2⟩ : ∃ xl, Hid (x.length = xl) := ⟨_, Lib.hid rfl⟩
      rw [hxl2.out] at h0 hxl hox
      have HMK := Lib.hid (show Calls Try.prog 49 #[.slice X xl cx, .int .i64 (k + (o : Int))] wr (fun e w' => e = .returned (.int .i64 (k + (o : Int) + (xl : Int))) ∧ w'.ownsRow b 3 1 (.slice X xl cx) xl (intsV (marks (k + (o : Int)) xl)) ∧ wr.grownBy w' (Value.slice X xl cx).ownBlock) by
        have h := mark_any b x.length (.slice X x.length cx) x (k + (o : Int)) wr (by rw [hxl2.out]; exact hxl) (by omega) (by omega) HRW
        rw [hxl2.out] at h
        exact h)
      clear hx hx2 hv hrow
      have hji : (j : Int) < (n : Int) := by omega
      have hj0 : 0 ≤ (j : Int) := by omega
      have hjd : decide (j < n) = true := by simpa using hlt
      go_wp2_with fail
      refine HMK.out.mono ?_
      rintro e w1 ⟨rfl, hrow, hgr⟩
      have HG := Lib.hid hgr
      have HO1 := Lib.hid (HO.out.kept hgr (own_ne HO.out (show wr.ownsRow b 3 1 (.slice X xl cx) xl (intsV x) by have h := HRW.out; rw [hxl2.out] at h; exact h) (by decide)))
      have HT1 := Lib.hid (show TabV 3 1 intsV w1 b vs (mt k (L.take (j + 1)) ++ L.drop (j + 1)) by
        rw [← HST.out, hxl2.out]
        exact tab_set HT.out hd.out (by rw [← hxl2.out]; exact HV.out) hgr (by rw [marks_len]; exact hrow))
      have HB1 := Lib.hid (HB.out.grown hgr (Nat.le_trans hb.out HB.out.size) (fun q e => (HRW.out.lt q (by rw [hxl2.out]; exact e)).1))
      clear hrow hgr HO HT HB HMK
      go_wp2_with fail
      go_roundw
      case rel => exact ⟨j + 1, o + xl, by omega, by go_num, by go_num, by omega, Lib.hid (by rw [HNX.out, hxl2.out]), HO1, HT1, HB1.out⟩
      case measure => simp [intOf]; omega
    · have hjd : decide (j < n) = false := by simpa using hlt
      obtain rfl : j = n := by omega
      have HF2 := Lib.hid (show off L = o by have := HF.out; rwa [List.take_of_length_le (by rw [hL.out]; omega)] at this)
      have HT2 := Lib.hid (show TabV 3 1 intsV wr b vs (mt k L) by have := HT.out; rwa [List.take_of_length_le (by rw [hL.out]; omega), List.drop_of_length_le (by rw [hL.out]; omega), List.append_nil] at this)
      clear hlt
      go_wp2_with fail
      go_ret
      exact ⟨by rw [HF2.out]; rfl, HO.out, HT2.out, HB.out⟩
set_option maxHeartbeats 4000000 in
theorem held_tab (A : Option Addr) (b n c : Nat) (vs : List Value) (L : List (List Int)) (k : Int) (w : World) (hn : n ≤ 2000000) (k0 : 0 ≤ k) (k1 : k ≤ 1000000) (hl : Hid (off L ≤ 2000000)) (hL : Hid (L.length = n)) (ho : Hid (w.ownsRow b 27 1 (.slice A n c) n vs)) (ht : Hid (TabV 3 1 intsV w b vs (mt k L))) :
    Calls Try.prog 54 #[.slice A n c, .int .i64 k] w fun e w' => e = .returned (.int .i64 (k + (off L : Int))) ∧ w = w' := by
  go_enter Try.func54, Try.ntmps54
  go_wp2_with fail
  go_loop [1, 5] (fun q i => ∃ j o : Nat, j ≤ n ∧ i = .int .i64 j ∧ q = .int .i64 (k + (o : Int)) ∧ o ≤ 2000000 ∧ Hid (off (L.take j) = o)) (fun _ i => n - (intOf i).toNat)
  case atStart => exact ⟨0, 0, Nat.zero_le _, rfl, by go_num, by omega, Lib.hid rfl⟩
  case round =>
    obtain ⟨j, o, hj, rfl, rfl, ho2, HF⟩ := hrel
    by_cases hlt : j < n
    · obtain ⟨x, hx⟩ : ∃ x, L[j]? = some x := ⟨_, List.getElem?_eq_getElem (by rw [hL.out]; exact hlt)⟩
      have hx2 : (mt k L)[j]? = some (marks (k + (o : Int)) x.length) := by rw [mt_at hx, HF.out]
      have hxl : x.length ≤ 2000000 := Nat.le_trans (off_le (List.mem_of_getElem? hx)) hl.out
      have HNX := Lib.hid (show off (L.take (j + 1)) = o + x.length by rw [off_next hx, HF.out])
      have hox : o + x.length ≤ 2000000 := by rw [← HNX.out]; exact Nat.le_trans (off_take L (j + 1)) hl.out
      obtain ⟨X, cx, hv, hrow⟩ := row_at (n := n) ht.out hx2
      rw [marks_len] at hv hrow
      obtain ⟨g, cap, hg1, -, -⟩ := ho.out.form (by omega)
      injection hg1 with hA _ hc
      subst hA hc
      have h0 : w.cell? ⟨g, j, none⟩ = some (.slice X x.length cx) := (ho.out.cellAt j (by omega)).trans hv
      have HHD := Lib.hid (held_any X x.length cx (k + (o : Int)) w hxl (by omega) (by omega) (Lib.hid (IL.of_own hrow)))
      obtain ⟨xl, hxl2⟩ : ∃ xl, Hid (x.length = xl) := ⟨_, Lib.hid rfl⟩
      rw [hxl2.out] at h0 hxl hox HNX HHD
      clear hx hx2 hv hrow
      have hji : (j : Int) < (n : Int) := by omega
      have hj0 : 0 ≤ (j : Int) := by omega
      have hjd : decide (j < n) = true := by simpa using hlt
      obtain ⟨z, HZ⟩ : ∃ z, Hid (k + (o : Int) + (xl : Int) = z) := ⟨_, Lib.hid rfl⟩
      have hz0 : 0 ≤ z := by rw [← HZ.out]; omega
      have hneg : decide (z < 0) = false := by simp; omega
      rw [HZ.out] at HHD
      go_wp2_with fail
      refine HHD.out.mono ?_
      rintro e w1 ⟨rfl, rfl⟩
      go_wp2_with fail
      go_round
      case rel => exact ⟨j + 1, o + xl, by omega, by go_num, by rw [← HZ.out]; go_num, by omega, HNX⟩
      case measure => simp [intOf]; omega
    · have hjd : decide (j < n) = false := by simpa using hlt
      obtain rfl : j = n := by omega
      have HF2 := Lib.hid (show off L = o by have := HF.out; rwa [List.take_of_length_le (by rw [hL.out]; omega)] at this)
      clear hlt
      go_wp2_with fail
      go_ret
      exact ⟨by rw [HF2.out]; rfl, rfl⟩
end Go.Proofs.Ytidofckanadkpaa.intt

namespace Go.Proofs.Ytidofckanadkpaa.intt
open Go.RowKit
open reads base tab ints
set_option linter.unusedVariables false

/-- a list of lists whose blocks lie from lo on and below hi -/
def TB (w : World) (lo hi : Nat) (A : Option Addr) (n c : Nat) (vs : List Value) (L : List (List Int)) : Prop :=
  w.ownsRow lo 27 1 (.slice A n c) n vs ∧ TabV 3 1 intsV w lo vs L ∧ (∀ g, (Value.slice A n c).ownBlock = some g → g < hi) ∧ ∀ (i : Nat) v, vs[i]? = some v → ∀ g, v.ownBlock = some g → g < hi
theorem own_under {w w' : World} {b B size n : Nat} {e : TypeId} {v : Value} {xs : List Value} (h : w.ownsRow b e size v n xs) (hb : Below B w w') (hl : ∀ g, v.ownBlock = some g → g < B) : w'.ownsRow b e size v n xs := by
  refine ⟨h.1, ?_⟩
  rcases h.2 with q | ⟨g, cap, cur, rfl, h2, h3, h4⟩
  · exact .inl q
  · exact .inr ⟨g, cap, cur, rfl, h2, by rw [hb.block g (hl g rfl)]; exact h3, h4⟩
section
variable {w w' : World} {lo hi n c : Nat} {A : Option Addr} {vs : List Value} {L : List (List Int)}
theorem tb_len (ho : w.ownsRow lo 27 1 (.slice A n c) n vs) : vs.length = n := by have := ho.1; omega
theorem TB.new {v : Value} (ho : w.ownsRow lo 27 1 v vs.length vs) (ht : TabV 3 1 intsV w lo vs L) (hn : L.length = n) : ∃ A c, v = .slice A n c ∧ TB w lo w.heap.size A n c vs L := by
  obtain ⟨A, c, rfl⟩ := row_slice ho
  have e : vs.length = n := by rw [ht.1]; exact hn
  rw [e] at ho ⊢
  refine ⟨A, c, rfl, ho, ht, fun g h => (ho.lt g h).2, fun i v hv g hg => ?_⟩
  have hi : i < L.length := by rw [← ht.1]; exact (List.getElem?_eq_some_iff.1 hv).1
  exact ((ht.2 i v _ hv (List.getElem?_eq_getElem hi)).lt g hg).2
theorem TB.under (h : TB w lo hi A n c vs L) {B : Nat} (hb : Below B w w') (hB : hi ≤ B) : TB w' lo hi A n c vs L :=
  ⟨own_under h.1 hb (fun g e => Nat.lt_of_lt_of_le (h.2.2.1 g e) hB), ⟨h.2.1.1, fun i v x h1 h2 => own_under (h.2.1.2 i v x h1 h2) hb (fun g e => Nat.lt_of_lt_of_le (h.2.2.2 i v h1 g e) hB)⟩, h.2.2⟩
theorem TB.below (h : TB w lo hi A n c vs L) (hb : Below w.heap.size w w') : TB w' lo hi A n c vs L :=
  ⟨row_below h.1 hb, h.2.1.below hb, h.2.2⟩
theorem TB.kept (h : TB w lo hi A n c vs L) {g : Nat} (hg : w.grownBy w' (some g)) (hne : hi ≤ g ∨ g < lo) : TB w' lo hi A n c vs L := by
  refine ⟨h.1.kept hg ?_, h.2.1.kept hg (fun i v x h1 h2 => ?_), h.2.2⟩
  · cases e : (Value.slice A n c).ownBlock with
    | none => exact .inl rfl
    | some k => exact .inr (fun e2 => by injection e2 with e2; have h1 := h.2.2.1 k e; have h2 := (h.1.lt k e).1; omega)
  · cases e : v.ownBlock with
    | none => exact .inl rfl
    | some k => exact .inr (fun e2 => by injection e2 with e2; have h3 := h.2.2.2 i v h1 k e; have h4 := ((h.2.1.2 i v x h1 h2).lt k e).1; omega)
end
set_option maxHeartbeats 1000000 in
theorem eq_tb {lo hi lo' hi' n c c' : Nat} {A A' : Option Addr} {vs vs' : List Value} {L : List (List Int)} {w : World} (hn : n ≤ 2000000) (hl : Hid (off L ≤ 2000000)) (hL : Hid (L.length = n)) (h : Hid (TB w lo hi A n c vs L)) (h' : Hid (TB w lo' hi' A' n c' vs' L)) :
    Calls Try.prog 52 #[.slice A n c, .slice A' n c'] w (BPost true w) :=
  eq_tab A A' n c c' lo lo' vs vs' L w hn hl hL (Lib.hid h.out.1) (Lib.hid h.out.2.1) (Lib.hid h'.out.1) (Lib.hid h'.out.2.1)
/-- marks: the list's own blocks alone are written -/
theorem mark_tb {lo hi n c : Nat} {A : Option Addr} {vs : List Value} {L : List (List Int)} {w : World} (k : Int) (hn : n ≤ 2000000) (k0 : 0 ≤ k) (k1 : k ≤ 1000000) (hl : Hid (off L ≤ 2000000)) (hL : Hid (L.length = n)) (hd : Hid (Disj vs)) (h : Hid (TB w lo hi A n c vs L)) (hb : lo ≤ w.heap.size) :
    Calls Try.prog 53 #[.slice A n c, .int .i64 k] w fun e w' => e = .returned (.int .i64 (k + (off L : Int))) ∧ TB w' lo hi A n c vs (mt k L) ∧ Below lo w w' := by
  refine (mark_tab lo n _ vs L k w hn k0 k1 hl hL hd (Lib.hid h.out.1) (Lib.hid h.out.2.1) (Lib.hid hb)).mono ?_
  rintro e w' ⟨rfl, h1, h2, h3⟩
  exact ⟨rfl, ⟨h1, h2, h.out.2.2⟩, h3⟩
theorem held_tb {lo hi n c : Nat} {A : Option Addr} {vs : List Value} {L : List (List Int)} {w : World} (k : Int) (hn : n ≤ 2000000) (k0 : 0 ≤ k) (k1 : k ≤ 1000000) (hl : Hid (off L ≤ 2000000)) (hL : Hid (L.length = n)) (h : Hid (TB w lo hi A n c vs (mt k L))) :
    Calls Try.prog 54 #[.slice A n c, .int .i64 k] w fun e w' => e = .returned (.int .i64 (k + (off L : Int))) ∧ w = w' :=
  held_tab A lo n c vs L k w hn k0 k1 hl hL (Lib.hid h.out.1) (Lib.hid h.out.2.1)
end Go.Proofs.Ytidofckanadkpaa.intt
