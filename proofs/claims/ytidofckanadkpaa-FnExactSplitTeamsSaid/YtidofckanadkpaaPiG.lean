/-
  A person among others, by the library's slices.Contains.
  Conditions: at most 2000000 people, in one block.
-/
import Derived.Test.YtidofckanadkpaaPiF
import Derived.Deep.RegionHeld3
namespace Go.Proofs.Ytidofckanadkpaa.pi5
open Go.RowKit
open reads base inn ty rowi psk psl psm psn pso psp pq
set_option linter.unusedVariables false
set_option linter.unusedSimpArgs false

/-- whether the element is there, and where; the call has made memory -/
def IxB (t : Bool) (w : World) (e : Ending) (w' : World) : Prop := ∃ r : Int, e = .returned (.int .i64 r) ∧ (-1 ≤ r ∧ r ≤ 2000000) ∧ decide (0 ≤ r) = t ∧ Below w.heap.size w w'
theorem eqP_symm (a b : Ps) : pt.eqP a b = pt.eqP b a := by
  unfold pt.eqP
  rw [Bool.eq_iff_iff]
  simp only [Bool.and_eq_true, beq_iff_eq]
  exact ⟨fun ⟨h1, h2, h3, h4⟩ => ⟨h1.symm, h2.symm, h3.symm, h4.symm⟩, fun ⟨h1, h2, h3, h4⟩ => ⟨h1.symm, h2.symm, h3.symm, h4.symm⟩⟩
theorem inP_no {ps : List Ps} {x : Ps} (h : ps.all (fun u => !pt.eqP x u) = true) : pt.inP ps x = false := by
  rw [List.all_eq_true] at h
  unfold pt.inP; rw [List.any_eq_false]; intro u hu; have := h u hu; rw [eqP_symm]; simpa using this
theorem inP_yes {ps : List Ps} {x u : Ps} {k : Nat} (h : ps[k]? = some u) (e : pt.eqP x u = true) : pt.inP ps x = true := by
  unfold pt.inP; rw [List.any_eq_true]; exact ⟨u, List.mem_of_getElem? h, by rw [eqP_symm]; exact e⟩
set_option maxHeartbeats 8000000 in
set_option maxRecDepth 100000 in
theorem index_people (A : Option Addr) (n c : Nat) (ps : List Ps) (x : Ps) (t : Bool) (h : Hid (pt.inP ps x = t)) (w : World) (hn : n ≤ 2000000) (hx : Hid (PsAt w w.heap.size A n ps)) :
    Calls Try.prog 109 #[.slice A n c, .agg #[.int .i64 x.id, .string x.name, .int .i64 x.skills, .int .i64 x.trips]] w (IxB t w) := by
  have hL : Hid (ps.length = n) := Lib.hid hx.out.1
  obtain ⟨B, HBB⟩ : ∃ B, Hid (w.heap.size = B) := ⟨_, Lib.hid rfl⟩
  obtain ⟨W0, HW0⟩ : ∃ W0, Hid (w = W0) := ⟨_, Lib.hid rfl⟩
  have HT := Lib.hid (show PsAt W0 B A n ps by rw [← HBB.out, ← HW0.out]; exact hx.out)
  have HB1 := Lib.hid (show ∀ v, Below B W0 v → Below w.heap.size w v from fun v hv => by rw [HBB.out, HW0.out]; exact hv)
  obtain ⟨X, HX⟩ : ∃ X, Hid (w.heap.size = X) := ⟨_, Lib.hid rfl⟩
  obtain ⟨W1, HW1⟩ : ∃ W1, Hid (w.alloc (.cells #[.int .i64 x.id, .string x.name, .int .i64 x.skills, .int .i64 x.trips] 41) = W1) := ⟨_, Lib.hid rfl⟩
  have HSX := Lib.hid (show psg.SX W1 B W0 X x from ⟨by rw [← HW1.out, ← HX.out]; exact Blk.new _ _ _, by rw [← HW1.out, ← HBB.out, ← HW0.out]; exact (Below.refl _ _).alloc (Nat.le_refl _) _⟩)
  clear hx
  go_enter Try.func109, Try.ntmps109
  go_wp2_with fail
  rw [HW1.out, HX.out]
  clear HW1
  go_loopw [8] (fun i wr => ∃ k : Nat, k ≤ n ∧ i = .int .i64 k ∧ Hid ((ps.take k).all (fun u => !pt.eqP x u) = true) ∧ psg.SX wr B W0 X x) (fun i _ => n - (intOf i).toNat)
  case atStart => exact ⟨0, Nat.zero_le _, rfl, Lib.hid (by simp), HSX.out⟩
  case round =>
    obtain ⟨k, hk, rfl, HI, hS⟩ := hrel
    have HS := Lib.hid hS
    clear hS HSX
    have hk0 : 0 ≤ (k : Int) := by omega
    by_cases h1 : k < n
    · have hki : (k : Int) < (n : Int) := by omega
      have hkd : decide (k < n) = true := by simpa using h1
      obtain ⟨u, huk⟩ := at_lt hL.out h1
      obtain ⟨g, rfl, hg, c0, c1, c2, c3⟩ := HT.out.2 k u huk
      have HK := Lib.hid huk
      clear huk
      obtain ⟨r, hr⟩ : ∃ r, pt.eqP x u = r := ⟨_, rfl⟩
      have HR := Lib.hid hr
      clear hr
      go_wp2_with fail
      refine wp_region_held_drew (S := (fun w' => w'.cell? ⟨X, 0, none⟩ = some (.int .i64 x.id) ∧ w'.cell? ⟨X, 1, none⟩ = some (.string x.name) ∧ w'.cell? ⟨X, 2, none⟩ = some (.int .i64 x.skills) ∧ w'.cell? ⟨X, 3, none⟩ = some (.int .i64 x.trips) ∧ (∀ b o, b < B → w'.cell? ⟨b, o, none⟩ = W0.cell? ⟨b, o, none⟩) ∧ psg.SX w' B W0 X x)) (by kernel_rfl) ?_ (fun hHeld => ?_)
      · exact psg.sx_mk HS.out.drew
      refine' wpAnyH_take (i := 0) (v := ?vr1_0) rfl (by kernel_rfl) (by kernel_rfl) (by kernel_rfl) (fun _ _ _ h => h) (Or.inl ⟨by rfl, ?hyr1_0⟩) (by assumption) ?restr1_0
      case hyr1_0 => (intro w hSw; (try dsimp only at hSw); go_simp; try (with_reducible rfl))
      simp only [Act.put, List.getElem_toArray, List.getElem_cons_succ, List.getElem_cons_zero, List.setIfInBounds_toArray, List.set_cons_zero, List.set_cons_succ]
      refine' wpAnyH_take (i := 1) (v := ?vr1_1) rfl (by kernel_rfl) (by kernel_rfl) (by kernel_rfl) (fun _ _ _ h => h) (Or.inl ⟨by rfl, ?hyr1_1⟩) (by assumption) ?restr1_1
      case hyr1_1 => (intro w hSw; (try dsimp only at hSw); go_simp; try (with_reducible rfl))
      simp only [Act.put, List.getElem_toArray, List.getElem_cons_succ, List.getElem_cons_zero, List.setIfInBounds_toArray, List.set_cons_zero, List.set_cons_succ]
      refine' wpAnyH_take (i := 2) (v := ?vr1_2) rfl (by kernel_rfl) (by kernel_rfl) (by kernel_rfl) (fun _ _ _ h => h) (Or.inl ⟨by rfl, ?hyr1_2⟩) (by assumption) ?restr1_2
      case hyr1_2 => (intro w hSw; (try dsimp only at hSw); go_simp; try (with_reducible rfl))
      simp only [Act.put, List.getElem_toArray, List.getElem_cons_succ, List.getElem_cons_zero, List.setIfInBounds_toArray, List.set_cons_zero, List.set_cons_succ]
      refine' wpAnyH_take (i := 3) (v := ?vr1_3) rfl (by kernel_rfl) (by kernel_rfl) (by kernel_rfl) (fun _ _ _ h => h) (Or.inl ⟨by rfl, ?hyr1_3⟩) (by assumption) ?restr1_3
      case hyr1_3 => (intro w hSw; (try dsimp only at hSw); go_simp; try (with_reducible rfl))
      simp only [Act.put, List.getElem_toArray, List.getElem_cons_succ, List.getElem_cons_zero, List.setIfInBounds_toArray, List.set_cons_zero, List.set_cons_succ]
      refine' wpAnyH_take (i := 4) (v := ?vr1_4) rfl (by kernel_rfl) (by kernel_rfl) (by kernel_rfl) (fun _ _ _ h => h) (Or.inl ⟨by rfl, ?hyr1_4⟩) (by assumption) ?restr1_4
      case hyr1_4 => (intro w hSw; (try dsimp only at hSw); go_simp; try (with_reducible rfl))
      simp only [Act.put, List.getElem_toArray, List.getElem_cons_succ, List.getElem_cons_zero, List.setIfInBounds_toArray, List.set_cons_zero, List.set_cons_succ]
      refine' wpAnyH_take (i := 5) (v := .bool r) rfl (by kernel_rfl) (by kernel_rfl) (by kernel_rfl) (fun _ _ _ h => h) (Or.inl ⟨by rfl, ?hye⟩) (by assumption) ?reste
      case hye =>
        intro w hSw
        rw [← HR.out]
        (try dsimp only at hSw)
        unfold pt.eqP
        go_simp
        by_cases p1 : x.id = u.id <;> by_cases p2 : x.name.toList = u.name.toList <;> by_cases p3 : x.skills = u.skills <;> by_cases p4 : x.trips = u.trips <;> simp [p1, p2, p3, p4]
      simp only [Act.put, List.getElem_toArray, List.getElem_cons_succ, List.getElem_cons_zero, List.setIfInBounds_toArray, List.set_cons_zero, List.set_cons_succ]
      refine wpAnyH_done (by kernel_rfl) ?_ _
      have HS2 := Lib.hid hHeld.2.2.2.2.2
      clear hHeld
      cases r
      · have HN := Lib.hid (all_take (p := fun u => !pt.eqP x u) HK.out HI.out (by simp only [HR.out]; rfl))
        go_wp2_with fail
        go_roundw
        case rel => exact ⟨k + 1, by omega, by go_num, HN, HS2.out⟩
        case measure => simp [intOf]; omega
      · have HF := Lib.hid (show pt.inP ps x = true from inP_yes HK.out HR.out)
        go_wp2_with fail
        go_ret
        exact ⟨k, rfl, by omega, by rw [← h.out, HF.out]; simp, HB1.out _ HS2.out.2⟩
    · have hkd : decide (k < n) = false := by simpa using h1
      obtain rfl : k = n := by omega
      have HF := Lib.hid (show pt.inP ps x = false from inP_no (by have := HI.out; rwa [List.take_of_length_le (by rw [hL.out]; exact Nat.le_refl _)] at this))
      clear h1
      go_wp2_with fail
      go_ret
      exact ⟨-1, rfl, by omega, by rw [← h.out, HF.out]; rfl, HB1.out _ HS.out.2⟩
theorem contains_people (A : Option Addr) (n c : Nat) (ps : List Ps) (x : Ps) (t : Bool) (h : Hid (pt.inP ps x = t)) (w : World) (hn : n ≤ 2000000) (hx : Hid (PsAt w w.heap.size A n ps)) :
    Calls Try.prog 103 #[.slice A n c, .agg #[.int .i64 x.id, .string x.name, .int .i64 x.skills, .int .i64 x.trips]] w (BPost t w) := by
  have HXA := Lib.hid (hx.out.alloc (.cells #[.int .i64 x.id, .string x.name, .int .i64 x.skills, .int .i64 x.trips] 41))
  go_enter Try.func103, Try.ntmps103
  go_wp2_with fail
  refine (index_people A n c ps x t h _ hn HXA).mono ?_
  rintro e w1 ⟨r, rfl, ⟨h1, h2⟩, h3, b1⟩
  have HB := Lib.hid (((Below.refl w.heap.size w).alloc (Nat.le_refl _) (.cells #[.int .i64 x.id, .string x.name, .int .i64 x.skills, .int .i64 x.trips] 41)).trans (b1.mono (by simp)))
  clear b1
  go_wp2_with fail
  go_ret
  exact ⟨rfl, HB.out⟩
#print axioms contains_people
end Go.Proofs.Ytidofckanadkpaa.pi5
