/-
  FnExactDoAgree holds: at every argument DoAgree answers as its model answers, and the arguments read behind the call as they read before it.
  Conditions: none of our own.
-/
import Derived.Test.YtpacgdjbclogoaaLgL
import Derived.Test.YtpacgdjbclogoaaEnd
import Derived.Test.YtpacgdjbclogoaaRows
import Derived.WalkKit
import Derived.ProofKit
import Derived.OpenShut
import Derived.Carry
namespace Go.Proofs.Ytpacgdjbclogoaa.fnExactDoAgree
open Go.ChangeShapes Go.WideShapes Go.ChangeAt Go.RowKit
open Go.ChangeMaps (open_string shut_string)
open reads base ty lg
set_option linter.unusedVariables false
set_option linter.unusedSimpArgs false

theorem own : ownKnob Try.prog.godebug = none := by kernel_rfl
def LawPost (w : World) (e : Ending) (w' : World) : Prop := e = .returned (.bool true) ∧ Below w.heap.size w w'
theorem form (a b : Lg) (d q : Int) : ∃ (v0 : Bool) (ok : Bool), ansAgree a b d q = .tuple #[.bool v0, .bool ok] := by
  unfold ansAgree
  split
  · exact ⟨_, _, rfl⟩
  · exact ⟨_, _, rfl⟩
def QB (w : World) (x0 : Lg) (x1 : Lg) (v : World) : Prop := Blk v (w.heap.size) 26 #[.int .i64 x0.frm, .int .i64 x0.to_, .int .i64 x0.tape, .int .i64 x0.comp, .int .i64 x0.slope] ∧ Blk v (w.heap.size + 1) 26 #[.int .i64 x1.frm, .int .i64 x1.to_, .int .i64 x1.tape, .int .i64 x1.comp, .int .i64 x1.slope] ∧ Below w.heap.size w v
theorem qb_mk {w v : World} {x0 : Lg} {x1 : Lg} (h : QB w x0 x1 v) : v.cell? ⟨w.heap.size, 0, none⟩ = some (.int .i64 x0.frm) ∧ v.cell? ⟨w.heap.size, 1, none⟩ = some (.int .i64 x0.to_) ∧ v.cell? ⟨w.heap.size, 2, none⟩ = some (.int .i64 x0.tape) ∧ v.cell? ⟨w.heap.size, 3, none⟩ = some (.int .i64 x0.comp) ∧ v.cell? ⟨w.heap.size, 4, none⟩ = some (.int .i64 x0.slope) ∧ v.cell? ⟨w.heap.size + 1, 0, none⟩ = some (.int .i64 x1.frm) ∧ v.cell? ⟨w.heap.size + 1, 1, none⟩ = some (.int .i64 x1.to_) ∧ v.cell? ⟨w.heap.size + 1, 2, none⟩ = some (.int .i64 x1.tape) ∧ v.cell? ⟨w.heap.size + 1, 3, none⟩ = some (.int .i64 x1.comp) ∧ v.cell? ⟨w.heap.size + 1, 4, none⟩ = some (.int .i64 x1.slope) ∧ QB w x0 x1 v := ⟨h.1.cell 0, h.1.cell 1, h.1.cell 2, h.1.cell 3, h.1.cell 4, h.2.1.cell 0, h.2.1.cell 1, h.2.1.cell 2, h.2.1.cell 3, h.2.1.cell 4, h⟩
theorem QB.step {w v v' : World} {x0 : Lg} {x1 : Lg} (h : QB w x0 x1 v) (b : Below v.heap.size v v') : QB w x0 x1 v' := ⟨h.1.below b h.1.lt, h.2.1.below b h.2.1.lt, h.2.2.trans (b.mono h.2.2.size)⟩
theorem QB.drew {w v : World} {x0 : Lg} {x1 : Lg} (h : QB w x0 x1 v) : QB w x0 x1 v.drew := ⟨h.1.drew, h.2.1.drew, h.2.2.drew⟩
set_option maxHeartbeats 4000000 in
set_option maxRecDepth 100000 in
theorem walk (x0 : Lg) (x1 : Lg) (x2 : Int) (x3 : Int) (w : World)  : Calls Try.prog 6 #[.agg #[.int .i64 x0.frm, .int .i64 x0.to_, .int .i64 x0.tape, .int .i64 x0.comp, .int .i64 x0.slope], .agg #[.int .i64 x1.frm, .int .i64 x1.to_, .int .i64 x1.tape, .int .i64 x1.comp, .int .i64 x1.slope], .int .i64 x2, .int .i64 x3] w (LawPost w) := by
  obtain ⟨v0, v1, hfm⟩ := form x0 x1 x2 x3
  have HFm := Lib.hid hfm
  clear hfm
  obtain ⟨W1, HW1⟩ : ∃ W1, Hid ((w.alloc (.cells #[.int .i64 x0.frm, .int .i64 x0.to_, .int .i64 x0.tape, .int .i64 x0.comp, .int .i64 x0.slope] 26)).alloc (.cells #[.int .i64 x1.frm, .int .i64 x1.to_, .int .i64 x1.tape, .int .i64 x1.comp, .int .i64 x1.slope] 26) = W1) := ⟨_, Lib.hid rfl⟩
  have HQ := Lib.hid (show QB w x0 x1 W1 by rw [← HW1.out]; exact ⟨(Blk.new _ _ _).alloc _, (by have h := Blk.new (w.alloc (.cells #[.int .i64 x0.frm, .int .i64 x0.to_, .int .i64 x0.tape, .int .i64 x0.comp, .int .i64 x0.slope] 26)) 26 #[.int .i64 x1.frm, .int .i64 x1.to_, .int .i64 x1.tape, .int .i64 x1.comp, .int .i64 x1.slope]; simpa using h), (((Below.refl w.heap.size w).alloc (Nat.le_refl _) _).alloc (by simp) _)⟩)
  go_enter Try.func6, Try.ntmps6
  go_wp2_with fail
  rw [HW1.out]
  clear HW1
  refine wp_region_held_drew (S := (fun v => v.cell? ⟨w.heap.size, 0, none⟩ = some (.int .i64 x0.frm) ∧ v.cell? ⟨w.heap.size, 1, none⟩ = some (.int .i64 x0.to_) ∧ v.cell? ⟨w.heap.size, 2, none⟩ = some (.int .i64 x0.tape) ∧ v.cell? ⟨w.heap.size, 3, none⟩ = some (.int .i64 x0.comp) ∧ v.cell? ⟨w.heap.size, 4, none⟩ = some (.int .i64 x0.slope) ∧ v.cell? ⟨w.heap.size + 1, 0, none⟩ = some (.int .i64 x1.frm) ∧ v.cell? ⟨w.heap.size + 1, 1, none⟩ = some (.int .i64 x1.to_) ∧ v.cell? ⟨w.heap.size + 1, 2, none⟩ = some (.int .i64 x1.tape) ∧ v.cell? ⟨w.heap.size + 1, 3, none⟩ = some (.int .i64 x1.comp) ∧ v.cell? ⟨w.heap.size + 1, 4, none⟩ = some (.int .i64 x1.slope) ∧ QB w x0 x1 v)) (by kernel_rfl) ?_ (fun hHeld => ?_)
  · exact qb_mk HQ.out.drew
  refine' wpAnyH_take (i := 0) (v := ?vr1_0) rfl (by kernel_rfl) (by kernel_rfl) (by kernel_rfl) (fun _ _ _ h => h) (Or.inl ⟨by rfl, ?hyr1_0⟩) (by assumption) ?restr1_0
  case hyr1_0 => (intro w hSw; (try dsimp only at hSw); go_simp; try (with_reducible rfl))
  simp only [Act.put, List.getElem_toArray, List.getElem_cons_succ, List.getElem_cons_zero, List.setIfInBounds_toArray, List.set_cons_zero, List.set_cons_succ]
  refine' wpAnyH_take (i := 2) (v := ?vr1_2) rfl (by kernel_rfl) (by kernel_rfl) (by kernel_rfl) (fun _ _ _ h => h) (Or.inl ⟨by rfl, ?hyr1_2⟩) (by assumption) ?restr1_2
  case hyr1_2 => (intro w hSw; (try dsimp only at hSw); go_simp; try (with_reducible rfl))
  simp only [Act.put, List.getElem_toArray, List.getElem_cons_succ, List.getElem_cons_zero, List.setIfInBounds_toArray, List.set_cons_zero, List.set_cons_succ]
  refine' wpAnyH_take (i := 4) (v := ?vr1_4) rfl (by kernel_rfl) (by kernel_rfl) (by kernel_rfl) (fun _ _ _ h => h) (Or.inl ⟨by rfl, ?hyr1_4⟩) (by assumption) ?restr1_4
  case hyr1_4 => (intro w hSw; (try dsimp only at hSw); go_simp; try (with_reducible rfl))
  simp only [Act.put, List.getElem_toArray, List.getElem_cons_succ, List.getElem_cons_zero, List.setIfInBounds_toArray, List.set_cons_zero, List.set_cons_succ]
  refine' wpAnyH_take (i := 5) (v := ?vr1_5) rfl (by kernel_rfl) (by kernel_rfl) (by kernel_rfl) (fun _ _ _ h => h) (Or.inl ⟨by rfl, ?hyr1_5⟩) (by assumption) ?restr1_5
  case hyr1_5 => (intro w hSw; (try dsimp only at hSw); go_simp; try (with_reducible rfl))
  simp only [Act.put, List.getElem_toArray, List.getElem_cons_succ, List.getElem_cons_zero, List.setIfInBounds_toArray, List.set_cons_zero, List.set_cons_succ]
  refine wpAnyH_ready (rs := [1]) (by kernel_rfl) (by simp) ?_
  refine AllReadyH.cons rfl (fun K hK => ?_) AllReadyH.nil
  go_simp
  refine (ty.to_leg x0 _).mono ?_
  rintro e w1 ⟨rfl, b⟩
  refine hK.out _ _ (qb_mk (hHeld.2.2.2.2.2.2.2.2.2.2.step b)) (fun hHeld1 => ?_)
  clear hK K hHeld
  have hHeld := hHeld1
  clear hHeld1
  try simp only [Act.put, List.getElem_toArray, List.getElem_cons_succ, List.getElem_cons_zero, List.setIfInBounds_toArray, List.set_cons_zero, List.set_cons_succ]
  refine wpAnyH_ready (rs := [3]) (by kernel_rfl) (by simp) ?_
  refine AllReadyH.cons rfl (fun K hK => ?_) AllReadyH.nil
  go_simp
  refine (ty.to_leg x1 _).mono ?_
  rintro e w2 ⟨rfl, b⟩
  refine hK.out _ _ (qb_mk (hHeld.2.2.2.2.2.2.2.2.2.2.step b)) (fun hHeld1 => ?_)
  clear hK K hHeld
  have hHeld := hHeld1
  clear hHeld1
  try simp only [Act.put, List.getElem_toArray, List.getElem_cons_succ, List.getElem_cons_zero, List.setIfInBounds_toArray, List.set_cons_zero, List.set_cons_succ]
  refine wpAnyH_ready (rs := [6]) (by kernel_rfl) (by simp) ?_
  refine AllReadyH.cons rfl (fun K hK => ?_) AllReadyH.nil
  go_simp
  refine (lg.doAgree_model x0 x1 x2 x3 _).mono ?_
  rintro e w3 ⟨rfl, b⟩
  rw [HFm.out]
  refine hK.out _ _ (qb_mk (hHeld.2.2.2.2.2.2.2.2.2.2.step b)) (fun hHeld1 => ?_)
  clear hK K hHeld
  have hHeld := hHeld1
  clear hHeld1
  try simp only [Act.put, List.getElem_toArray, List.getElem_cons_succ, List.getElem_cons_zero, List.setIfInBounds_toArray, List.set_cons_zero, List.set_cons_succ]
  refine' wpAnyH_take (i := 7) (v := ?vr1_7) rfl (by kernel_rfl) (by kernel_rfl) (by kernel_rfl) (fun _ _ _ h => h) (Or.inl ⟨by rfl, ?hyr1_7⟩) (by assumption) ?restr1_7
  case hyr1_7 => (intro w hSw; (try dsimp only at hSw); go_simp; try (with_reducible rfl))
  simp only [Act.put, List.getElem_toArray, List.getElem_cons_succ, List.getElem_cons_zero, List.setIfInBounds_toArray, List.set_cons_zero, List.set_cons_succ]
  refine' wpAnyH_take (i := 8) (v := ?vr1_8) rfl (by kernel_rfl) (by kernel_rfl) (by kernel_rfl) (fun _ _ _ h => h) (Or.inl ⟨by rfl, ?hyr1_8⟩) (by assumption) ?restr1_8
  case hyr1_8 => (intro w hSw; (try dsimp only at hSw); go_simp; try (with_reducible rfl))
  simp only [Act.put, List.getElem_toArray, List.getElem_cons_succ, List.getElem_cons_zero, List.setIfInBounds_toArray, List.set_cons_zero, List.set_cons_succ]
  refine' wpAnyH_take (i := 9) (v := ?vr1_9) rfl (by kernel_rfl) (by kernel_rfl) (by kernel_rfl) (fun _ _ _ h => h) (Or.inl ⟨by rfl, ?hyr1_9⟩) (by assumption) ?restr1_9
  case hyr1_9 => (intro w hSw; (try dsimp only at hSw); go_simp; try (with_reducible rfl))
  simp only [Act.put, List.getElem_toArray, List.getElem_cons_succ, List.getElem_cons_zero, List.setIfInBounds_toArray, List.set_cons_zero, List.set_cons_succ]
  refine' wpAnyH_take (i := 10) (v := ?vr1_10) rfl (by kernel_rfl) (by kernel_rfl) (by kernel_rfl) (fun _ _ _ h => h) (Or.inl ⟨by rfl, ?hyr1_10⟩) (by assumption) ?restr1_10
  case hyr1_10 => (intro w hSw; (try dsimp only at hSw); go_simp; try (with_reducible rfl))
  simp only [Act.put, List.getElem_toArray, List.getElem_cons_succ, List.getElem_cons_zero, List.setIfInBounds_toArray, List.set_cons_zero, List.set_cons_succ]
  refine' wpAnyH_take (i := 11) (v := ?vr1_11) rfl (by kernel_rfl) (by kernel_rfl) (by kernel_rfl) (fun _ _ _ h => h) (Or.inl ⟨by rfl, ?hyr1_11⟩) (by assumption) ?restr1_11
  case hyr1_11 => (intro w hSw; (try dsimp only at hSw); go_simp; try (with_reducible rfl))
  simp only [Act.put, List.getElem_toArray, List.getElem_cons_succ, List.getElem_cons_zero, List.setIfInBounds_toArray, List.set_cons_zero, List.set_cons_succ]
  refine wpAnyH_done (by kernel_rfl) ?_ _
  have HQ2 := Lib.hid (hHeld.2.2.2.2.2.2.2.2.2.2)
  clear hHeld HQ
  go_wp2_with fail
  refine wp_region_held_drew (S := (fun v => v.cell? ⟨w.heap.size, 0, none⟩ = some (.int .i64 x0.frm) ∧ v.cell? ⟨w.heap.size, 1, none⟩ = some (.int .i64 x0.to_) ∧ v.cell? ⟨w.heap.size, 2, none⟩ = some (.int .i64 x0.tape) ∧ v.cell? ⟨w.heap.size, 3, none⟩ = some (.int .i64 x0.comp) ∧ v.cell? ⟨w.heap.size, 4, none⟩ = some (.int .i64 x0.slope) ∧ v.cell? ⟨w.heap.size + 1, 0, none⟩ = some (.int .i64 x1.frm) ∧ v.cell? ⟨w.heap.size + 1, 1, none⟩ = some (.int .i64 x1.to_) ∧ v.cell? ⟨w.heap.size + 1, 2, none⟩ = some (.int .i64 x1.tape) ∧ v.cell? ⟨w.heap.size + 1, 3, none⟩ = some (.int .i64 x1.comp) ∧ v.cell? ⟨w.heap.size + 1, 4, none⟩ = some (.int .i64 x1.slope) ∧ QB w x0 x1 v)) (by kernel_rfl) ?_ (fun hHeld => ?_)
  · exact qb_mk HQ2.out.drew
  refine' wpAnyH_take (i := 0) (v := ?vr2_0) rfl (by kernel_rfl) (by kernel_rfl) (by kernel_rfl) (fun _ _ _ h => h) (Or.inl ⟨by rfl, ?hyr2_0⟩) (by assumption) ?restr2_0
  case hyr2_0 => (intro w hSw; (try dsimp only at hSw); go_simp; try (with_reducible rfl))
  simp only [Act.put, List.getElem_toArray, List.getElem_cons_succ, List.getElem_cons_zero, List.setIfInBounds_toArray, List.set_cons_zero, List.set_cons_succ]
  refine' wpAnyH_take (i := 2) (v := ?vr2_2) rfl (by kernel_rfl) (by kernel_rfl) (by kernel_rfl) (fun _ _ _ h => h) (Or.inl ⟨by rfl, ?hyr2_2⟩) (by assumption) ?restr2_2
  case hyr2_2 => (intro w hSw; (try dsimp only at hSw); go_simp; try (with_reducible rfl))
  simp only [Act.put, List.getElem_toArray, List.getElem_cons_succ, List.getElem_cons_zero, List.setIfInBounds_toArray, List.set_cons_zero, List.set_cons_succ]
  refine' wpAnyH_take (i := 4) (v := ?vr2_4) rfl (by kernel_rfl) (by kernel_rfl) (by kernel_rfl) (fun _ _ _ h => h) (Or.inl ⟨by rfl, ?hyr2_4⟩) (by assumption) ?restr2_4
  case hyr2_4 => (intro w hSw; (try dsimp only at hSw); go_simp; try (with_reducible rfl))
  simp only [Act.put, List.getElem_toArray, List.getElem_cons_succ, List.getElem_cons_zero, List.setIfInBounds_toArray, List.set_cons_zero, List.set_cons_succ]
  refine' wpAnyH_take (i := 5) (v := ?vr2_5) rfl (by kernel_rfl) (by kernel_rfl) (by kernel_rfl) (fun _ _ _ h => h) (Or.inl ⟨by rfl, ?hyr2_5⟩) (by assumption) ?restr2_5
  case hyr2_5 => (intro w hSw; (try dsimp only at hSw); go_simp; try (with_reducible rfl))
  simp only [Act.put, List.getElem_toArray, List.getElem_cons_succ, List.getElem_cons_zero, List.setIfInBounds_toArray, List.set_cons_zero, List.set_cons_succ]
  refine wpAnyH_ready (rs := [1]) (by kernel_rfl) (by simp) ?_
  refine AllReadyH.cons rfl (fun K hK => ?_) AllReadyH.nil
  go_simp
  refine (ty.to_leg x0 _).mono ?_
  rintro e w10 ⟨rfl, b⟩
  refine hK.out _ _ (qb_mk (hHeld.2.2.2.2.2.2.2.2.2.2.step b)) (fun hHeld1 => ?_)
  clear hK K hHeld
  have hHeld := hHeld1
  clear hHeld1
  try simp only [Act.put, List.getElem_toArray, List.getElem_cons_succ, List.getElem_cons_zero, List.setIfInBounds_toArray, List.set_cons_zero, List.set_cons_succ]
  refine wpAnyH_ready (rs := [3]) (by kernel_rfl) (by simp) ?_
  refine AllReadyH.cons rfl (fun K hK => ?_) AllReadyH.nil
  go_simp
  refine (ty.to_leg x1 _).mono ?_
  rintro e w11 ⟨rfl, b⟩
  refine hK.out _ _ (qb_mk (hHeld.2.2.2.2.2.2.2.2.2.2.step b)) (fun hHeld1 => ?_)
  clear hK K hHeld
  have hHeld := hHeld1
  clear hHeld1
  try simp only [Act.put, List.getElem_toArray, List.getElem_cons_succ, List.getElem_cons_zero, List.setIfInBounds_toArray, List.set_cons_zero, List.set_cons_succ]
  refine wpAnyH_ready (rs := [6]) (by kernel_rfl) (by simp) ?_
  refine AllReadyH.cons rfl (fun K hK => ?_) AllReadyH.nil
  go_simp
  refine (lgi.doAgree_impl x0 x1 x2 x3 _).mono ?_
  rintro e w12 ⟨rfl, b⟩
  rw [HFm.out]
  refine hK.out _ _ (qb_mk (hHeld.2.2.2.2.2.2.2.2.2.2.step b)) (fun hHeld1 => ?_)
  clear hK K hHeld
  have hHeld := hHeld1
  clear hHeld1
  try simp only [Act.put, List.getElem_toArray, List.getElem_cons_succ, List.getElem_cons_zero, List.setIfInBounds_toArray, List.set_cons_zero, List.set_cons_succ]
  refine' wpAnyH_take (i := 7) (v := ?vr2_7) rfl (by kernel_rfl) (by kernel_rfl) (by kernel_rfl) (fun _ _ _ h => h) (Or.inl ⟨by rfl, ?hyr2_7⟩) (by assumption) ?restr2_7
  case hyr2_7 => (intro w hSw; (try dsimp only at hSw); go_simp; try (with_reducible rfl))
  simp only [Act.put, List.getElem_toArray, List.getElem_cons_succ, List.getElem_cons_zero, List.setIfInBounds_toArray, List.set_cons_zero, List.set_cons_succ]
  refine' wpAnyH_take (i := 8) (v := ?vr2_8) rfl (by kernel_rfl) (by kernel_rfl) (by kernel_rfl) (fun _ _ _ h => h) (Or.inl ⟨by rfl, ?hyr2_8⟩) (by assumption) ?restr2_8
  case hyr2_8 => (intro w hSw; (try dsimp only at hSw); go_simp; try (with_reducible rfl))
  simp only [Act.put, List.getElem_toArray, List.getElem_cons_succ, List.getElem_cons_zero, List.setIfInBounds_toArray, List.set_cons_zero, List.set_cons_succ]
  refine' wpAnyH_take (i := 9) (v := ?vr2_9) rfl (by kernel_rfl) (by kernel_rfl) (by kernel_rfl) (fun _ _ _ h => h) (Or.inl ⟨by rfl, ?hyr2_9⟩) (by assumption) ?restr2_9
  case hyr2_9 => (intro w hSw; (try dsimp only at hSw); go_simp; try (with_reducible rfl))
  simp only [Act.put, List.getElem_toArray, List.getElem_cons_succ, List.getElem_cons_zero, List.setIfInBounds_toArray, List.set_cons_zero, List.set_cons_succ]
  refine' wpAnyH_take (i := 10) (v := ?vr2_10) rfl (by kernel_rfl) (by kernel_rfl) (by kernel_rfl) (fun _ _ _ h => h) (Or.inl ⟨by rfl, ?hyr2_10⟩) (by assumption) ?restr2_10
  case hyr2_10 => (intro w hSw; (try dsimp only at hSw); go_simp; try (with_reducible rfl))
  simp only [Act.put, List.getElem_toArray, List.getElem_cons_succ, List.getElem_cons_zero, List.setIfInBounds_toArray, List.set_cons_zero, List.set_cons_succ]
  refine' wpAnyH_take (i := 11) (v := ?vr2_11) rfl (by kernel_rfl) (by kernel_rfl) (by kernel_rfl) (fun _ _ _ h => h) (Or.inl ⟨by rfl, ?hyr2_11⟩) (by assumption) ?restr2_11
  case hyr2_11 => (intro w hSw; (try dsimp only at hSw); go_simp; try (with_reducible rfl))
  simp only [Act.put, List.getElem_toArray, List.getElem_cons_succ, List.getElem_cons_zero, List.setIfInBounds_toArray, List.set_cons_zero, List.set_cons_succ]
  refine wpAnyH_done (by kernel_rfl) ?_ _
  have HQ3 := Lib.hid (hHeld.2.2.2.2.2.2.2.2.2.2)
  clear hHeld HQ2
  go_wp2_with fail
  go_ret
  exact ⟨rfl, HQ3.out.2.2⟩

theorem laidOut : laidOutB Try.prog = true := by kernel_rfl
set_option maxRecDepth 100000 in
theorem lifted (os : Os) (started : os.Started) (H : Type) (enc : TypeId × Value → H) :
    ReturnsInHanded {} Try.checked os 6 .any (Rows.fnExactDoAgreeSpec.pre6 enc Try.prog Try.f6 Rows.fnExactDoAgreeRow.domain false) (Rows.fnExactDoAgreeSpec.post enc Try.prog Try.f6 false true false false) := by
  refine returnsInHanded_of_change (C := Try.checked) own started (by kernel_rfl) Try.func6
    (ChangeSpec.witness6 (enc := enc) (C := Try.checked) false ⟨#[], #[.agg #[.int .i64 0, .int .i64 0, .int .i64 0, .int .i64 0, .int .i64 0], .agg #[.int .i64 0, .int .i64 0, .int .i64 0, .int .i64 0, .int .i64 0], .int .i64 0, .int .i64 0], []⟩ 8 (by kernel_rfl) (by kernel_rfl) (by kernel_rfl) (by kernel_rfl)) ?_
  intro W base args ds gs before hval0 hW hcnd _
  have hval : ∀ (j : Nat) t v, Try.f6.params[j]? = some t → args[j]? = some v → Value.okWide Try.prog W .any base t v := hval0
  have hW' := hW
  obtain ⟨p, q, hA0, hV, rfl, hfz, hnd⟩ := hW
  have hA : DataW.TrodAll enc Try.prog W 0 (fun _ => true) true Try.f6.params.toList args.toList ds p := hA0
  rw [Try.params6] at hA hval
  obtain ⟨v0, vs0, d0, ds0, p0, q0, hargs, rfl, rfl, h0, r0⟩ := trodAll_cons hA
  obtain ⟨v1, vs1, d1, ds1, p1, q1, rfl, rfl, rfl, h1, r1⟩ := trodAll_cons r0
  obtain ⟨v2, vs2, d2, ds2, p2, q2, rfl, rfl, rfl, h2, r2⟩ := trodAll_cons r1
  obtain ⟨v3, vs3, d3, ds3, p3, q3, rfl, rfl, rfl, h3, r3⟩ := trodAll_cons r2
  obtain ⟨rfl, rfl, rfl⟩ := trodAll_nil r3
  obtain rfl : args = #[v0, v1, v2, v3] := by cases args; simp_all
  obtain ⟨rfl, rfl⟩ := trodVars_none hV
  have k0 := h0
  have lt0 : ∀ x ∈ p0, x.block < W.heap.size := by obtain ⟨m, hm⟩ := k0; exact DataW.trod_lt m _ _ _ hm
  obtain ⟨x0, rfl⟩ := ty.open_leg (hval 0 26 v0 rfl rfl) h0
  have k1 := h1
  have lt1 : ∀ x ∈ p1, x.block < W.heap.size := by obtain ⟨m, hm⟩ := k1; exact DataW.trod_lt m _ _ _ hm
  obtain ⟨x1, rfl⟩ := ty.open_leg (hval 1 26 v1 rfl rfl) h1
  obtain ⟨x2, rfl, rfl, rfl, w2⟩ := open_int Try.underlying3 (hval 2 3 v2 rfl rfl) h2
  obtain ⟨x3, rfl, rfl, rfl, w3⟩ := open_int Try.underlying3 (hval 3 3 v3 rfl rfl) h3
  clear hA0 hval0
  refine (walk x0 x1 x2 x3 W ).mono fun e W' ⟨he, bel⟩ => ?_
  subst he
  exact ⟨_, rfl, _, _, _, [], _, [], hW', trodAll_mk1 (shut_bool Try.underlying4 _), (trodAll_cons_mk (Below.trod laidOut (by kernel_rfl) (of_decide_eq_true (by kernel_rfl)) k0 bel lt0) (trodAll_cons_mk (Below.trod laidOut (by kernel_rfl) (of_decide_eq_true (by kernel_rfl)) k1 bel lt1) (trodAll_cons_mk (shut_int Try.underlying3 w2) (trodAll_cons_mk (shut_int Try.underlying3 w3) trodAll_mk0)))), rfl, bel.frame _, fun h => by cases h⟩

theorem over : Rows.fnExactDoAgreeRow.holds Try.pinned (OpenSpec.ofChange Rows.fnExactDoAgreeSpec) :=
  OpenClaim.holds_of_wide 6 Try.f6 rfl rfl rfl rfl rfl rfl rfl ⟨rfl, rfl, rfl, rfl, rfl⟩ rfl rfl rfl rfl rfl (by kernel_rfl) Try.func6 (by kernel_rfl)
    (of_decide_eq_true (by kernel_rfl)) (by unfold Func.isWrapper; first | (rw [if_pos (by decide +kernel)]; kernel_rfl) | (rw [if_neg (by decide +kernel)]; exact ⟨rfl, rfl⟩))
    (fun os started H enc _ => lifted os started H enc)

theorem proved : Rows.FnExactDoAgreeSaid := over
#print axioms proved
end Go.Proofs.Ytpacgdjbclogoaa.fnExactDoAgree
