/-
  FnTools: the law's walk.
  Conditions: the code has at most 65536 bytes.
-/
import Derived.Test.YtekbiapgbhaibaaTio
import Derived.Test.YtekbiapgbhaibaaTiD
import Derived.Test.YtekbiapgbhaibaaTlV
import Derived.Test.YtekbiapgbhaibaaRs
import Derived.Test.YtekbiapgbhaibaaEnd
import Derived.Deep.DeepCutAuto
namespace Go.Proofs.Ytekbiapgbhaibaa.tif
open Go.RowKit
open reads curs curd tl tlp tli
set_option linter.unusedVariables false
set_option linter.unusedSimpArgs false

def LawPost (w : World) (e : Ending) (w' : World) : Prop := e = .returned (.bool true) ∧ Below w.heap.size w w'
theorem row_below {w w' : World} {base size n : Nat} {e : TypeId} {v : Value} {xs : List Value} (h : w.ownsRow base e size v n xs) (hb : Below w.heap.size w w') : w'.ownsRow base e size v n xs := h.kept (row := none) ⟨hb.os, hb.tape, hb.output, hb.size, fun j hj _ => hb.block j hj⟩ (by cases v.ownBlock <;> simp)
/-- where the law stands: nothing old has turned, the code reads -/
def St (w : World) (A : Option Addr) (n : Nat) (zs : List UInt8) (v : World) : Prop := Below w.heap.size w v ∧ curs.Code v A n zs
theorem St.step {w v v' : World} {A : Option Addr} {n : Nat} {zs : List UInt8} (h : St w A n zs v) (hb : Below v.heap.size v v') : St w A n zs v' := ⟨h.1.trans (hb.mono h.1.size), h.2.below hb⟩
theorem St.alloc {w v : World} {A : Option Addr} {n : Nat} {zs : List UInt8} (h : St w A n zs v) (o : Obj) : St w A n zs (v.alloc o) := h.step ((Below.refl _ _).alloc (Nat.le_refl _) _)
theorem St.drew {w v : World} {A : Option Addr} {n : Nat} {zs : List UInt8} (h : St w A n zs v) : St w A n zs v.drew := h.step (ends.below_drewN (Below.refl v.heap.size v) 1)
theorem corr_form (x : Tl) (r : Int) : (corrOk x r = false ∧ ansCorr x r = .tuple #[.int .i64 0, .bool false]) ∨ (corrOk x r = true ∧ ansCorr x r = .tuple #[.int .i64 (corr x r), .bool true]) := by
  unfold ansCorr
  cases corrOk x r
  · exact .inl ⟨rfl, rfl⟩
  · exact .inr ⟨rfl, rfl⟩
theorem err_form (x : Tl) (c : Ck) : ∃ v ok, ansErr x c = .tuple #[.int .i64 v, .bool ok] := by
  unfold ansErr
  split
  · exact ⟨_, _, rfl⟩
  · exact ⟨_, _, rfl⟩
theorem worst_form (x : Tl) (cs : List Ck) : (ansWorst x cs = .tuple #[.int .i64 0, .int .i64 0, .bool false]) ∨ ((cksOk x cs = true ∧ 0 ≤ (wv x cs).1) ∧ ansWorst x cs = .tuple #[.int .i64 (wv x cs).1, .int .i64 (wv x cs).2, .bool true]) := by
  unfold ansWorst
  split
  · rename_i h; exact .inr ⟨h, rfl⟩
  · exact .inl rfl
theorem rb_yes {x : Tl} {c r : Int} (hx : okT x = true) (hc : rdg x.kind c = true) (h : firstHit x c r) {f : FuncId} {w : World} (k : Calls Try.prog f #[.agg #[.int .i64 x.id, .int .i64 x.kind, .int .i64 x.zero, .int .i64 x.scale], .int .i64 c] w (RBPost x c w)) :
    Calls Try.prog f #[.agg #[.int .i64 x.id, .int .i64 x.kind, .int .i64 x.zero, .int .i64 x.scale], .int .i64 c] w (APost (.tuple #[.int .i64 r, .bool true]) w) :=
  k.mono fun e w' hh => by
    refine ⟨?_, hh.2⟩
    rcases hh.1 with ⟨a, q, g, rfl⟩ | ⟨a, rfl⟩
    · rw [first_uniq g h]
    · rcases a with a | a
      · unfold rbOk at a; rw [hx, hc] at a; cases a
      · exact absurd h.2.2.1 (a r h.1 h.2.1)
theorem isTool_m {x : Tl} {t : Bool} (h : Hid (okT x = t)) (w : World) : Calls Try.prog 19 #[.agg #[.int .i64 x.id, .int .i64 x.kind, .int .i64 x.zero, .int .i64 x.scale]] w (BPost t w) := by rw [← h.out]; exact isTool_model x w
theorem correct_i {x : Tl} {r : Int} {v : Value} (h : Hid (ansCorr x r = v)) (w : World) : Calls Try.prog 16 #[.agg #[.int .i64 x.id, .int .i64 x.kind, .int .i64 x.zero, .int .i64 x.scale], .int .i64 r] w (APost v w) := by rw [← h.out]; exact correctReading_impl x r w
theorem correct_m {x : Tl} {r : Int} {v : Value} (h : Hid (ansCorr x r = v)) (w : World) : Calls Try.prog 17 #[.agg #[.int .i64 x.id, .int .i64 x.kind, .int .i64 x.zero, .int .i64 x.scale], .int .i64 r] w (APost v w) := by rw [← h.out]; exact correctReading_model x r w
theorem error_m {x : Tl} {c : Ck} {v : Value} (h : Hid (ansErr x c = v)) (w : World) : Calls Try.prog 28 #[.agg #[.int .i64 x.id, .int .i64 x.kind, .int .i64 x.zero, .int .i64 x.scale], .agg #[.int .i64 c.read, .int .i64 c.tru]] w (APost v w) := by rw [← h.out]; exact checkError_model x c w
theorem worst_m {x : Tl} {A : Option Addr} {n cap : Nat} {cs : List Ck} {v : Value} {w : World} (hn : n ≤ 2000000) (hcs : Hid (CksAt w w.heap.size A n cs)) (h : Hid (ansWorst x cs = v)) : Calls Try.prog 25 #[.agg #[.int .i64 x.id, .int .i64 x.kind, .int .i64 x.zero, .int .i64 x.scale], .slice A n cap] w (APost v w) := by rw [← h.out]; exact worstCheck_model x A n cap cs w hn hcs
theorem worst_i {x : Tl} {A : Option Addr} {n cap : Nat} {cs : List Ck} {v : Value} {w : World} (hn : n ≤ 2000000) (hcs : Hid (CksAt w w.heap.size A n cs)) (h : Hid (ansWorst x cs = v)) : Calls Try.prog 24 #[.agg #[.int .i64 x.id, .int .i64 x.kind, .int .i64 x.zero, .int .i64 x.scale], .slice A n cap] w (APost v w) := by rw [← h.out]; exact worstCheck_impl x A n cap cs w hn hcs
theorem zero_m {x : Tl} {A : Option Addr} {n cap : Nat} {cs : List Ck} {r : Tl × Bool} {w : World} (hn : n ≤ 2000000) (hcs : Hid (CksAt w w.heap.size A n cs)) (h : Hid (fitZ x cs = r)) : Calls Try.prog 23 #[.agg #[.int .i64 x.id, .int .i64 x.kind, .int .i64 x.zero, .int .i64 x.scale], .slice A n cap] w (TPost r w) := by rw [← h.out]; exact fitZero_model x A n cap cs w hn hcs
theorem zero_i {x : Tl} {A : Option Addr} {n cap : Nat} {cs : List Ck} {r : Tl × Bool} {w : World} (hn : n ≤ 2000000) (hcs : Hid (CksAt w w.heap.size A n cs)) (h : Hid (fitZ x cs = r)) : Calls Try.prog 22 #[.agg #[.int .i64 x.id, .int .i64 x.kind, .int .i64 x.zero, .int .i64 x.scale], .slice A n cap] w (TPost r w) := by rw [← h.out]; exact fitZero_impl x A n cap cs w hn hcs
set_option maxHeartbeats 8000000 in
set_option maxRecDepth 100000 in
theorem walk (A : Option Addr) (n cap : Nat) (zs : List UInt8) (w : World) (hn : n ≤ 65536) (hS : Hid (St w A n zs w)) :
    Calls Try.prog 3 #[.slice A n cap] w (LawPost w) := by
  have HB := Lib.hid (rs.big_no A n cap w hn)
  clear hn
  go_enter Try.func3, Try.ntmps3
  go_wp2_with fail
  refine HB.out.mono ?_
  rintro e w' ⟨rfl, rfl⟩
  clear HB
  go_wp2_with fail
  refine (correct_draw A n cap zs _ (Lib.hid hS.out.2)).mono ?_
  rintro e W1 ⟨x, r, rfl, r0, r1, b⟩
  have H1 := Lib.hid (show St w A n zs W1 from hS.out.step b)
  clear b hS
  go_wp2_with fail
  obtain ⟨W2, HW⟩ : ∃ W2, Hid (W1.alloc (.cells #[.int .i64 x.id, .int .i64 x.kind, .int .i64 x.zero, .int .i64 x.scale] 25) = W2) := ⟨_, Lib.hid rfl⟩
  have H2 := Lib.hid (show St w A n zs W2 by rw [← HW.out]; exact (H1.out.alloc _))
  have H3 := Lib.hid (show Blk W2 (W1.heap.size) 25 #[.int .i64 x.id, .int .i64 x.kind, .int .i64 x.zero, .int .i64 x.scale] by rw [← HW.out]; exact Blk.new _ _ _)
  rw [HW.out]
  clear HW H1
  obtain ⟨n0, ok, hf⟩ : ∃ n0 ok, ansCorr x r = .tuple #[.int .i64 n0, .bool ok] := by rcases corr_form x r with h | h; exact ⟨_, _, h.2⟩; exact ⟨_, _, h.2⟩
  have HF := Lib.hid hf
  clear hf
  obtain ⟨tx, HTX⟩ : ∃ tx, Hid (okT x = tx) := ⟨_, Lib.hid rfl⟩
  refine (correct_i HF _).mono ?_
  rintro e W3 ⟨rfl, b⟩
  have H4 := Lib.hid (show St w A n zs W3 from H2.out.step b)
  have H5 := Lib.hid (show Blk W3 (W1.heap.size) 25 #[.int .i64 x.id, .int .i64 x.kind, .int .i64 x.zero, .int .i64 x.scale] from H3.out.below b H3.out.lt)
  clear b H2 H3
  have q_xl := H5.out.lt
  have q_x0 : W3.cell? ⟨W1.heap.size, 0, none⟩ = some (.int .i64 x.id) := H5.out.cell 0
  have q_x1 : W3.cell? ⟨W1.heap.size, 1, none⟩ = some (.int .i64 x.kind) := H5.out.cell 1
  have q_x2 : W3.cell? ⟨W1.heap.size, 2, none⟩ = some (.int .i64 x.zero) := H5.out.cell 2
  have q_x3 : W3.cell? ⟨W1.heap.size, 3, none⟩ = some (.int .i64 x.scale) := H5.out.cell 3
  go_wp2_with fail
  clear q_xl q_x0 q_x1 q_x2 q_x3
  refine (correct_m HF _).mono ?_
  rintro e W4 ⟨rfl, b⟩
  have H6 := Lib.hid (show St w A n zs W4 from H4.out.step b)
  have H7 := Lib.hid (show Blk W4 (W1.heap.size) 25 #[.int .i64 x.id, .int .i64 x.kind, .int .i64 x.zero, .int .i64 x.scale] from H5.out.below b H5.out.lt)
  clear b H4 H5
  have q_xl := H7.out.lt
  have q_x0 : W4.cell? ⟨W1.heap.size, 0, none⟩ = some (.int .i64 x.id) := H7.out.cell 0
  have q_x1 : W4.cell? ⟨W1.heap.size, 1, none⟩ = some (.int .i64 x.kind) := H7.out.cell 1
  have q_x2 : W4.cell? ⟨W1.heap.size, 2, none⟩ = some (.int .i64 x.zero) := H7.out.cell 2
  have q_x3 : W4.cell? ⟨W1.heap.size, 3, none⟩ = some (.int .i64 x.scale) := H7.out.cell 3
  go_wp2_with fail
  clear q_xl q_x0 q_x1 q_x2 q_x3
  refine wp_region_held_drew (S := (fun v => v.cell? ⟨W1.heap.size, 0, none⟩ = some (.int .i64 x.id) ∧ v.cell? ⟨W1.heap.size, 1, none⟩ = some (.int .i64 x.kind) ∧ v.cell? ⟨W1.heap.size, 2, none⟩ = some (.int .i64 x.zero) ∧ v.cell? ⟨W1.heap.size, 3, none⟩ = some (.int .i64 x.scale) ∧ Blk v (W1.heap.size) 25 #[.int .i64 x.id, .int .i64 x.kind, .int .i64 x.zero, .int .i64 x.scale] ∧ St w A n zs v)) (by kernel_rfl) ?_ (fun hHeld => ?_)
  · exact ⟨(H7.out.drew).cell 0, (H7.out.drew).cell 1, (H7.out.drew).cell 2, (H7.out.drew).cell 3, H7.out.drew, H6.out.drew⟩
  refine' wpAnyH_take (i := 0) (v := ?vr1_0) rfl (by kernel_rfl) (by kernel_rfl) (by kernel_rfl) (fun _ _ _ h => h) (Or.inl ⟨by rfl, ?hyr1_0⟩) (by assumption) ?restr1_0
  case hyr1_0 => (intro w hSw; (try dsimp only at hSw); go_simp; try (with_reducible rfl))
  simp only [Act.put, List.getElem_toArray, List.getElem_cons_succ, List.getElem_cons_zero, List.setIfInBounds_toArray, List.set_cons_zero, List.set_cons_succ]
  refine' wpAnyH_take (i := 1) (v := ?vr1_1) rfl (by kernel_rfl) (by kernel_rfl) (by kernel_rfl) (fun _ _ _ h => h) (Or.inl ⟨by rfl, ?hyr1_1⟩) (by assumption) ?restr1_1
  case hyr1_1 => (intro w hSw; (try dsimp only at hSw); go_simp; try (with_reducible rfl))
  simp only [Act.put, List.getElem_toArray, List.getElem_cons_succ, List.getElem_cons_zero, List.setIfInBounds_toArray, List.set_cons_zero, List.set_cons_succ]
  refine' wpAnyH_take (i := 2) (v := ?vr1_2) rfl (by kernel_rfl) (by kernel_rfl) (by kernel_rfl) (fun _ _ _ h => h) (Or.inl ⟨by rfl, ?hyr1_2⟩) (by assumption) ?restr1_2
  case hyr1_2 => (intro w hSw; (try dsimp only at hSw); go_simp; try (with_reducible rfl))
  simp only [Act.put, List.getElem_toArray, List.getElem_cons_succ, List.getElem_cons_zero, List.setIfInBounds_toArray, List.set_cons_zero, List.set_cons_succ]
  refine' wpAnyH_take (i := 3) (v := ?vr1_3) rfl (by kernel_rfl) (by kernel_rfl) (by kernel_rfl) (fun _ _ _ h => h) (Or.inl ⟨by rfl, ?hyr1_3⟩) (by assumption) ?restr1_3
  case hyr1_3 => (intro w hSw; (try dsimp only at hSw); go_simp; try (with_reducible rfl))
  simp only [Act.put, List.getElem_toArray, List.getElem_cons_succ, List.getElem_cons_zero, List.setIfInBounds_toArray, List.set_cons_zero, List.set_cons_succ]
  refine' wpAnyH_take (i := 4) (v := ?vr1_4) rfl (by kernel_rfl) (by kernel_rfl) (by kernel_rfl) (fun _ _ _ h => h) (Or.inl ⟨by rfl, ?hyr1_4⟩) (by assumption) ?restr1_4
  case hyr1_4 => (intro w hSw; (try dsimp only at hSw); go_simp; try (with_reducible rfl))
  simp only [Act.put, List.getElem_toArray, List.getElem_cons_succ, List.getElem_cons_zero, List.setIfInBounds_toArray, List.set_cons_zero, List.set_cons_succ]
  refine' wpAnyH_take (i := 5) (v := ?vr1_5) rfl (by kernel_rfl) (by kernel_rfl) (by kernel_rfl) (fun _ _ _ h => h) (Or.inl ⟨by rfl, ?hyr1_5⟩) (by assumption) ?restr1_5
  case hyr1_5 => (intro w hSw; (try dsimp only at hSw); go_simp; try (with_reducible rfl))
  simp only [Act.put, List.getElem_toArray, List.getElem_cons_succ, List.getElem_cons_zero, List.setIfInBounds_toArray, List.set_cons_zero, List.set_cons_succ]
  refine' wpAnyH_take (i := 6) (v := ?vr1_6) rfl (by kernel_rfl) (by kernel_rfl) (by kernel_rfl) (fun _ _ _ h => h) (Or.inl ⟨by rfl, ?hyr1_6⟩) (by assumption) ?restr1_6
  case hyr1_6 => (intro w hSw; (try dsimp only at hSw); go_simp; try (with_reducible rfl))
  simp only [Act.put, List.getElem_toArray, List.getElem_cons_succ, List.getElem_cons_zero, List.setIfInBounds_toArray, List.set_cons_zero, List.set_cons_succ]
  refine' wpAnyH_take (i := 7) (v := ?vr1_7) rfl (by kernel_rfl) (by kernel_rfl) (by kernel_rfl) (fun _ _ _ h => h) (Or.inl ⟨by rfl, ?hyr1_7⟩) (by assumption) ?restr1_7
  case hyr1_7 => (intro w hSw; (try dsimp only at hSw); go_simp; try (with_reducible rfl))
  simp only [Act.put, List.getElem_toArray, List.getElem_cons_succ, List.getElem_cons_zero, List.setIfInBounds_toArray, List.set_cons_zero, List.set_cons_succ]
  refine' wpAnyH_take (i := 8) (v := ?vr1_8) rfl (by kernel_rfl) (by kernel_rfl) (by kernel_rfl) (fun _ _ _ h => h) (Or.inl ⟨by rfl, ?hyr1_8⟩) (by assumption) ?restr1_8
  case hyr1_8 => (intro w hSw; (try dsimp only at hSw); go_simp; try (with_reducible rfl))
  simp only [Act.put, List.getElem_toArray, List.getElem_cons_succ, List.getElem_cons_zero, List.setIfInBounds_toArray, List.set_cons_zero, List.set_cons_succ]
  refine' wpAnyH_take (i := 9) (v := ?vr1_9) rfl (by kernel_rfl) (by kernel_rfl) (by kernel_rfl) (fun _ _ _ h => h) (Or.inl ⟨by rfl, ?hyr1_9⟩) (by assumption) ?restr1_9
  case hyr1_9 => (intro w hSw; (try dsimp only at hSw); go_simp; try (with_reducible rfl))
  simp only [Act.put, List.getElem_toArray, List.getElem_cons_succ, List.getElem_cons_zero, List.setIfInBounds_toArray, List.set_cons_zero, List.set_cons_succ]
  refine' wpAnyH_take (i := 11) (v := ?vr1_11) rfl (by kernel_rfl) (by kernel_rfl) (by kernel_rfl) (fun _ _ _ h => h) (Or.inl ⟨by rfl, ?hyr1_11⟩) (by assumption) ?restr1_11
  case hyr1_11 => (intro w hSw; (try dsimp only at hSw); go_simp; try (with_reducible rfl))
  simp only [Act.put, List.getElem_toArray, List.getElem_cons_succ, List.getElem_cons_zero, List.setIfInBounds_toArray, List.set_cons_zero, List.set_cons_succ]
  refine wpAnyH_ready (rs := [10]) (by kernel_rfl) (by simp) ?_
  refine AllReadyH.cons rfl (fun K hK => ?_) AllReadyH.nil
  go_simp
  refine (isTool_is x tx HTX _).mono ?_
  rintro e w1 ⟨rfl, b1⟩
  refine hK.out _ _ (⟨(hHeld.2.2.2.2.1.below b1 hHeld.2.2.2.2.1.lt).cell 0, (hHeld.2.2.2.2.1.below b1 hHeld.2.2.2.2.1.lt).cell 1, (hHeld.2.2.2.2.1.below b1 hHeld.2.2.2.2.1.lt).cell 2, (hHeld.2.2.2.2.1.below b1 hHeld.2.2.2.2.1.lt).cell 3, hHeld.2.2.2.2.1.below b1 hHeld.2.2.2.2.1.lt, hHeld.2.2.2.2.2.step b1⟩) (fun hHeld1 => ?_)
  clear hK K hHeld
  have hHeld := hHeld1
  clear hHeld1
  try simp only [Act.put, List.getElem_toArray, List.getElem_cons_succ, List.getElem_cons_zero, List.setIfInBounds_toArray, List.set_cons_zero, List.set_cons_succ]
  refine wpAnyH_ready (rs := [12]) (by kernel_rfl) (by simp) ?_
  refine AllReadyH.cons rfl (fun K hK => ?_) AllReadyH.nil
  go_simp
  refine (isTool_m HTX _).mono ?_
  rintro e w2 ⟨rfl, b2⟩
  refine hK.out _ _ (⟨(hHeld.2.2.2.2.1.below b2 hHeld.2.2.2.2.1.lt).cell 0, (hHeld.2.2.2.2.1.below b2 hHeld.2.2.2.2.1.lt).cell 1, (hHeld.2.2.2.2.1.below b2 hHeld.2.2.2.2.1.lt).cell 2, (hHeld.2.2.2.2.1.below b2 hHeld.2.2.2.2.1.lt).cell 3, hHeld.2.2.2.2.1.below b2 hHeld.2.2.2.2.1.lt, hHeld.2.2.2.2.2.step b2⟩) (fun hHeld1 => ?_)
  clear hK K hHeld
  have hHeld := hHeld1
  clear hHeld1
  try simp only [Act.put, List.getElem_toArray, List.getElem_cons_succ, List.getElem_cons_zero, List.setIfInBounds_toArray, List.set_cons_zero, List.set_cons_succ]
  refine' wpAnyH_take (i := 13) (v := ?vr1_13) rfl (by kernel_rfl) (by kernel_rfl) (by kernel_rfl) (fun _ _ _ h => h) (Or.inl ⟨by rfl, ?hyr1_13⟩) (by assumption) ?restr1_13
  case hyr1_13 => (intro w hSw; (try dsimp only at hSw); go_simp; try (with_reducible rfl))
  simp only [Act.put, List.getElem_toArray, List.getElem_cons_succ, List.getElem_cons_zero, List.setIfInBounds_toArray, List.set_cons_zero, List.set_cons_succ]
  refine' wpAnyH_take (i := 14) (v := ?vr1_14) rfl (by kernel_rfl) (by kernel_rfl) (by kernel_rfl) (fun _ _ _ h => h) (Or.inl ⟨by rfl, ?hyr1_14⟩) (by assumption) ?restr1_14
  case hyr1_14 => (intro w hSw; (try dsimp only at hSw); go_simp; try (with_reducible rfl))
  simp only [Act.put, List.getElem_toArray, List.getElem_cons_succ, List.getElem_cons_zero, List.setIfInBounds_toArray, List.set_cons_zero, List.set_cons_succ]
  refine wpAnyH_done (by kernel_rfl) ?_ _
  have HX := Lib.hid hHeld.2.2.2.2.1
  have HS := Lib.hid hHeld.2.2.2.2.2
  clear hHeld H7 H6
  go_upto_if 71 with fail
  go_cut [9] (fun _ wx => St w A n zs wx)
  case first =>
    as_aux_lemma =>
      cases ok
      · go_wp2_with fail
        go_meet
        case rel => exact HS.out
      · have hq : ∃ q, firstHit x n0 q ∧ q ≤ r ∧ okT x = true ∧ rdg x.kind n0 = true ∧ ansCorr x q = .tuple #[.int .i64 n0, .bool true] := by
          rcases corr_form x r with h | ⟨h1, h2⟩
          · rw [HF.out] at h; have := h.2; simp at this
          · rw [HF.out] at h2
            obtain rfl : n0 = corr x r := by simpa using h2
            obtain ⟨k1, k2, k3⟩ := corrOk_yes h1
            have kb := rdg_bd k2
            obtain ⟨q, hq, hle⟩ := first_le (x := x) (c := corr x r) (r := r) ⟨k2, rfl⟩ kb.1 kb.2
            refine ⟨q, hq, hle, k1, k3, ?_⟩
            have hh := hit_corr k1 k3 hq.2.2.1
            unfold ansCorr
            rw [hh.1, hh.2]; rfl
        obtain ⟨q, hq1, hq2, hq3, hq4, hq5⟩ := hq
        have HQ1 := Lib.hid hq1
        have HQ3 := Lib.hid hq3
        have HQ4 := Lib.hid hq4
        have HQ5 := Lib.hid hq5
        have qb : -90 ≤ q ∧ q ≤ 1000 := ⟨hq1.1, hq1.2.1⟩
        obtain ⟨qb0, qb1⟩ := qb
        clear hq1 hq3 hq4 hq5
        have q_xl := HX.out.lt
        have q_x0 := HX.out.cell 0
        have q_x1 := HX.out.cell 1
        have q_x2 := HX.out.cell 2
        have q_x3 := HX.out.cell 3
        simp only [List.getElem?_toArray, List.getElem?_cons_zero, List.getElem?_cons_succ] at q_x0 q_x1 q_x2 q_x3
        go_wp2_with fail
        clear q_xl q_x0 q_x1 q_x2 q_x3
        refine (rb_yes HQ3.out HQ4.out HQ1.out (readBack_impl x n0 _)).mono ?_
        rintro e W5 ⟨rfl, b⟩
        have H8 := Lib.hid (show St w A n zs W5 from HS.out.step b)
        have H9 := Lib.hid (show Blk W5 (W1.heap.size) 25 #[.int .i64 x.id, .int .i64 x.kind, .int .i64 x.zero, .int .i64 x.scale] from HX.out.below b HX.out.lt)
        clear b HS HX
        have q_xl := H9.out.lt
        have q_x0 : W5.cell? ⟨W1.heap.size, 0, none⟩ = some (.int .i64 x.id) := H9.out.cell 0
        have q_x1 : W5.cell? ⟨W1.heap.size, 1, none⟩ = some (.int .i64 x.kind) := H9.out.cell 1
        have q_x2 : W5.cell? ⟨W1.heap.size, 2, none⟩ = some (.int .i64 x.zero) := H9.out.cell 2
        have q_x3 : W5.cell? ⟨W1.heap.size, 3, none⟩ = some (.int .i64 x.scale) := H9.out.cell 3
        go_wp2_with fail
        clear q_xl q_x0 q_x1 q_x2 q_x3
        refine (correct_i HQ5 _).mono ?_
        rintro e W6 ⟨rfl, b⟩
        have H10 := Lib.hid (show St w A n zs W6 from H8.out.step b)
        have H11 := Lib.hid (show Blk W6 (W1.heap.size) 25 #[.int .i64 x.id, .int .i64 x.kind, .int .i64 x.zero, .int .i64 x.scale] from H9.out.below b H9.out.lt)
        clear b H8 H9
        go_wp2_with fail
        go_meet
        case rel => exact H10.out
  case rest =>
    as_aux_lemma =>
      have SA := Lib.hid hcut
      clear hcut HS HX HF HTX
      go_wp2_with fail
      refine (zero_draw A n cap zs _ (Lib.hid SA.out.2)).mono ?_
      rintro e W7 ⟨t, v, cs, rfl, hO, hl, b⟩
      obtain ⟨CA, cc, rfl⟩ : ∃ CA cc, v = .slice CA cs.length cc := by obtain ⟨CA, cc, h⟩ := own_sl hO; exact ⟨CA, cc, h⟩
      have HO := Lib.hid hO
      clear hO
      obtain ⟨m, HM⟩ : ∃ m, Hid (cs.length = m) := ⟨_, Lib.hid rfl⟩
      have hm12 : m ≤ 12 := by rw [← HM.out]; exact hl
      have HC0 := Lib.hid (cks_own HO.out)
      rw [HM.out] at HC0
      rw [HM.out]
      clear hl HO
      have H12 := Lib.hid (show St w A n zs W7 from SA.out.step b)
      clear b SA
      have HCK := HC0
      clear HC0
      go_wp2_with fail
      have H13 := Lib.hid (tl.cks_alloc HCK.out (.cells #[.int .i64 t.id, .int .i64 t.kind, .int .i64 t.zero, .int .i64 t.scale] 25))
      clear HCK
      obtain ⟨W8, HW⟩ : ∃ W8, Hid (W7.alloc (.cells #[.int .i64 t.id, .int .i64 t.kind, .int .i64 t.zero, .int .i64 t.scale] 25) = W8) := ⟨_, Lib.hid rfl⟩
      have H14 := Lib.hid (show St w A n zs W8 by rw [← HW.out]; exact (H12.out.alloc _))
      have H15 := Lib.hid (show Blk W8 (W7.heap.size) 25 #[.int .i64 t.id, .int .i64 t.kind, .int .i64 t.zero, .int .i64 t.scale] by rw [← HW.out]; exact Blk.new _ _ _)
      rw [HW.out] at H13
      rw [HW.out]
      clear HW H12
      obtain ⟨r9, HR9⟩ : ∃ r9, Hid (fitZ t cs = r9) := ⟨_, Lib.hid rfl⟩
      obtain ⟨fit, fine⟩ := r9
      refine (zero_i (by omega) H13 HR9).mono ?_
      rintro e W9 ⟨rfl, b⟩
      have H16 := Lib.hid (show St w A n zs W9 from H14.out.step b)
      have H17 := Lib.hid (show Blk W9 (W7.heap.size) 25 #[.int .i64 t.id, .int .i64 t.kind, .int .i64 t.zero, .int .i64 t.scale] from H15.out.below b H15.out.lt)
      have H18 := Lib.hid (show CksAt W9 W9.heap.size CA m cs from cks_keep H13.out b)
      clear b H14 H15 H13
      have q_tl := H17.out.lt
      have q_t0 : W9.cell? ⟨W7.heap.size, 0, none⟩ = some (.int .i64 t.id) := H17.out.cell 0
      have q_t1 : W9.cell? ⟨W7.heap.size, 1, none⟩ = some (.int .i64 t.kind) := H17.out.cell 1
      have q_t2 : W9.cell? ⟨W7.heap.size, 2, none⟩ = some (.int .i64 t.zero) := H17.out.cell 2
      have q_t3 : W9.cell? ⟨W7.heap.size, 3, none⟩ = some (.int .i64 t.scale) := H17.out.cell 3
      go_wp2_with fail
      clear q_tl q_t0 q_t1 q_t2 q_t3
      have H19 := Lib.hid (tl.cks_alloc H18.out (.cells #[.int .i64 fit.id, .int .i64 fit.kind, .int .i64 fit.zero, .int .i64 fit.scale] 25))
      clear H18
      obtain ⟨W10, HW⟩ : ∃ W10, Hid (W9.alloc (.cells #[.int .i64 fit.id, .int .i64 fit.kind, .int .i64 fit.zero, .int .i64 fit.scale] 25) = W10) := ⟨_, Lib.hid rfl⟩
      have H20 := Lib.hid (show St w A n zs W10 by rw [← HW.out]; exact (H16.out.alloc _))
      have H21 := Lib.hid (show Blk W10 (W7.heap.size) 25 #[.int .i64 t.id, .int .i64 t.kind, .int .i64 t.zero, .int .i64 t.scale] by rw [← HW.out]; exact (H17.out.alloc _))
      have H22 := Lib.hid (show Blk W10 (W9.heap.size) 25 #[.int .i64 fit.id, .int .i64 fit.kind, .int .i64 fit.zero, .int .i64 fit.scale] by rw [← HW.out]; exact Blk.new _ _ _)
      rw [HW.out] at H19
      rw [HW.out]
      clear HW H16 H17
      refine (zero_m (by omega) H19 HR9).mono ?_
      rintro e W11 ⟨rfl, b⟩
      have H23 := Lib.hid (show St w A n zs W11 from H20.out.step b)
      have H24 := Lib.hid (show Blk W11 (W7.heap.size) 25 #[.int .i64 t.id, .int .i64 t.kind, .int .i64 t.zero, .int .i64 t.scale] from H21.out.below b H21.out.lt)
      have H25 := Lib.hid (show Blk W11 (W9.heap.size) 25 #[.int .i64 fit.id, .int .i64 fit.kind, .int .i64 fit.zero, .int .i64 fit.scale] from H22.out.below b H22.out.lt)
      have H26 := Lib.hid (show CksAt W11 W11.heap.size CA m cs from cks_keep H19.out b)
      clear b H20 H21 H22 H19
      have q_fl := H25.out.lt
      have q_f0 : W11.cell? ⟨W9.heap.size, 0, none⟩ = some (.int .i64 fit.id) := H25.out.cell 0
      have q_f1 : W11.cell? ⟨W9.heap.size, 1, none⟩ = some (.int .i64 fit.kind) := H25.out.cell 1
      have q_f2 : W11.cell? ⟨W9.heap.size, 2, none⟩ = some (.int .i64 fit.zero) := H25.out.cell 2
      have q_f3 : W11.cell? ⟨W9.heap.size, 3, none⟩ = some (.int .i64 fit.scale) := H25.out.cell 3
      have q_tl := H24.out.lt
      have q_t0 : W11.cell? ⟨W7.heap.size, 0, none⟩ = some (.int .i64 t.id) := H24.out.cell 0
      have q_t1 : W11.cell? ⟨W7.heap.size, 1, none⟩ = some (.int .i64 t.kind) := H24.out.cell 1
      have q_t2 : W11.cell? ⟨W7.heap.size, 2, none⟩ = some (.int .i64 t.zero) := H24.out.cell 2
      have q_t3 : W11.cell? ⟨W7.heap.size, 3, none⟩ = some (.int .i64 t.scale) := H24.out.cell 3
      go_wp2_with fail
      clear q_fl q_f0 q_f1 q_f2 q_f3 q_tl q_t0 q_t1 q_t2 q_t3
      have H27 := Lib.hid (tl.cks_alloc H26.out (.cells #[.int .i64 fit.id, .int .i64 fit.kind, .int .i64 fit.zero, .int .i64 fit.scale] 25))
      clear H26
      obtain ⟨W12, HW⟩ : ∃ W12, Hid (W11.alloc (.cells #[.int .i64 fit.id, .int .i64 fit.kind, .int .i64 fit.zero, .int .i64 fit.scale] 25) = W12) := ⟨_, Lib.hid rfl⟩
      have H28 := Lib.hid (show St w A n zs W12 by rw [← HW.out]; exact (H23.out.alloc _))
      have H29 := Lib.hid (show Blk W12 (W7.heap.size) 25 #[.int .i64 t.id, .int .i64 t.kind, .int .i64 t.zero, .int .i64 t.scale] by rw [← HW.out]; exact (H24.out.alloc _))
      have H30 := Lib.hid (show Blk W12 (W9.heap.size) 25 #[.int .i64 fit.id, .int .i64 fit.kind, .int .i64 fit.zero, .int .i64 fit.scale] by rw [← HW.out]; exact (H25.out.alloc _))
      have H31 := Lib.hid (show Blk W12 (W11.heap.size) 25 #[.int .i64 fit.id, .int .i64 fit.kind, .int .i64 fit.zero, .int .i64 fit.scale] by rw [← HW.out]; exact Blk.new _ _ _)
      rw [HW.out] at H27
      rw [HW.out]
      clear HW H23 H24 H25
      obtain ⟨a0, d0, told, hw⟩ : ∃ a d t9, ansWorst t cs = .tuple #[.int .i64 a, .int .i64 d, .bool t9] := by rcases worst_form t cs with h | ⟨-, h⟩; exact ⟨_, _, _, h⟩; exact ⟨_, _, _, h⟩
      have HWO := Lib.hid hw
      clear hw
      refine (worst_i (by omega) H27 HWO).mono ?_
      rintro e W13 ⟨rfl, b⟩
      have H32 := Lib.hid (show St w A n zs W13 from H28.out.step b)
      have H33 := Lib.hid (show Blk W13 (W7.heap.size) 25 #[.int .i64 t.id, .int .i64 t.kind, .int .i64 t.zero, .int .i64 t.scale] from H29.out.below b H29.out.lt)
      have H34 := Lib.hid (show Blk W13 (W9.heap.size) 25 #[.int .i64 fit.id, .int .i64 fit.kind, .int .i64 fit.zero, .int .i64 fit.scale] from H30.out.below b H30.out.lt)
      have H35 := Lib.hid (show Blk W13 (W11.heap.size) 25 #[.int .i64 fit.id, .int .i64 fit.kind, .int .i64 fit.zero, .int .i64 fit.scale] from H31.out.below b H31.out.lt)
      have H36 := Lib.hid (show CksAt W13 W13.heap.size CA m cs from cks_keep H27.out b)
      clear b H28 H29 H30 H31 H27
      have q_tl := H33.out.lt
      have q_t0 : W13.cell? ⟨W7.heap.size, 0, none⟩ = some (.int .i64 t.id) := H33.out.cell 0
      have q_t1 : W13.cell? ⟨W7.heap.size, 1, none⟩ = some (.int .i64 t.kind) := H33.out.cell 1
      have q_t2 : W13.cell? ⟨W7.heap.size, 2, none⟩ = some (.int .i64 t.zero) := H33.out.cell 2
      have q_t3 : W13.cell? ⟨W7.heap.size, 3, none⟩ = some (.int .i64 t.scale) := H33.out.cell 3
      go_wp2_with fail
      clear q_tl q_t0 q_t1 q_t2 q_t3
      refine (worst_m (by omega) H36 HWO).mono ?_
      rintro e W14 ⟨rfl, b⟩
      have H37 := Lib.hid (show St w A n zs W14 from H32.out.step b)
      have H38 := Lib.hid (show Blk W14 (W7.heap.size) 25 #[.int .i64 t.id, .int .i64 t.kind, .int .i64 t.zero, .int .i64 t.scale] from H33.out.below b H33.out.lt)
      have H39 := Lib.hid (show Blk W14 (W9.heap.size) 25 #[.int .i64 fit.id, .int .i64 fit.kind, .int .i64 fit.zero, .int .i64 fit.scale] from H34.out.below b H34.out.lt)
      have H40 := Lib.hid (show Blk W14 (W11.heap.size) 25 #[.int .i64 fit.id, .int .i64 fit.kind, .int .i64 fit.zero, .int .i64 fit.scale] from H35.out.below b H35.out.lt)
      have H41 := Lib.hid (show CksAt W14 W14.heap.size CA m cs from cks_keep H36.out b)
      clear b H32 H33 H34 H35 H36
      clear H40
      go_upto_if 152 with fail
      go_cut [25] (fun _ wx => St w A n zs wx)
      case first =>
        as_aux_lemma =>
          cases told
          · go_wp2_with fail
            go_meet
            case rel => exact H37.out
          · have hk : (cksOk t cs = true ∧ 0 ≤ (wv t cs).1) ∧ d0 = (wv t cs).2 := by
              rcases worst_form t cs with h | ⟨h1, h2⟩
              · rw [HWO.out] at h; simp at h
              · rw [HWO.out] at h2; exact ⟨h1, by simp at h2; exact h2.2⟩
            obtain ⟨b1, b2, b3, b4⟩ := fitZ_best hk.1.1 hk.1.2
            rw [HR9.out] at b1 b2 b3 b4
            simp only at b1 b2 b3 b4
            subst b1
            have HWF := Lib.hid (show ansWorst fit cs = .tuple #[.int .i64 (wv fit cs).1, .int .i64 (wv fit cs).2, .bool true] from if_pos ⟨b2, b3⟩)
            obtain ⟨d1, HD1⟩ : ∃ d1, Hid ((wv fit cs).2 = d1) := ⟨_, Lib.hid rfl⟩
            obtain ⟨a1, HA1⟩ : ∃ a1, Hid ((wv fit cs).1 = a1) := ⟨_, Lib.hid rfl⟩
            rw [HD1.out, HA1.out] at HWF
            have hle : d1 ≤ d0 := by rw [← HD1.out, hk.2]; exact b4
            have hdb := (wv_bd t cs (by rw [HM.out]; omega)).2.2
            rw [← hk.2] at hdb
            obtain ⟨hdb0, hdb1⟩ := hdb
            have HALL := Lib.hid (wv_all hk.1.2).2
            rw [← hk.2] at HALL
            clear hk b2 b3 b4 HD1 HA1 HWO HR9
            have q_fl := H39.out.lt
            have q_f0 : W14.cell? ⟨W9.heap.size, 0, none⟩ = some (.int .i64 fit.id) := H39.out.cell 0
            have q_f1 : W14.cell? ⟨W9.heap.size, 1, none⟩ = some (.int .i64 fit.kind) := H39.out.cell 1
            have q_f2 : W14.cell? ⟨W9.heap.size, 2, none⟩ = some (.int .i64 fit.zero) := H39.out.cell 2
            have q_f3 : W14.cell? ⟨W9.heap.size, 3, none⟩ = some (.int .i64 fit.scale) := H39.out.cell 3
            go_wp2_with fail
            clear q_fl q_f0 q_f1 q_f2 q_f3
            refine (worst_i (by omega) H41 HWF).mono ?_
            rintro e W15 ⟨rfl, b⟩
            have H42 := Lib.hid (show St w A n zs W15 from H37.out.step b)
            have H43 := Lib.hid (show Blk W15 (W7.heap.size) 25 #[.int .i64 t.id, .int .i64 t.kind, .int .i64 t.zero, .int .i64 t.scale] from H38.out.below b H38.out.lt)
            have H44 := Lib.hid (show Blk W15 (W9.heap.size) 25 #[.int .i64 fit.id, .int .i64 fit.kind, .int .i64 fit.zero, .int .i64 fit.scale] from H39.out.below b H39.out.lt)
            have H45 := Lib.hid (show CksAt W15 W15.heap.size CA m cs from cks_keep H41.out b)
            clear b H37 H38 H39 H41
            clear H44
            go_wp2_with fail
            go_loopw [28] (fun i wr => ∃ k : Nat, k ≤ m ∧ i = .int .i64 k ∧ Blk wr (W7.heap.size) 25 #[.int .i64 t.id, .int .i64 t.kind, .int .i64 t.zero, .int .i64 t.scale] ∧ CksAt wr wr.heap.size CA m cs ∧ St w A n zs wr) (fun i _ => m - (intOf i).toNat)
            case atStart => exact ⟨0, Nat.zero_le _, rfl, H43.out, H45.out, H42.out⟩
            case round =>
              obtain ⟨k, hk, rfl, hT, hC, hS9⟩ := hrel
              have KT := Lib.hid hT
              have KC := Lib.hid hC
              have KS := Lib.hid hS9
              clear hT hC hS9 H43 H45 H42
              by_cases hlt : k < m
              · obtain ⟨c, hck⟩ : ∃ c, cs[k]? = some c := ⟨_, List.getElem?_eq_getElem (by rw [HM.out]; exact hlt)⟩
                obtain ⟨g, hg, hgl, c0, c1⟩ := KC.out.2 k c hck
                subst hg
                obtain ⟨eo, e0, e1⟩ := HALL.out c (List.mem_of_getElem? hck)
                obtain ⟨y, HY⟩ : ∃ y, Hid (errV t c = y) := ⟨_, Lib.hid rfl⟩
                have HE := Lib.hid (show ansErr t c = .tuple #[.int .i64 y, .bool true] by unfold ansErr; rw [eo, HY.out]; rfl)
                rw [HY.out] at e0 e1
                clear eo hck
                have hki : (k : Int) < (m : Int) := by omega
                have hk0 : 0 ≤ (k : Int) := by omega
                have hkd : decide (k < m) = true := by simpa using hlt
                have d1 : decide (d0 < y) = false := by simp; omega
                have d2 : decide (d0 < -y) = false := by simp; omega
                have z0 := KT.out.cell 0
                have z1 := KT.out.cell 1
                have z2 := KT.out.cell 2
                have z3 := KT.out.cell 3
                simp at z0 z1 z2 z3
                go_wp2_with fail
                refine wp_region_held_drew (S := (fun v => v.cell? ⟨W7.heap.size, 0, none⟩ = some (.int .i64 t.id) ∧ v.cell? ⟨W7.heap.size, 1, none⟩ = some (.int .i64 t.kind) ∧ v.cell? ⟨W7.heap.size, 2, none⟩ = some (.int .i64 t.zero) ∧ v.cell? ⟨W7.heap.size, 3, none⟩ = some (.int .i64 t.scale) ∧ v.cell? ⟨g, k * 2, none⟩ = some (.int .i64 c.read) ∧ v.cell? ⟨g, k * 2 + 1, none⟩ = some (.int .i64 c.tru) ∧ Blk v (W7.heap.size) 25 #[.int .i64 t.id, .int .i64 t.kind, .int .i64 t.zero, .int .i64 t.scale] ∧ CksAt v v.heap.size (some ⟨g, 0, none⟩) m cs ∧ St w A n zs v)) (by kernel_rfl) ?_ (fun hHeld => ?_)
                · exact ⟨KT.out.drew.cell 0, KT.out.drew.cell 1, KT.out.drew.cell 2, KT.out.drew.cell 3, c0, c1, KT.out.drew, KC.out, KS.out.drew⟩
                refine' wpAnyH_take (i := 0) (v := ?vr2_0) rfl (by kernel_rfl) (by kernel_rfl) (by kernel_rfl) (fun _ _ _ h => h) (Or.inl ⟨by rfl, ?hyr2_0⟩) (by assumption) ?restr2_0
                case hyr2_0 => (intro w hSw; (try dsimp only at hSw); go_simp; try (with_reducible rfl))
                simp only [Act.put, List.getElem_toArray, List.getElem_cons_succ, List.getElem_cons_zero, List.setIfInBounds_toArray, List.set_cons_zero, List.set_cons_succ]
                refine' wpAnyH_take (i := 1) (v := ?vr2_1) rfl (by kernel_rfl) (by kernel_rfl) (by kernel_rfl) (fun _ _ _ h => h) (Or.inl ⟨by rfl, ?hyr2_1⟩) (by assumption) ?restr2_1
                case hyr2_1 => (intro w hSw; (try dsimp only at hSw); go_simp; try (with_reducible rfl))
                simp only [Act.put, List.getElem_toArray, List.getElem_cons_succ, List.getElem_cons_zero, List.setIfInBounds_toArray, List.set_cons_zero, List.set_cons_succ]
                refine' wpAnyH_take (i := 2) (v := ?vr2_2) rfl (by kernel_rfl) (by kernel_rfl) (by kernel_rfl) (fun _ _ _ h => h) (Or.inl ⟨by rfl, ?hyr2_2⟩) (by assumption) ?restr2_2
                case hyr2_2 => (intro w hSw; (try dsimp only at hSw); go_simp; try (with_reducible rfl))
                simp only [Act.put, List.getElem_toArray, List.getElem_cons_succ, List.getElem_cons_zero, List.setIfInBounds_toArray, List.set_cons_zero, List.set_cons_succ]
                refine' wpAnyH_take (i := 3) (v := ?vr2_3) rfl (by kernel_rfl) (by kernel_rfl) (by kernel_rfl) (fun _ _ _ h => h) (Or.inl ⟨by rfl, ?hyr2_3⟩) (by assumption) ?restr2_3
                case hyr2_3 => (intro w hSw; (try dsimp only at hSw); go_simp; try (with_reducible rfl))
                simp only [Act.put, List.getElem_toArray, List.getElem_cons_succ, List.getElem_cons_zero, List.setIfInBounds_toArray, List.set_cons_zero, List.set_cons_succ]
                refine' wpAnyH_take (i := 4) (v := ?vr2_4) rfl (by kernel_rfl) (by kernel_rfl) (by kernel_rfl) (fun _ _ _ h => h) (Or.inl ⟨by rfl, ?hyr2_4⟩) (by assumption) ?restr2_4
                case hyr2_4 => (intro w hSw; (try dsimp only at hSw); go_simp; try (with_reducible rfl))
                simp only [Act.put, List.getElem_toArray, List.getElem_cons_succ, List.getElem_cons_zero, List.setIfInBounds_toArray, List.set_cons_zero, List.set_cons_succ]
                refine wpAnyH_ready (rs := [5]) (by kernel_rfl) (by simp) ?_
                refine AllReadyH.cons rfl (fun K hK => ?_) AllReadyH.nil
                go_simp
                refine (tli.error_is t c _ HE _).mono ?_
                rintro e w2 ⟨rfl, b2⟩
                refine hK.out _ _ (⟨(hHeld.2.2.2.2.2.2.1.below b2 hHeld.2.2.2.2.2.2.1.lt).cell 0, (hHeld.2.2.2.2.2.2.1.below b2 hHeld.2.2.2.2.2.2.1.lt).cell 1, (hHeld.2.2.2.2.2.2.1.below b2 hHeld.2.2.2.2.2.2.1.lt).cell 2, (hHeld.2.2.2.2.2.2.1.below b2 hHeld.2.2.2.2.2.2.1.lt).cell 3, (b2.cell (p := ⟨g, k * 2, none⟩) (by simpa using hgl)).trans hHeld.2.2.2.2.1, (b2.cell (p := ⟨g, k * 2 + 1, none⟩) (by simpa using hgl)).trans hHeld.2.2.2.2.2.1, hHeld.2.2.2.2.2.2.1.below b2 hHeld.2.2.2.2.2.2.1.lt, cks_keep hHeld.2.2.2.2.2.2.2.1 b2, hHeld.2.2.2.2.2.2.2.2.step b2⟩) (fun hHeld1 => ?_)
                clear hK K hHeld
                have hHeld := hHeld1
                clear hHeld1
                try simp only [Act.put, List.getElem_toArray, List.getElem_cons_succ, List.getElem_cons_zero, List.setIfInBounds_toArray, List.set_cons_zero, List.set_cons_succ]
                refine' wpAnyH_take (i := 6) (v := ?vr2_6) rfl (by kernel_rfl) (by kernel_rfl) (by kernel_rfl) (fun _ _ _ h => h) (Or.inl ⟨by rfl, ?hyr2_6⟩) (by assumption) ?restr2_6
                case hyr2_6 => (intro w hSw; (try dsimp only at hSw); go_simp; try (with_reducible rfl))
                simp only [Act.put, List.getElem_toArray, List.getElem_cons_succ, List.getElem_cons_zero, List.setIfInBounds_toArray, List.set_cons_zero, List.set_cons_succ]
                refine' wpAnyH_take (i := 7) (v := ?vr2_7) rfl (by kernel_rfl) (by kernel_rfl) (by kernel_rfl) (fun _ _ _ h => h) (Or.inl ⟨by rfl, ?hyr2_7⟩) (by assumption) ?restr2_7
                case hyr2_7 => (intro w hSw; (try dsimp only at hSw); go_simp; try (with_reducible rfl))
                simp only [Act.put, List.getElem_toArray, List.getElem_cons_succ, List.getElem_cons_zero, List.setIfInBounds_toArray, List.set_cons_zero, List.set_cons_succ]
                refine' wpAnyH_take (i := 8) (v := ?vr2_8) rfl (by kernel_rfl) (by kernel_rfl) (by kernel_rfl) (fun _ _ _ h => h) (Or.inl ⟨by rfl, ?hyr2_8⟩) (by assumption) ?restr2_8
                case hyr2_8 => (intro w hSw; (try dsimp only at hSw); go_simp; try (with_reducible rfl))
                simp only [Act.put, List.getElem_toArray, List.getElem_cons_succ, List.getElem_cons_zero, List.setIfInBounds_toArray, List.set_cons_zero, List.set_cons_succ]
                refine' wpAnyH_take (i := 9) (v := ?vr2_9) rfl (by kernel_rfl) (by kernel_rfl) (by kernel_rfl) (fun _ _ _ h => h) (Or.inl ⟨by rfl, ?hyr2_9⟩) (by assumption) ?restr2_9
                case hyr2_9 => (intro w hSw; (try dsimp only at hSw); go_simp; try (with_reducible rfl))
                simp only [Act.put, List.getElem_toArray, List.getElem_cons_succ, List.getElem_cons_zero, List.setIfInBounds_toArray, List.set_cons_zero, List.set_cons_succ]
                refine' wpAnyH_take (i := 10) (v := ?vr2_10) rfl (by kernel_rfl) (by kernel_rfl) (by kernel_rfl) (fun _ _ _ h => h) (Or.inl ⟨by rfl, ?hyr2_10⟩) (by assumption) ?restr2_10
                case hyr2_10 => (intro w hSw; (try dsimp only at hSw); go_simp; try (with_reducible rfl))
                simp only [Act.put, List.getElem_toArray, List.getElem_cons_succ, List.getElem_cons_zero, List.setIfInBounds_toArray, List.set_cons_zero, List.set_cons_succ]
                refine wpAnyH_done (by kernel_rfl) ?_ _
                have Q1 := Lib.hid hHeld.2.2.2.2.2.2.1
                have Q2 := Lib.hid hHeld.2.2.2.2.2.2.2.1
                have Q3 := Lib.hid hHeld.2.2.2.2.2.2.2.2
                clear hHeld
                go_wp2_with fail
                go_roundw
                case rel => exact ⟨k + 1, by omega, by go_num, Q1.out, Q2.out, Q3.out⟩
                case measure => simp [intOf]; omega
              · have hkd : decide (k < m) = false := by simpa using hlt
                go_wp2_with fail
                go_meet
                case rel => exact KS.out
      case rest =>
        as_aux_lemma =>
          have SB := Lib.hid hcut
          clear hcut HWO HR9 HM hm12 H37 H38 H39 H41
          go_wp2_with fail
          refine (error_draw A n cap zs _ (Lib.hid SB.out.2)).mono ?_
          rintro e W16 ⟨u, c, rfl, b⟩
          have H46 := Lib.hid (show St w A n zs W16 from SB.out.step b)
          clear b SB
          obtain ⟨y, known, hy⟩ := err_form u c
          have HY := Lib.hid hy
          clear hy
          go_wp2_with fail
          obtain ⟨W17, HW⟩ : ∃ W17, Hid ((W16.alloc (.cells #[.int .i64 u.id, .int .i64 u.kind, .int .i64 u.zero, .int .i64 u.scale] 25)).alloc (.cells #[.int .i64 c.read, .int .i64 c.tru] 40) = W17) := ⟨_, Lib.hid rfl⟩
          have H47 := Lib.hid (show St w A n zs W17 by rw [← HW.out]; exact ((H46.out.alloc _).alloc _))
          have H48 := Lib.hid (show Blk W17 (W16.heap.size) 25 #[.int .i64 u.id, .int .i64 u.kind, .int .i64 u.zero, .int .i64 u.scale] by rw [← HW.out]; exact ((Blk.new _ _ _).alloc _))
          have H49 := Lib.hid (show Blk W17 (W16.heap.size + 1) 40 #[.int .i64 c.read, .int .i64 c.tru] by rw [← HW.out]; exact (by have h := Blk.new (W16.alloc (.cells #[.int .i64 u.id, .int .i64 u.kind, .int .i64 u.zero, .int .i64 u.scale] 25)) 40 #[.int .i64 c.read, .int .i64 c.tru]; simpa using h))
          rw [HW.out]
          clear HW H46
          refine (tli.error_is u c _ HY _).mono ?_
          rintro e W18 ⟨rfl, b⟩
          have H50 := Lib.hid (show St w A n zs W18 from H47.out.step b)
          have H51 := Lib.hid (show Blk W18 (W16.heap.size) 25 #[.int .i64 u.id, .int .i64 u.kind, .int .i64 u.zero, .int .i64 u.scale] from H48.out.below b H48.out.lt)
          have H52 := Lib.hid (show Blk W18 (W16.heap.size + 1) 40 #[.int .i64 c.read, .int .i64 c.tru] from H49.out.below b H49.out.lt)
          clear b H47 H48 H49
          have q_ul := H51.out.lt
          have q_u0 : W18.cell? ⟨W16.heap.size, 0, none⟩ = some (.int .i64 u.id) := H51.out.cell 0
          have q_u1 : W18.cell? ⟨W16.heap.size, 1, none⟩ = some (.int .i64 u.kind) := H51.out.cell 1
          have q_u2 : W18.cell? ⟨W16.heap.size, 2, none⟩ = some (.int .i64 u.zero) := H51.out.cell 2
          have q_u3 : W18.cell? ⟨W16.heap.size, 3, none⟩ = some (.int .i64 u.scale) := H51.out.cell 3
          have q_cl := H52.out.lt
          have q_c0 : W18.cell? ⟨W16.heap.size + 1, 0, none⟩ = some (.int .i64 c.read) := H52.out.cell 0
          have q_c1 : W18.cell? ⟨W16.heap.size + 1, 1, none⟩ = some (.int .i64 c.tru) := H52.out.cell 1
          go_wp2_with fail
          clear q_ul q_u0 q_u1 q_u2 q_u3 q_cl q_c0 q_c1
          refine (error_m HY _).mono ?_
          rintro e W19 ⟨rfl, b⟩
          have H53 := Lib.hid (show St w A n zs W19 from H50.out.step b)
          have H54 := Lib.hid (show Blk W19 (W16.heap.size) 25 #[.int .i64 u.id, .int .i64 u.kind, .int .i64 u.zero, .int .i64 u.scale] from H51.out.below b H51.out.lt)
          have H55 := Lib.hid (show Blk W19 (W16.heap.size + 1) 40 #[.int .i64 c.read, .int .i64 c.tru] from H52.out.below b H52.out.lt)
          clear b H50 H51 H52
          go_wp2_with fail
          go_ret
          exact ⟨by simp, H53.out.1⟩
end Go.Proofs.Ytekbiapgbhaibaa.tif
