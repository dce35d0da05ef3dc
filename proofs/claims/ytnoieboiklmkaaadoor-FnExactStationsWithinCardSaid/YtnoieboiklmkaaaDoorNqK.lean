/-
  The stations within a distance, by the program.
  Conditions: the legs lie in one block, at most 2000000 of them; the variable holds the table of the sines.
-/
import Derived.Test.YtnoieboiklmkaaaDoorNqI
import Derived.Test.YtnoieboiklmkaaaDoorNtF
import Derived.Test.YtnoieboiklmkaaaDoorLenI
namespace Go.Proofs.YtnoieboiklmkaaaDoor.nq
open Go.RowKit
open reads base ty lg lgi win hs nt rowi sn
set_option linter.unusedVariables false
set_option linter.unusedSimpArgs false

theorem len_q (d : Sf) (r : Int) (hd : Hid ((-100000 ≤ d.east ∧ d.east ≤ 100000) ∧ (-100000 ≤ d.north ∧ d.north ≤ 100000) ∧ (-100000 ≤ d.up ∧ d.up ≤ 100000))) (hr : Hid (len.IsRoot (sq3 d) r)) (w : World) : Calls Tryd.prog 72 #[.int .i64 d.east, .int .i64 d.north, .int .i64 d.up] w (APost (.tuple #[.int .i64 r, .bool true]) w) :=
  (leni.lengthOf_impl d.east d.north d.up w).mono fun e w' hh => by
    rcases hh.1 with ⟨-, q, hq, rfl⟩ | ⟨a, -⟩
    · exact ⟨by rw [len.root_uniq hq hr.out], hh.2⟩
    · exact absurd hd.out a
/-- what is live while stations are gathered: the network, the placed stations, the list so far -/
def WI (w : World) (G Bm : Nat) (A3 : Option Addr) (m2 c3 : Nat) (C : Array Value) (ps : List Int) (A2 : Option Addr) (m c : Nat) (xs : List Int) (v : World) : Prop :=
  Below w.heap.size w v ∧ Blk v G 66 C ∧ v.ownsRow Bm 3 1 (.slice A3 m2 c3) m2 (ints.intsV ps) ∧ v.ownsRow w.heap.size 3 1 (.slice A2 m c) m (ints.intsV xs) ∧ (∀ g, (Value.slice A2 m c).ownBlock = some g → ¬ g = G ∧ ¬ (Value.slice A3 m2 c3).ownBlock = some g)
section
variable {w v v' : World} {G Bm : Nat} {A3 A2 : Option Addr} {m2 c3 m c : Nat} {C : Array Value} {ps xs : List Int}
theorem WI.step (h : WI w G Bm A3 m2 c3 C ps A2 m c xs v) (hb : Below v.heap.size v v') : WI w G Bm A3 m2 c3 C ps A2 m c xs v' :=
  ⟨h.1.trans (hb.mono h.1.size), h.2.1.below hb h.2.1.lt, row_below h.2.2.1 hb, row_below h.2.2.2.1 hb, h.2.2.2.2⟩
theorem WI.app (h : WI w G Bm A3 m2 c3 C ps A2 m c xs v) {g9 c9 : Nat} {a : Int} {o : Obj} (ho : v'.ownsRow w.heap.size 3 1 (.slice (some ⟨g9, 0, none⟩) (m + 1) c9) (m + 1) (ints.intsV xs ++ [.int .i64 a])) (hg : (v.alloc o).grownBy v' (Value.slice A2 m c).ownBlock) (hat : (Value.slice A2 m c).ownBlock = some g9 ∨ g9 = (v.alloc o).heap.size) :
    WI w G Bm A3 m2 c3 C ps (some ⟨g9, 0, none⟩) (m + 1) c9 (xs ++ [a]) v' := by
  have ha := h.step ((Below.refl v.heap.size v).alloc (Nat.le_refl _) o)
  have l1 := h.2.1.lt
  refine ⟨ha.1.grown hg ha.1.size (fun g e => (h.2.2.2.1.lt g e).1), ha.2.1.grown hg (fun e => (h.2.2.2.2 G e.symm).1 rfl), ha.2.2.1.kept hg ?_, by rw [intsV_app]; exact ho, ?_⟩
  · cases q : (Value.slice A3 m2 c3).ownBlock with
    | none => exact .inl rfl
    | some g => exact .inr (fun e => (h.2.2.2.2 g e.symm).2 q)
  · intro g e
    have e2 : g9 = g := by simpa [Value.ownBlock] using e
    subst e2
    rcases hat with q | q
    · exact h.2.2.2.2 g9 q
    · refine ⟨by simp at q; omega, fun k => ?_⟩
      have := (h.2.2.1.lt g9 k).2
      simp at q; omega
end
set_option maxHeartbeats 16000000 in
set_option maxRecDepth 100000 in
theorem within_bad (A : Option Addr) (n cap : Nat) (ts : List Lg) (z ds : Int) (C : Array Value) (w : World) (hn : n ≤ 2000000) (HC : Hid (nv (netS ts) (clS ts) = C)) (hts : Hid (LgAt w w.heap.size A n ts)) (hT : Hid (Tab w)) (HG : Hid (goodLg ts = false)) :
    Calls Tryd.prog 39 #[.slice A n cap, .int .i64 z, .int .i64 ds] w (LPost [] false w) := by
  have hcz : C.size = 56 := by rw [← HC.out]; exact nv_size (nok_S ts)
  have HC1 := Lib.hid (show C.all (·.oneCell') = true by rw [← HC.out]; exact nv_one)
  go_enter Tryd.func39, Tryd.ntmps39
  go_wp2_with fail
  refine (net_any A n cap ts C false HC HG _ hn hts hT).mono ?_
  rintro e w1 ⟨rfl, b1⟩
  have HB := Lib.hid b1
  clear b1
  have hst := lay_net hcz HC1.out w1
  have HB2 := Lib.hid (HB.out.alloc HB.out.size (.cells C 66))
  have HG2 := Lib.hid (Blk.new w1 66 C)
  obtain ⟨W, HW⟩ : ∃ W, Hid (w1.alloc (.cells C 66) = W) := ⟨_, Lib.hid rfl⟩
  obtain ⟨G, HGG⟩ : ∃ G, Hid (w1.heap.size = G) := ⟨_, Lib.hid rfl⟩
  go_upto_region 2 with fail
  clear hst
  rw [HGG.out] at HG2
  try rw [HGG.out]
  try simp only [HGG.out]
  rw [HW.out] at HB2 HG2 ⊢
  clear HW HB HGG
  have HBZ := HB2
  go_wp2_with fail
  go_ret2
  exact ⟨_, rfl, World.ownsRow_made W #[] 0 HBZ.out.size (by decide) (by simp), HBZ.out.alloc HBZ.out.size _⟩
set_option maxHeartbeats 16000000 in
set_option maxRecDepth 100000 in
theorem within_no (A : Option Addr) (n cap : Nat) (ts : List Lg) (z ds : Int) (C : Array Value) (w : World) (hn : n ≤ 2000000) (HC : Hid (nv (netS ts) (clS ts) = C)) (hts : Hid (LgAt w w.heap.size A n ts)) (hT : Hid (Tab w)) (HG : Hid (goodLg ts = true)) (HM : Hid ((btw 0 z 7 && mem (netS ts).ps z) = false)) :
    Calls Tryd.prog 39 #[.slice A n cap, .int .i64 z, .int .i64 ds] w (LPost [] false w) := by
  have hcz : C.size = 56 := by rw [← HC.out]; exact nv_size (nok_S ts)
  have HC1 := Lib.hid (show C.all (·.oneCell') = true by rw [← HC.out]; exact nv_one)
  go_enter Tryd.func39, Tryd.ntmps39
  go_wp2_with fail
  refine (net_any A n cap ts C true HC HG _ hn hts hT).mono ?_
  rintro e w1 ⟨rfl, b1⟩
  have HB := Lib.hid b1
  clear b1
  have hst := lay_net hcz HC1.out w1
  have HB2 := Lib.hid (HB.out.alloc HB.out.size (.cells C 66))
  have HG2 := Lib.hid (Blk.new w1 66 C)
  obtain ⟨W, HW⟩ : ∃ W, Hid (w1.alloc (.cells C 66) = W) := ⟨_, Lib.hid rfl⟩
  obtain ⟨G, HGG⟩ : ∃ G, Hid (w1.heap.size = G) := ⟨_, Lib.hid rfl⟩
  go_upto_region 2 with fail
  clear hst
  rw [HGG.out] at HG2
  try rw [HGG.out]
  try simp only [HGG.out]
  rw [HW.out] at HB2 HG2 ⊢
  clear HW HB HGG
  refine wp_region_list ?_
  refine step_move _ rfl _ rfl _ rfl ?_
  simp only [Act.put, List.getElem_toArray, List.getElem_cons_succ, List.getElem_cons_zero, List.setIfInBounds_toArray, List.set_cons_zero, List.set_cons_succ, Bool.not_true, Bool.not_false]
  refine step_not _ rfl _ _ rfl true rfl ?_
  simp only [Act.put, List.getElem_toArray, List.getElem_cons_succ, List.getElem_cons_zero, List.setIfInBounds_toArray, List.set_cons_zero, List.set_cons_succ, Bool.not_true, Bool.not_false]
  refine step_move _ rfl _ rfl _ rfl ?_
  simp only [Act.put, List.getElem_toArray, List.getElem_cons_succ, List.getElem_cons_zero, List.setIfInBounds_toArray, List.set_cons_zero, List.set_cons_succ, Bool.not_true, Bool.not_false]
  refine step_loadg _ rfl _ rfl G _ rfl HG2.out hcz ?_
  simp only [Act.put, List.getElem_toArray, List.getElem_cons_succ, List.getElem_cons_zero, List.setIfInBounds_toArray, List.set_cons_zero, List.set_cons_succ, Bool.not_true, Bool.not_false]
  go_wp2_with fail
  rw [← HC.out]
  refine (placed_any (netS ts) (clS ts) z false _ HM).mono ?_
  rintro e w3 ⟨rfl, b3⟩
  have HG3 := Lib.hid (HG2.out.below b3 HG2.out.lt)
  have HB3 := Lib.hid (HB2.out.trans (b3.mono HB2.out.size))
  clear b3 HG2 HB2
  have HBZ := HB3
  go_wp2_with fail
  go_ret2
  exact ⟨_, rfl, World.ownsRow_made w3 #[] 0 HBZ.out.size (by decide) (by simp), HBZ.out.alloc HBZ.out.size _⟩
set_option maxHeartbeats 16000000 in
set_option maxRecDepth 100000 in
theorem within_neg (A : Option Addr) (n cap : Nat) (ts : List Lg) (z ds : Int) (C : Array Value) (w : World) (hn : n ≤ 2000000) (HC : Hid (nv (netS ts) (clS ts) = C)) (hts : Hid (LgAt w w.heap.size A n ts)) (hT : Hid (Tab w)) (HG : Hid (goodLg ts = true)) (HM : Hid ((btw 0 z 7 && mem (netS ts).ps z) = true)) (hds : ds < 0) :
    Calls Tryd.prog 39 #[.slice A n cap, .int .i64 z, .int .i64 ds] w (LPost [] false w) := by
  have hdd : decide (ds < 0) = true := by simpa using hds
  have hcz : C.size = 56 := by rw [← HC.out]; exact nv_size (nok_S ts)
  have HC1 := Lib.hid (show C.all (·.oneCell') = true by rw [← HC.out]; exact nv_one)
  go_enter Tryd.func39, Tryd.ntmps39
  go_wp2_with fail
  refine (net_any A n cap ts C true HC HG _ hn hts hT).mono ?_
  rintro e w1 ⟨rfl, b1⟩
  have HB := Lib.hid b1
  clear b1
  have hst := lay_net hcz HC1.out w1
  have HB2 := Lib.hid (HB.out.alloc HB.out.size (.cells C 66))
  have HG2 := Lib.hid (Blk.new w1 66 C)
  obtain ⟨W, HW⟩ : ∃ W, Hid (w1.alloc (.cells C 66) = W) := ⟨_, Lib.hid rfl⟩
  obtain ⟨G, HGG⟩ : ∃ G, Hid (w1.heap.size = G) := ⟨_, Lib.hid rfl⟩
  go_upto_region 2 with fail
  clear hst
  rw [HGG.out] at HG2
  try rw [HGG.out]
  try simp only [HGG.out]
  rw [HW.out] at HB2 HG2 ⊢
  clear HW HB HGG
  refine wp_region_list ?_
  refine step_move _ rfl _ rfl _ rfl ?_
  simp only [Act.put, List.getElem_toArray, List.getElem_cons_succ, List.getElem_cons_zero, List.setIfInBounds_toArray, List.set_cons_zero, List.set_cons_succ, Bool.not_true, Bool.not_false]
  refine step_not _ rfl _ _ rfl true rfl ?_
  simp only [Act.put, List.getElem_toArray, List.getElem_cons_succ, List.getElem_cons_zero, List.setIfInBounds_toArray, List.set_cons_zero, List.set_cons_succ, Bool.not_true, Bool.not_false]
  refine step_move _ rfl _ rfl _ rfl ?_
  simp only [Act.put, List.getElem_toArray, List.getElem_cons_succ, List.getElem_cons_zero, List.setIfInBounds_toArray, List.set_cons_zero, List.set_cons_succ, Bool.not_true, Bool.not_false]
  refine step_loadg _ rfl _ rfl G _ rfl HG2.out hcz ?_
  simp only [Act.put, List.getElem_toArray, List.getElem_cons_succ, List.getElem_cons_zero, List.setIfInBounds_toArray, List.set_cons_zero, List.set_cons_succ, Bool.not_true, Bool.not_false]
  go_wp2_with fail
  rw [← HC.out]
  refine (placed_any (netS ts) (clS ts) z true _ HM).mono ?_
  rintro e w3 ⟨rfl, b3⟩
  have HG3 := Lib.hid (HG2.out.below b3 HG2.out.lt)
  have HB3 := Lib.hid (HB2.out.trans (b3.mono HB2.out.size))
  clear b3 HG2 HB2
  have HBZ := HB3
  go_wp2_with fail
  go_ret2
  exact ⟨_, rfl, World.ownsRow_made w3 #[] 0 HBZ.out.size (by decide) (by simp), HBZ.out.alloc HBZ.out.size _⟩
set_option maxHeartbeats 16000000 in
set_option maxRecDepth 100000 in
theorem within_yes (A : Option Addr) (n cap : Nat) (ts : List Lg) (qn : Nat) (ds : Int) (C : Array Value) (w : World) (hn : n ≤ 2000000) (HC : Hid (nv (netS ts) (clS ts) = C)) (hts : Hid (LgAt w w.heap.size A n ts)) (hT : Hid (Tab w)) (HG : Hid (goodLg ts = true)) (HM : Hid ((btw 0 (qn : Int) 7 && mem (netS ts).ps (qn : Int)) = true)) (hds : 0 ≤ ds) (hq8 : qn < 8) :
    Calls Tryd.prog 39 #[.slice A n cap, .int .i64 (qn : Int), .int .i64 ds] w (LPost (wdN (netS ts) (qn : Int) ds (netS ts).ps.length) true w) := by
  obtain ⟨i0, hi, hz0, hz1, hz2⟩ := info_parts infoI
  have hdd : decide (ds < 0) = false := by simp; omega
  have HNK := Lib.hid (nok_S ts)
  have HQ6 := Lib.hid (q6 ts)
  have HPS := Lib.hid ((ps_S ts).trans (psS ts))
  obtain ⟨N, HNN⟩ : ∃ N, Hid (netS ts = N) := ⟨_, Lib.hid rfl⟩
  obtain ⟨CL, HCL⟩ : ∃ l, Hid (clS ts = l) := ⟨_, Lib.hid rfl⟩
  obtain ⟨m2, HM2⟩ : ∃ m, Hid (N.ps.length = m) := ⟨_, Lib.hid rfl⟩
  rw [HNN.out, HCL.out] at HNK
  rw [HNN.out] at HQ6 HPS ⊢
  rw [HM2.out]
  have HC2 := Lib.hid (show nv N CL = C by rw [← HNN.out, ← HCL.out]; exact HC.out)
  have hp8 : m2 ≤ 8 := by rw [← HM2.out]; exact HQ6.out.2.2.1
  have hcz : C.size = 56 := by rw [← HC.out]; exact nv_size (nok_S ts)
  have HC1 := Lib.hid (show C.all (·.oneCell') = true by rw [← HC.out]; exact nv_one)
  go_enter Tryd.func39, Tryd.ntmps39
  go_wp2_with fail
  refine (net_any A n cap ts C true HC HG _ hn hts hT).mono ?_
  rintro e w1 ⟨rfl, b1⟩
  have HB := Lib.hid b1
  clear b1
  have hst := lay_net hcz HC1.out w1
  have HB2 := Lib.hid (HB.out.alloc HB.out.size (.cells C 66))
  have HG2 := Lib.hid (Blk.new w1 66 C)
  obtain ⟨W, HW⟩ : ∃ W, Hid (w1.alloc (.cells C 66) = W) := ⟨_, Lib.hid rfl⟩
  obtain ⟨G, HGG⟩ : ∃ G, Hid (w1.heap.size = G) := ⟨_, Lib.hid rfl⟩
  go_upto_region 2 with fail
  clear hst
  rw [HGG.out] at HG2
  try rw [HGG.out]
  try simp only [HGG.out]
  rw [HW.out] at HB2 HG2 ⊢
  clear HW HB HGG
  refine wp_region_list ?_
  refine step_move _ rfl _ rfl _ rfl ?_
  simp only [Act.put, List.getElem_toArray, List.getElem_cons_succ, List.getElem_cons_zero, List.setIfInBounds_toArray, List.set_cons_zero, List.set_cons_succ, Bool.not_true, Bool.not_false]
  refine step_not _ rfl _ _ rfl true rfl ?_
  simp only [Act.put, List.getElem_toArray, List.getElem_cons_succ, List.getElem_cons_zero, List.setIfInBounds_toArray, List.set_cons_zero, List.set_cons_succ, Bool.not_true, Bool.not_false]
  refine step_move _ rfl _ rfl _ rfl ?_
  simp only [Act.put, List.getElem_toArray, List.getElem_cons_succ, List.getElem_cons_zero, List.setIfInBounds_toArray, List.set_cons_zero, List.set_cons_succ, Bool.not_true, Bool.not_false]
  refine step_loadg _ rfl _ rfl G _ rfl HG2.out hcz ?_
  simp only [Act.put, List.getElem_toArray, List.getElem_cons_succ, List.getElem_cons_zero, List.setIfInBounds_toArray, List.set_cons_zero, List.set_cons_succ, Bool.not_true, Bool.not_false]
  go_wp2_with fail
  rw [← HC.out]
  refine (placed_any (netS ts) (clS ts) (qn : Int) true _ HM).mono ?_
  rintro e w3 ⟨rfl, b3⟩
  have HG3 := Lib.hid (HG2.out.below b3 HG2.out.lt)
  have HB3 := Lib.hid (HB2.out.trans (b3.mono HB2.out.size))
  clear b3 HG2 HB2
  try rw [HC.out]
  try simp only [HC.out]
  go_upto_region 5 with fail
  obtain ⟨W4, HW4⟩ : ∃ V, Hid (w3.alloc (.cells #[] 3) = V) := ⟨_, Lib.hid rfl⟩
  obtain ⟨Y, HY⟩ : ∃ Y, Hid (w3.heap.size = Y) := ⟨_, Lib.hid rfl⟩
  have HYG := Lib.hid (show G < Y by rw [← HY.out]; exact HG3.out.lt)
  have HR4 := Lib.hid (show W4.ownsRow w.heap.size 3 1 (.slice (some ⟨Y, 0, none⟩) 0 0) 0 [] by rw [← HW4.out, ← HY.out]; exact World.ownsRow_made w3 #[] 0 HB3.out.size (by decide) (by simp))
  have HG4 := Lib.hid (show Blk W4 G 66 C by rw [← HW4.out]; exact HG3.out.alloc _)
  have HB4 := Lib.hid (show Below w.heap.size w W4 by rw [← HW4.out]; exact HB3.out.alloc HB3.out.size _)
  have HYW := Lib.hid (show Y < W4.heap.size by rw [← HW4.out, ← HY.out]; simp)
  try rw [HY.out]
  try simp only [HY.out]
  rw [HW4.out]
  clear HW4 HY HG3 HB3
  have HN4 := Lib.hid (show BsAt W4 G 0 (mks 8 N.ps) from bs_ps (cl := CL) (by rw [HC2.out]; exact HG4.out))
  go_wp2_with fail
  refine (marked_any G 0 8 _ _ (Lib.hid (mks_len _ _)) (by decide) HN4).mono ?_
  rintro e w5 ⟨A3, c3, rfl, hO, b5⟩
  rw [HPS.out] at hO ⊢
  rw [HM2.out] at hO ⊢
  obtain ⟨Bm, HBM⟩ : ∃ B, Hid (W4.heap.size = B) := ⟨_, Lib.hid rfl⟩
  have HW0 := Lib.hid (show WI w G Bm A3 m2 c3 C N.ps (some ⟨Y, 0, none⟩) 0 0 (wdN N (qn : Int) ds 0) w5 by
    rw [← HBM.out]
    refine ⟨HB4.out.trans (b5.mono HB4.out.size), HG4.out.below b5 HG4.out.lt, hO, row_below HR4.out b5, fun g e => ?_⟩
    have e2 : Y = g := by simpa [Value.ownBlock] using e
    subst e2
    exact ⟨by have := HYG.out; omega, fun k => by have := (hO.lt Y k).1; have := HYW.out; omega⟩)
  clear hO b5 HR4 HG4 HB4 HN4 HBM HYG HYW
  go_wp2_with fail
  go_loopw [10, 39] (fun v i wr => ∃ (k m c : Nat) (A2 : Option Addr), k ≤ m2 ∧ i = .int .i64 (k : Nat) ∧ m ≤ k ∧ v = .slice A2 m c ∧ Hid ((wdN N (qn : Int) ds k).length = m) ∧ WI w G Bm A3 m2 c3 C N.ps A2 m c (wdN N (qn : Int) ds k) wr) (fun _ i _ => m2 - (intOf i).toNat)
  case atStart => exact ⟨0, 0, 0, _, Nat.zero_le _, rfl, Nat.le_refl _, rfl, Lib.hid rfl, HW0.out⟩
  case round =>
    obtain ⟨k, m, c, A2, hk, rfl, hmk, rfl, HMX, hX⟩ := hrel
    have HX := Lib.hid hX
    have hBs := hX.1.size
    clear hX HW0
    have hk0 : (0 : Int) ≤ (k : Int) := by omega
    by_cases hlt : k < m2
    · obtain ⟨x, hx⟩ := at_lt HM2.out hlt
      have hxb := HQ6.out.2.1 x (List.mem_of_getElem? hx)
      obtain ⟨a, rfl⟩ : ∃ a : Nat, x = (a : Int) := ⟨x.toNat, by omega⟩
      have ha8n : a < 8 := by omega
      obtain ⟨p, HPP⟩ : ∃ p, Hid (at_ N.pl (a : Int) = p) := ⟨_, Lib.hid rfl⟩
      obtain ⟨q, HQQ⟩ : ∃ q, Hid (at_ N.pl (qn : Int) = q) := ⟨_, Lib.hid rfl⟩
      obtain ⟨d, HDD⟩ : ∃ d, Hid (sub3 p q = d) := ⟨_, Lib.hid rfl⟩
      have HBP := Lib.hid (show BdS p by rw [← HPP.out]; have k := HQ6.out.2.2.2 (a : Int); unfold Bd4 at k; unfold BdS; omega)
      have HBQ := Lib.hid (show BdS q by rw [← HQQ.out]; have k := HQ6.out.2.2.2 (qn : Int); unfold Bd4 at k; unfold BdS; omega)
      have HDB := Lib.hid (show (-100000 ≤ d.east ∧ d.east ≤ 100000) ∧ (-100000 ≤ d.north ∧ d.north ≤ 100000) ∧ (-100000 ≤ d.up ∧ d.up ≤ 100000) by rw [← HDD.out, ← HPP.out, ← HQQ.out]; have k := HQ6.out.2.2.2 (a : Int); have j := HQ6.out.2.2.2 (qn : Int); unfold Bd4 at k j; unfold sub3; simp only []; omega)
      obtain ⟨r, hr⟩ := root_of d
      have HRT := Lib.hid hr
      clear hr
      obtain ⟨g3, hA3, e0⟩ := (ints.IL.of_own HX.out.2.2.1).2 k _ hx
      have HXQ := Lib.hid hx
      clear hx hxb
      subst hA3
      have hki : (k : Int) < (m2 : Int) := by omega
      have hkd : decide (k < m2) = true := by simpa using hlt
      go_upto_region 8 with fail
      clear e0
      refine wp_region_list ?_
      refine step_load _ rfl _ rfl G _ rfl HX.out.2.1 hcz ?_
      simp only [Act.put, List.getElem_toArray, List.getElem_cons_succ, List.getElem_cons_zero, List.setIfInBounds_toArray, List.set_cons_zero, List.set_cons_succ, Bool.not_true, Bool.not_false]
      go_wp2_with fail
      refine (between_c HC2 qn a q p d _ HNK hq8 ha8n HQQ HPP HDD HBQ HBP).mono ?_
      rintro e w6 ⟨rfl, b6⟩
      have HX6 := Lib.hid (HX.out.step b6)
      clear b6 HX
      obtain ⟨W7, HW7⟩ : ∃ V, Hid (w6.alloc (.cells #[.int .i64 d.east, .int .i64 d.north, .int .i64 d.up] 35) = V) := ⟨_, Lib.hid rfl⟩
      obtain ⟨Z, HZZ⟩ : ∃ Z, Hid (w6.heap.size = Z) := ⟨_, Lib.hid rfl⟩
      have HX7 := Lib.hid (show WI w G Bm (some ⟨g3, 0, none⟩) m2 c3 C N.ps A2 m c (wdN N (qn : Int) ds k) W7 by rw [← HW7.out]; exact HX6.out.step ((Below.refl _ _).alloc (Nat.le_refl _) _))
      have HD7 := Lib.hid (show Blk W7 Z 35 #[.int .i64 d.east, .int .i64 d.north, .int .i64 d.up] by rw [← HW7.out, ← HZZ.out]; exact Blk.new _ _ _)
      go_upto_region 9 with fail
      try rw [HZZ.out]
      try simp only [HZZ.out]
      rw [HW7.out]
      clear HW7 HZZ HX6
      have d0 := HD7.out.cell 0
      have d1 := HD7.out.cell 1
      have d2 := HD7.out.cell 2
      go_wp2_with fail
      refine (len_q d r HDB HRT _).mono ?_
      rintro e w8 ⟨rfl, b8⟩
      have HX8 := Lib.hid (HX7.out.step b8)
      have hB8 := HX8.out.1.size
      clear b8 HX7 HD7 d0 d1 d2
      by_cases hle : r ≤ ds
      · have hd : decide (r ≤ ds) = true := by simpa using hle
        have HNX := Lib.hid (wdN_yes HXQ.out (show near N (qn : Int) ds (a : Int) = true by unfold near; rw [HPP.out, HQQ.out, HDD.out]; exact near_iff HRT.out hle hds))
        go_wp2_with (at_builtin; refine wpList_append_lies _ rfl _ _ 24 rfl w.heap.size 3 i0 (.int .i64 0) 1 8 Tryd.underlying24 hi hz0 hz1 hz2 rfl (by decide) _ _ _ rfl (HX8.out.2.2.2.1.alloc _) ⟨w8.heap.size, 0, none⟩ 1 1 [.int .i64 (a : Int)] rfl rfl (cell_one_new _ _ _) (by simp [Value.oneCell']) (by decide) (by unfold maxLen; omega) (by omega) (by simp; omega) _ rfl ?_; intro g9 c9 w9 hown' hgrow hat hlt9)
        have HX9 := Lib.hid (HX8.out.app (a := (a : Int)) hown' hgrow hat)
        clear hown' hgrow hat
        go_wp2_with fail
        go_roundw
        case rel => exact ⟨k + 1, m + 1, c9, some ⟨g9, 0, none⟩, by omega, by go_num, by omega, rfl, Lib.hid (by rw [HNX.out, List.length_append, HMX.out]; rfl), by rw [HNX.out]; exact HX9.out⟩
        case measure => simp [intOf]; omega
      · have hd : decide (r ≤ ds) = false := by simpa using hle
        have HNX := Lib.hid (wdN_no HXQ.out (show near N (qn : Int) ds (a : Int) = false by unfold near; rw [HPP.out, HQQ.out, HDD.out]; exact near_not HRT.out hle hds))
        go_wp2_with fail
        go_roundw
        case rel => exact ⟨k + 1, m, c, A2, by omega, by go_num, by omega, rfl, Lib.hid (by rw [HNX.out]; exact HMX.out), by rw [HNX.out]; exact HX8.out⟩
        case measure => simp [intOf]; omega
    · have hkd : decide (k < m2) = false := by simpa using hlt
      obtain rfl : m2 = k := by omega
      clear hlt
      go_wp2_with fail
      go_ret2
      exact ⟨_, rfl, by rw [HMX.out]; exact HX.out.2.2.2.1, HX.out.1⟩
theorem within_impl (A : Option Addr) (n cap : Nat) (ts : List Lg) (z ds : Int) (w : World) (hn : n ≤ 2000000) (hts : Hid (LgAt w w.heap.size A n ts)) (hT : Hid (Tab w)) :
    Calls Tryd.prog 39 #[.slice A n cap, .int .i64 z, .int .i64 ds] w (LPost (wdIds ts z ds) (wdOk ts z ds) w) := by
  cases hg : goodLg ts
  · have e : wdOk ts z ds = false := by unfold wdOk has6; rw [hg]; rfl
    have e2 : wdIds ts z ds = [] := by unfold wdIds; rw [e]; rfl
    rw [e, e2]
    exact within_bad A n cap ts z ds _ w hn (Lib.hid rfl) hts hT (Lib.hid hg)
  · have ho := ok_net hg
    have HNS : netS ts = net ts := by unfold netS; rw [hg]; rfl
    have hm : (btw 0 z 7 && mem (netS ts).ps z) = has6 ts z := by
      unfold has6
      rw [HNS, hg, Bool.true_and]
      cases ht : mem (net ts).ps z
      · rw [Bool.and_false]
      · have h := ho.2.2.1 z (mem_iff.1 ht)
        rw [btw_mk h.1 h.2]; rfl
    cases hh : has6 ts z
    · have e : wdOk ts z ds = false := by unfold wdOk; rw [hh]; rfl
      have e2 : wdIds ts z ds = [] := by unfold wdIds; rw [e]; rfl
      rw [e, e2]
      exact within_no A n cap ts z ds _ w hn (Lib.hid rfl) hts hT (Lib.hid hg) (Lib.hid (by rw [hm, hh]))
    · by_cases hd : ds < 0
      · have e : wdOk ts z ds = false := by unfold wdOk; rw [hh]; simpa using hd
        have e2 : wdIds ts z ds = [] := by unfold wdIds; rw [e]; rfl
        rw [e, e2]
        exact within_neg A n cap ts z ds _ w hn (Lib.hid rfl) hts hT (Lib.hid hg) (Lib.hid (by rw [hm, hh])) hd
      · have e : wdOk ts z ds = true := by unfold wdOk; rw [hh]; simp; omega
        have e2 : wdIds ts z ds = wdN (netS ts) z ds (netS ts).ps.length := by unfold wdIds; rw [e, HNS]; rfl
        have hz := hh
        unfold has6 at hz
        rw [hg, Bool.true_and] at hz
        have hb := ho.2.2.1 z (mem_iff.1 hz)
        obtain ⟨qn, rfl⟩ := Int.eq_ofNat_of_zero_le hb.1
        rw [e, e2]
        exact within_yes A n cap ts qn ds _ w hn (Lib.hid rfl) hts hT (Lib.hid hg) (Lib.hid (by rw [hm, hh])) (by omega) (by omega)
theorem wdN_len (s : Net) (q ds : Int) : ∀ k, (wdN s q ds k).length ≤ k
  | 0 => Nat.le_refl _
  | k + 1 => by
    have ih := wdN_len s q ds k
    cases e : s.ps[k]? with
    | none => have : wdN s q ds (k + 1) = wdN s q ds k := by show (match s.ps[k]? with | some q => _ | none => _) = _; rw [e]
              rw [this]; omega
    | some x =>
      cases h : near s q ds x
      · rw [wdN_no e h]; omega
      · rw [wdN_yes e h, List.length_append]; simp; omega
theorem wdIds_len (ts : List Lg) (q ds : Int) : (wdIds ts q ds).length ≤ 12 := by
  unfold wdIds
  cases h : wdOk ts q ds
  · exact Nat.zero_le _
  · have hg : goodLg ts = true := by unfold wdOk has6 at h; rw [Bool.and_eq_true, Bool.and_eq_true] at h; exact h.1.1
    exact Nat.le_trans (wdN_len _ _ _ _) (Nat.le_trans (ok_net hg).ps_len (by decide))
#print axioms within_impl
end Go.Proofs.YtnoieboiklmkaaaDoor.nq
