/-
  The extent and the depth, by the program.
  Conditions: the legs lie in one block, at most 2000000 of them; the variable holds the table of the sines.
-/
import Derived.Test.YtnoieboiklmkaaaDoorNqH
import Derived.Test.YtnoieboiklmkaaaDoorNtI
import Derived.Test.YtnoieboiklmkaaaDoorNtF
import Derived.Deep.RegionHeld3
namespace Go.Proofs.YtnoieboiklmkaaaDoor.nq
open Go.RowKit
open reads base ty lg lgi win hs nt rowi sn
set_option linter.unusedVariables false
set_option linter.unusedSimpArgs false

/-- two boxes for the answer, the network, the least and the greatest so far, the placed stations -/
def XE (w : World) (G L H Bz : Nat) (A2 : Option Addr) (m c2 : Nat) (lo hi : Sf) (C : Array Value) (ps : List Int) (v : World) : Prop :=
  Blk v w.heap.size 35 #[.int .i64 0, .int .i64 0, .int .i64 0] ∧ Blk v (w.heap.size + 1) 35 #[.int .i64 0, .int .i64 0, .int .i64 0] ∧ Blk v G 66 C ∧ Blk v L 35 #[.int .i64 lo.east, .int .i64 lo.north, .int .i64 lo.up] ∧ Blk v H 35 #[.int .i64 hi.east, .int .i64 hi.north, .int .i64 hi.up] ∧ v.ownsRow Bz 3 1 (.slice A2 m c2) m (ints.intsV ps) ∧ Below w.heap.size w v ∧ (w.heap.size + 1 < G ∧ G < L ∧ L < H ∧ H < Bz)
section
variable {w v v' : World} {G L H Bz : Nat} {A2 : Option Addr} {m c2 : Nat} {lo hi : Sf} {C : Array Value} {ps : List Int}
theorem XE.step (h : XE w G L H Bz A2 m c2 lo hi C ps v) (hb : Below v.heap.size v v') : XE w G L H Bz A2 m c2 lo hi C ps v' := by
  obtain ⟨h1, h2, h3, h4, h5, h6, h7, h8⟩ := h
  exact ⟨h1.below hb h1.lt, h2.below hb h2.lt, h3.below hb h3.lt, h4.below hb h4.lt, h5.below hb h5.lt, row_below h6 hb, h7.trans (hb.mono h7.size), h8⟩
theorem XE.low (h : XE w G L H Bz A2 m c2 lo hi C ps v) (z : Sf) : XE w G L H Bz A2 m c2 z hi C ps (((v.setCell ⟨L, 0, none⟩ (.int .i64 z.east)).setCell ⟨L, 1, none⟩ (.int .i64 z.north)).setCell ⟨L, 2, none⟩ (.int .i64 z.up)) := by
  obtain ⟨h1, h2, h3, h4, h5, h6, h7, h8⟩ := h
  have n1 : w.heap.size ≠ L := by omega
  have n2 : w.heap.size + 1 ≠ L := by omega
  have n3 : G ≠ L := by omega
  have n4 : H ≠ L := by omega
  have n5 : ∀ g, (Value.slice A2 m c2).ownBlock = some g → ¬ g = L := fun g e => by have := (h6.lt g e).1; omega
  have hw : w.heap.size ≤ L := by omega
  exact ⟨((h1.far n1 _).far n1 _).far n1 _, ((h2.far n2 _).far n2 _).far n2 _, ((h3.far n3 _).far n3 _).far n3 _, ((h4.set_ 0 _).set_ 1 _).set_ 2 _, ((h5.far n4 _).far n4 _).far n4 _, far_row (far_row (far_row h6 n5 _ _) n5 _ _) n5 _ _, ((h7.setCell hw _).setCell hw _).setCell hw _, h8⟩
theorem XE.high (h : XE w G L H Bz A2 m c2 lo hi C ps v) (z : Sf) : XE w G L H Bz A2 m c2 lo z C ps (((v.setCell ⟨H, 0, none⟩ (.int .i64 z.east)).setCell ⟨H, 1, none⟩ (.int .i64 z.north)).setCell ⟨H, 2, none⟩ (.int .i64 z.up)) := by
  obtain ⟨h1, h2, h3, h4, h5, h6, h7, h8⟩ := h
  have n1 : w.heap.size ≠ H := by omega
  have n2 : w.heap.size + 1 ≠ H := by omega
  have n3 : G ≠ H := by omega
  have n4 : L ≠ H := by omega
  have n5 : ∀ g, (Value.slice A2 m c2).ownBlock = some g → ¬ g = H := fun g e => by have := (h6.lt g e).1; omega
  have hw : w.heap.size ≤ H := by omega
  exact ⟨((h1.far n1 _).far n1 _).far n1 _, ((h2.far n2 _).far n2 _).far n2 _, ((h3.far n3 _).far n3 _).far n3 _, ((h4.far n4 _).far n4 _).far n4 _, ((h5.set_ 0 _).set_ 1 _).set_ 2 _, far_row (far_row (far_row h6 n5 _ _) n5 _ _) n5 _ _, ((h7.setCell hw _).setCell hw _).setCell hw _, h8⟩
end
theorem gp_mk {v : World} {G a : Nat} {C : Array Value} {p : Sf} (k0 : C[8 + a * 3]? = some (.int .i64 p.east)) (k1 : C[8 + a * 3 + 1]? = some (.int .i64 p.north)) (k2 : C[8 + a * 3 + 2]? = some (.int .i64 p.up)) (h : Blk v G 66 C) :
    v.cell? ⟨G, 8 + a * 3, none⟩ = some (.int .i64 p.east) ∧ v.cell? ⟨G, 8 + a * 3 + 1, none⟩ = some (.int .i64 p.north) ∧ v.cell? ⟨G, 8 + a * 3 + 2, none⟩ = some (.int .i64 p.up) ∧ Blk v G 66 C := ⟨(h.cell _).trans k0, (h.cell _).trans k1, (h.cell _).trans k2, h⟩
def XPost (lo hi : Sf) (g : Bool) (w : World) (e : Ending) (w' : World) : Prop := e = .returned (.tuple #[.agg #[.int .i64 lo.east, .int .i64 lo.north, .int .i64 lo.up], .agg #[.int .i64 hi.east, .int .i64 hi.north, .int .i64 hi.up], .bool g]) ∧ Below w.heap.size w w'
set_option maxHeartbeats 16000000 in
set_option maxRecDepth 100000 in
theorem ext_any (A : Option Addr) (n cap : Nat) (ts : List Lg) (lo hi : Sf) (g : Bool) (w : World) (hlo : Hid (lowN (netS ts) (netS ts).ps.length = lo)) (hhi : Hid (highN (netS ts) (netS ts).ps.length = hi)) (HG : Hid (goodLg ts = g)) (hn : n ≤ 2000000) (hts : Hid (LgAt w w.heap.size A n ts)) (hT : Hid (Tab w)) :
    Calls Tryd.prog 35 #[.slice A n cap] w (XPost lo hi g w) := by
  obtain ⟨C, HC⟩ : ∃ C, Hid (nv (netS ts) (clS ts) = C) := ⟨_, Lib.hid rfl⟩
  have hcz : C.size = 56 := by rw [← HC.out]; exact nv_size (nok_S ts)
  have HC1 := Lib.hid (show C.all (·.oneCell') = true by rw [← HC.out]; exact nv_one)
  have HNK := Lib.hid (nok_S ts)
  have HQ6 := Lib.hid (q6 ts)
  have HPS := Lib.hid ((ps_S ts).trans (psS ts))
  obtain ⟨N, HNN⟩ : ∃ N, Hid (netS ts = N) := ⟨_, Lib.hid rfl⟩
  obtain ⟨CL, HCL⟩ : ∃ l, Hid (clS ts = l) := ⟨_, Lib.hid rfl⟩
  obtain ⟨m2, HM2⟩ : ∃ m, Hid (N.ps.length = m) := ⟨_, Lib.hid rfl⟩
  rw [HNN.out, HCL.out] at HNK
  rw [HNN.out] at HQ6 HPS hlo hhi
  rw [HM2.out] at hlo hhi
  have HC2 := Lib.hid (show nv N CL = C by rw [← HNN.out, ← HCL.out]; exact HC.out)
  have hp8 : m2 ≤ 8 := by rw [← HM2.out]; exact HQ6.out.2.2.1
  have HA := Lib.hid ((hts.out.alloc (.cells #[.int .i64 0, .int .i64 0, .int .i64 0] 35)).alloc (.cells #[.int .i64 0, .int .i64 0, .int .i64 0] 35))
  have HT0 := Lib.hid ((hT.out.alloc (.cells #[.int .i64 0, .int .i64 0, .int .i64 0] 35)).alloc (.cells #[.int .i64 0, .int .i64 0, .int .i64 0] 35))
  have HB0 := Lib.hid (((Below.refl w.heap.size w).alloc (Nat.le_refl _) (.cells #[.int .i64 0, .int .i64 0, .int .i64 0] 35)).alloc (by simp) (.cells #[.int .i64 0, .int .i64 0, .int .i64 0] 35))
  have HR1 := Lib.hid ((Blk.new w 35 #[.int .i64 0, .int .i64 0, .int .i64 0]).alloc (.cells #[.int .i64 0, .int .i64 0, .int .i64 0] 35))
  have HR2 := Lib.hid (show Blk ((w.alloc (.cells #[.int .i64 0, .int .i64 0, .int .i64 0] 35)).alloc (.cells #[.int .i64 0, .int .i64 0, .int .i64 0] 35)) (w.heap.size + 1) 35 #[.int .i64 0, .int .i64 0, .int .i64 0] by have h := Blk.new (w.alloc (.cells #[.int .i64 0, .int .i64 0, .int .i64 0] 35)) 35 #[.int .i64 0, .int .i64 0, .int .i64 0]; rwa [show (w.alloc (.cells #[.int .i64 0, .int .i64 0, .int .i64 0] 35)).heap.size = w.heap.size + 1 by simp] at h)
  go_enter Tryd.func35, Tryd.ntmps35
  go_wp2_with fail
  refine (net_any A n cap ts C g HC HG _ hn HA HT0).mono ?_
  rintro e w1 ⟨rfl, b1⟩
  have hs1 : w.heap.size + 2 ≤ w1.heap.size := by have := b1.size; simpa using this
  have HB1 := Lib.hid (HB0.out.trans (b1.mono HB0.out.size))
  have HQ1 := Lib.hid (HR1.out.below b1 HR1.out.lt)
  have HQ2 := Lib.hid (HR2.out.below b1 HR2.out.lt)
  clear b1 HB0 HR1 HR2 HA HT0
  have hst := lay_net hcz HC1.out w1
  obtain ⟨G, HGG⟩ : ∃ G, Hid (w1.heap.size = G) := ⟨_, Lib.hid rfl⟩
  obtain ⟨W2, HW2⟩ : ∃ V, Hid (w1.alloc (.cells C 66) = V) := ⟨_, Lib.hid rfl⟩
  have hW2 : W2.heap.size = G + 1 := by rw [← HW2.out, ← HGG.out]; simp
  have HS2 := Lib.hid hW2
  clear hW2
  have HQ12 := Lib.hid (show Blk W2 w.heap.size 35 #[.int .i64 0, .int .i64 0, .int .i64 0] by rw [← HW2.out]; exact HQ1.out.alloc _)
  have HQ22 := Lib.hid (show Blk W2 (w.heap.size + 1) 35 #[.int .i64 0, .int .i64 0, .int .i64 0] by rw [← HW2.out]; exact HQ2.out.alloc _)
  have HG2 := Lib.hid (show Blk W2 G 66 C by rw [← HW2.out, ← HGG.out]; exact Blk.new _ _ _)
  have HB2 := Lib.hid (show Below w.heap.size w W2 by rw [← HW2.out]; exact HB1.out.alloc HB1.out.size _)
  have HGs := Lib.hid (show w.heap.size + 1 < G by rw [← HGG.out]; omega)
  go_upto_region 2 with fail
  clear hst
  try rw [HGG.out]
  try simp only [HGG.out]
  rw [HW2.out]
  clear HW2 HGG HB1 HQ1 HQ2 hs1
  obtain ⟨W3, HW3⟩ : ∃ V, Hid ((W2.alloc (.cells #[.int .i64 0, .int .i64 0, .int .i64 0] 35)).alloc (.cells #[.int .i64 0, .int .i64 0, .int .i64 0] 35) = V) := ⟨_, Lib.hid rfl⟩
  have HQ13 := Lib.hid (show Blk W3 w.heap.size 35 #[.int .i64 0, .int .i64 0, .int .i64 0] by rw [← HW3.out]; exact (HQ12.out.alloc _).alloc _)
  have HQ23 := Lib.hid (show Blk W3 (w.heap.size + 1) 35 #[.int .i64 0, .int .i64 0, .int .i64 0] by rw [← HW3.out]; exact (HQ22.out.alloc _).alloc _)
  have HG3 := Lib.hid (show Blk W3 G 66 C by rw [← HW3.out]; exact (HG2.out.alloc _).alloc _)
  have HL3 := Lib.hid (show Blk W3 (G + 1) 35 #[.int .i64 0, .int .i64 0, .int .i64 0] by rw [← HW3.out, ← HS2.out]; exact (Blk.new _ _ _).alloc _)
  have HH3 := Lib.hid (show Blk W3 (G + 2) 35 #[.int .i64 0, .int .i64 0, .int .i64 0] by rw [← HW3.out]; have h := Blk.new (W2.alloc (.cells #[.int .i64 0, .int .i64 0, .int .i64 0] 35)) 35 #[.int .i64 0, .int .i64 0, .int .i64 0]; rwa [show (W2.alloc (.cells #[.int .i64 0, .int .i64 0, .int .i64 0] 35)).heap.size = G + 2 by simp; have := HS2.out; omega] at h)
  have HB3 := Lib.hid (show Below w.heap.size w W3 by rw [← HW3.out]; exact (HB2.out.alloc HB2.out.size _).alloc (by have := HB2.out.size; simp; omega) _)
  have HS3 := Lib.hid (show W3.heap.size = G + 3 by rw [← HW3.out]; simp; have := HS2.out; omega)
  have hW2 := HS2.out
  go_upto_region 3 with fail
  obtain ⟨H, HHH⟩ : ∃ H, Hid (G + 1 + 1 = H) := ⟨_, Lib.hid rfl⟩
  obtain ⟨L, HLL⟩ : ∃ L, Hid (G + 1 = L) := ⟨_, Lib.hid rfl⟩
  have HH4 := Lib.hid (show Blk W3 H 35 #[.int .i64 0, .int .i64 0, .int .i64 0] by rw [← HHH.out]; exact HH3.out)
  have HL4 := Lib.hid (show Blk W3 L 35 #[.int .i64 0, .int .i64 0, .int .i64 0] by rw [← HLL.out]; exact HL3.out)
  have HOR := Lib.hid (show G < L ∧ L < H ∧ H < W3.heap.size by rw [HS3.out, ← HHH.out, ← HLL.out]; omega)
  rw [HHH.out, HLL.out, HW3.out]
  clear HW3 HHH HLL HH3 HL3 HQ12 HQ22 HG2 HB2 hW2 HS2 HS3
  have HN3 := Lib.hid (show BsAt W3 G 0 (mks 8 N.ps) from bs_ps (cl := CL) (by rw [HC2.out]; exact HG3.out))
  go_wp2_with fail
  refine (marked_any G 0 8 _ _ (Lib.hid (mks_len _ _)) (by decide) HN3).mono ?_
  rintro e w4 ⟨A2, c2, rfl, hO, b4⟩
  rw [HPS.out] at hO ⊢
  rw [HM2.out] at hO ⊢
  obtain ⟨Bz, HBZ⟩ : ∃ B, Hid (W3.heap.size = B) := ⟨_, Lib.hid rfl⟩
  have HX0 := Lib.hid (show XE w G L H Bz A2 m2 c2 (lowN N 0) (highN N 0) C N.ps w4 by
    have o := HOR.out
    have gs := HGs.out
    rw [← HBZ.out]
    exact ⟨HQ13.out.below b4 HQ13.out.lt, HQ23.out.below b4 HQ23.out.lt, HG3.out.below b4 HG3.out.lt, HL4.out.below b4 HL4.out.lt, HH4.out.below b4 HH4.out.lt, hO, HB3.out.trans (b4.mono HB3.out.size), gs, o.1, o.2.1, o.2.2⟩)
  clear hO b4 HQ13 HQ23 HG3 HL4 HH4 HB3 HN3 HBZ HOR HGs
  go_wp2_with fail
  go_loopw [22] (fun i wr => ∃ k : Nat, k ≤ m2 ∧ i = .int .i64 (k : Nat) ∧ XE w G L H Bz A2 m2 c2 (lowN N k) (highN N k) C N.ps wr) (fun i _ => m2 - (intOf i).toNat)
  case atStart => exact ⟨0, Nat.zero_le _, rfl, HX0.out⟩
  case round =>
    obtain ⟨k, hk, rfl, hX⟩ := hrel
    have HX := Lib.hid hX
    clear hX HX0
    have hk0 : (0 : Int) ≤ (k : Int) := by omega
    by_cases hlt : k < m2
    · obtain ⟨x, hx⟩ := at_lt HM2.out hlt
      have hxb := HQ6.out.2.1 x (List.mem_of_getElem? hx)
      obtain ⟨a, rfl⟩ : ∃ a : Nat, x = (a : Int) := ⟨x.toNat, by omega⟩
      have ha8 : (a : Int) < 8 := by omega
      have ha8n : a < 8 := by omega
      have ha0 : (0 : Int) ≤ (a : Int) := by omega
      obtain ⟨p, HPP⟩ : ∃ p, Hid (at_ N.pl (a : Int) = p) := ⟨_, Lib.hid rfl⟩
      obtain ⟨l, HL⟩ : ∃ l, Hid (lowN N k = l) := ⟨_, Lib.hid rfl⟩
      obtain ⟨h, HH⟩ : ∃ h, Hid (highN N k = h) := ⟨_, Lib.hid rfl⟩
      obtain ⟨l2, HL2⟩ : ∃ l2, Hid (lo3 l p = l2) := ⟨_, Lib.hid rfl⟩
      obtain ⟨h2, HH2⟩ : ∃ h2, Hid (hi3 h p = h2) := ⟨_, Lib.hid rfl⟩
      have HLN := Lib.hid (show lowN N (k + 1) = l2 by rw [lowN_succ hx, HL.out, HPP.out, HL2.out])
      have HHN := Lib.hid (show highN N (k + 1) = h2 by rw [highN_succ hx, HH.out, HPP.out, HH2.out])
      rw [HL.out, HH.out] at HX
      have KP := Lib.hid (show C[8 + a * 3]? = some (.int .i64 p.east) ∧ C[8 + a * 3 + 1]? = some (.int .i64 p.north) ∧ C[8 + a * 3 + 2]? = some (.int .i64 p.up) by
        have k := nv_pl HNK.out ha8n
        rwa [HC2.out, HPP.out] at k)
      obtain ⟨g2, rfl, e0⟩ := (ints.IL.of_own HX.out.2.2.2.2.2.1).2 k _ hx
      clear hx hxb
      have hki : (k : Int) < (m2 : Int) := by omega
      have hkd : decide (k < m2) = true := by simpa using hlt
      go_upto_region 6 with fail
      clear e0
      obtain ⟨D1, HD1⟩ : ∃ V, Hid (wr.drew = V) := ⟨_, Lib.hid rfl⟩
      have HXd1 := Lib.hid (show XE w G L H Bz (some ⟨g2, 0, none⟩) m2 c2 l h C N.ps D1 by rw [← HD1.out]; exact HX.out.step (Below.refl _ _).drew)
      have d0 := HXd1.out.2.2.2.1.cell 0
      have d1 := HXd1.out.2.2.2.1.cell 1
      have d2 := HXd1.out.2.2.2.1.cell 2
      refine wp_region_held_drew (S := (fun v => v.cell? ⟨G, 8 + a * 3, none⟩ = some (.int .i64 p.east) ∧ v.cell? ⟨G, 8 + a * 3 + 1, none⟩ = some (.int .i64 p.north) ∧ v.cell? ⟨G, 8 + a * 3 + 2, none⟩ = some (.int .i64 p.up) ∧ Blk v G 66 C)) (by kernel_rfl) ?_ (fun hHeld => ?_)
      · exact (gp_mk KP.out.1 KP.out.2.1 KP.out.2.2 (by rw [HD1.out]; exact HXd1.out.2.2.1))
      rw [HD1.out] at hHeld ⊢
      clear HD1 HX
      refine' wpAnyH_take (i := 1) (v := ?vr1_1) rfl (by kernel_rfl) (by kernel_rfl) (by kernel_rfl) (fun _ _ _ h => h) (Or.inl ⟨by rfl, ?hyr1_1⟩) (by assumption) ?restr1_1
      case hyr1_1 => (intro w hSw; (try dsimp only at hSw); go_simp; try (with_reducible rfl))
      simp only [Act.put, List.getElem_toArray, List.getElem_cons_succ, List.getElem_cons_zero, List.setIfInBounds_toArray, List.set_cons_zero, List.set_cons_succ]
      refine' wpAnyH_take (i := 2) (v := ?vr1_2) rfl (by kernel_rfl) (by kernel_rfl) (by kernel_rfl) (fun _ _ _ h => h) (Or.inl ⟨by rfl, ?hyr1_2⟩) (by assumption) ?restr1_2
      case hyr1_2 => (intro w hSw; (try dsimp only at hSw); go_simp; try (with_reducible rfl))
      simp only [Act.put, List.getElem_toArray, List.getElem_cons_succ, List.getElem_cons_zero, List.setIfInBounds_toArray, List.set_cons_zero, List.set_cons_succ]
      refine' wpAnyH_take (i := 3) (v := ?vr1_3) rfl (by kernel_rfl) (by kernel_rfl) (by kernel_rfl) (fun _ _ _ h => h) (Or.inl ⟨by rfl, ?hyr1_3⟩) (by assumption) ?restr1_3
      case hyr1_3 => (intro w hSw; (try dsimp only at hSw); go_simp; try (with_reducible rfl))
      simp only [Act.put, List.getElem_toArray, List.getElem_cons_succ, List.getElem_cons_zero, List.setIfInBounds_toArray, List.set_cons_zero, List.set_cons_succ]
      refine' wpAnyH_take (i := 4) (v := ?vr1_4) rfl (by kernel_rfl) (by kernel_rfl) (by kernel_rfl) (fun _ _ _ h => h) (Or.inl ⟨by rfl, ?hyr1_4⟩) (by assumption) ?restr1_4
      case hyr1_4 => (intro w hSw; (try dsimp only at hSw); go_simp; try (with_reducible rfl))
      simp only [Act.put, List.getElem_toArray, List.getElem_cons_succ, List.getElem_cons_zero, List.setIfInBounds_toArray, List.set_cons_zero, List.set_cons_succ]
      refine wpAnyH_ready (rs := [0]) (by kernel_rfl) (by simp) ?_
      refine AllReadyH.cons rfl (fun K hK => ?_) AllReadyH.nil
      go_simp
      refine hK.out _ _ (hHeld) (fun hHeld1 => ?_)
      clear hK K hHeld
      have hHeld := hHeld1
      clear hHeld1
      try simp only [Act.put, List.getElem_toArray, List.getElem_cons_succ, List.getElem_cons_zero, List.setIfInBounds_toArray, List.set_cons_zero, List.set_cons_succ]
      clear d0 d1 d2
      refine wpAnyH_ready (rs := [5]) (by kernel_rfl) (by simp) ?_
      refine AllReadyH.cons rfl (fun K hK => ?_) AllReadyH.nil
      go_simp
      refine (least_q3 l p l2 HL2 _).mono ?_
      rintro e w1 ⟨rfl, b5⟩
      have HXc1 := Lib.hid (HXd1.out.step b5)
      refine hK.out _ _ (gp_mk KP.out.1 KP.out.2.1 KP.out.2.2 (hHeld.2.2.2.below b5 hHeld.2.2.2.lt)) (fun hHeld1 => ?_)
      clear hK K hHeld
      have hHeld := hHeld1
      clear hHeld1
      try simp only [Act.put, List.getElem_toArray, List.getElem_cons_succ, List.getElem_cons_zero, List.setIfInBounds_toArray, List.set_cons_zero, List.set_cons_succ]
      clear b5 HXd1
      obtain ⟨t0, t1, t2, lg0, lg1, lg2, lg⟩ := box3 HXc1.out.2.2.2.1
      have HXs1 := Lib.hid (HXc1.out.low l2)
      refine wpAnyH_ready (rs := [6]) (by kernel_rfl) (by simp) ?_
      refine AllReadyH.cons rfl (fun K hK => ?_) AllReadyH.nil
      go_simp
      refine hK.out _ _ (gp_mk KP.out.1 KP.out.2.1 KP.out.2.2 HXs1.out.2.2.1) (fun hHeld1 => ?_)
      clear hK K hHeld
      have hHeld := hHeld1
      clear hHeld1
      try simp only [Act.put, List.getElem_toArray, List.getElem_cons_succ, List.getElem_cons_zero, List.setIfInBounds_toArray, List.set_cons_zero, List.set_cons_succ]
      refine wpAnyH_done (by kernel_rfl) ?_ _
      clear hHeld t0 t1 t2 lg0 lg1 lg2 lg HXc1
      obtain ⟨V1, HV1⟩ : ∃ V, Hid ((((w1.setCell ⟨L, 0, none⟩ (.int .i64 l2.east)).setCell ⟨L, 1, none⟩ (.int .i64 l2.north)).setCell ⟨L, 2, none⟩ (.int .i64 l2.up)) = V) := ⟨_, Lib.hid rfl⟩
      have HX1 := Lib.hid (show XE w G L H Bz (some ⟨g2, 0, none⟩) m2 c2 l2 h C N.ps V1 by rw [← HV1.out]; exact HXs1.out)
      clear HXs1
      go_upto_region 7 with fail
      rw [HV1.out]
      clear HV1
      obtain ⟨D2, HD2⟩ : ∃ V, Hid (V1.drew = V) := ⟨_, Lib.hid rfl⟩
      have HXd2 := Lib.hid (show XE w G L H Bz (some ⟨g2, 0, none⟩) m2 c2 l2 h C N.ps D2 by rw [← HD2.out]; exact HX1.out.step (Below.refl _ _).drew)
      have d0 := HXd2.out.2.2.2.2.1.cell 0
      have d1 := HXd2.out.2.2.2.2.1.cell 1
      have d2 := HXd2.out.2.2.2.2.1.cell 2
      refine wp_region_held_drew (S := (fun v => v.cell? ⟨G, 8 + a * 3, none⟩ = some (.int .i64 p.east) ∧ v.cell? ⟨G, 8 + a * 3 + 1, none⟩ = some (.int .i64 p.north) ∧ v.cell? ⟨G, 8 + a * 3 + 2, none⟩ = some (.int .i64 p.up) ∧ Blk v G 66 C)) (by kernel_rfl) ?_ (fun hHeld => ?_)
      · exact (gp_mk KP.out.1 KP.out.2.1 KP.out.2.2 (by rw [HD2.out]; exact HXd2.out.2.2.1))
      rw [HD2.out] at hHeld ⊢
      clear HD2 HX1
      refine' wpAnyH_take (i := 1) (v := ?vr2_1) rfl (by kernel_rfl) (by kernel_rfl) (by kernel_rfl) (fun _ _ _ h => h) (Or.inl ⟨by rfl, ?hyr2_1⟩) (by assumption) ?restr2_1
      case hyr2_1 => (intro w hSw; (try dsimp only at hSw); go_simp; try (with_reducible rfl))
      simp only [Act.put, List.getElem_toArray, List.getElem_cons_succ, List.getElem_cons_zero, List.setIfInBounds_toArray, List.set_cons_zero, List.set_cons_succ]
      refine' wpAnyH_take (i := 2) (v := ?vr2_2) rfl (by kernel_rfl) (by kernel_rfl) (by kernel_rfl) (fun _ _ _ h => h) (Or.inl ⟨by rfl, ?hyr2_2⟩) (by assumption) ?restr2_2
      case hyr2_2 => (intro w hSw; (try dsimp only at hSw); go_simp; try (with_reducible rfl))
      simp only [Act.put, List.getElem_toArray, List.getElem_cons_succ, List.getElem_cons_zero, List.setIfInBounds_toArray, List.set_cons_zero, List.set_cons_succ]
      refine' wpAnyH_take (i := 3) (v := ?vr2_3) rfl (by kernel_rfl) (by kernel_rfl) (by kernel_rfl) (fun _ _ _ h => h) (Or.inl ⟨by rfl, ?hyr2_3⟩) (by assumption) ?restr2_3
      case hyr2_3 => (intro w hSw; (try dsimp only at hSw); go_simp; try (with_reducible rfl))
      simp only [Act.put, List.getElem_toArray, List.getElem_cons_succ, List.getElem_cons_zero, List.setIfInBounds_toArray, List.set_cons_zero, List.set_cons_succ]
      refine' wpAnyH_take (i := 4) (v := ?vr2_4) rfl (by kernel_rfl) (by kernel_rfl) (by kernel_rfl) (fun _ _ _ h => h) (Or.inl ⟨by rfl, ?hyr2_4⟩) (by assumption) ?restr2_4
      case hyr2_4 => (intro w hSw; (try dsimp only at hSw); go_simp; try (with_reducible rfl))
      simp only [Act.put, List.getElem_toArray, List.getElem_cons_succ, List.getElem_cons_zero, List.setIfInBounds_toArray, List.set_cons_zero, List.set_cons_succ]
      refine wpAnyH_ready (rs := [0]) (by kernel_rfl) (by simp) ?_
      refine AllReadyH.cons rfl (fun K hK => ?_) AllReadyH.nil
      go_simp
      refine hK.out _ _ (hHeld) (fun hHeld1 => ?_)
      clear hK K hHeld
      have hHeld := hHeld1
      clear hHeld1
      try simp only [Act.put, List.getElem_toArray, List.getElem_cons_succ, List.getElem_cons_zero, List.setIfInBounds_toArray, List.set_cons_zero, List.set_cons_succ]
      clear d0 d1 d2
      refine wpAnyH_ready (rs := [5]) (by kernel_rfl) (by simp) ?_
      refine AllReadyH.cons rfl (fun K hK => ?_) AllReadyH.nil
      go_simp
      refine (great_q3 h p h2 HH2 _).mono ?_
      rintro e w2 ⟨rfl, b5⟩
      have HXc2 := Lib.hid (HXd2.out.step b5)
      refine hK.out _ _ (gp_mk KP.out.1 KP.out.2.1 KP.out.2.2 (hHeld.2.2.2.below b5 hHeld.2.2.2.lt)) (fun hHeld1 => ?_)
      clear hK K hHeld
      have hHeld := hHeld1
      clear hHeld1
      try simp only [Act.put, List.getElem_toArray, List.getElem_cons_succ, List.getElem_cons_zero, List.setIfInBounds_toArray, List.set_cons_zero, List.set_cons_succ]
      clear b5 HXd2
      obtain ⟨t0, t1, t2, lg0, lg1, lg2, lg⟩ := box3 HXc2.out.2.2.2.2.1
      have HXs2 := Lib.hid (HXc2.out.high h2)
      refine wpAnyH_ready (rs := [6]) (by kernel_rfl) (by simp) ?_
      refine AllReadyH.cons rfl (fun K hK => ?_) AllReadyH.nil
      go_simp
      refine hK.out _ _ (gp_mk KP.out.1 KP.out.2.1 KP.out.2.2 HXs2.out.2.2.1) (fun hHeld1 => ?_)
      clear hK K hHeld
      have hHeld := hHeld1
      clear hHeld1
      try simp only [Act.put, List.getElem_toArray, List.getElem_cons_succ, List.getElem_cons_zero, List.setIfInBounds_toArray, List.set_cons_zero, List.set_cons_succ]
      refine wpAnyH_done (by kernel_rfl) ?_ _
      clear hHeld t0 t1 t2 lg0 lg1 lg2 lg HXc2
      obtain ⟨V2, HV2⟩ : ∃ V, Hid ((((w2.setCell ⟨H, 0, none⟩ (.int .i64 h2.east)).setCell ⟨H, 1, none⟩ (.int .i64 h2.north)).setCell ⟨H, 2, none⟩ (.int .i64 h2.up)) = V) := ⟨_, Lib.hid rfl⟩
      have HX2 := Lib.hid (show XE w G L H Bz (some ⟨g2, 0, none⟩) m2 c2 l2 h2 C N.ps V2 by rw [← HV2.out]; exact HXs2.out)
      clear HXs2
      go_wp2_with fail
      rw [HV2.out]
      clear HV2
      go_roundw
      case rel => exact ⟨k + 1, by omega, by go_num, by rw [HLN.out, HHN.out]; exact HX2.out⟩
      case measure => simp [intOf]; omega
    · have hkd : decide (k < m2) = false := by simpa using hlt
      obtain rfl : m2 = k := by omega
      rw [hlo.out, hhi.out] at HX
      obtain ⟨t0, t1, t2, lg0, lg1, lg2, lg⟩ := box3 HX.out.2.2.2.1
      obtain ⟨y0, y1, y2, hg0, hg1, hg2, hhg⟩ := box3 HX.out.2.2.2.2.1
      obtain ⟨r0, r1, r2, rf0, rf1, rf2, rl⟩ := box0 HX.out.1
      obtain ⟨s0, s1, s2, sf0, sf1, sf2, sl⟩ := box0 HX.out.2.1
      have hL := HX.out.2.2.2.2.2.2.2
      clear hlt
      go_wp2_with fail
      go_region
      go_wp2_with fail
      have hb := Lib.hid HX.out.2.2.2.2.2.2.1
      have HQ1 := Lib.hid HX.out.1
      have HQ2 := Lib.hid HX.out.2.1
      obtain ⟨Z, HZ, HZ1, HZ2, HZ3⟩ : ∃ Z, Hid ((((((((wr.setCell ⟨w.heap.size, 0, none⟩ (.int .i64 lo.east)).setCell ⟨w.heap.size, 1, none⟩ (.int .i64 lo.north)).setCell ⟨w.heap.size, 2, none⟩ (.int .i64 lo.up)).setCell ⟨(w.heap.size + 1), 0, none⟩ (.int .i64 hi.east)).setCell ⟨(w.heap.size + 1), 1, none⟩ (.int .i64 hi.north)).setCell ⟨(w.heap.size + 1), 2, none⟩ (.int .i64 hi.up))).drew = Z) ∧ Hid (Blk Z w.heap.size 35 #[.int .i64 lo.east, .int .i64 lo.north, .int .i64 lo.up]) ∧ Hid (Blk Z (w.heap.size + 1) 35 #[.int .i64 hi.east, .int .i64 hi.north, .int .i64 hi.up]) ∧ Hid (Below w.heap.size w Z) := by
        have n1 : w.heap.size ≠ w.heap.size + 1 := by omega
        have n2 : w.heap.size + 1 ≠ w.heap.size := by omega
        have q1 := ((((((HQ1.out.set_ 0 (.int .i64 lo.east)).set_ 1 (.int .i64 lo.north)).set_ 2 (.int .i64 lo.up)).far (p := ⟨w.heap.size + 1, 0, none⟩) n1 (.int .i64 hi.east)).far (p := ⟨w.heap.size + 1, 1, none⟩) n1 (.int .i64 hi.north)).far (p := ⟨w.heap.size + 1, 2, none⟩) n1 (.int .i64 hi.up))
        have q2 := ((((((HQ2.out.far (p := ⟨w.heap.size, 0, none⟩) n2 (.int .i64 lo.east)).far (p := ⟨w.heap.size, 1, none⟩) n2 (.int .i64 lo.north)).far (p := ⟨w.heap.size, 2, none⟩) n2 (.int .i64 lo.up)).set_ 0 (.int .i64 hi.east)).set_ 1 (.int .i64 hi.north)).set_ 2 (.int .i64 hi.up))
        have q3 := ((((((hb.out.setCell (p := ⟨w.heap.size, 0, none⟩) (by show _ ≤ w.heap.size; omega) (.int .i64 lo.east)).setCell (p := ⟨w.heap.size, 1, none⟩) (by show _ ≤ w.heap.size; omega) (.int .i64 lo.north)).setCell (p := ⟨w.heap.size, 2, none⟩) (by show _ ≤ w.heap.size; omega) (.int .i64 lo.up)).setCell (p := ⟨w.heap.size + 1, 0, none⟩) (by show _ ≤ w.heap.size + 1; omega) (.int .i64 hi.east)).setCell (p := ⟨w.heap.size + 1, 1, none⟩) (by show _ ≤ w.heap.size + 1; omega) (.int .i64 hi.north)).setCell (p := ⟨w.heap.size + 1, 2, none⟩) (by show _ ≤ w.heap.size + 1; omega) (.int .i64 hi.up))
        exact ⟨_, Lib.hid rfl, Lib.hid (q1.below (Below.refl _ _).drew q1.lt), Lib.hid (q2.below (Below.refl _ _).drew q2.lt), Lib.hid q3.drew⟩
      rw [HZ.out]
      clear HZ HX HQ1 HQ2 hb
      obtain ⟨c0, c1, c2, cf0, cf1, cf2, cl⟩ := box3 HZ1.out
      obtain ⟨d0, d1, d2, df0, df1, df2, dl⟩ := box3 HZ2.out
      exact bodyPost_ret (v := .tuple #[.agg #[.int .i64 lo.east, .int .i64 lo.north, .int .i64 lo.up], .agg #[.int .i64 hi.east, .int .i64 hi.north, .int .i64 hi.up], .bool g]) (by simp [results, Tryd.results35, go_sem, c0, c1, c2, d0, d1, d2]) rfl ⟨rfl, HZ3.out⟩
theorem extentOf_impl (A : Option Addr) (n cap : Nat) (ts : List Lg) (w : World) (hn : n ≤ 2000000) (hts : Hid (LgAt w w.heap.size A n ts)) (hT : Hid (Tab w)) :
    Calls Tryd.prog 35 #[.slice A n cap] w (APost (ansEx ts) w) := by
  refine (ext_any A n cap ts _ _ _ w (Lib.hid rfl) (Lib.hid rfl) (Lib.hid rfl) hn hts hT).mono ?_
  rintro e w' ⟨rfl, b⟩
  refine ⟨?_, b⟩
  unfold ansEx netS lowV highV
  cases goodLg ts <;> rfl
set_option maxHeartbeats 16000000 in
set_option maxRecDepth 100000 in
theorem depthOf_impl (A : Option Addr) (n cap : Nat) (ts : List Lg) (w : World) (hn : n ≤ 2000000) (hts : Hid (LgAt w w.heap.size A n ts)) (hT : Hid (Tab w)) :
    Calls Tryd.prog 33 #[.slice A n cap] w (APost (ansDe ts) w) := by
  obtain ⟨lo, HLO⟩ : ∃ z, Hid (lowN (netS ts) (netS ts).ps.length = z) := ⟨_, Lib.hid rfl⟩
  obtain ⟨hi, HHI⟩ : ∃ z, Hid (highN (netS ts) (netS ts).ps.length = z) := ⟨_, Lib.hid rfl⟩
  obtain ⟨g, HG⟩ : ∃ g, Hid (goodLg ts = g) := ⟨_, Lib.hid rfl⟩
  have hbd : Bd4 lo ∧ Bd4 hi := by
    rw [← HLO.out, ← HHI.out]
    unfold netS
    cases h : goodLg ts
    · constructor <;> (show Bd4 zero3; unfold Bd4 zero3; decide)
    · exact ext_bd (ok_net h) _
  have HF := Lib.hid (show ansDe ts = .tuple #[.int .i64 (hi.up - lo.up), .bool g] by
    rw [← HLO.out, ← HHI.out]
    unfold ansDe netS lowV highV
    rw [HG.out]
    cases g <;> rfl)
  obtain ⟨⟨-, -, a0, a1⟩, -, -, b0, b1⟩ := hbd
  go_enter Tryd.func33, Tryd.ntmps33
  go_wp2_with fail
  refine (ext_any A n cap ts lo hi g w HLO HHI HG hn hts hT).mono ?_
  rintro e w1 ⟨rfl, b⟩
  have HB := Lib.hid b
  have hs := b.size
  clear b
  go_wp2_with fail
  go_ret2
  exact ⟨by rw [HF.out]; rfl, (HB.out.alloc hs _).alloc (by simp; omega) _⟩
#print axioms depthOf_impl
end Go.Proofs.YtnoieboiklmkaaaDoor.nq
