/-
  The extent and the depth, by the program.
  Small helpers of the laws: a great code, equal lists of ints.
  The last step of a law's row where the call leaves a world of which no more is known than that nothing old has turned.
  A law over code: what is live all along; lists of ints compared.
  Small helpers of the laws: whether a list of ints has one, whether all of a list lie in another.
  FnResiduals: the contracts in letters.
  A closing leg is drawn.
  The draws of chapter 9: legs with an axis, legs alone.
  Conditions: those that each theorem names.
-/
import Derived.Test.YtiimegmaokfpgabGreatDoorNtLq
import Derived.Test.YtiimegmaokfpgabGreatDoorNtHq
import Derived.Deep.RegionHeld3
import Derived.Test.YtiimegmaokfpgabGreatDoorIntV
import Derived.WalkKit
import Derived.Deep.QuietTactic
import Derived.BigQuiet
import Derived.LoopTactic
import Derived.Below
import Derived.ChangeSame
import Derived.Deep.Draws
import Derived.Test.YtiimegmaokfpgabGreatDoorTyLeg
import Derived.Test.YtiimegmaokfpgabGreatDoorBase
import Derived.Test.YtiimegmaokfpgabGreatDoorCurs
import Derived.Test.YtiimegmaokfpgabGreatDoorSinI
import Derived.Test.YtiimegmaokfpgabGreatDoorRowI
import Derived.Test.YtiimegmaokfpgabGreatDoorHas
import Derived.Test.YtiimegmaokfpgabGreatDoorDcN
import Derived.Test.YtiimegmaokfpgabGreatDoorKuMq
namespace Go.Proofs.YtiimegmaokfpgabGreatDoor.nq
open Go.RowKit
open reads base ty lg lgi win hs nt rowi sn
set_option linter.unusedVariables false
set_option linter.unusedSimpArgs false

/-- two boxes for the answer, the network, the least and the greatest so far, the placed stations -/
def XE (w : World) (G L H Bz : Nat) (A2 : Option Addr) (m c2 : Nat) (lo hi : Sf) (C : Array Value) (ps : List Int) (v : World) : Prop :=
  Blk v w.heap.size 72 #[.int .i64 0, .int .i64 0, .int .i64 0] ∧ Blk v (w.heap.size + 1) 72 #[.int .i64 0, .int .i64 0, .int .i64 0] ∧ Blk v G 76 C ∧ Blk v L 72 #[.int .i64 lo.east, .int .i64 lo.north, .int .i64 lo.up] ∧ Blk v H 72 #[.int .i64 hi.east, .int .i64 hi.north, .int .i64 hi.up] ∧ v.ownsRow Bz 3 1 (.slice A2 m c2) m (ints.intsV ps) ∧ Below w.heap.size w v ∧ (w.heap.size + 1 < G ∧ G < L ∧ L < H ∧ H < Bz)
section
variable {w v v' : World} {G L H Bz : Nat} {A2 : Option Addr} {m c2 : Nat} {lo hi : Sf} {C : Array Value} {ps : List Int}
theorem XE.step (h : XE w G L H Bz A2 m c2 lo hi C ps v) (hb : Below v.heap.size v v') : XE w G L H Bz A2 m c2 lo hi C ps v' := by
  obtain ⟨h1, h2, h3, h4, h5, h6, h7, h8⟩ := h
  exact ⟨h1.below hb h1.lt, h2.below hb h2.lt, h3.below hb h3.lt, h4.below hb h4.lt, h5.below hb h5.lt, row_below h6 hb, h7.trans (hb.mono h7.size), h8⟩
theorem XE.low (h : XE w G L H Bz A2 m c2 lo hi C ps v) (z : Sf) : XE w G L H Bz A2 m c2 z hi C ps (((v.setCell ⟨L, 0, none⟩ (.int .i64 z.east)).setCell ⟨L, 1, none⟩ (.int .i64 z.north)).setCell ⟨L, 2, none⟩ (.int .i64 z.up)) := by
  obtain ⟨h1, h2, h3, h4, h5, h6, h7, h8⟩ := h
  have n1 : w.heap.size ≠ L := by omega
  have n2 : w.heap.size + 1 ≠ L := by omega
  have n3 : G ≠ L := by omega
  have n4 : H ≠ L := by omega
  have n5 : ∀ g, (Value.slice A2 m c2).ownBlock = some g → ¬ g = L := fun g e => by have := (h6.lt g e).1; omega
  have hw : w.heap.size ≤ L := by omega
  exact ⟨((h1.far n1 _).far n1 _).far n1 _, ((h2.far n2 _).far n2 _).far n2 _, ((h3.far n3 _).far n3 _).far n3 _, ((h4.set_ 0 _).set_ 1 _).set_ 2 _, ((h5.far n4 _).far n4 _).far n4 _, far_row (far_row (far_row h6 n5 _ _) n5 _ _) n5 _ _, ((h7.setCell hw _).setCell hw _).setCell hw _, h8⟩
theorem XE.high (h : XE w G L H Bz A2 m c2 lo hi C ps v) (z : Sf) : XE w G L H Bz A2 m c2 lo z C ps (((v.setCell ⟨H, 0, none⟩ (.int .i64 z.east)).setCell ⟨H, 1, none⟩ (.int .i64 z.north)).setCell ⟨H, 2, none⟩ (.int .i64 z.up)) := by
  obtain ⟨h1, h2, h3, h4, h5, h6, h7, h8⟩ := h
  have n1 : w.heap.size ≠ H := by omega
  have n2 : w.heap.size + 1 ≠ H := by omega
  have n3 : G ≠ H := by omega
  have n4 : L ≠ H := by omega
  have n5 : ∀ g, (Value.slice A2 m c2).ownBlock = some g → ¬ g = H := fun g e => by have := (h6.lt g e).1; omega
  have hw : w.heap.size ≤ H := by omega
  exact ⟨((h1.far n1 _).far n1 _).far n1 _, ((h2.far n2 _).far n2 _).far n2 _, ((h3.far n3 _).far n3 _).far n3 _, ((h4.far n4 _).far n4 _).far n4 _, ((h5.set_ 0 _).set_ 1 _).set_ 2 _, far_row (far_row (far_row h6 n5 _ _) n5 _ _) n5 _ _, ((h7.setCell hw _).setCell hw _).setCell hw _, h8⟩
end
theorem gp_mk {v : World} {G a : Nat} {C : Array Value} {p : Sf} (k0 : C[8 + a * 3]? = some (.int .i64 p.east)) (k1 : C[8 + a * 3 + 1]? = some (.int .i64 p.north)) (k2 : C[8 + a * 3 + 2]? = some (.int .i64 p.up)) (h : Blk v G 76 C) :
    v.cell? ⟨G, 8 + a * 3, none⟩ = some (.int .i64 p.east) ∧ v.cell? ⟨G, 8 + a * 3 + 1, none⟩ = some (.int .i64 p.north) ∧ v.cell? ⟨G, 8 + a * 3 + 2, none⟩ = some (.int .i64 p.up) ∧ Blk v G 76 C := ⟨(h.cell _).trans k0, (h.cell _).trans k1, (h.cell _).trans k2, h⟩
def XPost (lo hi : Sf) (g : Bool) (w : World) (e : Ending) (w' : World) : Prop := e = .returned (.tuple #[.agg #[.int .i64 lo.east, .int .i64 lo.north, .int .i64 lo.up], .agg #[.int .i64 hi.east, .int .i64 hi.north, .int .i64 hi.up], .bool g]) ∧ Below w.heap.size w w'
set_option maxHeartbeats 16000000 in
set_option maxRecDepth 100000 in
theorem ext_any (A : Option Addr) (n cap : Nat) (ts : List Lg) (lo hi : Sf) (g : Bool) (w : World) (hlo : Hid (lowN (netS ts) (netS ts).ps.length = lo)) (hhi : Hid (highN (netS ts) (netS ts).ps.length = hi)) (HG : Hid (goodLg ts = g)) (hn : n ≤ 2000000) (hts : Hid (LgAt w w.heap.size A n ts)) (hT : Hid (Tab w)) :
    Calls Tryz.prog 97 #[.slice A n cap] w (XPost lo hi g w) := by
  obtain ⟨C, HC⟩ : ∃ C, Hid (nv (netS ts) (clS ts) = C) := ⟨_, Lib.hid rfl⟩
  have hcz : C.size = 56 := by rw [← HC.out]; exact nv_size (nok_S ts)
  have HC1 := Lib.hid (show C.all (·.oneCell') = true by rw [← HC.out]; exact nv_one)
  have HNK := Lib.hid (nok_S ts)
  have HQ6 := Lib.hid (q6 ts)
  have HPS := Lib.hid ((ps_S ts).trans (psS ts))
  obtain ⟨N, HNN⟩ : ∃ N, Hid (netS ts = N) := ⟨_, Lib.hid rfl⟩
  obtain ⟨CL, HCL⟩ : ∃ l, Hid (clS ts = l) := ⟨_, Lib.hid rfl⟩
  obtain ⟨m2, HM2⟩ : ∃ m, Hid (N.ps.length = m) := ⟨_, Lib.hid rfl⟩
  rw [HNN.out, HCL.out] at HNK
  rw [HNN.out] at HQ6 HPS hlo hhi
  rw [HM2.out] at hlo hhi
  have HC2 := Lib.hid (show nv N CL = C by rw [← HNN.out, ← HCL.out]; exact HC.out)
  have hp8 : m2 ≤ 8 := by rw [← HM2.out]; exact HQ6.out.2.2.1
  have HA := Lib.hid ((hts.out.alloc (.cells #[.int .i64 0, .int .i64 0, .int .i64 0] 72)).alloc (.cells #[.int .i64 0, .int .i64 0, .int .i64 0] 72))
  have HT0 := Lib.hid ((hT.out.alloc (.cells #[.int .i64 0, .int .i64 0, .int .i64 0] 72)).alloc (.cells #[.int .i64 0, .int .i64 0, .int .i64 0] 72))
  have HB0 := Lib.hid (((Below.refl w.heap.size w).alloc (Nat.le_refl _) (.cells #[.int .i64 0, .int .i64 0, .int .i64 0] 72)).alloc (by simp) (.cells #[.int .i64 0, .int .i64 0, .int .i64 0] 72))
  have HR1 := Lib.hid ((Blk.new w 72 #[.int .i64 0, .int .i64 0, .int .i64 0]).alloc (.cells #[.int .i64 0, .int .i64 0, .int .i64 0] 72))
  have HR2 := Lib.hid (show Blk ((w.alloc (.cells #[.int .i64 0, .int .i64 0, .int .i64 0] 72)).alloc (.cells #[.int .i64 0, .int .i64 0, .int .i64 0] 72)) (w.heap.size + 1) 72 #[.int .i64 0, .int .i64 0, .int .i64 0] by have h := Blk.new (w.alloc (.cells #[.int .i64 0, .int .i64 0, .int .i64 0] 72)) 72 #[.int .i64 0, .int .i64 0, .int .i64 0]; rwa [show (w.alloc (.cells #[.int .i64 0, .int .i64 0, .int .i64 0] 72)).heap.size = w.heap.size + 1 by simp] at h)
  go_enter Tryz.func97, Tryz.ntmps97
  go_wp2_with fail
  refine (net_any A n cap ts C g HC HG _ hn HA HT0).mono ?_
  rintro e w1 ⟨rfl, b1⟩
  have hs1 : w.heap.size + 2 ≤ w1.heap.size := by have := b1.size; simpa using this
  have HB1 := Lib.hid (HB0.out.trans (b1.mono HB0.out.size))
  have HQ1 := Lib.hid (HR1.out.below b1 HR1.out.lt)
  have HQ2 := Lib.hid (HR2.out.below b1 HR2.out.lt)
  clear b1 HB0 HR1 HR2 HA HT0
  have hst := lay_net hcz HC1.out w1
  obtain ⟨G, HGG⟩ : ∃ G, Hid (w1.heap.size = G) := ⟨_, Lib.hid rfl⟩
  obtain ⟨W2, HW2⟩ : ∃ V, Hid (w1.alloc (.cells C 76) = V) := ⟨_, Lib.hid rfl⟩
  have hW2 : W2.heap.size = G + 1 := by rw [← HW2.out, ← HGG.out]; simp
  have HS2 := Lib.hid hW2
  clear hW2
  have HQ12 := Lib.hid (show Blk W2 w.heap.size 72 #[.int .i64 0, .int .i64 0, .int .i64 0] by rw [← HW2.out]; exact HQ1.out.alloc _)
  have HQ22 := Lib.hid (show Blk W2 (w.heap.size + 1) 72 #[.int .i64 0, .int .i64 0, .int .i64 0] by rw [← HW2.out]; exact HQ2.out.alloc _)
  have HG2 := Lib.hid (show Blk W2 G 76 C by rw [← HW2.out, ← HGG.out]; exact Blk.new _ _ _)
  have HB2 := Lib.hid (show Below w.heap.size w W2 by rw [← HW2.out]; exact HB1.out.alloc HB1.out.size _)
  have HGs := Lib.hid (show w.heap.size + 1 < G by rw [← HGG.out]; omega)
  go_upto_region 2 with fail
  clear hst
  try rw [HGG.out]
  try simp only [HGG.out]
  rw [HW2.out]
  clear HW2 HGG HB1 HQ1 HQ2 hs1
  obtain ⟨W3, HW3⟩ : ∃ V, Hid ((W2.alloc (.cells #[.int .i64 0, .int .i64 0, .int .i64 0] 72)).alloc (.cells #[.int .i64 0, .int .i64 0, .int .i64 0] 72) = V) := ⟨_, Lib.hid rfl⟩
  have HQ13 := Lib.hid (show Blk W3 w.heap.size 72 #[.int .i64 0, .int .i64 0, .int .i64 0] by rw [← HW3.out]; exact (HQ12.out.alloc _).alloc _)
  have HQ23 := Lib.hid (show Blk W3 (w.heap.size + 1) 72 #[.int .i64 0, .int .i64 0, .int .i64 0] by rw [← HW3.out]; exact (HQ22.out.alloc _).alloc _)
  have HG3 := Lib.hid (show Blk W3 G 76 C by rw [← HW3.out]; exact (HG2.out.alloc _).alloc _)
  have HL3 := Lib.hid (show Blk W3 (G + 1) 72 #[.int .i64 0, .int .i64 0, .int .i64 0] by rw [← HW3.out, ← HS2.out]; exact (Blk.new _ _ _).alloc _)
  have HH3 := Lib.hid (show Blk W3 (G + 2) 72 #[.int .i64 0, .int .i64 0, .int .i64 0] by rw [← HW3.out]; have h := Blk.new (W2.alloc (.cells #[.int .i64 0, .int .i64 0, .int .i64 0] 72)) 72 #[.int .i64 0, .int .i64 0, .int .i64 0]; rwa [show (W2.alloc (.cells #[.int .i64 0, .int .i64 0, .int .i64 0] 72)).heap.size = G + 2 by simp; have := HS2.out; omega] at h)
  have HB3 := Lib.hid (show Below w.heap.size w W3 by rw [← HW3.out]; exact (HB2.out.alloc HB2.out.size _).alloc (by have := HB2.out.size; simp; omega) _)
  have HS3 := Lib.hid (show W3.heap.size = G + 3 by rw [← HW3.out]; simp; have := HS2.out; omega)
  have hW2 := HS2.out
  go_upto_region 3 with fail
  obtain ⟨H, HHH⟩ : ∃ H, Hid (G + 1 + 1 = H) := ⟨_, Lib.hid rfl⟩
  obtain ⟨L, HLL⟩ : ∃ L, Hid (G + 1 = L) := ⟨_, Lib.hid rfl⟩
  have HH4 := Lib.hid (show Blk W3 H 72 #[.int .i64 0, .int .i64 0, .int .i64 0] by rw [← HHH.out]; exact HH3.out)
  have HL4 := Lib.hid (show Blk W3 L 72 #[.int .i64 0, .int .i64 0, .int .i64 0] by rw [← HLL.out]; exact HL3.out)
  have HOR := Lib.hid (show G < L ∧ L < H ∧ H < W3.heap.size by rw [HS3.out, ← HHH.out, ← HLL.out]; omega)
  rw [HHH.out, HLL.out, HW3.out]
  clear HW3 HHH HLL HH3 HL3 HQ12 HQ22 HG2 HB2 hW2 HS2 HS3
  have HN3 := Lib.hid (show BsAt W3 G 0 (mks 8 N.ps) from bs_ps (cl := CL) (by rw [HC2.out]; exact HG3.out))
  go_wp2_with fail
  refine (marked_any G 0 8 _ _ (Lib.hid (mks_len _ _)) (by decide) HN3).mono ?_
  rintro e w4 ⟨A2, c2, rfl, hO, b4⟩
  rw [HPS.out] at hO ⊢
  rw [HM2.out] at hO ⊢
  obtain ⟨Bz, HBZ⟩ : ∃ B, Hid (W3.heap.size = B) := ⟨_, Lib.hid rfl⟩
  have HX0 := Lib.hid (show XE w G L H Bz A2 m2 c2 (lowN N 0) (highN N 0) C N.ps w4 by
    have o := HOR.out
    have gs := HGs.out
    rw [← HBZ.out]
    exact ⟨HQ13.out.below b4 HQ13.out.lt, HQ23.out.below b4 HQ23.out.lt, HG3.out.below b4 HG3.out.lt, HL4.out.below b4 HL4.out.lt, HH4.out.below b4 HH4.out.lt, hO, HB3.out.trans (b4.mono HB3.out.size), gs, o.1, o.2.1, o.2.2⟩)
  clear hO b4 HQ13 HQ23 HG3 HL4 HH4 HB3 HN3 HBZ HOR HGs
  go_wp2_with fail
  go_loopw [22] (fun i wr => ∃ k : Nat, k ≤ m2 ∧ i = .int .i64 (k : Nat) ∧ XE w G L H Bz A2 m2 c2 (lowN N k) (highN N k) C N.ps wr) (fun i _ => m2 - (intOf i).toNat)
  case atStart => exact ⟨0, Nat.zero_le _, rfl, HX0.out⟩
  case round =>
    obtain ⟨k, hk, rfl, hX⟩ := hrel
    have HX := Lib.hid hX
    clear hX HX0
    have hk0 : (0 : Int) ≤ (k : Int) := by omega
    by_cases hlt : k < m2
    · obtain ⟨x, hx⟩ := at_lt HM2.out hlt
      have hxb := HQ6.out.2.1 x (List.mem_of_getElem? hx)
      obtain ⟨a, rfl⟩ : ∃ a : Nat, x = (a : Int) := ⟨x.toNat, by omega⟩
      have ha8 : (a : Int) < 8 := by omega
      have ha8n : a < 8 := by omega
      have ha0 : (0 : Int) ≤ (a : Int) := by omega
      obtain ⟨p, HPP⟩ : ∃ p, Hid (at_ N.pl (a : Int) = p) := ⟨_, Lib.hid rfl⟩
      obtain ⟨l, HL⟩ : ∃ l, Hid (lowN N k = l) := ⟨_, Lib.hid rfl⟩
      obtain ⟨h, HH⟩ : ∃ h, Hid (highN N k = h) := ⟨_, Lib.hid rfl⟩
      obtain ⟨l2, HL2⟩ : ∃ l2, Hid (lo3 l p = l2) := ⟨_, Lib.hid rfl⟩
      obtain ⟨h2, HH2⟩ : ∃ h2, Hid (hi3 h p = h2) := ⟨_, Lib.hid rfl⟩
      have HLN := Lib.hid (show lowN N (k + 1) = l2 by rw [lowN_succ hx, HL.out, HPP.out, HL2.out])
      have HHN := Lib.hid (show highN N (k + 1) = h2 by rw [highN_succ hx, HH.out, HPP.out, HH2.out])
      rw [HL.out, HH.out] at HX
      have KP := Lib.hid (show C[8 + a * 3]? = some (.int .i64 p.east) ∧ C[8 + a * 3 + 1]? = some (.int .i64 p.north) ∧ C[8 + a * 3 + 2]? = some (.int .i64 p.up) by
        have k := nv_pl HNK.out ha8n
        rwa [HC2.out, HPP.out] at k)
      obtain ⟨g2, rfl, e0⟩ := (ints.IL.of_own HX.out.2.2.2.2.2.1).2 k _ hx
      clear hx hxb
      have hki : (k : Int) < (m2 : Int) := by omega
      have hkd : decide (k < m2) = true := by simpa using hlt
      go_upto_region 6 with fail
      clear e0
      obtain ⟨D1, HD1⟩ : ∃ V, Hid (wr.drew = V) := ⟨_, Lib.hid rfl⟩
      have HXd1 := Lib.hid (show XE w G L H Bz (some ⟨g2, 0, none⟩) m2 c2 l h C N.ps D1 by rw [← HD1.out]; exact HX.out.step (Below.refl _ _).drew)
      have d0 := HXd1.out.2.2.2.1.cell 0
      have d1 := HXd1.out.2.2.2.1.cell 1
      have d2 := HXd1.out.2.2.2.1.cell 2
      refine wp_region_held_drew (S := (fun v => v.cell? ⟨G, 8 + a * 3, none⟩ = some (.int .i64 p.east) ∧ v.cell? ⟨G, 8 + a * 3 + 1, none⟩ = some (.int .i64 p.north) ∧ v.cell? ⟨G, 8 + a * 3 + 2, none⟩ = some (.int .i64 p.up) ∧ Blk v G 76 C)) (by kernel_rfl) ?_ (fun hHeld => ?_)
      · exact (gp_mk KP.out.1 KP.out.2.1 KP.out.2.2 (by rw [HD1.out]; exact HXd1.out.2.2.1))
      rw [HD1.out] at hHeld ⊢
      clear HD1 HX
      refine' wpAnyH_take (i := 1) (v := ?vr1_1) rfl (by kernel_rfl) (by kernel_rfl) (by kernel_rfl) (fun _ _ _ h => h) (Or.inl ⟨by rfl, ?hyr1_1⟩) (by assumption) ?restr1_1
      case hyr1_1 => (intro w hSw; (try dsimp only at hSw); go_simp; try (with_reducible rfl))
      simp only [Act.put, List.getElem_toArray, List.getElem_cons_succ, List.getElem_cons_zero, List.setIfInBounds_toArray, List.set_cons_zero, List.set_cons_succ]
      refine' wpAnyH_take (i := 2) (v := ?vr1_2) rfl (by kernel_rfl) (by kernel_rfl) (by kernel_rfl) (fun _ _ _ h => h) (Or.inl ⟨by rfl, ?hyr1_2⟩) (by assumption) ?restr1_2
      case hyr1_2 => (intro w hSw; (try dsimp only at hSw); go_simp; try (with_reducible rfl))
      simp only [Act.put, List.getElem_toArray, List.getElem_cons_succ, List.getElem_cons_zero, List.setIfInBounds_toArray, List.set_cons_zero, List.set_cons_succ]
      refine' wpAnyH_take (i := 3) (v := ?vr1_3) rfl (by kernel_rfl) (by kernel_rfl) (by kernel_rfl) (fun _ _ _ h => h) (Or.inl ⟨by rfl, ?hyr1_3⟩) (by assumption) ?restr1_3
      case hyr1_3 => (intro w hSw; (try dsimp only at hSw); go_simp; try (with_reducible rfl))
      simp only [Act.put, List.getElem_toArray, List.getElem_cons_succ, List.getElem_cons_zero, List.setIfInBounds_toArray, List.set_cons_zero, List.set_cons_succ]
      refine' wpAnyH_take (i := 4) (v := ?vr1_4) rfl (by kernel_rfl) (by kernel_rfl) (by kernel_rfl) (fun _ _ _ h => h) (Or.inl ⟨by rfl, ?hyr1_4⟩) (by assumption) ?restr1_4
      case hyr1_4 => (intro w hSw; (try dsimp only at hSw); go_simp; try (with_reducible rfl))
      simp only [Act.put, List.getElem_toArray, List.getElem_cons_succ, List.getElem_cons_zero, List.setIfInBounds_toArray, List.set_cons_zero, List.set_cons_succ]
      refine wpAnyH_ready (rs := [0]) (by kernel_rfl) (by simp) ?_
      refine AllReadyH.cons rfl (fun K hK => ?_) AllReadyH.nil
      go_simp
      refine hK.out _ _ (hHeld) (fun hHeld1 => ?_)
      clear hK K hHeld
      have hHeld := hHeld1
      clear hHeld1
      try simp only [Act.put, List.getElem_toArray, List.getElem_cons_succ, List.getElem_cons_zero, List.setIfInBounds_toArray, List.set_cons_zero, List.set_cons_succ]
      clear d0 d1 d2
      refine wpAnyH_ready (rs := [5]) (by kernel_rfl) (by simp) ?_
      refine AllReadyH.cons rfl (fun K hK => ?_) AllReadyH.nil
      go_simp
      refine (least_q3 l p l2 HL2 _).mono ?_
      rintro e w1 ⟨rfl, b5⟩
      have HXc1 := Lib.hid (HXd1.out.step b5)
      refine hK.out _ _ (gp_mk KP.out.1 KP.out.2.1 KP.out.2.2 (hHeld.2.2.2.below b5 hHeld.2.2.2.lt)) (fun hHeld1 => ?_)
      clear hK K hHeld
      have hHeld := hHeld1
      clear hHeld1
      try simp only [Act.put, List.getElem_toArray, List.getElem_cons_succ, List.getElem_cons_zero, List.setIfInBounds_toArray, List.set_cons_zero, List.set_cons_succ]
      clear b5 HXd1
      obtain ⟨t0, t1, t2, lg0, lg1, lg2, lg⟩ := box3 HXc1.out.2.2.2.1
      have HXs1 := Lib.hid (HXc1.out.low l2)
      refine wpAnyH_ready (rs := [6]) (by kernel_rfl) (by simp) ?_
      refine AllReadyH.cons rfl (fun K hK => ?_) AllReadyH.nil
      go_simp
      refine hK.out _ _ (gp_mk KP.out.1 KP.out.2.1 KP.out.2.2 HXs1.out.2.2.1) (fun hHeld1 => ?_)
      clear hK K hHeld
      have hHeld := hHeld1
      clear hHeld1
      try simp only [Act.put, List.getElem_toArray, List.getElem_cons_succ, List.getElem_cons_zero, List.setIfInBounds_toArray, List.set_cons_zero, List.set_cons_succ]
      refine wpAnyH_done (by kernel_rfl) ?_ _
      clear hHeld t0 t1 t2 lg0 lg1 lg2 lg HXc1
      obtain ⟨V1, HV1⟩ : ∃ V, Hid ((((w1.setCell ⟨L, 0, none⟩ (.int .i64 l2.east)).setCell ⟨L, 1, none⟩ (.int .i64 l2.north)).setCell ⟨L, 2, none⟩ (.int .i64 l2.up)) = V) := ⟨_, Lib.hid rfl⟩
      have HX1 := Lib.hid (show XE w G L H Bz (some ⟨g2, 0, none⟩) m2 c2 l2 h C N.ps V1 by rw [← HV1.out]; exact HXs1.out)
      clear HXs1
      go_upto_region 7 with fail
      rw [HV1.out]
      clear HV1
      obtain ⟨D2, HD2⟩ : ∃ V, Hid (V1.drew = V) := ⟨_, Lib.hid rfl⟩
      have HXd2 := Lib.hid (show XE w G L H Bz (some ⟨g2, 0, none⟩) m2 c2 l2 h C N.ps D2 by rw [← HD2.out]; exact HX1.out.step (Below.refl _ _).drew)
      have d0 := HXd2.out.2.2.2.2.1.cell 0
      have d1 := HXd2.out.2.2.2.2.1.cell 1
      have d2 := HXd2.out.2.2.2.2.1.cell 2
      refine wp_region_held_drew (S := (fun v => v.cell? ⟨G, 8 + a * 3, none⟩ = some (.int .i64 p.east) ∧ v.cell? ⟨G, 8 + a * 3 + 1, none⟩ = some (.int .i64 p.north) ∧ v.cell? ⟨G, 8 + a * 3 + 2, none⟩ = some (.int .i64 p.up) ∧ Blk v G 76 C)) (by kernel_rfl) ?_ (fun hHeld => ?_)
      · exact (gp_mk KP.out.1 KP.out.2.1 KP.out.2.2 (by rw [HD2.out]; exact HXd2.out.2.2.1))
      rw [HD2.out] at hHeld ⊢
      clear HD2 HX1
      refine' wpAnyH_take (i := 1) (v := ?vr2_1) rfl (by kernel_rfl) (by kernel_rfl) (by kernel_rfl) (fun _ _ _ h => h) (Or.inl ⟨by rfl, ?hyr2_1⟩) (by assumption) ?restr2_1
      case hyr2_1 => (intro w hSw; (try dsimp only at hSw); go_simp; try (with_reducible rfl))
      simp only [Act.put, List.getElem_toArray, List.getElem_cons_succ, List.getElem_cons_zero, List.setIfInBounds_toArray, List.set_cons_zero, List.set_cons_succ]
      refine' wpAnyH_take (i := 2) (v := ?vr2_2) rfl (by kernel_rfl) (by kernel_rfl) (by kernel_rfl) (fun _ _ _ h => h) (Or.inl ⟨by rfl, ?hyr2_2⟩) (by assumption) ?restr2_2
      case hyr2_2 => (intro w hSw; (try dsimp only at hSw); go_simp; try (with_reducible rfl))
      simp only [Act.put, List.getElem_toArray, List.getElem_cons_succ, List.getElem_cons_zero, List.setIfInBounds_toArray, List.set_cons_zero, List.set_cons_succ]
      refine' wpAnyH_take (i := 3) (v := ?vr2_3) rfl (by kernel_rfl) (by kernel_rfl) (by kernel_rfl) (fun _ _ _ h => h) (Or.inl ⟨by rfl, ?hyr2_3⟩) (by assumption) ?restr2_3
      case hyr2_3 => (intro w hSw; (try dsimp only at hSw); go_simp; try (with_reducible rfl))
      simp only [Act.put, List.getElem_toArray, List.getElem_cons_succ, List.getElem_cons_zero, List.setIfInBounds_toArray, List.set_cons_zero, List.set_cons_succ]
      refine' wpAnyH_take (i := 4) (v := ?vr2_4) rfl (by kernel_rfl) (by kernel_rfl) (by kernel_rfl) (fun _ _ _ h => h) (Or.inl ⟨by rfl, ?hyr2_4⟩) (by assumption) ?restr2_4
      case hyr2_4 => (intro w hSw; (try dsimp only at hSw); go_simp; try (with_reducible rfl))
      simp only [Act.put, List.getElem_toArray, List.getElem_cons_succ, List.getElem_cons_zero, List.setIfInBounds_toArray, List.set_cons_zero, List.set_cons_succ]
      refine wpAnyH_ready (rs := [0]) (by kernel_rfl) (by simp) ?_
      refine AllReadyH.cons rfl (fun K hK => ?_) AllReadyH.nil
      go_simp
      refine hK.out _ _ (hHeld) (fun hHeld1 => ?_)
      clear hK K hHeld
      have hHeld := hHeld1
      clear hHeld1
      try simp only [Act.put, List.getElem_toArray, List.getElem_cons_succ, List.getElem_cons_zero, List.setIfInBounds_toArray, List.set_cons_zero, List.set_cons_succ]
      clear d0 d1 d2
      refine wpAnyH_ready (rs := [5]) (by kernel_rfl) (by simp) ?_
      refine AllReadyH.cons rfl (fun K hK => ?_) AllReadyH.nil
      go_simp
      refine (great_q3 h p h2 HH2 _).mono ?_
      rintro e w2 ⟨rfl, b5⟩
      have HXc2 := Lib.hid (HXd2.out.step b5)
      refine hK.out _ _ (gp_mk KP.out.1 KP.out.2.1 KP.out.2.2 (hHeld.2.2.2.below b5 hHeld.2.2.2.lt)) (fun hHeld1 => ?_)
      clear hK K hHeld
      have hHeld := hHeld1
      clear hHeld1
      try simp only [Act.put, List.getElem_toArray, List.getElem_cons_succ, List.getElem_cons_zero, List.setIfInBounds_toArray, List.set_cons_zero, List.set_cons_succ]
      clear b5 HXd2
      obtain ⟨t0, t1, t2, lg0, lg1, lg2, lg⟩ := box3 HXc2.out.2.2.2.2.1
      have HXs2 := Lib.hid (HXc2.out.high h2)
      refine wpAnyH_ready (rs := [6]) (by kernel_rfl) (by simp) ?_
      refine AllReadyH.cons rfl (fun K hK => ?_) AllReadyH.nil
      go_simp
      refine hK.out _ _ (gp_mk KP.out.1 KP.out.2.1 KP.out.2.2 HXs2.out.2.2.1) (fun hHeld1 => ?_)
      clear hK K hHeld
      have hHeld := hHeld1
      clear hHeld1
      try simp only [Act.put, List.getElem_toArray, List.getElem_cons_succ, List.getElem_cons_zero, List.setIfInBounds_toArray, List.set_cons_zero, List.set_cons_succ]
      refine wpAnyH_done (by kernel_rfl) ?_ _
      clear hHeld t0 t1 t2 lg0 lg1 lg2 lg HXc2
      obtain ⟨V2, HV2⟩ : ∃ V, Hid ((((w2.setCell ⟨H, 0, none⟩ (.int .i64 h2.east)).setCell ⟨H, 1, none⟩ (.int .i64 h2.north)).setCell ⟨H, 2, none⟩ (.int .i64 h2.up)) = V) := ⟨_, Lib.hid rfl⟩
      have HX2 := Lib.hid (show XE w G L H Bz (some ⟨g2, 0, none⟩) m2 c2 l2 h2 C N.ps V2 by rw [← HV2.out]; exact HXs2.out)
      clear HXs2
      go_wp2_with fail
      rw [HV2.out]
      clear HV2
      go_roundw
      case rel => exact ⟨k + 1, by omega, by go_num, by rw [HLN.out, HHN.out]; exact HX2.out⟩
      case measure => simp [intOf]; omega
    · have hkd : decide (k < m2) = false := by simpa using hlt
      obtain rfl : m2 = k := by omega
      rw [hlo.out, hhi.out] at HX
      obtain ⟨t0, t1, t2, lg0, lg1, lg2, lg⟩ := box3 HX.out.2.2.2.1
      obtain ⟨y0, y1, y2, hg0, hg1, hg2, hhg⟩ := box3 HX.out.2.2.2.2.1
      obtain ⟨r0, r1, r2, rf0, rf1, rf2, rl⟩ := box0 HX.out.1
      obtain ⟨s0, s1, s2, sf0, sf1, sf2, sl⟩ := box0 HX.out.2.1
      have hL := HX.out.2.2.2.2.2.2.2
      clear hlt
      go_wp2_with fail
      go_region
      go_wp2_with fail
      have hb := Lib.hid HX.out.2.2.2.2.2.2.1
      have HQ1 := Lib.hid HX.out.1
      have HQ2 := Lib.hid HX.out.2.1
      obtain ⟨Z, HZ, HZ1, HZ2, HZ3⟩ : ∃ Z, Hid ((((((((wr.setCell ⟨w.heap.size, 0, none⟩ (.int .i64 lo.east)).setCell ⟨w.heap.size, 1, none⟩ (.int .i64 lo.north)).setCell ⟨w.heap.size, 2, none⟩ (.int .i64 lo.up)).setCell ⟨(w.heap.size + 1), 0, none⟩ (.int .i64 hi.east)).setCell ⟨(w.heap.size + 1), 1, none⟩ (.int .i64 hi.north)).setCell ⟨(w.heap.size + 1), 2, none⟩ (.int .i64 hi.up))).drew = Z) ∧ Hid (Blk Z w.heap.size 72 #[.int .i64 lo.east, .int .i64 lo.north, .int .i64 lo.up]) ∧ Hid (Blk Z (w.heap.size + 1) 72 #[.int .i64 hi.east, .int .i64 hi.north, .int .i64 hi.up]) ∧ Hid (Below w.heap.size w Z) := by
        have n1 : w.heap.size ≠ w.heap.size + 1 := by omega
        have n2 : w.heap.size + 1 ≠ w.heap.size := by omega
        have q1 := ((((((HQ1.out.set_ 0 (.int .i64 lo.east)).set_ 1 (.int .i64 lo.north)).set_ 2 (.int .i64 lo.up)).far (p := ⟨w.heap.size + 1, 0, none⟩) n1 (.int .i64 hi.east)).far (p := ⟨w.heap.size + 1, 1, none⟩) n1 (.int .i64 hi.north)).far (p := ⟨w.heap.size + 1, 2, none⟩) n1 (.int .i64 hi.up))
        have q2 := ((((((HQ2.out.far (p := ⟨w.heap.size, 0, none⟩) n2 (.int .i64 lo.east)).far (p := ⟨w.heap.size, 1, none⟩) n2 (.int .i64 lo.north)).far (p := ⟨w.heap.size, 2, none⟩) n2 (.int .i64 lo.up)).set_ 0 (.int .i64 hi.east)).set_ 1 (.int .i64 hi.north)).set_ 2 (.int .i64 hi.up))
        have q3 := ((((((hb.out.setCell (p := ⟨w.heap.size, 0, none⟩) (by show _ ≤ w.heap.size; omega) (.int .i64 lo.east)).setCell (p := ⟨w.heap.size, 1, none⟩) (by show _ ≤ w.heap.size; omega) (.int .i64 lo.north)).setCell (p := ⟨w.heap.size, 2, none⟩) (by show _ ≤ w.heap.size; omega) (.int .i64 lo.up)).setCell (p := ⟨w.heap.size + 1, 0, none⟩) (by show _ ≤ w.heap.size + 1; omega) (.int .i64 hi.east)).setCell (p := ⟨w.heap.size + 1, 1, none⟩) (by show _ ≤ w.heap.size + 1; omega) (.int .i64 hi.north)).setCell (p := ⟨w.heap.size + 1, 2, none⟩) (by show _ ≤ w.heap.size + 1; omega) (.int .i64 hi.up))
        exact ⟨_, Lib.hid rfl, Lib.hid (q1.below (Below.refl _ _).drew q1.lt), Lib.hid (q2.below (Below.refl _ _).drew q2.lt), Lib.hid q3.drew⟩
      rw [HZ.out]
      clear HZ HX HQ1 HQ2 hb
      obtain ⟨c0, c1, c2, cf0, cf1, cf2, cl⟩ := box3 HZ1.out
      obtain ⟨d0, d1, d2, df0, df1, df2, dl⟩ := box3 HZ2.out
      exact bodyPost_ret (v := .tuple #[.agg #[.int .i64 lo.east, .int .i64 lo.north, .int .i64 lo.up], .agg #[.int .i64 hi.east, .int .i64 hi.north, .int .i64 hi.up], .bool g]) (by simp [results, Tryz.results97, go_sem, c0, c1, c2, d0, d1, d2]) rfl ⟨rfl, HZ3.out⟩
set_option maxHeartbeats 16000000 in
set_option maxRecDepth 100000 in
theorem depthOf_impl (A : Option Addr) (n cap : Nat) (ts : List Lg) (w : World) (hn : n ≤ 2000000) (hts : Hid (LgAt w w.heap.size A n ts)) (hT : Hid (Tab w)) :
    Calls Tryz.prog 37 #[.slice A n cap] w (APost (ansDe ts) w) := by
  obtain ⟨lo, HLO⟩ : ∃ z, Hid (lowN (netS ts) (netS ts).ps.length = z) := ⟨_, Lib.hid rfl⟩
  obtain ⟨hi, HHI⟩ : ∃ z, Hid (highN (netS ts) (netS ts).ps.length = z) := ⟨_, Lib.hid rfl⟩
  obtain ⟨g, HG⟩ : ∃ g, Hid (goodLg ts = g) := ⟨_, Lib.hid rfl⟩
  have hbd : Bd4 lo ∧ Bd4 hi := by
    rw [← HLO.out, ← HHI.out]
    unfold netS
    cases h : goodLg ts
    · constructor <;> (show Bd4 zero3; unfold Bd4 zero3; decide)
    · exact ext_bd (ok_net h) _
  have HF := Lib.hid (show ansDe ts = .tuple #[.int .i64 (hi.up - lo.up), .bool g] by
    rw [← HLO.out, ← HHI.out]
    unfold ansDe netS lowV highV
    rw [HG.out]
    cases g <;> rfl)
  obtain ⟨⟨-, -, a0, a1⟩, -, -, b0, b1⟩ := hbd
  go_enter Tryz.func37, Tryz.ntmps37
  go_wp2_with fail
  refine (ext_any A n cap ts lo hi g w HLO HHI HG hn hts hT).mono ?_
  rintro e w1 ⟨rfl, b⟩
  have HB := Lib.hid b
  have hs := b.size
  clear b
  go_wp2_with fail
  go_ret2
  exact ⟨by rw [HF.out]; rfl, (HB.out.alloc hs _).alloc (by simp; omega) _⟩
end Go.Proofs.YtiimegmaokfpgabGreatDoor.nq

namespace Go.Proofs.YtiimegmaokfpgabGreatDoor.vs
open Go.RowKit
open reads ints
set_option linter.unusedVariables false

def EqPost (w : World) (e : Ending) (w' : World) : Prop := e = .returned (.bool true) ∧ ∃ m, w' = w.drewN m
theorem big_yes (A : Option Addr) (n cap : Nat) (w : World) (h : 65536 < n) (hm : n ≤ maxLen) :
    Calls Tryz.prog 7 #[.slice A n cap] w fun e w' => e = .returned (.bool true) ∧ w = w' := by
  unfold maxLen at hm
  have hd : decide (65536 < n) = true := by simpa using h
  have hd2 : decide (65536 < (n : Int)) = true := by simp; omega
  go_enter Tryz.func7, Tryz.ntmps7
  go_wp2_with fail
  go_ret
  exact ⟨rfl, rfl⟩
theorem big_no (A : Option Addr) (n cap : Nat) (w : World) (h : n ≤ 65536) :
    Calls Tryz.prog 7 #[.slice A n cap] w fun e w' => e = .returned (.bool false) ∧ w = w' := by
  have hd : decide (65536 < n) = false := by simpa using h
  have hd2 : decide (65536 < (n : Int)) = false := by simp; omega
  go_enter Tryz.func7, Tryz.ntmps7
  go_wp2_with fail
  go_ret
  exact ⟨rfl, rfl⟩
set_option maxHeartbeats 1000000 in
theorem vints_any (A A' : Option Addr) (n c c' : Nat) (xs : List Int) (w : World) (hn : n ≤ 2000000) (h : Hid (IL w A n xs)) (h' : Hid (IL w A' n xs)) :
    Calls Tryz.prog 11 #[.slice A n c, .slice A' n c'] w (EqPost w) := by
  go_enter Tryz.func11, Tryz.ntmps11
  go_wp2_with fail
  go_loopw [5] (fun i wr => ∃ k m : Nat, k ≤ n ∧ i = .int .i64 k ∧ wr = w.drewN m) (fun i _ => n - (intOf i).toNat)
  case atStart => exact ⟨0, 0, Nat.zero_le _, rfl, rfl⟩
  case round =>
    obtain ⟨k, m, hk, rfl, rfl⟩ := hrel
    by_cases hlt : k < n
    · obtain ⟨x, hx⟩ : ∃ x, xs[k]? = some x := ⟨_, List.getElem?_eq_getElem (by rw [h.out.1]; exact hlt)⟩
      obtain ⟨g, rfl, e0⟩ := h.out.2 k x hx
      obtain ⟨g', rfl, e1⟩ := h'.out.2 k x hx
      clear hx
      have hki : (k : Int) < (n : Int) := by omega
      have hk0 : 0 ≤ (k : Int) := by omega
      have hkd : decide (k < n) = true := by simpa using hlt
      go_wp2_with fail
      go_quiet (fail)
      go_wp2_with fail
      go_roundw
      case rel => exact ⟨k + 1, _, by omega, by go_num, rfl⟩
      case measure => simp [intOf]; omega
    · have hkd : decide (k < n) = false := by simpa using hlt
      go_wp2_with fail
      go_ret
      exact ⟨rfl, m, rfl⟩

end Go.Proofs.YtiimegmaokfpgabGreatDoor.vs

namespace Go.Proofs.YtiimegmaokfpgabGreatDoor.ends
open Go.RowKit Go.WideShapes Go.ChangeShapes
section
variable {H : Type} {enc : TypeId × Value → H} {P : Program}
end
theorem below_drewN {B : Nat} {a w : World} (h : Below B a w) (n : Nat) : Below B a (w.drewN n) := ⟨h.os, h.tape, h.output, h.size, h.block⟩
end Go.Proofs.YtiimegmaokfpgabGreatDoor.ends

namespace Go.Proofs.YtiimegmaokfpgabGreatDoor.nw
open Go.RowKit
open reads base ty win rowi
set_option linter.unusedVariables false
set_option linter.unusedSimpArgs false

def LawPost (w : World) (e : Ending) (w' : World) : Prop := e = .returned (.bool true) ∧ Below w.heap.size w w'
/-- what is live all along: the code, the table, and nothing old has turned -/
def St (w : World) (A : Option Addr) (n : Nat) (zs : List UInt8) (v : World) : Prop := Below w.heap.size w v ∧ curs.Code v A n zs ∧ win.Tab v
theorem St.step {w v v' : World} {A : Option Addr} {n : Nat} {zs : List UInt8} (h : St w A n zs v) (hb : Below v.heap.size v v') : St w A n zs v' := ⟨h.1.trans (hb.mono h.1.size), h.2.1.below hb, h.2.2.below hb⟩
theorem vints_b {A A' : Option Addr} {n c c' : Nat} {xs : List Int} {w : World} (hn : n ≤ 2000000) (h : Hid (ints.IL w A n xs)) (h' : Hid (ints.IL w A' n xs)) :
    Calls Tryz.prog 11 #[.slice A n c, .slice A' n c'] w (APost (.bool true) w) :=
  (vs.vints_any A A' n c c' xs w hn h h').mono (by rintro e w' ⟨rfl, m, rfl⟩; exact ⟨rfl, ends.below_drewN (Below.refl _ _) m⟩)
end Go.Proofs.YtiimegmaokfpgabGreatDoor.nw

namespace Go.Proofs.YtiimegmaokfpgabGreatDoor.vsh
open Go.RowKit
open reads base rowi hs
set_option linter.unusedVariables false
set_option linter.unusedSimpArgs false

set_option maxHeartbeats 4000000 in
theorem vhas_any (A : Option Addr) (n cap : Nat) (xs : List Int) (a : Int) (w : World) (hn : n ≤ 2000000) (hx : Hid (ints.IL w A n xs)) :
    Calls Tryz.prog 15 #[.slice A n cap, .int .i64 a] w fun e w' => e = .returned (.bool (mem xs a)) ∧ w = w' := by
  have hL : Hid (xs.length = n) := Lib.hid hx.out.1
  go_enter Tryz.func15, Tryz.ntmps15
  go_wp2_with fail
  go_loop [5] (fun i => ∃ k : Nat, k ≤ n ∧ i = .int .i64 k ∧ Hid ((xs.take k).all (fun x => !(x == a)) = true)) (fun i => n - (intOf i).toNat)
  case atStart => exact ⟨0, Nat.zero_le _, rfl, Lib.hid (by simp)⟩
  case round =>
    obtain ⟨k, hk, rfl, HI⟩ := hrel
    have hk0 : 0 ≤ (k : Int) := by omega
    by_cases h1 : k < n
    · have hki : (k : Int) < (n : Int) := by omega
      have hkd : decide (k < n) = true := by simpa using h1
      obtain ⟨x, hxk⟩ := at_lt hL.out h1
      obtain ⟨g, rfl, e0⟩ := hx.out.2 k x hxk
      have HK := Lib.hid hxk
      clear hxk
      by_cases he : x = a
      · have HF := Lib.hid (show mem xs a = true from mem_yes HK.out he)
        have hd2 : (x == a) = true := by simpa using he
        subst he
        go_wp2_with fail
        go_ret
        exact ⟨ret_bool HF.out.symm, rfl⟩
      · have HN := Lib.hid (all_take (p := fun x => !(x == a)) HK.out HI.out (by simpa using he))
        have hd2 : (x == a) = false := by simpa using he
        have hd3 : decide (x = a) = false := by simpa using he
        clear he
        go_wp2_with fail
        go_round
        case rel => exact ⟨k + 1, by omega, by go_num, HN⟩
        case measure => simp [intOf]; omega
    · have hkd : decide (k < n) = false := by simpa using h1
      obtain rfl : k = n := by omega
      have HF := Lib.hid (show mem xs a = false from mem_no (by rw [hL.out]; exact HI.out))
      clear h1
      go_wp2_with fail
      go_ret
      exact ⟨ret_bool HF.out.symm, rfl⟩
theorem vhas_is (A : Option Addr) (n cap : Nat) (xs : List Int) (a : Int) (t : Bool) (h : Hid (mem xs a = t)) (w : World) (hn : n ≤ 2000000) (hx : Hid (ints.IL w A n xs)) :
    Calls Tryz.prog 15 #[.slice A n cap, .int .i64 a] w fun e w' => e = .returned (.bool t) ∧ w = w' := by rw [← h.out]; exact vhas_any A n cap xs a w hn hx
set_option maxHeartbeats 4000000 in
theorem within_yes (A A' : Option Addr) (n c m c' : Nat) (xs ys : List Int) (w : World) (hn : n ≤ 2000000) (hm : m ≤ 2000000) (hx : Hid (ints.IL w A n xs)) (hy : Hid (ints.IL w A' m ys)) (hs : Hid (∀ x ∈ xs, mem ys x = true)) :
    Calls Tryz.prog 32 #[.slice A n c, .slice A' m c'] w fun e w' => e = .returned (.bool true) ∧ w = w' := by
  have hL : Hid (xs.length = n) := Lib.hid hx.out.1
  go_enter Tryz.func32, Tryz.ntmps32
  go_wp2_with fail
  go_loop [5] (fun i => ∃ k : Nat, k ≤ n ∧ i = .int .i64 k) (fun i => n - (intOf i).toNat)
  case atStart => exact ⟨0, Nat.zero_le _, rfl⟩
  case round =>
    obtain ⟨k, hk, rfl⟩ := hrel
    have hk0 : 0 ≤ (k : Int) := by omega
    by_cases h1 : k < n
    · have hki : (k : Int) < (n : Int) := by omega
      have hkd : decide (k < n) = true := by simpa using h1
      obtain ⟨x, hxk⟩ := at_lt hL.out h1
      obtain ⟨g, rfl, e0⟩ := hx.out.2 k x hxk
      have HM := Lib.hid (hs.out x (List.mem_of_getElem? hxk))
      clear hxk
      go_wp2_with fail
      refine (vhas_is A' m c' ys x true HM _ hm hy).mono ?_
      rintro e w' ⟨rfl, rfl⟩
      go_wp2_with fail
      go_round
      case rel => exact ⟨k + 1, by omega, by go_num⟩
      case measure => simp [intOf]; omega
    · have hkd : decide (k < n) = false := by simpa using h1
      go_wp2_with fail
      go_ret
      exact ⟨rfl, rfl⟩
end Go.Proofs.YtiimegmaokfpgabGreatDoor.vsh

namespace Go.Proofs.YtiimegmaokfpgabGreatDoor.rsb
open Go.RowKit
open reads base ty win lg rowi hs nt nq dt ml pg ph phx lp lpi bl nw rs9
set_option linter.unusedVariables false
set_option linter.unusedSimpArgs false

theorem far_is (x r : Int) (w : World) (h0 : -10000000000 ≤ x) (h1 : x ≤ 10000000000) (hr : Hid ((x.natAbs : Int) = r)) : Calls Tryz.prog 28 #[.int .i64 x] w fun e w' => e = .returned (.int .i64 r) ∧ w = w' := by
  by_cases hx : x < 0
  · have e : -x = r := by rw [← hr.out]; omega
    go_enter Tryz.func28, Tryz.ntmps28
    go_wp2_with fail
    go_ret
    exact ⟨by rw [← e]; first | rfl | (congr 2), rfl⟩
  · have e : x = r := by rw [← hr.out]; omega
    have hd : decide (x < 0) = false := by simpa using hx
    go_enter Tryz.func28, Tryz.ntmps28
    go_wp2_with fail
    go_ret
    exact ⟨by rw [← e]; rfl, rfl⟩
theorem far_b (x r : Int) (w : World) (h0 : -10000000000 ≤ x) (h1 : x ≤ 10000000000) (hr : Hid ((x.natAbs : Int) = r)) : Calls Tryz.prog 28 #[.int .i64 x] w (APost (.int .i64 r) w) :=
  (far_is x r w h0 h1 hr).mono (by rintro e w' ⟨h, rfl⟩; exact ⟨h, Below.refl _ _⟩)
theorem within_b {A A' : Option Addr} {n c m c' : Nat} {xs ys : List Int} {w : World} (hs : Hid (∀ x ∈ xs, mem ys x = true)) (hn : n ≤ 2000000) (hm : m ≤ 2000000) (hx : Hid (ints.IL w A n xs)) (hy : Hid (ints.IL w A' m ys)) :
    Calls Tryz.prog 32 #[.slice A n c, .slice A' m c'] w (APost (.bool true) w) :=
  (vsh.within_yes A A' n c m c' xs ys w hn hm hx hy hs).mono (by rintro e w' ⟨rfl, rfl⟩; exact ⟨rfl, Below.refl _ _⟩)
section
variable {A : Option Addr} {n cap : Nat} {ts : List Lg} {I : List Int} {G : Bool} {v : Value} {q i : Int} {w : World}
theorem sq_i (h0 : Hid (ansSq ts q = v)) (hn : n ≤ 2000000) (hts : Hid (LgAt w w.heap.size A n ts)) (hT : Hid (win.Tab w)) : Calls Tryz.prog 24 #[.slice A n cap, .int .i64 q] w (APost v w) := by
  rw [← h0.out]; exact squareSum_impl A n cap ts q w hn hts hT
theorem lr_i (h0 : Hid (ansLr ts q = v)) (hn : n ≤ 2000000) (hts : Hid (LgAt w w.heap.size A n ts)) (hT : Hid (win.Tab w)) : Calls Tryz.prog 26 #[.slice A n cap, .int .i64 q] w (APost v w) := by
  rw [← h0.out]; exact largest_impl A n cap ts q w hn hts hT
theorem ex_i (h0 : Hid (exIds ts = I)) (h1 : Hid (goodLg ts = G)) (hn : n ≤ 2000000) (hts : Hid (LgAt w w.heap.size A n ts)) (hT : Hid (win.Tab w)) : Calls Tryz.prog 30 #[.slice A n cap] w (LPost I G w) := by
  rw [← h0.out, ← h1.out]; exact exact_impl A n cap ts w hn hts hT
theorem ad_i (h0 : Hid (ph.ansDp ts = v)) (hn : n ≤ 2000000) (hts : Hid (LgAt w w.heap.size A n ts)) (hT : Hid (win.Tab w)) : Calls Tryz.prog 34 #[.slice A n cap] w (APost v w) := by
  rw [← h0.out]; exact depth_impl A n cap ts w hn hts hT
theorem tc_i (h0 : Hid (ansTc ts = v)) (hn : n ≤ 2000000) (hts : Hid (LgAt w w.heap.size A n ts)) (hT : Hid (win.Tab w)) : Calls Tryz.prog 12 #[.slice A n cap] w (APost v w) := by
  rw [← h0.out]; exact pg.treeCount_impl A n cap ts w hn hts hT
theorem sq_m (h0 : Hid (ansSq ts q = v)) (hn : n ≤ 2000000) (hts : Hid (LgAt w w.heap.size A n ts)) : Calls Tryz.prog 25 #[.slice A n cap, .int .i64 q] w (APost v w) := by
  rw [← h0.out]; exact squareSum_model A n cap ts q w hn hts
theorem lr_m (h0 : Hid (ansLr ts q = v)) (hn : n ≤ 2000000) (hts : Hid (LgAt w w.heap.size A n ts)) : Calls Tryz.prog 27 #[.slice A n cap, .int .i64 q] w (APost v w) := by
  rw [← h0.out]; exact largest_model A n cap ts q w hn hts
theorem ex_m (h0 : Hid (exIds ts = I)) (h1 : Hid (goodLg ts = G)) (hn : n ≤ 2000000) (hts : Hid (LgAt w w.heap.size A n ts)) : Calls Tryz.prog 31 #[.slice A n cap] w (LPost I G w) := by
  rw [← h0.out, ← h1.out]; exact exact_model A n cap ts w hn hts
theorem ad_m (h0 : Hid (ph.ansDp ts = v)) (hn : n ≤ 2000000) (hts : Hid (LgAt w w.heap.size A n ts)) : Calls Tryz.prog 35 #[.slice A n cap] w (APost v w) := by
  rw [← h0.out]; exact depth_model A n cap ts w hn hts
theorem tc_m (h0 : Hid (ansTc ts = v)) (hn : n ≤ 2000000) (hts : Hid (LgAt w w.heap.size A n ts)) : Calls Tryz.prog 39 #[.slice A n cap] w (APost v w) := by
  rw [← h0.out]; exact ml.treeCount_model A n cap ts w hn hts
theorem rs_i (h0 : Hid (ansRs ts q i = v)) (hn : n ≤ 2000000) (hts : Hid (LgAt w w.heap.size A n ts)) (hT : Hid (win.Tab w)) : Calls Tryz.prog 18 #[.slice A n cap, .int .i64 q, .int .i64 i] w (APost v w) := by
  rw [← h0.out]; exact residualOf_impl A n cap ts q i w hn hts hT
theorem br_i (h0 : Hid (brIds ts = I)) (h1 : Hid (goodLg ts = G)) (hn : n ≤ 2000000) (hts : Hid (LgAt w w.heap.size A n ts)) (hT : Hid (win.Tab w)) : Calls Tryz.prog 17 #[.slice A n cap] w (LPost I G w) := by
  rw [← h0.out, ← h1.out]; exact bridgesOf_impl A n cap ts w hn hts hT
theorem de_i (h0 : Hid (ansDe ts = v)) (hn : n ≤ 2000000) (hts : Hid (LgAt w w.heap.size A n ts)) (hT : Hid (win.Tab w)) : Calls Tryz.prog 37 #[.slice A n cap] w (APost v w) := by
  rw [← h0.out]; exact depthOf_impl A n cap ts w hn hts hT
theorem co_i (h : Hid (Value.tuple #[.int .i64 ((clIds ts).length : Nat), .bool (goodLg ts)] = v)) (hn : n ≤ 2000000) (hts : Hid (LgAt w w.heap.size A n ts)) (hT : Hid (win.Tab w)) : Calls Tryz.prog 36 #[.slice A n cap] w (APost v w) := by
  rw [← h.out]; exact count_impl A n cap ts w hn hts hT
end
/-- what the loop over the legs asks -/
theorem loop_facts {ts : List Lg} {q m a b : Int} {ok : Bool} (hm : axOk ts q = true ∧ m ∈ plIds ts ∧ (∀ i ∈ plIds ts, (resV ts q i).natAbs ≤ (resV ts q m).natAbs)) (ha : redN (resV ts q m) (TC ts) = a) (hb : redD (resV ts q m) (TC ts) = b) (k : Nat) : ∃ (c d : Int) (two : Bool), ansRs ts q (k : Int) = .tuple #[.int .i64 c, .int .i64 d, .bool two] ∧ (-10000000000 ≤ c ∧ c ≤ 10000000000) ∧ (0 ≤ d ∧ d ≤ 1000000) ∧ (two = true → (c.natAbs : Int) * b ≤ (a.natAbs : Int) * d) := by
  have hg : goodLg ts = true := by have h := hm.1; unfold axOk at h; rw [Bool.and_eq_true] at h; exact h.1
  have hd := TC_pos hg
  have ht := tc_bd hg
  obtain ⟨c, d, two, e, h⟩ := rs_form ts q (k : Int)
  cases two
  · have hz : ansRs ts q (k : Int) = .tuple #[.int .i64 0, .int .i64 0, .bool false] := by
      unfold ansRs at e ⊢
      split
      · rename_i hh; rw [if_pos hh] at e; simp at e
      · rfl
    rw [hz] at e
    simp at e
    obtain ⟨rfl, rfl⟩ := e
    exact ⟨0, 0, false, hz, by omega, by omega, fun h => by cases h⟩
  · obtain ⟨-, hi, rfl, rfl⟩ := h rfl
    obtain ⟨j, e2, x, hx, -⟩ := plIds_at hi
    have e3 : k = j := by omega
    subst e3
    have hbd := resV_bd hg q hx
    have h1 := redN_le (x := resV ts q (k : Int)) hd
    have h2 := redD_le (x := resV ts q (k : Int)) hd
    have h3 := redD_pos (x := resV ts q (k : Int)) hd
    refine ⟨_, _, true, e, by omega, by omega, fun _ => ?_⟩
    rw [← ha, ← hb]
    exact red_cmp hd (hm.2.2 _ hi)
theorem mx_facts {ts : List Lg} {q m a b : Int} (hm : axOk ts q = true ∧ m ∈ plIds ts ∧ (∀ i ∈ plIds ts, (resV ts q i).natAbs ≤ (resV ts q m).natAbs)) (ha : redN (resV ts q m) (TC ts) = a) (hb : redD (resV ts q m) (TC ts) = b) : (-10000000000 ≤ a ∧ a ≤ 10000000000) ∧ (1 ≤ b ∧ b ≤ 1000000) := by
  have hg : goodLg ts = true := by have h := hm.1; unfold axOk at h; rw [Bool.and_eq_true] at h; exact h.1
  have hd := TC_pos hg
  have ht := tc_bd hg
  obtain ⟨j, rfl, x, hx, -⟩ := plIds_at hm.2.1
  have hbd := resV_bd hg q hx
  have h1 := redN_le (x := resV ts q (j : Int)) hd
  have h2 := redD_le (x := resV ts q (j : Int)) hd
  have h3 := redD_pos (x := resV ts q (j : Int)) hd
  omega
end Go.Proofs.YtiimegmaokfpgabGreatDoor.rsb

namespace Go.Proofs.YtiimegmaokfpgabGreatDoor.dcv
open Go.RowKit
open reads base curs curd cure ty lg nt drl
set_option linter.unusedVariables false
set_option linter.unusedSimpArgs false

theorem gs_below {w u u' : World} {B b k : Nat} {A : Option Addr} {n cap : Nat} {zs : List UInt8} {v : Value} {ts : List Lg} (h : GS w B b k A n cap zs v ts u) (hb : Below u.heap.size u u') : GS w B b k A n cap zs v ts u' := keep_GS h (grown_of hb none) (fun g e => by cases e)
theorem gs_low {w u u' : World} {B b k : Nat} {A : Option Addr} {n cap : Nat} {zs : List UInt8} {v : Value} {ts : List Lg} (hw : w.grownBy u (some b)) (hb : b < w.heap.size) (hB : B ≤ w.heap.size) (h : GS u B b k A n cap zs v ts u') : GS w B b k A n cap zs v ts u' := ⟨h.1, hw.trans h.2.1, own_base hw.size h.2.2.1, h.2.2.2.1, hb, hB⟩
theorem il_at {w : World} {base n c : Nat} {A : Option Addr} {xs : List Int} {r : Nat} {x : Int} (h : w.ownsRow base 3 1 (.slice A n c) n (ints.intsV xs)) (hx : xs[r]? = some x) : ∃ g, A = some ⟨g, 0, none⟩ ∧ g < w.heap.size ∧ w.cell? ⟨g, r, none⟩ = some (.int .i64 x) := by
  obtain ⟨g, e, c0⟩ := (ints.IL.of_own h).2 r x hx
  exact ⟨g, e, by rw [e] at h; exact (h.lt g rfl).2, c0⟩
/-- drawn legs and a number, the cursor going on -/
def CGo (B b k : Nat) (A : Option Addr) (n cap : Nat) (zs : List UInt8) (w : World) (e : Ending) (w' : World) : Prop := ∃ (v : Value) (ts : List Lg) (q : Int), e = .returned (.tuple #[v, .int .i64 q]) ∧ ts.length ≤ 13 ∧ (-1 ≤ q ∧ q ≤ 13) ∧ GS w B b k A n cap zs v ts w'
set_option maxHeartbeats 16000000 in
set_option maxRecDepth 100000 in
theorem closing_draw (B b kk : Nat) (A : Option Addr) (n cap : Nat) (zs : List UInt8) (w : World) (hk : kk ≤ 40000) (h : Hid (Cur w B b kk A n cap zs)) :
    Calls Tryz.prog 63 #[.pointer (some ⟨b, 0, none⟩)] w (CGo B b (kk + 900) A n cap zs w) := by
  go_enter Tryz.func63, Tryz.ntmps63
  go_wp2_with fail
  refine (cave_any B b kk A n cap zs w (by omega) h).mono ?_
  rintro e w1 ⟨v, ts, rfl, hl, hG⟩
  obtain ⟨A', c, hv⟩ := row_slice hG.2.2.1
  subst hv
  have hbw := hG.2.2.2.2.1
  have hBw := hG.2.2.2.2.2
  have HG0 := Lib.hid hG
  clear hG h
  go_wp2_with fail
  go_loopw [4, 5] (fun v i wr => ∃ (k L c : Nat) (A2 : Option Addr) (ts : List Lg), k ≤ 3 ∧ i = .int .i64 (k : Nat) ∧ v = .slice A2 L c ∧ Hid (ts.length = L) ∧ L ≤ 13 ∧ GS w B b (kk + 200 + 200 * k) A n cap zs (.slice A2 L c) ts wr) (fun _ i _ => 3 - (intOf i).toNat)
  case atStart => exact ⟨0, _, _, _, ts, Nat.zero_le _, rfl, rfl, Lib.hid rfl, hl, HG0.out⟩
  case round =>
    clear HG0 hl
    obtain ⟨k, L, c, A2, ts, hk3, rfl, rfl, HLL, hl13, hG⟩ := hrel
    have HG := Lib.hid hG
    have hwr := hG.2.1
    have HWR := Lib.hid hwr
    clear hG hwr
    have hk0 : (0 : Int) ≤ (k : Int) := by omega
    by_cases hlt : k < 3
    · have hki : (k : Int) < 3 := by omega
      have hkd : decide (k < 3) = true := by simpa using hlt
      obtain ⟨g, HGO⟩ : ∃ g, Hid (goodLg ts = g) := ⟨_, Lib.hid rfl⟩
      have HA := Lib.hid (show LgAt wr wr.heap.size A2 L ts from by have h := HG.out.2.2.1; rw [HLL.out] at h; exact own_Lg HLL.out h)
      go_wp2_with fail
      refine (legs_is A2 L c ts g wr (by omega) HA HGO).mono ?_
      rintro e w2 ⟨rfl, b2⟩
      have HG2 := Lib.hid (gs_below HG.out b2)
      clear b2 HA HG HWR
      cases g
      · skip
        have hwr := HG2.out.2.1
        have HWR := Lib.hid hwr
        clear hwr
        go_wp2_with fail
        refine (cave_any B b (kk + 200 + 200 * k) A n cap zs w2 (by omega) (Lib.hid HG2.out.1)).mono ?_
        rintro e w4 ⟨v4, ts4, rfl, hl4, hG4⟩
        obtain ⟨A4, c4, hv⟩ := row_slice hG4.2.2.1
        subst hv
        have HG4 := Lib.hid (gs_low HWR.out hbw hBw hG4)
        clear hG4 HWR HG2
        go_wp2_with fail
        go_roundw
        case rel => exact ⟨k + 1, _, _, _, ts4, by omega, by go_num, rfl, Lib.hid rfl, hl4, HG4.out.more (by omega)⟩
        case measure => simp [intOf]; omega
      · skip
        have HA2 := Lib.hid (show LgAt w2 w2.heap.size A2 L ts from by have h := HG2.out.2.2.1; rw [HLL.out] at h; exact own_Lg HLL.out h)
        obtain ⟨CL, HCL⟩ : ∃ C, Hid (clN ts (net ts) ts.length = C) := ⟨_, Lib.hid rfl⟩
        obtain ⟨m, HMM⟩ : ∃ m, Hid (CL.length = m) := ⟨_, Lib.hid rfl⟩
        go_wp2_with fail
        refine (closing_any A2 L c ts (net ts) (Lib.hid rfl) w2 HGO HA2).mono ?_
        rintro e w3 ⟨v3, rfl, ho, b3⟩
        rw [HCL.out, HMM.out] at ho
        obtain ⟨A7, c7, rfl⟩ := row_slice ho
        have HG3 := Lib.hid (gs_below HG2.out b3)
        clear ho b3 HA2 HG2 HGO HCL HMM
        by_cases hm : m = 0
        · have hz : (m : Int) = 0 := by omega
          have hwr := HG3.out.2.1
          have HWR := Lib.hid hwr
          clear hwr
          go_wp2_with fail
          refine (cave_any B b (kk + 200 + 200 * k) A n cap zs w3 (by omega) (Lib.hid HG3.out.1)).mono ?_
          rintro e w4 ⟨v4, ts4, rfl, hl4, hG4⟩
          obtain ⟨A4, c4, hv⟩ := row_slice hG4.2.2.1
          subst hv
          have HG4 := Lib.hid (gs_low HWR.out hbw hBw hG4)
          clear hG4 HWR HG3
          go_wp2_with fail
          go_roundw
          case rel => exact ⟨k + 1, _, _, _, ts4, by omega, by go_num, rfl, Lib.hid rfl, hl4, HG4.out.more (by omega)⟩
          case measure => simp [intOf]; omega
        · have hz : ¬ (m : Int) = 0 := by omega
          have hzb : ((m : Int) == 0) = false := by simp; omega
          have HG := HG3
          clear HG3
          obtain ⟨g2, HG2⟩ : ∃ g, Hid (goodLg ts = g) := ⟨_, Lib.hid rfl⟩
          obtain ⟨K, HKK⟩ : ∃ K, Hid (kk + 200 + 200 * k = K) := ⟨_, Lib.hid rfl⟩
          have hK : K ≤ kk + 800 := by rw [← HKK.out]; omega
          rw [HKK.out] at HG
          have HA := Lib.hid (show LgAt w3 w3.heap.size A2 L ts from by have h := HG.out.2.2.1; rw [HLL.out] at h; exact own_Lg HLL.out h)
          clear HKK
          go_wp2_with fail
          refine (legs_is A2 L c ts g2 w3 (by omega) HA HG2).mono ?_
          rintro e w5 ⟨rfl, b5⟩
          have HG5 := Lib.hid (gs_below HG.out b5)
          clear b5 HA
          cases g2
          · skip
            have hz := HG5.out.2.1.size
            have HP := Lib.hid (show Calls Tryz.prog 84 #[.pointer (some ⟨b, 0, none⟩), .int .i64 ((L : Int) + 1)] w5 (curs.NPost B b (K + 1) A n cap zs (L + 1 - 1) w5) from pick_any B b (K) A n cap zs w5 (L + 1) (by omega) HG5.out.1 (by omega) (by omega))
            go_wp2_with fail
            refine HP.out.mono ?_
            rintro e w8 ⟨r1, rfl, hr1, hC, hg⟩
            have HG8 := Lib.hid (HG5.out.step hC hg)
            clear hC hg HP
            go_wp2_with fail
            refine (pick_any B b (K + 1) A n cap zs w8 9 (by omega) HG8.out.1 (by decide) (by decide)).mono ?_
            rintro e w9 ⟨r2, rfl, hr2, hC, hg⟩
            have HG9 := Lib.hid (HG8.out.step hC hg)
            clear hC hg HG8
            have hq : 0 ≤ (r2 : Int) / 8 ∧ (r2 : Int) / 8 ≤ 1 := by omega
            go_wp2_with fail
            go_ret2
            exact ⟨_, ts, _, rfl, by rw [HLL.out]; exact hl13, by omega, HG9.out.more (by omega)⟩
          · skip
            go_wp2_with fail
            refine (one_any B b K A n cap zs w5 12 (by omega) HG5.out.1 (by decide) (by decide)).mono ?_
            rintro e w6 ⟨t, rfl, hC, hg⟩
            have HG6 := Lib.hid (HG5.out.step hC hg)
            clear hC hg HG5
            cases t
            · skip
              have HA6 := Lib.hid (show LgAt w6 w6.heap.size A2 L ts from by have h := HG6.out.2.2.1; rw [HLL.out] at h; exact own_Lg HLL.out h)
              obtain ⟨CL, HCL⟩ : ∃ C, Hid (clN ts (net ts) ts.length = C) := ⟨_, Lib.hid rfl⟩
              obtain ⟨m, HMM⟩ : ∃ m, Hid (CL.length = m) := ⟨_, Lib.hid rfl⟩
              have hm13 : m ≤ 13 := by rw [← HMM.out, ← HCL.out]; exact Nat.le_trans (clN_len ts (net ts) ts.length) (by rw [HLL.out]; exact hl13)
              have HXB := Lib.hid (show ∀ x ∈ CL, -1 ≤ x ∧ x ≤ 13 from fun x hx => by rw [← HCL.out] at hx; obtain ⟨h0, h1, -⟩ := (lp.clN_iff ts.length (Nat.le_refl _) x).1 hx; rw [HLL.out] at h1; omega)
              go_wp2_with fail
              refine (closing_any A2 L c ts (net ts) (Lib.hid rfl) w6 HG2 HA6).mono ?_
              rintro e w7 ⟨v7, rfl, ho, b7⟩
              rw [HCL.out, HMM.out] at ho
              obtain ⟨A7, c7, rfl⟩ := row_slice ho
              have HP7 := Lib.hid ho
              have HG7 := Lib.hid (gs_below HG6.out b7)
              clear ho b7 HA6
              by_cases hm : 0 < m
              · have hmi : (0 : Int) < (m : Int) := by omega
                have hmd : decide (0 < m) = true := by simpa using hm
                go_upto_region 9 with fail
                obtain ⟨gC, c9, hA9, -, -⟩ := HP7.out.form hm
                have hA9' : A7 = some ⟨gC, 0, none⟩ := by injection hA9
                subst hA9'
                clear hA9
                have HGD := Lib.hid (gs_below HG7.out (Below.refl w7.heap.size w7).drew)
                have HPD := Lib.hid (row_below HP7.out (Below.refl w7.heap.size w7).drew)
                have hb6 := HG6.out.2.1.size
                have hbw := HG6.out.2.2.2.2.1
                have HPK := Lib.hid (show Calls Tryz.prog 84 #[.pointer (some ⟨b, 0, none⟩), .int .i64 (m : Int)] w7.drew (curs.NPost B b ((K) + 2) A n cap zs (m - 1) w7.drew) from pick_any B b ((K) + 1) A n cap zs w7.drew m (by omega) HGD.out.1 (by omega) (by omega))
                refine wp_region_held_drew (S := (fun v => v.ownsRow w6.heap.size 3 1 (.slice (some ⟨gC, 0, none⟩) m c7) m (ints.intsV CL))) (by kernel_rfl) ?_ (fun hHeld => ?_)
                · exact HPD.out
                refine' wpAnyH_take (i := 0) (v := ?vr1_0) rfl (by kernel_rfl) (by kernel_rfl) (by kernel_rfl) (fun _ _ _ h => h) (Or.inl ⟨by rfl, ?hyr1_0⟩) (by assumption) ?restr1_0
                case hyr1_0 => (intro w hSw; (try dsimp only at hSw); go_simp; try (with_reducible rfl))
                simp only [Act.put, List.getElem_toArray, List.getElem_cons_succ, List.getElem_cons_zero, List.setIfInBounds_toArray, List.set_cons_zero, List.set_cons_succ]
                refine' wpAnyH_take (i := 1) (v := ?vr1_1) rfl (by kernel_rfl) (by kernel_rfl) (by kernel_rfl) (fun _ _ _ h => h) (Or.inl ⟨by rfl, ?hyr1_1⟩) (by assumption) ?restr1_1
                case hyr1_1 => (intro w hSw; (try dsimp only at hSw); go_simp; try (with_reducible rfl))
                simp only [Act.put, List.getElem_toArray, List.getElem_cons_succ, List.getElem_cons_zero, List.setIfInBounds_toArray, List.set_cons_zero, List.set_cons_succ]
                refine' wpAnyH_take (i := 2) (v := ?vr1_2) rfl (by kernel_rfl) (by kernel_rfl) (by kernel_rfl) (fun _ _ _ h => h) (Or.inl ⟨by rfl, ?hyr1_2⟩) (by assumption) ?restr1_2
                case hyr1_2 => (intro w hSw; (try dsimp only at hSw); go_simp; try (with_reducible rfl))
                simp only [Act.put, List.getElem_toArray, List.getElem_cons_succ, List.getElem_cons_zero, List.setIfInBounds_toArray, List.set_cons_zero, List.set_cons_succ]
                refine' wpAnyH_take (i := 3) (v := ?vr1_3) rfl (by kernel_rfl) (by kernel_rfl) (by kernel_rfl) (fun _ _ _ h => h) (Or.inl ⟨by rfl, ?hyr1_3⟩) (by assumption) ?restr1_3
                case hyr1_3 => (intro w hSw; (try dsimp only at hSw); go_simp; try (with_reducible rfl))
                simp only [Act.put, List.getElem_toArray, List.getElem_cons_succ, List.getElem_cons_zero, List.setIfInBounds_toArray, List.set_cons_zero, List.set_cons_succ]
                refine' wpAnyH_take (i := 4) (v := ?vr1_4) rfl (by kernel_rfl) (by kernel_rfl) (by kernel_rfl) (fun _ _ _ h => h) (Or.inl ⟨by rfl, ?hyr1_4⟩) (by assumption) ?restr1_4
                case hyr1_4 => (intro w hSw; (try dsimp only at hSw); go_simp; try (with_reducible rfl))
                simp only [Act.put, List.getElem_toArray, List.getElem_cons_succ, List.getElem_cons_zero, List.setIfInBounds_toArray, List.set_cons_zero, List.set_cons_succ]
                refine wpAnyH_ready (rs := [5]) (by kernel_rfl) (by simp) ?_
                refine AllReadyH.cons rfl (fun K hK => ?_) AllReadyH.nil
                go_simp
                refine (HPK.out).mono ?_
                rintro e w8 ⟨r, rfl, hr, hC, hg⟩
                have HG8 := Lib.hid (HGD.out.step hC hg)
                obtain ⟨x, hx⟩ := at_lt HMM.out (show r < m by omega)
                have HX := Lib.hid hx
                have hri : (r : Int) < (m : Int) := by omega
                have hr0 : (0 : Int) ≤ (r : Int) := by omega
                clear hx hC
                refine hK.out _ _ (own_step hHeld hg (by omega)) (fun hHeld1 => ?_)
                clear hK K hHeld
                have hHeld := hHeld1
                clear hHeld1
                try simp only [Act.put, List.getElem_toArray, List.getElem_cons_succ, List.getElem_cons_zero, List.setIfInBounds_toArray, List.set_cons_zero, List.set_cons_succ]
                refine' wpAnyH_take (i := 6) (v := ?vr1_6) rfl (by kernel_rfl) (by kernel_rfl) (by kernel_rfl) (fun _ _ _ h => h) (Or.inl ⟨by rfl, ?hyr1_6⟩) (by assumption) ?restr1_6
                case hyr1_6 => (intro w hSw; (try dsimp only at hSw); go_simp; try (with_reducible rfl))
                simp only [Act.put, List.getElem_toArray, List.getElem_cons_succ, List.getElem_cons_zero, List.setIfInBounds_toArray, List.set_cons_zero, List.set_cons_succ]
                refine' wpAnyH_take (i := 7) (v := .int .i64 x) rfl (by kernel_rfl) (by kernel_rfl) (by kernel_rfl) (fun _ _ _ h => h) (Or.inl ⟨by rfl, ?hyL1⟩) (by assumption) ?restL1
                case hyL1 =>
                  intro v hSv
                  obtain ⟨g1, e1, hl1, e0⟩ := il_at hSv HX.out
                  injection e1 with e1
                  injection e1 with e1
                  subst e1
                  go_simp
                simp only [Act.put, List.getElem_toArray, List.getElem_cons_succ, List.getElem_cons_zero, List.setIfInBounds_toArray, List.set_cons_zero, List.set_cons_succ]
                refine' wpAnyH_take (i := 8) (v := ?vr1_8) rfl (by kernel_rfl) (by kernel_rfl) (by kernel_rfl) (fun _ _ _ h => h) (Or.inl ⟨by rfl, ?hyr1_8⟩) (by assumption) ?restr1_8
                case hyr1_8 => (intro w hSw; (try dsimp only at hSw); go_simp; try (with_reducible rfl))
                simp only [Act.put, List.getElem_toArray, List.getElem_cons_succ, List.getElem_cons_zero, List.setIfInBounds_toArray, List.set_cons_zero, List.set_cons_succ]
                refine' wpAnyH_take (i := 9) (v := ?vr1_9) rfl (by kernel_rfl) (by kernel_rfl) (by kernel_rfl) (fun _ _ _ h => h) (Or.inl ⟨by rfl, ?hyr1_9⟩) (by assumption) ?restr1_9
                case hyr1_9 => (intro w hSw; (try dsimp only at hSw); go_simp; try (with_reducible rfl))
                simp only [Act.put, List.getElem_toArray, List.getElem_cons_succ, List.getElem_cons_zero, List.setIfInBounds_toArray, List.set_cons_zero, List.set_cons_succ]
                refine wpAnyH_done (by kernel_rfl) ?_ _
                clear hHeld
                go_wp2_with fail
                go_ret2
                exact ⟨_, ts, _, rfl, by rw [HLL.out]; exact hl13, HXB.out x (List.mem_of_getElem? HX.out), HG8.out.more (by omega)⟩
              · have hmi : ¬ (0 : Int) < (m : Int) := by omega
                have hmd : decide (0 < m) = false := by simpa using hm
                have hz := HG7.out.2.1.size
                have HP := Lib.hid (show Calls Tryz.prog 84 #[.pointer (some ⟨b, 0, none⟩), .int .i64 ((L : Int) + 1)] w7 (curs.NPost B b (K + 1 + 1) A n cap zs (L + 1 - 1) w7) from pick_any B b (K + 1) A n cap zs w7 (L + 1) (by omega) HG7.out.1 (by omega) (by omega))
                go_wp2_with fail
                refine HP.out.mono ?_
                rintro e w8 ⟨r1, rfl, hr1, hC, hg⟩
                have HG8 := Lib.hid (HG7.out.step hC hg)
                clear hC hg HP
                go_wp2_with fail
                refine (pick_any B b (K + 1 + 1) A n cap zs w8 9 (by omega) HG8.out.1 (by decide) (by decide)).mono ?_
                rintro e w9 ⟨r2, rfl, hr2, hC, hg⟩
                have HG9 := Lib.hid (HG8.out.step hC hg)
                clear hC hg HG8
                have hq : 0 ≤ (r2 : Int) / 8 ∧ (r2 : Int) / 8 ≤ 1 := by omega
                go_wp2_with fail
                go_ret2
                exact ⟨_, ts, _, rfl, by rw [HLL.out]; exact hl13, by omega, HG9.out.more (by omega)⟩
            · skip
              have hz := HG6.out.2.1.size
              have HP := Lib.hid (show Calls Tryz.prog 84 #[.pointer (some ⟨b, 0, none⟩), .int .i64 ((L : Int) + 1)] w6 (curs.NPost B b (K + 1 + 1) A n cap zs (L + 1 - 1) w6) from pick_any B b (K + 1) A n cap zs w6 (L + 1) (by omega) HG6.out.1 (by omega) (by omega))
              go_wp2_with fail
              refine HP.out.mono ?_
              rintro e w8 ⟨r1, rfl, hr1, hC, hg⟩
              have HG8 := Lib.hid (HG6.out.step hC hg)
              clear hC hg HP
              go_wp2_with fail
              refine (pick_any B b (K + 1 + 1) A n cap zs w8 9 (by omega) HG8.out.1 (by decide) (by decide)).mono ?_
              rintro e w9 ⟨r2, rfl, hr2, hC, hg⟩
              have HG9 := Lib.hid (HG8.out.step hC hg)
              clear hC hg HG8
              have hq : 0 ≤ (r2 : Int) / 8 ∧ (r2 : Int) / 8 ≤ 1 := by omega
              go_wp2_with fail
              go_ret2
              exact ⟨_, ts, _, rfl, by rw [HLL.out]; exact hl13, by omega, HG9.out.more (by omega)⟩
    · have hki : ¬ (k : Int) < 3 := by omega
      have hkd : decide (k < 3) = false := by simpa using hlt
      obtain ⟨g2, HG2⟩ : ∃ g, Hid (goodLg ts = g) := ⟨_, Lib.hid rfl⟩
      obtain ⟨K, HKK⟩ : ∃ K, Hid (kk + 200 + 200 * k = K) := ⟨_, Lib.hid rfl⟩
      have hK : K ≤ kk + 800 := by rw [← HKK.out]; omega
      rw [HKK.out] at HG
      have HA := Lib.hid (show LgAt wr wr.heap.size A2 L ts from by have h := HG.out.2.2.1; rw [HLL.out] at h; exact own_Lg HLL.out h)
      clear HKK
      go_wp2_with fail
      refine (legs_is A2 L c ts g2 wr (by omega) HA HG2).mono ?_
      rintro e w5 ⟨rfl, b5⟩
      have HG5 := Lib.hid (gs_below HG.out b5)
      clear b5 HA
      cases g2
      · skip
        have hz := HG5.out.2.1.size
        have HP := Lib.hid (show Calls Tryz.prog 84 #[.pointer (some ⟨b, 0, none⟩), .int .i64 ((L : Int) + 1)] w5 (curs.NPost B b (K + 1) A n cap zs (L + 1 - 1) w5) from pick_any B b (K) A n cap zs w5 (L + 1) (by omega) HG5.out.1 (by omega) (by omega))
        go_wp2_with fail
        refine HP.out.mono ?_
        rintro e w8 ⟨r1, rfl, hr1, hC, hg⟩
        have HG8 := Lib.hid (HG5.out.step hC hg)
        clear hC hg HP
        go_wp2_with fail
        refine (pick_any B b (K + 1) A n cap zs w8 9 (by omega) HG8.out.1 (by decide) (by decide)).mono ?_
        rintro e w9 ⟨r2, rfl, hr2, hC, hg⟩
        have HG9 := Lib.hid (HG8.out.step hC hg)
        clear hC hg HG8
        have hq : 0 ≤ (r2 : Int) / 8 ∧ (r2 : Int) / 8 ≤ 1 := by omega
        go_wp2_with fail
        go_ret2
        exact ⟨_, ts, _, rfl, by rw [HLL.out]; exact hl13, by omega, HG9.out.more (by omega)⟩
      · skip
        go_wp2_with fail
        refine (one_any B b K A n cap zs w5 12 (by omega) HG5.out.1 (by decide) (by decide)).mono ?_
        rintro e w6 ⟨t, rfl, hC, hg⟩
        have HG6 := Lib.hid (HG5.out.step hC hg)
        clear hC hg HG5
        cases t
        · skip
          have HA6 := Lib.hid (show LgAt w6 w6.heap.size A2 L ts from by have h := HG6.out.2.2.1; rw [HLL.out] at h; exact own_Lg HLL.out h)
          obtain ⟨CL, HCL⟩ : ∃ C, Hid (clN ts (net ts) ts.length = C) := ⟨_, Lib.hid rfl⟩
          obtain ⟨m, HMM⟩ : ∃ m, Hid (CL.length = m) := ⟨_, Lib.hid rfl⟩
          have hm13 : m ≤ 13 := by rw [← HMM.out, ← HCL.out]; exact Nat.le_trans (clN_len ts (net ts) ts.length) (by rw [HLL.out]; exact hl13)
          have HXB := Lib.hid (show ∀ x ∈ CL, -1 ≤ x ∧ x ≤ 13 from fun x hx => by rw [← HCL.out] at hx; obtain ⟨h0, h1, -⟩ := (lp.clN_iff ts.length (Nat.le_refl _) x).1 hx; rw [HLL.out] at h1; omega)
          go_wp2_with fail
          refine (closing_any A2 L c ts (net ts) (Lib.hid rfl) w6 HG2 HA6).mono ?_
          rintro e w7 ⟨v7, rfl, ho, b7⟩
          rw [HCL.out, HMM.out] at ho
          obtain ⟨A7, c7, rfl⟩ := row_slice ho
          have HP7 := Lib.hid ho
          have HG7 := Lib.hid (gs_below HG6.out b7)
          clear ho b7 HA6
          by_cases hm : 0 < m
          · have hmi : (0 : Int) < (m : Int) := by omega
            have hmd : decide (0 < m) = true := by simpa using hm
            go_upto_region 9 with fail
            obtain ⟨gC, c9, hA9, -, -⟩ := HP7.out.form hm
            have hA9' : A7 = some ⟨gC, 0, none⟩ := by injection hA9
            subst hA9'
            clear hA9
            have HGD := Lib.hid (gs_below HG7.out (Below.refl w7.heap.size w7).drew)
            have HPD := Lib.hid (row_below HP7.out (Below.refl w7.heap.size w7).drew)
            have hb6 := HG6.out.2.1.size
            have hbw := HG6.out.2.2.2.2.1
            have HPK := Lib.hid (show Calls Tryz.prog 84 #[.pointer (some ⟨b, 0, none⟩), .int .i64 (m : Int)] w7.drew (curs.NPost B b ((K) + 2) A n cap zs (m - 1) w7.drew) from pick_any B b ((K) + 1) A n cap zs w7.drew m (by omega) HGD.out.1 (by omega) (by omega))
            refine wp_region_held_drew (S := (fun v => v.ownsRow w6.heap.size 3 1 (.slice (some ⟨gC, 0, none⟩) m c7) m (ints.intsV CL))) (by kernel_rfl) ?_ (fun hHeld => ?_)
            · exact HPD.out
            refine' wpAnyH_take (i := 0) (v := ?vr2_0) rfl (by kernel_rfl) (by kernel_rfl) (by kernel_rfl) (fun _ _ _ h => h) (Or.inl ⟨by rfl, ?hyr2_0⟩) (by assumption) ?restr2_0
            case hyr2_0 => (intro w hSw; (try dsimp only at hSw); go_simp; try (with_reducible rfl))
            simp only [Act.put, List.getElem_toArray, List.getElem_cons_succ, List.getElem_cons_zero, List.setIfInBounds_toArray, List.set_cons_zero, List.set_cons_succ]
            refine' wpAnyH_take (i := 1) (v := ?vr2_1) rfl (by kernel_rfl) (by kernel_rfl) (by kernel_rfl) (fun _ _ _ h => h) (Or.inl ⟨by rfl, ?hyr2_1⟩) (by assumption) ?restr2_1
            case hyr2_1 => (intro w hSw; (try dsimp only at hSw); go_simp; try (with_reducible rfl))
            simp only [Act.put, List.getElem_toArray, List.getElem_cons_succ, List.getElem_cons_zero, List.setIfInBounds_toArray, List.set_cons_zero, List.set_cons_succ]
            refine' wpAnyH_take (i := 2) (v := ?vr2_2) rfl (by kernel_rfl) (by kernel_rfl) (by kernel_rfl) (fun _ _ _ h => h) (Or.inl ⟨by rfl, ?hyr2_2⟩) (by assumption) ?restr2_2
            case hyr2_2 => (intro w hSw; (try dsimp only at hSw); go_simp; try (with_reducible rfl))
            simp only [Act.put, List.getElem_toArray, List.getElem_cons_succ, List.getElem_cons_zero, List.setIfInBounds_toArray, List.set_cons_zero, List.set_cons_succ]
            refine' wpAnyH_take (i := 3) (v := ?vr2_3) rfl (by kernel_rfl) (by kernel_rfl) (by kernel_rfl) (fun _ _ _ h => h) (Or.inl ⟨by rfl, ?hyr2_3⟩) (by assumption) ?restr2_3
            case hyr2_3 => (intro w hSw; (try dsimp only at hSw); go_simp; try (with_reducible rfl))
            simp only [Act.put, List.getElem_toArray, List.getElem_cons_succ, List.getElem_cons_zero, List.setIfInBounds_toArray, List.set_cons_zero, List.set_cons_succ]
            refine' wpAnyH_take (i := 4) (v := ?vr2_4) rfl (by kernel_rfl) (by kernel_rfl) (by kernel_rfl) (fun _ _ _ h => h) (Or.inl ⟨by rfl, ?hyr2_4⟩) (by assumption) ?restr2_4
            case hyr2_4 => (intro w hSw; (try dsimp only at hSw); go_simp; try (with_reducible rfl))
            simp only [Act.put, List.getElem_toArray, List.getElem_cons_succ, List.getElem_cons_zero, List.setIfInBounds_toArray, List.set_cons_zero, List.set_cons_succ]
            refine wpAnyH_ready (rs := [5]) (by kernel_rfl) (by simp) ?_
            refine AllReadyH.cons rfl (fun K hK => ?_) AllReadyH.nil
            go_simp
            refine (HPK.out).mono ?_
            rintro e w8 ⟨r, rfl, hr, hC, hg⟩
            have HG8 := Lib.hid (HGD.out.step hC hg)
            obtain ⟨x, hx⟩ := at_lt HMM.out (show r < m by omega)
            have HX := Lib.hid hx
            have hri : (r : Int) < (m : Int) := by omega
            have hr0 : (0 : Int) ≤ (r : Int) := by omega
            clear hx hC
            refine hK.out _ _ (own_step hHeld hg (by omega)) (fun hHeld1 => ?_)
            clear hK K hHeld
            have hHeld := hHeld1
            clear hHeld1
            try simp only [Act.put, List.getElem_toArray, List.getElem_cons_succ, List.getElem_cons_zero, List.setIfInBounds_toArray, List.set_cons_zero, List.set_cons_succ]
            refine' wpAnyH_take (i := 6) (v := ?vr2_6) rfl (by kernel_rfl) (by kernel_rfl) (by kernel_rfl) (fun _ _ _ h => h) (Or.inl ⟨by rfl, ?hyr2_6⟩) (by assumption) ?restr2_6
            case hyr2_6 => (intro w hSw; (try dsimp only at hSw); go_simp; try (with_reducible rfl))
            simp only [Act.put, List.getElem_toArray, List.getElem_cons_succ, List.getElem_cons_zero, List.setIfInBounds_toArray, List.set_cons_zero, List.set_cons_succ]
            refine' wpAnyH_take (i := 7) (v := .int .i64 x) rfl (by kernel_rfl) (by kernel_rfl) (by kernel_rfl) (fun _ _ _ h => h) (Or.inl ⟨by rfl, ?hyL2⟩) (by assumption) ?restL2
            case hyL2 =>
              intro v hSv
              obtain ⟨g1, e1, hl1, e0⟩ := il_at hSv HX.out
              injection e1 with e1
              injection e1 with e1
              subst e1
              go_simp
            simp only [Act.put, List.getElem_toArray, List.getElem_cons_succ, List.getElem_cons_zero, List.setIfInBounds_toArray, List.set_cons_zero, List.set_cons_succ]
            refine' wpAnyH_take (i := 8) (v := ?vr2_8) rfl (by kernel_rfl) (by kernel_rfl) (by kernel_rfl) (fun _ _ _ h => h) (Or.inl ⟨by rfl, ?hyr2_8⟩) (by assumption) ?restr2_8
            case hyr2_8 => (intro w hSw; (try dsimp only at hSw); go_simp; try (with_reducible rfl))
            simp only [Act.put, List.getElem_toArray, List.getElem_cons_succ, List.getElem_cons_zero, List.setIfInBounds_toArray, List.set_cons_zero, List.set_cons_succ]
            refine' wpAnyH_take (i := 9) (v := ?vr2_9) rfl (by kernel_rfl) (by kernel_rfl) (by kernel_rfl) (fun _ _ _ h => h) (Or.inl ⟨by rfl, ?hyr2_9⟩) (by assumption) ?restr2_9
            case hyr2_9 => (intro w hSw; (try dsimp only at hSw); go_simp; try (with_reducible rfl))
            simp only [Act.put, List.getElem_toArray, List.getElem_cons_succ, List.getElem_cons_zero, List.setIfInBounds_toArray, List.set_cons_zero, List.set_cons_succ]
            refine wpAnyH_done (by kernel_rfl) ?_ _
            clear hHeld
            go_wp2_with fail
            go_ret2
            exact ⟨_, ts, _, rfl, by rw [HLL.out]; exact hl13, HXB.out x (List.mem_of_getElem? HX.out), HG8.out.more (by omega)⟩
          · have hmi : ¬ (0 : Int) < (m : Int) := by omega
            have hmd : decide (0 < m) = false := by simpa using hm
            have hz := HG7.out.2.1.size
            have HP := Lib.hid (show Calls Tryz.prog 84 #[.pointer (some ⟨b, 0, none⟩), .int .i64 ((L : Int) + 1)] w7 (curs.NPost B b (K + 1 + 1) A n cap zs (L + 1 - 1) w7) from pick_any B b (K + 1) A n cap zs w7 (L + 1) (by omega) HG7.out.1 (by omega) (by omega))
            go_wp2_with fail
            refine HP.out.mono ?_
            rintro e w8 ⟨r1, rfl, hr1, hC, hg⟩
            have HG8 := Lib.hid (HG7.out.step hC hg)
            clear hC hg HP
            go_wp2_with fail
            refine (pick_any B b (K + 1 + 1) A n cap zs w8 9 (by omega) HG8.out.1 (by decide) (by decide)).mono ?_
            rintro e w9 ⟨r2, rfl, hr2, hC, hg⟩
            have HG9 := Lib.hid (HG8.out.step hC hg)
            clear hC hg HG8
            have hq : 0 ≤ (r2 : Int) / 8 ∧ (r2 : Int) / 8 ≤ 1 := by omega
            go_wp2_with fail
            go_ret2
            exact ⟨_, ts, _, rfl, by rw [HLL.out]; exact hl13, by omega, HG9.out.more (by omega)⟩
        · skip
          have hz := HG6.out.2.1.size
          have HP := Lib.hid (show Calls Tryz.prog 84 #[.pointer (some ⟨b, 0, none⟩), .int .i64 ((L : Int) + 1)] w6 (curs.NPost B b (K + 1 + 1) A n cap zs (L + 1 - 1) w6) from pick_any B b (K + 1) A n cap zs w6 (L + 1) (by omega) HG6.out.1 (by omega) (by omega))
          go_wp2_with fail
          refine HP.out.mono ?_
          rintro e w8 ⟨r1, rfl, hr1, hC, hg⟩
          have HG8 := Lib.hid (HG6.out.step hC hg)
          clear hC hg HP
          go_wp2_with fail
          refine (pick_any B b (K + 1 + 1) A n cap zs w8 9 (by omega) HG8.out.1 (by decide) (by decide)).mono ?_
          rintro e w9 ⟨r2, rfl, hr2, hC, hg⟩
          have HG9 := Lib.hid (HG8.out.step hC hg)
          clear hC hg HG8
          have hq : 0 ≤ (r2 : Int) / 8 ∧ (r2 : Int) / 8 ≤ 1 := by omega
          go_wp2_with fail
          go_ret2
          exact ⟨_, ts, _, rfl, by rw [HLL.out]; exact hl13, by omega, HG9.out.more (by omega)⟩
set_option maxHeartbeats 4000000 in
set_option maxRecDepth 100000 in
theorem loopOf_draw (A : Option Addr) (n cap : Nat) (zs : List UInt8) (w : World) (h : Hid (curs.Code w A n zs)) : Calls Tryz.prog 133 #[.slice A n cap] w (CAPo (-1) 13 w) := by
  have HC0 := Lib.hid (cur_new cap h.out)
  go_enter Tryz.func133, Tryz.ntmps133
  go_wp2_with fail
  refine (closing_draw w.heap.size w.heap.size 0 A n cap zs _ (by omega) HC0).mono ?_
  rintro e w1 ⟨v, ts, q, rfl, hl, hq, hG⟩
  have HG := Lib.hid hG
  clear hG HC0 h
  go_wp2_with fail
  go_ret2
  exact ⟨v, ts, q, rfl, own_base (by simp) HG.out.2.2.1, hl, hq, low HG.out.2.1⟩
set_option maxHeartbeats 4000000 in
set_option maxRecDepth 100000 in
theorem worst_draw (A : Option Addr) (n cap : Nat) (zs : List UInt8) (w : World) (h : Hid (curs.Code w A n zs)) : Calls Tryz.prog 90 #[.slice A n cap] w (DLPo w) := by
  go_enter Tryz.func90, Tryz.ntmps90
  go_wp2_with fail
  refine (loopOf_draw A n cap zs w h).mono ?_
  rintro e w1 ⟨v, ts, q, rfl, ho, hl, hq, hb⟩
  have HO := Lib.hid ho
  have HB := Lib.hid hb
  clear ho h hb
  go_wp2_with fail
  go_ret
  exact ⟨v, ts, rfl, HO.out, hl, HB.out⟩
end Go.Proofs.YtiimegmaokfpgabGreatDoor.dcv

namespace Go.Proofs.YtiimegmaokfpgabGreatDoor.dcv
open Go.RowKit
open reads base curs curd cure ty lg nt drl
set_option linter.unusedVariables false
set_option linter.unusedSimpArgs false

theorem axis_any (B b k : Nat) (A : Option Addr) (n cap : Nat) (zs : List UInt8) (w : World) (hk : k ≤ 50000) (h : Hid (Cur w B b k A n cap zs)) :
    Calls Tryz.prog 64 #[.pointer (some ⟨b, 0, none⟩)] w fun e w' => ∃ x : Int, (-1 ≤ x ∧ x ≤ 3) ∧ e = .returned (.int .i64 x) ∧ Cur w' B b (k + 1) A n cap zs ∧ w.grownBy w' (some b) := by
  go_enter Tryz.func64, Tryz.ntmps64
  go_wp2_with fail
  refine (among_new B b k A n cap zs w 10 _ [0, 1, 2, 0, 1, 2, 2, 1, -1, 3] (by omega) h.out rfl (by decide) (by decide)).mono ?_
  rintro e w1 ⟨x, hx, rfl, hC, hg⟩
  have HX := Lib.hid (show -1 ≤ x ∧ x ≤ 3 by simp at hx; omega)
  have HC := Lib.hid hC
  have HG := Lib.hid hg
  clear hx hC hg
  go_wp2_with fail
  go_ret
  exact ⟨x, HX.out, rfl, HC.out, HG.out⟩
set_option maxHeartbeats 4000000 in
set_option maxRecDepth 100000 in
theorem axis_draw (A : Option Addr) (n cap : Nat) (zs : List UInt8) (w : World) (h : Hid (curs.Code w A n zs)) : Calls Tryz.prog 8 #[.slice A n cap] w (CAPo (-1) 3 w) := by
  have HC0 := Lib.hid (cur_new cap h.out)
  go_enter Tryz.func8, Tryz.ntmps8
  go_wp2_with fail
  refine (closing_draw w.heap.size w.heap.size 0 A n cap zs _ (by omega) HC0).mono ?_
  rintro e w1 ⟨v, ts, q, rfl, hl, hq, hG⟩
  have HG := Lib.hid hG
  clear hG HC0 h
  go_wp2_with fail
  refine (axis_any w.heap.size w.heap.size (0 + 900) A n cap zs _ (by omega) (Lib.hid HG.out.1)).mono ?_
  rintro e w2 ⟨x, hx, rfl, hC, hg⟩
  have HG2 := Lib.hid (HG.out.step hC hg)
  clear hC hg HG
  go_wp2_with fail
  go_ret2
  exact ⟨v, ts, x, rfl, own_base (by simp) HG2.out.2.2.1, hl, hx, low HG2.out.2.1⟩
set_option maxHeartbeats 4000000 in
set_option maxRecDepth 100000 in
theorem squareSum_draw (A : Option Addr) (n cap : Nat) (zs : List UInt8) (w : World) (h : Hid (curs.Code w A n zs)) : Calls Tryz.prog 23 #[.slice A n cap] w (CAPo (-1) 3 w) := by
  go_enter Tryz.func23, Tryz.ntmps23
  go_wp2_with fail
  refine (axis_draw A n cap zs w h).mono ?_
  rintro e w1 ⟨v, ts, q, rfl, ho⟩
  have HO := Lib.hid ho
  clear ho h
  go_wp2_with fail
  go_ret2
  exact ⟨v, ts, q, rfl, HO.out⟩
set_option maxHeartbeats 4000000 in
set_option maxRecDepth 100000 in
theorem exactLegs_draw (A : Option Addr) (n cap : Nat) (zs : List UInt8) (w : World) (h : Hid (curs.Code w A n zs)) : Calls Tryz.prog 29 #[.slice A n cap] w (DLPo w) := by
  go_enter Tryz.func29, Tryz.ntmps29
  go_wp2_with fail
  refine (worst_draw A n cap zs w h).mono ?_
  rintro e w1 ⟨v, ts, rfl, ho, hl, hb⟩
  have HO := Lib.hid ho
  have HB := Lib.hid hb
  clear ho h hb
  go_wp2_with fail
  go_ret
  exact ⟨v, ts, rfl, HO.out, hl, HB.out⟩
set_option maxHeartbeats 4000000 in
set_option maxRecDepth 100000 in
theorem adjDepth_draw (A : Option Addr) (n cap : Nat) (zs : List UInt8) (w : World) (h : Hid (curs.Code w A n zs)) : Calls Tryz.prog 33 #[.slice A n cap] w (DLPo w) := by
  go_enter Tryz.func33, Tryz.ntmps33
  go_wp2_with fail
  refine (worst_draw A n cap zs w h).mono ?_
  rintro e w1 ⟨v, ts, rfl, ho, hl, hb⟩
  have HO := Lib.hid ho
  have HB := Lib.hid hb
  clear ho h hb
  go_wp2_with fail
  go_ret
  exact ⟨v, ts, rfl, HO.out, hl, HB.out⟩
set_option maxHeartbeats 4000000 in
set_option maxRecDepth 100000 in
theorem treeCount_draw (A : Option Addr) (n cap : Nat) (zs : List UInt8) (w : World) (h : Hid (curs.Code w A n zs)) : Calls Tryz.prog 38 #[.slice A n cap] w (DLPo w) := by
  go_enter Tryz.func38, Tryz.ntmps38
  go_wp2_with fail
  refine (worst_draw A n cap zs w h).mono ?_
  rintro e w1 ⟨v, ts, rfl, ho, hl, hb⟩
  have HO := Lib.hid ho
  have HB := Lib.hid hb
  clear ho h hb
  go_wp2_with fail
  go_ret
  exact ⟨v, ts, rfl, HO.out, hl, HB.out⟩
end Go.Proofs.YtiimegmaokfpgabGreatDoor.dcv
