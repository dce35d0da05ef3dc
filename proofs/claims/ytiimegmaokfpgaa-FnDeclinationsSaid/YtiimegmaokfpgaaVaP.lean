/-
  The program of the needless points.
  Conditions: the points lie in one block, at most 2000000 of them.
-/
import Derived.Test.YtiimegmaokfpgaaVaO
import Derived.Test.YtiimegmaokfpgaaVaN
import Derived.Test.YtiimegmaokfpgaaVaI
import Derived.BigQuiet
import Derived.Deep.QuietTactic
import Derived.Deep.Cut
import Derived.Deep.DeepCutAuto
import Derived.RegionTactic
import Derived.Deep.RegionWith
import Derived.OwnWalk
import Derived.Deep.RegionHeld3
namespace Go.Proofs.Ytiimegmaokfpgaa.va
open Go.RowKit
open reads base ty rowi inn win mt
set_option linter.unusedVariables false
set_option linter.unusedSimpArgs false

theorem same_flip (xs ys : List Dp) : ∀ n : Nat, (List.range n).all (fun j => dec ys (j : Int) == dec xs (j : Int)) = sameN xs ys n := fun n => by
  unfold sameN
  congr 1
  funext j
  rw [Bool.beq_comm]
theorem decs_one (ts : List Dp) : (decs ts).all (·.oneCell') = true := cs1_one _ _
theorem decs_eq (xs ys : List Dp) (v : World) : (Op.equalIn 10000 72 (.agg (decs ys)) (.agg (decs xs))).run Try.prog v = .ok (sameN xs ys 1000) v := by
  rw [← same_flip xs ys 1000]; exact eq_arr _ _ v
/-- indices under way, the declinations in their box -/
def PN (w : World) (G : Nat) (ds : Array Value) (A : Option Addr) (m c : Nat) (xs : List Int) (v : World) : Prop := NR_ w A m c xs v ∧ Blk v G 72 ds
theorem PN.step {w v v' : World} {G : Nat} {ds : Array Value} {A : Option Addr} {m c : Nat} {xs : List Int} (h : PN w G ds A m c xs v) (hb : Below v.heap.size v v') : PN w G ds A m c xs v' := ⟨h.1.step hb, h.2.below hb h.2.lt⟩
theorem PN.alloc {w v : World} {G : Nat} {ds : Array Value} {A : Option Addr} {m c : Nat} {xs : List Int} (h : PN w G ds A m c xs v) (o : Obj) : PN w G ds A m c xs (v.alloc o) := h.step ((Below.refl _ _).alloc (Nat.le_refl _) o)
theorem PN.app {w v v' : World} {G : Nat} {ds : Array Value} {A A9 : Option Addr} {m c c9 : Nat} {xs : List Int} {x : Int} (h : PN w G ds A m c xs v) (hg : v.grownBy v' (Value.slice A m c).ownBlock) (ho : v'.ownsRow w.heap.size 3 1 (.slice A9 (m + 1) c9) (m + 1) (ints.intsV xs ++ [.int .i64 x])) : PN w G ds A9 (m + 1) c9 (xs ++ [x]) v' :=
  ⟨⟨h.1.1.grown hg h.1.1.size (fun q eq => (h.1.2.1.lt q eq).1), by rw [intsV_app]; exact ho, by rw [List.length_append, h.1.2.2]; rfl⟩, h.2.grown hg (fun e => own_blk_ne h.1.2.1 h.2 (by decide) e.symm)⟩
/-- and points of one's own -/
def QN (w : World) (G : Nat) (ds : Array Value) (A : Option Addr) (m c : Nat) (xs : List Int) (B : Nat) (A3 : Option Addr) (N c3 : Nat) (us : List Dp) (v : World) : Prop := Blk v G 72 ds ∧ PN w G ds A m c xs v ∧ v.ownsRow B 42 2 (.slice A3 N c3) N (flatDp us)
theorem QN.step {w v v' : World} {G : Nat} {ds : Array Value} {A : Option Addr} {m c : Nat} {xs : List Int} {B : Nat} {A3 : Option Addr} {N c3 : Nat} {us : List Dp} (h : QN w G ds A m c xs B A3 N c3 us v) (hb : Below v.heap.size v v') : QN w G ds A m c xs B A3 N c3 us v' := ⟨h.1.below hb h.1.lt, h.2.1.step hb, row_below h.2.2 hb⟩
set_option maxHeartbeats 16000000 in
set_option maxRecDepth 100000 in
theorem needless_impl (A : Option Addr) (n cap : Nat) (ts : List Dp) (w : World) (hcap : CapOk A n cap) (hn : n ≤ 2000000) (hts : Hid (DpAt w w.heap.size A n ts)) :
    Calls Try.prog 37 #[.slice A n cap] w (LPost (ndIds ts) (goodDp ts) w) := by
  have HL := Lib.hid hts.out.1
  have HCP := Lib.hid hcap
  clear hcap
  obtain ⟨i0, hi, hz0, hz1, hz2⟩ := info_parts infoI
  obtain ⟨G1, HG⟩ : ∃ G, Hid (goodDp ts = G) := ⟨_, Lib.hid rfl⟩
  cases G1
  · have HX := Lib.hid (show ndIds ts = [] by unfold ndIds; rw [if_neg (by rw [HG.out]; simp)])
    go_enter Try.func37, Try.ntmps37
    go_wp2_with fail
    refine (arePoints_is A n cap ts _ HG _ hn hts).mono ?_
    rintro e w1 ⟨rfl, b1⟩
    have HB1 := Lib.hid b1
    clear b1
    go_wp2_with fail
    go_ret2
    exact ⟨_, by rw [HG.out]; rfl, by rw [HX.out]; exact made1 w w1 HB1.out.size 3 1, HB1.out.alloc HB1.out.size _⟩
  obtain ⟨l1, l8, hu⟩ := good_lim HG.out
  rw [HL.out] at l1 l8
  clear hu
  obtain ⟨g, rfl, hnc⟩ : ∃ g, A = some ⟨g, 0, none⟩ ∧ n ≤ cap := by
    rcases HCP.out with h | h
    · exact h
    · omega
  clear HCP
  have HX := Lib.hid (show ndIds ts = ndK ts n by unfold ndIds; rw [if_pos HG.out, HL.out])
  obtain ⟨ds, HDS⟩ : ∃ z, Hid (decs ts = z) := ⟨_, Lib.hid rfl⟩
  have hds : ds.size = 1000 := by rw [← HDS.out]; exact decs_size ts
  have HD1 := Lib.hid (show ds.all (·.oneCell') = true by rw [← HDS.out]; exact decs_one ts)
  go_enter Try.func37, Try.ntmps37
  go_wp2_with fail
  refine (arePoints_is (some ⟨g, 0, none⟩) n cap ts _ HG _ hn hts).mono ?_
  rintro e w1 ⟨rfl, b1⟩
  have HN1 := Lib.hid (NR_.mk0 b1)
  clear b1
  go_wp2_with fail
  refine (decs_any (some ⟨g, 0, none⟩) n cap ts _ hn (Lib.hid (hts.out.step HN1.out.1)) HG).mono ?_
  rintro e w2 ⟨rfl, b2⟩
  have HN2 := Lib.hid (HN1.out.step b2)
  clear b2 HN1
  rw [HDS.out]
  rename_i K0 hK0
  show K0 _ _
  refine hK0 _ _ ?_
  refine step_alloc _ rfl rfl ?_
  simp only [Act.put, List.getElem_toArray, List.getElem_cons_succ, List.getElem_cons_zero, List.setIfInBounds_toArray, List.set_cons_zero, List.set_cons_succ]
  obtain ⟨G, HGG⟩ : ∃ G, Hid (w2.heap.size = G) := ⟨_, Lib.hid rfl⟩
  obtain ⟨W2, HW2⟩ : ∃ W, Hid (w2.alloc (.cells arr0 72) = W) := ⟨_, Lib.hid rfl⟩
  have HG2 := Lib.hid (show Blk W2 G 72 arr0 by rw [← HW2.out, ← HGG.out]; exact Blk.new _ _ _)
  have HN3 := Lib.hid (show NR_ w (some ⟨w1.heap.size, 0, none⟩) 0 0 [] W2 by rw [← HW2.out]; exact HN2.out.step ((Below.refl _ _).alloc (Nat.le_refl _) _))
  have hwG : w.heap.size ≤ G ∧ w1.heap.size < G := by rw [← HGG.out]; exact ⟨HN2.out.1.size, (HN2.out.2.1.lt w1.heap.size rfl).2⟩
  rw [HW2.out]
  try simp only [HGG.out]
  clear HW2 HGG HN2
  refine step_store _ rfl _ _ rfl G _ _ rfl rfl HG2.out arr0_size hds HD1.out ?_
  intro W3 hW hG
  have HP3 := Lib.hid (show PN w G ds (some ⟨w1.heap.size, 0, none⟩) 0 0 [] W3 from ⟨⟨HN3.out.1.grown hG HN3.out.1.size (fun q e => by have e := Option.some.inj e; omega), HN3.out.2.1.kept hG (.inr (fun e => by have e : w1.heap.size = G := Option.some.inj e; omega)), rfl⟩, hW⟩)
  clear hW hG HG2 HN3
  simp only [Act.put, List.getElem_toArray, List.getElem_cons_succ, List.getElem_cons_zero, List.setIfInBounds_toArray, List.set_cons_zero, List.set_cons_succ]
  go_wp2_with fail
  go_loopw [4, 17] (fun v i wr => ∃ (k m c2 : Nat) (A2 : Option Addr) (xs : List Int), k ≤ n ∧ i = .int .i64 (k : Nat) ∧ v = .slice A2 m c2 ∧ m ≤ k ∧ Hid (ndK ts k = xs) ∧ PN w G ds A2 m c2 xs wr) (fun _ i _ => n - (intOf i).toNat)
  case atStart => exact ⟨0, 0, 0, _, [], Nat.zero_le _, rfl, rfl, Nat.le_refl _, Lib.hid rfl, HP3.out⟩
  case round =>
    clear HP3
    obtain ⟨k, m, c2, A2, xs, hk, rfl, rfl, hmk, HXS, hN⟩ := hrel
    have HN := Lib.hid hN
    clear hN
    have hk0 : (0 : Int) ≤ (k : Int) := by omega
    by_cases hlt : k < n
    · have hki : (k : Int) < (n : Int) := by omega
      have hkd : decide (k < n) = true := by simpa using hlt
      have HTW := Lib.hid (fun (v : World) (hv : Below wr.heap.size wr v) => show DpAt v wr.heap.size (some ⟨g, 0, none⟩) n ts from ((hts.out.step HN.out.1.1).below hv))
      obtain ⟨N1, HN1⟩ : ∃ N, Hid (n = N + 1) := ⟨n - 1, Lib.hid (by omega)⟩
      have HLE := Lib.hid (show (lessDp ts k).length = N1 by rw [lessDp_len (by rw [HL.out]; exact hlt), HL.out]; have := HN1.out; omega)
      obtain ⟨b, HNB⟩ : ∃ b, Hid (needless ts k = b) := ⟨_, Lib.hid rfl⟩
      have hkc : k ≤ cap := by omega
      have hkci : (k : Int) ≤ (cap : Int) := by omega
      have hk1n : (k : Int) + 1 ≤ (n : Int) := by omega
      have hk10 : (0 : Int) ≤ (k : Int) + 1 := by omega
      have hk1t : ((k : Int) + 1).toNat = k + 1 := by omega
      have hnci : (n : Int) ≤ (cap : Int) := by omega
      have hk1w : IntKind.i64.wrap ((k : Int) + 1) = (k : Int) + 1 := IntWalk.i64_in _ (by omega)
      go_upto_region 8 with fail
      go_cut [7] (fun v wx => ∃ (A3 : Option Addr) (c3 : Nat), v = .slice A3 N1 c3 ∧ QN w G ds A2 m c2 xs wr.heap.size A3 N1 c3 (lessDp ts k) wx)
      case first =>
        rename_i J0 K0 hJ0 hK0
        by_cases hce : cap = k + 1
        · subst hce
          obtain rfl : n = k + 1 := by omega
          have hkk : (k : Int) ≤ (k : Int) + 1 := by omega
          refine wp_region_held_drew (S := fun v => PN w G ds A2 m c2 xs v) (by kernel_rfl) ?_ (fun hHeld => ?_)
          · exact HN.out.step (drewN_below _ 1)
          obtain ⟨V0, HV0⟩ : ∃ V, Hid (wr.drew = V) := ⟨_, Lib.hid rfl⟩
          have HB0 := Lib.hid (show Below wr.heap.size wr V0 by rw [← HV0.out]; exact drewN_below _ 1)
          rw [HV0.out] at hHeld ⊢
          clear HV0
          refine' wpAnyH_take (i := 0) (v := ?vr8_0) rfl (by kernel_rfl) (by kernel_rfl) (by kernel_rfl) (fun _ _ _ h => h) (Or.inl ⟨by rfl, ?hyr8_0⟩) (by assumption) ?restr8_0
          case hyr8_0 => (intro w hSw; (try dsimp only at hSw); go_simp; try (with_reducible rfl))
          simp only [Act.put, List.getElem_toArray, List.getElem_cons_succ, List.getElem_cons_zero, List.setIfInBounds_toArray, List.set_cons_zero, List.set_cons_succ]
          refine' wpAnyH_take (i := 1) (v := ?vr8_1) rfl (by kernel_rfl) (by kernel_rfl) (by kernel_rfl) (fun _ _ _ h => h) (Or.inl ⟨by rfl, ?hyr8_1⟩) (by assumption) ?restr8_1
          case hyr8_1 => (intro w hSw; (try dsimp only at hSw); go_simp; try (with_reducible rfl))
          simp only [Act.put, List.getElem_toArray, List.getElem_cons_succ, List.getElem_cons_zero, List.setIfInBounds_toArray, List.set_cons_zero, List.set_cons_succ]
          refine' wpAnyH_take (i := 2) (v := ?vr8_2) rfl (by kernel_rfl) (by kernel_rfl) (by kernel_rfl) (fun _ _ _ h => h) (Or.inl ⟨by rfl, ?hyr8_2⟩) (by assumption) ?restr8_2
          case hyr8_2 => (intro w hSw; (try dsimp only at hSw); go_simp; try (with_reducible rfl))
          simp only [Act.put, List.getElem_toArray, List.getElem_cons_succ, List.getElem_cons_zero, List.setIfInBounds_toArray, List.set_cons_zero, List.set_cons_succ]
          refine' wpAnyH_take (i := 3) (v := ?vr8_3) rfl (by kernel_rfl) (by kernel_rfl) (by kernel_rfl) (fun _ _ _ h => h) (Or.inl ⟨by rfl, ?hyr8_3⟩) (by assumption) ?restr8_3
          case hyr8_3 => (intro w hSw; (try dsimp only at hSw); go_simp; try (with_reducible rfl))
          simp only [Act.put, List.getElem_toArray, List.getElem_cons_succ, List.getElem_cons_zero, List.setIfInBounds_toArray, List.set_cons_zero, List.set_cons_succ]
          refine' wpAnyH_take (i := 4) (v := ?vr8_4) rfl (by kernel_rfl) (by kernel_rfl) (by kernel_rfl) (fun _ _ _ h => h) (Or.inl ⟨by rfl, ?hyr8_4⟩) (by assumption) ?restr8_4
          case hyr8_4 => (intro w hSw; (try dsimp only at hSw); go_simp; try (with_reducible rfl))
          simp only [Act.put, List.getElem_toArray, List.getElem_cons_succ, List.getElem_cons_zero, List.setIfInBounds_toArray, List.set_cons_zero, List.set_cons_succ]
          refine' wpAnyH_take (i := 5) (v := ?vr8_5) rfl (by kernel_rfl) (by kernel_rfl) (by kernel_rfl) (fun _ _ _ h => h) (Or.inl ⟨by rfl, ?hyr8_5⟩) (by assumption) ?restr8_5
          case hyr8_5 => (intro w hSw; (try dsimp only at hSw); go_simp; try (with_reducible rfl))
          simp only [Act.put, List.getElem_toArray, List.getElem_cons_succ, List.getElem_cons_zero, List.setIfInBounds_toArray, List.set_cons_zero, List.set_cons_succ]
          refine' wpAnyH_take (i := 6) (v := ?vr8_6) rfl (by kernel_rfl) (by kernel_rfl) (by kernel_rfl) (fun _ _ _ h => h) (Or.inl ⟨by rfl, ?hyr8_6⟩) (by assumption) ?restr8_6
          case hyr8_6 => (intro w hSw; (try dsimp only at hSw); go_simp; try (with_reducible rfl))
          simp only [Act.put, List.getElem_toArray, List.getElem_cons_succ, List.getElem_cons_zero, List.setIfInBounds_toArray, List.set_cons_zero, List.set_cons_succ]
          have HN1 := Lib.hid hHeld
          refine wpAnyH_ready (rs := [7]) (by kernel_rfl) (by simp) ?_
          refine AllReadyH.cons rfl (fun K hK => ?_) AllReadyH.nil
          go_simp
          refine hK.out _ _ (HN1.out.alloc _) (fun hHeld1 => ?_)
          clear hK K hHeld
          have hHeld := hHeld1
          clear hHeld1
          try simp only [Act.put, List.getElem_toArray, List.getElem_cons_succ, List.getElem_cons_zero, List.setIfInBounds_toArray, List.set_cons_zero, List.set_cons_succ]
          obtain ⟨Q, HQQ⟩ : ∃ G, Hid (V0.heap.size = G) := ⟨_, Lib.hid rfl⟩
          obtain ⟨V1, HW1⟩ : ∃ W, Hid (V0.alloc (.cells #[.slice (some ⟨g, 0, none⟩) k (k + 1), .slice (some ⟨g, 0, none⟩) 0 0] 24) = W) := ⟨_, Lib.hid rfl⟩
          have HB1 := Lib.hid (show Below wr.heap.size wr V1 by rw [← HW1.out]; exact HB0.out.alloc HB0.out.size _)
          have HQB := Lib.hid (show Blk V1 Q 24 #[.slice (some ⟨g, 0, none⟩) k (k + 1), .slice (some ⟨g, 0, none⟩) 0 0] by rw [← HW1.out, ← HQQ.out]; exact Blk.new _ _ _)
          rw [HW1.out] at hHeld ⊢
          try rw [HQQ.out]
          clear HW1 HQQ HN1
          have HPS := Lib.hid (show PrtsAt V1 V1.heap.size Q [⟨some ⟨g, 0, none⟩, k, (k + 1), ts.take k⟩, ⟨(some ⟨g, 0, none⟩), 0, 0, ts.drop (k + 1)⟩] from ⟨HQB.out.lt, fun i p hp => by
            have hsz := HB1.out.size
            match i, hp with
            | 0, hp => obtain rfl := Option.some.inj hp; exact ⟨HQB.out.cell 0, prt_src (by omega) hsz (src_take (HTW.out V1 HB1.out) (by omega) _)⟩
            | 1, hp => obtain rfl := Option.some.inj hp; exact ⟨HQB.out.cell 1, prt_src (by omega) hsz (by rw [List.drop_of_length_le (by rw [HL.out]; omega)]; exact src_end _ _ _ _)⟩
            | i + 2, hp => simp at hp⟩)
          have HJ := Lib.hid (show joinP [⟨some ⟨g, 0, none⟩, k, (k + 1), ts.take k⟩, ⟨(some ⟨g, 0, none⟩), 0, 0, ts.drop (k + 1)⟩] = lessDp ts k by simp [joinP, lessDp])
          refine wpAnyH_ready (rs := [8]) (by kernel_rfl) (by simp) ?_
          refine AllReadyH.cons rfl (fun K hK => ?_) AllReadyH.nil
          go_simp
          refine (concat_any Q 2 _ _ _ (by decide) rfl HPS).mono ?_
          rintro e w4 ⟨A4, c4, rfl, ho, b4⟩
          rw [HJ.out, HLE.out] at ho
          try rw [HJ.out, HLE.out]
          have HN4 := Lib.hid (show PN w G ds A2 m c2 xs w4 from hHeld.step b4)
          have HO4 := Lib.hid (own_low (base' := wr.heap.size) HB1.out.size ho)
          refine hK.out _ _ HN4.out (fun hHeld1 => ?_)
          clear ho b4
          clear hK K hHeld
          have hHeld := hHeld1
          clear hHeld1
          try simp only [Act.put, List.getElem_toArray, List.getElem_cons_succ, List.getElem_cons_zero, List.setIfInBounds_toArray, List.set_cons_zero, List.set_cons_succ]
          refine' wpAnyH_take (i := 9) (v := ?vr9_9) rfl (by kernel_rfl) (by kernel_rfl) (by kernel_rfl) (fun _ _ _ h => h) (Or.inl ⟨by rfl, ?hyr9_9⟩) (by assumption) ?restr9_9
          case hyr9_9 => (intro w hSw; (try dsimp only at hSw); go_simp; try (with_reducible rfl))
          simp only [Act.put, List.getElem_toArray, List.getElem_cons_succ, List.getElem_cons_zero, List.setIfInBounds_toArray, List.set_cons_zero, List.set_cons_succ]
          refine wpAnyH_done (by kernel_rfl) ?_ _
          first | refine hK0 _ _ (Met.intro (hJ0 _ _ ?_)) | refine Met.intro (hK0 _ _ (Met.intro (hJ0 _ _ ?_)))
          (repeat apply Exists.intro)
          exact ⟨⟨A4, c4, rfl, HN4.out.2, HN4.out, HO4.out⟩, rfl⟩
        · have hci : ¬ (cap : Int) = (k : Int) + 1 := by omega
          refine wp_region_held_drew (S := fun v => PN w G ds A2 m c2 xs v) (by kernel_rfl) ?_ (fun hHeld => ?_)
          · exact HN.out.step (drewN_below _ 1)
          obtain ⟨V0, HV0⟩ : ∃ V, Hid (wr.drew = V) := ⟨_, Lib.hid rfl⟩
          have HB0 := Lib.hid (show Below wr.heap.size wr V0 by rw [← HV0.out]; exact drewN_below _ 1)
          rw [HV0.out] at hHeld ⊢
          clear HV0
          refine' wpAnyH_take (i := 0) (v := ?vr6_0) rfl (by kernel_rfl) (by kernel_rfl) (by kernel_rfl) (fun _ _ _ h => h) (Or.inl ⟨by rfl, ?hyr6_0⟩) (by assumption) ?restr6_0
          case hyr6_0 => (intro w hSw; (try dsimp only at hSw); go_simp; try (with_reducible rfl))
          simp only [Act.put, List.getElem_toArray, List.getElem_cons_succ, List.getElem_cons_zero, List.setIfInBounds_toArray, List.set_cons_zero, List.set_cons_succ]
          refine' wpAnyH_take (i := 1) (v := ?vr6_1) rfl (by kernel_rfl) (by kernel_rfl) (by kernel_rfl) (fun _ _ _ h => h) (Or.inl ⟨by rfl, ?hyr6_1⟩) (by assumption) ?restr6_1
          case hyr6_1 => (intro w hSw; (try dsimp only at hSw); go_simp; try (with_reducible rfl))
          simp only [Act.put, List.getElem_toArray, List.getElem_cons_succ, List.getElem_cons_zero, List.setIfInBounds_toArray, List.set_cons_zero, List.set_cons_succ]
          refine' wpAnyH_take (i := 2) (v := ?vr6_2) rfl (by kernel_rfl) (by kernel_rfl) (by kernel_rfl) (fun _ _ _ h => h) (Or.inl ⟨by rfl, ?hyr6_2⟩) (by assumption) ?restr6_2
          case hyr6_2 => (intro w hSw; (try dsimp only at hSw); go_simp; try (with_reducible rfl))
          simp only [Act.put, List.getElem_toArray, List.getElem_cons_succ, List.getElem_cons_zero, List.setIfInBounds_toArray, List.set_cons_zero, List.set_cons_succ]
          refine' wpAnyH_take (i := 3) (v := ?vr6_3) rfl (by kernel_rfl) (by kernel_rfl) (by kernel_rfl) (fun _ _ _ h => h) (Or.inl ⟨by rfl, ?hyr6_3⟩) (by assumption) ?restr6_3
          case hyr6_3 => (intro w hSw; (try dsimp only at hSw); go_simp; try (with_reducible rfl))
          simp only [Act.put, List.getElem_toArray, List.getElem_cons_succ, List.getElem_cons_zero, List.setIfInBounds_toArray, List.set_cons_zero, List.set_cons_succ]
          refine' wpAnyH_take (i := 4) (v := ?vr6_4) rfl (by kernel_rfl) (by kernel_rfl) (by kernel_rfl) (fun _ _ _ h => h) (Or.inl ⟨by rfl, ?hyr6_4⟩) (by assumption) ?restr6_4
          case hyr6_4 => (intro w hSw; (try dsimp only at hSw); go_simp; try (with_reducible rfl))
          simp only [Act.put, List.getElem_toArray, List.getElem_cons_succ, List.getElem_cons_zero, List.setIfInBounds_toArray, List.set_cons_zero, List.set_cons_succ]
          refine' wpAnyH_take (i := 5) (v := ?vr6_5) rfl (by kernel_rfl) (by kernel_rfl) (by kernel_rfl) (fun _ _ _ h => h) (Or.inl ⟨by rfl, ?hyr6_5⟩) (by assumption) ?restr6_5
          case hyr6_5 => (intro w hSw; (try dsimp only at hSw); go_simp; try (with_reducible rfl))
          simp only [Act.put, List.getElem_toArray, List.getElem_cons_succ, List.getElem_cons_zero, List.setIfInBounds_toArray, List.set_cons_zero, List.set_cons_succ]
          refine' wpAnyH_take (i := 6) (v := ?vr6_6) rfl (by kernel_rfl) (by kernel_rfl) (by kernel_rfl) (fun _ _ _ h => h) (Or.inl ⟨by rfl, ?hyr6_6⟩) (by assumption) ?restr6_6
          case hyr6_6 => (intro w hSw; (try dsimp only at hSw); go_simp; try (with_reducible rfl))
          simp only [Act.put, List.getElem_toArray, List.getElem_cons_succ, List.getElem_cons_zero, List.setIfInBounds_toArray, List.set_cons_zero, List.set_cons_succ]
          have HN1 := Lib.hid hHeld
          refine wpAnyH_ready (rs := [7]) (by kernel_rfl) (by simp) ?_
          refine AllReadyH.cons rfl (fun K hK => ?_) AllReadyH.nil
          go_simp
          refine hK.out _ _ (HN1.out.alloc _) (fun hHeld1 => ?_)
          clear hK K hHeld
          have hHeld := hHeld1
          clear hHeld1
          try simp only [Act.put, List.getElem_toArray, List.getElem_cons_succ, List.getElem_cons_zero, List.setIfInBounds_toArray, List.set_cons_zero, List.set_cons_succ]
          obtain ⟨Q, HQQ⟩ : ∃ G, Hid (V0.heap.size = G) := ⟨_, Lib.hid rfl⟩
          obtain ⟨V1, HW1⟩ : ∃ W, Hid (V0.alloc (.cells #[.slice (some ⟨g, 0, none⟩) k cap, .slice (some ⟨g, (k + 1) * 2, none⟩) (n - (k + 1)) (cap - (k + 1))] 24) = W) := ⟨_, Lib.hid rfl⟩
          have HB1 := Lib.hid (show Below wr.heap.size wr V1 by rw [← HW1.out]; exact HB0.out.alloc HB0.out.size _)
          have HQB := Lib.hid (show Blk V1 Q 24 #[.slice (some ⟨g, 0, none⟩) k cap, .slice (some ⟨g, (k + 1) * 2, none⟩) (n - (k + 1)) (cap - (k + 1))] by rw [← HW1.out, ← HQQ.out]; exact Blk.new _ _ _)
          rw [HW1.out] at hHeld ⊢
          try rw [HQQ.out]
          clear HW1 HQQ HN1
          have HPS := Lib.hid (show PrtsAt V1 V1.heap.size Q [⟨some ⟨g, 0, none⟩, k, cap, ts.take k⟩, ⟨(some ⟨g, (k + 1) * 2, none⟩), (n - (k + 1)), (cap - (k + 1)), ts.drop (k + 1)⟩] from ⟨HQB.out.lt, fun i p hp => by
            have hsz := HB1.out.size
            match i, hp with
            | 0, hp => obtain rfl := Option.some.inj hp; exact ⟨HQB.out.cell 0, prt_src (by omega) hsz (src_take (HTW.out V1 HB1.out) (by omega) _)⟩
            | 1, hp => obtain rfl := Option.some.inj hp; exact ⟨HQB.out.cell 1, prt_src (by omega) hsz (src_drop (HTW.out V1 HB1.out) (by omega) _)⟩
            | i + 2, hp => simp at hp⟩)
          have HJ := Lib.hid (show joinP [⟨some ⟨g, 0, none⟩, k, cap, ts.take k⟩, ⟨(some ⟨g, (k + 1) * 2, none⟩), (n - (k + 1)), (cap - (k + 1)), ts.drop (k + 1)⟩] = lessDp ts k by simp [joinP, lessDp])
          refine wpAnyH_ready (rs := [8]) (by kernel_rfl) (by simp) ?_
          refine AllReadyH.cons rfl (fun K hK => ?_) AllReadyH.nil
          go_simp
          refine (concat_any Q 2 _ _ _ (by decide) rfl HPS).mono ?_
          rintro e w4 ⟨A4, c4, rfl, ho, b4⟩
          rw [HJ.out, HLE.out] at ho
          try rw [HJ.out, HLE.out]
          have HN4 := Lib.hid (show PN w G ds A2 m c2 xs w4 from hHeld.step b4)
          have HO4 := Lib.hid (own_low (base' := wr.heap.size) HB1.out.size ho)
          refine hK.out _ _ HN4.out (fun hHeld1 => ?_)
          clear ho b4
          clear hK K hHeld
          have hHeld := hHeld1
          clear hHeld1
          try simp only [Act.put, List.getElem_toArray, List.getElem_cons_succ, List.getElem_cons_zero, List.setIfInBounds_toArray, List.set_cons_zero, List.set_cons_succ]
          refine' wpAnyH_take (i := 9) (v := ?vr7_9) rfl (by kernel_rfl) (by kernel_rfl) (by kernel_rfl) (fun _ _ _ h => h) (Or.inl ⟨by rfl, ?hyr7_9⟩) (by assumption) ?restr7_9
          case hyr7_9 => (intro w hSw; (try dsimp only at hSw); go_simp; try (with_reducible rfl))
          simp only [Act.put, List.getElem_toArray, List.getElem_cons_succ, List.getElem_cons_zero, List.setIfInBounds_toArray, List.set_cons_zero, List.set_cons_succ]
          refine wpAnyH_done (by kernel_rfl) ?_ _
          first | refine hK0 _ _ (Met.intro (hJ0 _ _ ?_)) | refine Met.intro (hK0 _ _ (Met.intro (hJ0 _ _ ?_)))
          (repeat apply Exists.intro)
          exact ⟨⟨A4, c4, rfl, HN4.out.2, HN4.out, HO4.out⟩, rfl⟩
      case rest =>
        obtain ⟨A3, c3, rfl, hQ⟩ := hcut
        have HQ := Lib.hid hQ
        clear hQ HN hk1n hk10 hk1t hk1w hkc hkci
        by_cases hz : N1 = 0
        · subst hz
          obtain rfl : b = false := by rw [← HNB.out]; unfold needless; rw [decide_eq_false (by have := HN1.out; rw [HL.out]; omega)]; rfl
          have HN8 := Lib.hid HQ.out.2.1
          clear HQ
          go_upto_region 9 with fail
          go_cut [37] (fun v wx => v = .bool false ∧ PN w G ds A2 m c2 xs wx)
          case first =>
            rename_i J0 K0 hJ0 hK0
            go_quiet (fail)
            first | refine hJ0 _ _ ?_ | refine hK0 _ _ (Met.intro (hJ0 _ _ ?_)) | refine Met.intro (hK0 _ _ (Met.intro (hJ0 _ _ ?_)))
            (repeat apply Exists.intro)
            exact ⟨⟨rfl, HN8.out.step (drewN_below _ _)⟩, rfl⟩
          case rest =>
            obtain ⟨rfl, hN8⟩ := hcut
            clear HN8
            have HN8 := Lib.hid hN8
            clear hN8
            have HX := Lib.hid (ndK_no (ts := ts) (k := k) HNB.out)
            go_wp2_with fail
            go_roundw
            case rel => exact ⟨k + 1, m, c2, A2, xs, by omega, by go_num, rfl, by omega, Lib.hid (by rw [HX.out]; exact HXS.out), HN8.out⟩
            case measure => first | (simp [intOf]; omega) | (simp [intOf])
        · have hN0 : decide ((0 : Int) < (N1 : Int)) = true := by simp; omega
          have hN0e : decide (0 < N1) = true := by simp; omega
          have HGL := Lib.hid (lessDp_good HG.out (k := k) (by rw [HL.out]; exact hlt) (by have := HN1.out; rw [HL.out]; omega))
          obtain ⟨es, HES⟩ : ∃ z, Hid (decs (lessDp ts k) = z) := ⟨_, Lib.hid rfl⟩
          have HEQ := Lib.hid (show ∀ v : World, (Op.equalIn 10000 72 (.agg es) (.agg ds)).run Try.prog v = .ok b v from fun v => by
            rw [← HES.out, ← HDS.out, decs_eq, ← HNB.out]; unfold needless; rw [decide_eq_true (by have := HN1.out; rw [HL.out]; omega)]; rfl)
          go_upto_region 9 with fail
          refine wp_region_held_drew (S := (fun v => QN w G ds A2 m c2 xs wr.heap.size A3 N1 c3 (lessDp ts k) v)) (by kernel_rfl) ?_ (fun hHeld => ?_)
          · exact HQ.out.step (drewN_below _ 1)
          refine' wpAnyH_take (i := 0) (v := ?vr5_0) rfl (by kernel_rfl) (by kernel_rfl) (by kernel_rfl) (fun _ _ _ h => h) (Or.inl ⟨by rfl, ?hyr5_0⟩) (by assumption) ?restr5_0
          case hyr5_0 => (intro w hSw; (try dsimp only at hSw); go_simp; try (with_reducible rfl))
          simp only [Act.put, List.getElem_toArray, List.getElem_cons_succ, List.getElem_cons_zero, List.setIfInBounds_toArray, List.set_cons_zero, List.set_cons_succ]
          refine' wpAnyH_take (i := 1) (v := ?vr5_1) rfl (by kernel_rfl) (by kernel_rfl) (by kernel_rfl) (fun _ _ _ h => h) (Or.inl ⟨by rfl, ?hyr5_1⟩) (by assumption) ?restr5_1
          case hyr5_1 => (intro w hSw; (try dsimp only at hSw); go_simp; try (with_reducible rfl))
          simp only [Act.put, List.getElem_toArray, List.getElem_cons_succ, List.getElem_cons_zero, List.setIfInBounds_toArray, List.set_cons_zero, List.set_cons_succ]
          refine' wpAnyH_take (i := 2) (v := ?vr5_2) rfl (by kernel_rfl) (by kernel_rfl) (by kernel_rfl) (fun _ _ _ h => h) (Or.inl ⟨by rfl, ?hyr5_2⟩) (by assumption) ?restr5_2
          case hyr5_2 => (intro w hSw; (try dsimp only at hSw); go_simp; try (with_reducible rfl))
          simp only [Act.put, List.getElem_toArray, List.getElem_cons_succ, List.getElem_cons_zero, List.setIfInBounds_toArray, List.set_cons_zero, List.set_cons_succ]
          refine' wpAnyH_take (i := 3) (v := ?vr5_3) rfl (by kernel_rfl) (by kernel_rfl) (by kernel_rfl) (fun _ _ _ h => h) (Or.inl ⟨by rfl, ?hyr5_3⟩) (by assumption) ?restr5_3
          case hyr5_3 => (intro w hSw; (try dsimp only at hSw); go_simp; try (with_reducible rfl))
          simp only [Act.put, List.getElem_toArray, List.getElem_cons_succ, List.getElem_cons_zero, List.setIfInBounds_toArray, List.set_cons_zero, List.set_cons_succ]
          refine' wpAnyH_take (i := 4) (v := ?vr5_4) rfl (by kernel_rfl) (by kernel_rfl) (by kernel_rfl) (fun _ _ _ h => h) (Or.inl ⟨by rfl, ?hyr5_4⟩) (by assumption) ?restr5_4
          case hyr5_4 => (intro w hSw; (try dsimp only at hSw); go_simp; try (with_reducible rfl))
          simp only [Act.put, List.getElem_toArray, List.getElem_cons_succ, List.getElem_cons_zero, List.setIfInBounds_toArray, List.set_cons_zero, List.set_cons_succ]
          refine' wpAnyH_take (i := 6) (v := .agg ds) rfl (by kernel_rfl) (by kernel_rfl) (by kernel_rfl) (fun _ _ _ h => h) (Or.inl ⟨by rfl, fun v hSv => exec_load rfl rfl hSv.1 hds⟩) (by assumption) ?_
          simp only [Act.put, List.getElem_toArray, List.getElem_cons_succ, List.getElem_cons_zero, List.setIfInBounds_toArray, List.set_cons_zero, List.set_cons_succ]
          refine wpAnyH_ready (rs := [5]) (by kernel_rfl) (by simp) ?_
          refine AllReadyH.cons rfl (fun K hK => ?_) AllReadyH.nil
          go_simp
          refine (decs_any A3 N1 c3 (lessDp ts k) _ (by have := HN1.out; omega) (Lib.hid (own_Dp HLE.out hHeld.2.2)) HGL).mono ?_
          rintro e w8 ⟨rfl, b8⟩
          rw [HES.out]
          refine hK.out _ _ (hHeld.step b8) (fun hHeld1 => ?_)
          clear hK K hHeld
          have hHeld := hHeld1
          clear hHeld1
          try simp only [Act.put, List.getElem_toArray, List.getElem_cons_succ, List.getElem_cons_zero, List.setIfInBounds_toArray, List.set_cons_zero, List.set_cons_succ]
          refine' wpAnyH_take (i := 7) (v := .bool b) rfl (by kernel_rfl) (by kernel_rfl) (by kernel_rfl) (fun _ _ _ h => h) (Or.inl ⟨by rfl, ?hyEQ⟩) (by assumption) ?restEQ
          case hyEQ => (intro v hSv; have hq := HEQ.out v; go_simp; try rfl)
          simp only [Act.put, List.getElem_toArray, List.getElem_cons_succ, List.getElem_cons_zero, List.setIfInBounds_toArray, List.set_cons_zero, List.set_cons_succ]
          refine' wpAnyH_take (i := 8) (v := ?vr5_8) rfl (by kernel_rfl) (by kernel_rfl) (by kernel_rfl) (fun _ _ _ h => h) (Or.inl ⟨by rfl, ?hyr5_8⟩) (by assumption) ?restr5_8
          case hyr5_8 => (intro w hSw; (try dsimp only at hSw); go_simp; try (with_reducible rfl))
          simp only [Act.put, List.getElem_toArray, List.getElem_cons_succ, List.getElem_cons_zero, List.setIfInBounds_toArray, List.set_cons_zero, List.set_cons_succ]
          refine wpAnyH_done (by kernel_rfl) ?_ _
          have HN8 := Lib.hid hHeld.2.1
          clear hHeld HQ
          cases b
          · have HX := Lib.hid (ndK_no (ts := ts) (k := k) HNB.out)
            go_wp2_with fail
            go_roundw
            case rel => exact ⟨k + 1, m, c2, A2, xs, by omega, by go_num, rfl, by omega, Lib.hid (by rw [HX.out]; exact HXS.out), HN8.out⟩
            case measure => first | (simp [intOf]; omega) | (simp [intOf])
          · have HX := Lib.hid (ndK_yes (ts := ts) (k := k) HNB.out)
            have hsz := HN8.out.1.1.size
            go_wp2_with (at_builtin; refine wpList_append_own _ rfl _ _ 32 rfl w.heap.size 3 i0 (.int .i64 0) 1 8 Try.underlying32 hi hz0 hz1 hz2 rfl (by decide) _ _ _ rfl (HN8.out.1.2.1.alloc _) ⟨_, 0, none⟩ 1 1 [.int .i64 (k : Nat)] rfl rfl (World.news_of_block (alloc_at rfl)) (by simp [Value.oneCell']) (by unfold maxLen; omega) (by omega) (by simp; omega) ?_; intro v' w9 hown' hgrow _; obtain ⟨A9, c9, rfl⟩ := row_slice hown')
            go_roundw
            case rel => exact ⟨k + 1, m + 1, c9, A9, xs ++ [(k : Int)], by omega, by go_num, rfl, by omega, Lib.hid (by rw [HX.out, HXS.out]), (HN8.out.alloc _).app hgrow hown'⟩
            case measure => first | (simp [intOf]; omega) | (simp [intOf])
    · have hkd : decide (k < n) = false := by simpa using hlt
      obtain rfl : k = n := by omega
      have HLX := Lib.hid (show ndIds ts = xs by rw [HX.out, HXS.out])
      go_wp2_with fail
      go_ret2
      exact ⟨_, by rw [HG.out]; rfl, by rw [HLX.out, HN.out.1.2.2]; exact HN.out.1.2.1, HN.out.1.1⟩
end Go.Proofs.Ytiimegmaokfpgaa.va
