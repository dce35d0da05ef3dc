/-
  The place of a station and the deepest station, by the program.
  Conditions: the legs lie in one block, at most 2000000 of them; the variable holds the table of the sines.
-/
import Derived.Test.YtnoieboiklmkaaaDoorNqG
import Derived.Test.YtnoieboiklmkaaaDoorNtE
namespace Go.Proofs.YtnoieboiklmkaaaDoor.nq
open Go.RowKit
open reads base ty lg lgi win hs nt rowi sn
set_option linter.unusedVariables false
set_option linter.unusedSimpArgs false

set_option maxHeartbeats 8000000 in
set_option maxRecDepth 100000 in
theorem placeOf_impl (A : Option Addr) (n cap : Nat) (ts : List Lg) (z : Int) (w : World) (hn : n ≤ 2000000) (hts : Hid (LgAt w w.heap.size A n ts)) (hT : Hid (Tab w)) :
    Calls Tryd.prog 24 #[.slice A n cap, .int .i64 z] w (APost (ansPl ts z) w) := by
  obtain ⟨C, HC⟩ : ∃ C, Hid (nv (netS ts) (clS ts) = C) := ⟨_, Lib.hid rfl⟩
  have hcz : C.size = 56 := by rw [← HC.out]; exact nv_size (nok_S ts)
  have HC1 := Lib.hid (show C.all (·.oneCell') = true by rw [← HC.out]; exact nv_one)
  have HA := Lib.hid (hts.out.alloc (.cells #[.int .i64 0, .int .i64 0, .int .i64 0] 35))
  have HT0 := Lib.hid (hT.out.alloc (.cells #[.int .i64 0, .int .i64 0, .int .i64 0] 35))
  cases hg : goodLg ts
  · have HG := Lib.hid hg
    have HF := Lib.hid (show ansPl ts z = .tuple #[.agg #[.int .i64 0, .int .i64 0, .int .i64 0], .bool false] by unfold ansPl has6; rw [hg]; rfl)
    clear hg
    go_enter Tryd.func24, Tryd.ntmps24
    go_wp2_with fail
    refine (net_any A n cap ts C false HC HG _ hn HA HT0).mono ?_
    rintro e w1 ⟨rfl, b1⟩
    have HR := Lib.hid ((Blk.new w 35 #[.int .i64 0, .int .i64 0, .int .i64 0]).below b1 (by simp))
    have HB := Lib.hid (((Below.refl w.heap.size w).alloc (Nat.le_refl _) (.cells #[.int .i64 0, .int .i64 0, .int .i64 0] 35)).trans (b1.mono (by simp)))
    clear b1
    have hst := lay_net hcz HC1.out w1
    have HR2 := Lib.hid (HR.out.alloc (.cells C 66))
    have HB2 := Lib.hid (HB.out.alloc HB.out.size (.cells C 66))
    obtain ⟨W, HW⟩ : ∃ W, Hid (w1.alloc (.cells C 66) = W) := ⟨_, Lib.hid rfl⟩
    go_upto_region 2 with fail
    clear hst
    rw [HW.out] at HR2 HB2 ⊢
    clear HW HR HB
    have c0 := HR2.out.cell 0
    have c1 := HR2.out.cell 1
    have c2 := HR2.out.cell 2
    have f0 := HR2.out.frozen 0
    have f1 := HR2.out.frozen 1
    have f2 := HR2.out.frozen 2
    have hl := HR2.out.lt
    go_wp2_with fail
    refine bodyPost_ret (v := .tuple #[.agg #[.int .i64 0, .int .i64 0, .int .i64 0], .bool false]) (by simp [results, Tryd.results24, go_sem, *]) rfl ⟨by rw [HF.out], ?_⟩
    exact ((HB2.out.setCell (by simp) _).setCell (by simp) _).setCell (by simp) _
  · have HG := Lib.hid hg
    have HON := Lib.hid (ok_net hg)
    have HNS := Lib.hid (show netS ts = net ts by unfold netS; rw [hg]; rfl)
    obtain ⟨t, ht⟩ : ∃ t, mem (net ts).ps z = t := ⟨_, rfl⟩
    have HM := Lib.hid (show (btw 0 z 7 && mem (netS ts).ps z) = t by
      rw [HNS.out, ht]
      cases t
      · rw [Bool.and_false]
      · have h := HON.out.2.2.1 z (mem_iff.1 ht)
        rw [btw_mk h.1 h.2]; rfl)
    have HF := Lib.hid (show ansPl ts z = if t then .tuple #[.agg #[.int .i64 (at_ (net ts).pl z).east, .int .i64 (at_ (net ts).pl z).north, .int .i64 (at_ (net ts).pl z).up], .bool true] else .tuple #[.agg #[.int .i64 0, .int .i64 0, .int .i64 0], .bool false] by unfold ansPl has6; rw [hg, ht]; cases t <;> rfl)
    have HTM := Lib.hid ht
    clear hg ht
    go_enter Tryd.func24, Tryd.ntmps24
    go_wp2_with fail
    refine (net_any A n cap ts C true HC HG _ hn HA HT0).mono ?_
    rintro e w1 ⟨rfl, b1⟩
    have HR := Lib.hid ((Blk.new w 35 #[.int .i64 0, .int .i64 0, .int .i64 0]).below b1 (by simp))
    have HB := Lib.hid (((Below.refl w.heap.size w).alloc (Nat.le_refl _) (.cells #[.int .i64 0, .int .i64 0, .int .i64 0] 35)).trans (b1.mono (by simp)))
    clear b1
    have hst := lay_net hcz HC1.out w1
    have HR2 := Lib.hid (HR.out.alloc (.cells C 66))
    have HB2 := Lib.hid (HB.out.alloc HB.out.size (.cells C 66))
    have HG2 := Lib.hid (Blk.new w1 66 C)
    obtain ⟨W, HW⟩ : ∃ W, Hid (w1.alloc (.cells C 66) = W) := ⟨_, Lib.hid rfl⟩
    obtain ⟨G, HGG⟩ : ∃ G, Hid (w1.heap.size = G) := ⟨_, Lib.hid rfl⟩
    go_upto_region 2 with fail
    clear hst
    rw [HGG.out] at HG2
    try rw [HGG.out]
    try simp only [HGG.out]
    rw [HW.out] at HR2 HB2 HG2 ⊢
    clear HW HR HB HGG
    refine wp_region_list ?_
    refine step_move _ rfl _ rfl _ rfl ?_
    simp only [Act.put, List.getElem_toArray, List.getElem_cons_succ, List.getElem_cons_zero, List.setIfInBounds_toArray, List.set_cons_zero, List.set_cons_succ, Bool.not_true, Bool.not_false]
    refine step_not _ rfl _ _ rfl true rfl ?_
    simp only [Act.put, List.getElem_toArray, List.getElem_cons_succ, List.getElem_cons_zero, List.setIfInBounds_toArray, List.set_cons_zero, List.set_cons_succ, Bool.not_true, Bool.not_false]
    refine step_move _ rfl _ rfl _ rfl ?_
    simp only [Act.put, List.getElem_toArray, List.getElem_cons_succ, List.getElem_cons_zero, List.setIfInBounds_toArray, List.set_cons_zero, List.set_cons_succ, Bool.not_true, Bool.not_false]
    refine step_loadg _ rfl _ rfl G _ rfl HG2.out hcz ?_
    simp only [Act.put, List.getElem_toArray, List.getElem_cons_succ, List.getElem_cons_zero, List.setIfInBounds_toArray, List.set_cons_zero, List.set_cons_succ, Bool.not_true, Bool.not_false]
    go_wp2_with fail
    rw [← HC.out]
    refine (placed_any (netS ts) (clS ts) z t _ HM).mono ?_
    rintro e w3 ⟨rfl, b3⟩
    have HR3 := Lib.hid (HR2.out.below b3 HR2.out.lt)
    have HG3 := Lib.hid (HG2.out.below b3 HG2.out.lt)
    have HB3 := Lib.hid (HB2.out.trans (b3.mono HB2.out.size))
    clear b3 HR2 HG2 HB2
    have c0 := HR3.out.cell 0
    have c1 := HR3.out.cell 1
    have c2 := HR3.out.cell 2
    have f0 := HR3.out.frozen 0
    have f1 := HR3.out.frozen 1
    have f2 := HR3.out.frozen 2
    have hl := HR3.out.lt
    cases t
    · go_wp2_with fail
      refine bodyPost_ret (v := .tuple #[.agg #[.int .i64 0, .int .i64 0, .int .i64 0], .bool false]) (by simp [results, Tryd.results24, go_sem, *]) rfl ⟨by rw [HF.out]; rfl, ?_⟩
      exact ((HB3.out.setCell (by simp) _).setCell (by simp) _).setCell (by simp) _
    · have h := HON.out.2.2.1 z (mem_iff.1 HTM.out)
      obtain ⟨a, rfl⟩ := Int.eq_ofNat_of_zero_le h.1
      have ha8 : a < 8 := by omega
      have hai : (a : Int) < 8 := by omega
      have ha0 : (0 : Int) ≤ (a : Int) := by omega
      obtain ⟨p, HP⟩ : ∃ p, Hid (at_ (net ts).pl (a : Int) = p) := ⟨_, Lib.hid rfl⟩
      obtain ⟨p0, p1, p2⟩ := nv_pl (nok_S ts) ha8
      rw [HC.out, HNS.out, HP.out] at p0 p1 p2
      have k0 := (HG3.out.cell _).trans p0
      have k1 := (HG3.out.cell _).trans p1
      have k2 := (HG3.out.cell _).trans p2
      rw [HP.out] at HF
      clear p0 p1 p2 h HP
      have hne : ¬ w.heap.size = G := by have := (Blk.ne_ HR3.out HG3.out (by decide)); exact this
      go_wp2_with fail
      refine bodyPost_ret (v := .tuple #[.agg #[.int .i64 p.east, .int .i64 p.north, .int .i64 p.up], .bool true]) (by simp [results, Tryd.results24, go_sem, *]) rfl ⟨by rw [HF.out]; rfl, ?_⟩
      exact ((HB3.out.setCell (by simp) _).setCell (by simp) _).setCell (by simp) _
/-- what the program's networks keep, of valid legs and of others -/
def Q6 (s : Net) : Prop := s.pl.length = 8 ∧ (∀ x ∈ s.ps, 0 ≤ x ∧ x ≤ 7) ∧ s.ps.length ≤ 8 ∧ ∀ x, Bd4 (at_ s.pl x)
theorem q6 (ts : List Lg) : Q6 (netS ts) := by
  unfold netS
  cases h : goodLg ts
  · refine ⟨rfl, (fun x hx => by cases hx), Nat.zero_le _, fun x => ?_⟩
    have e : at_ none6.pl x = zero3 := by
      show ((List.replicate 8 zero3)[x.toNat]?).getD zero3 = zero3
      rw [List.getElem?_replicate]; split <;> rfl
    show Bd4 (at_ none6.pl x)
    rw [e]; unfold Bd4 zero3; decide
  · have ho := ok_net h
    exact ⟨ho.1, ho.2.2.1, ho.ps_len, bd4_at ho⟩
theorem deepQ {s : Net} (h : Q6 s) : ∀ k, 0 ≤ deepN s k ∧ deepN s k ≤ 7
  | 0 => by simp [deepN]
  | k + 1 => by
    have ih := deepQ h k
    cases e : s.ps[k]? with
    | none => have : deepN s (k + 1) = deepN s k := by show (match s.ps[k]? with | some q => _ | none => _) = _; rw [e]
              rw [this]; exact ih
    | some q =>
      rw [deepN_succ e]
      have := h.2.1 q (List.mem_of_getElem? e)
      split
      · exact this
      · exact ih
theorem psS (ts : List Lg) : psIds ts = (netS ts).ps := by unfold psIds netS; cases goodLg ts <;> rfl
set_option maxHeartbeats 8000000 in
set_option maxRecDepth 100000 in
theorem deepest_impl (A : Option Addr) (n cap : Nat) (ts : List Lg) (w : World) (hn : n ≤ 2000000) (hts : Hid (LgAt w w.heap.size A n ts)) (hT : Hid (Tab w)) :
    Calls Tryd.prog 37 #[.slice A n cap] w (APost (ansDp ts) w) := by
  obtain ⟨C, HC⟩ : ∃ C, Hid (nv (netS ts) (clS ts) = C) := ⟨_, Lib.hid rfl⟩
  obtain ⟨g, HG⟩ : ∃ g, Hid (goodLg ts = g) := ⟨_, Lib.hid rfl⟩
  have hcz : C.size = 56 := by rw [← HC.out]; exact nv_size (nok_S ts)
  have HC1 := Lib.hid (show C.all (·.oneCell') = true by rw [← HC.out]; exact nv_one)
  have HNK := Lib.hid (nok_S ts)
  have HQ6 := Lib.hid (q6 ts)
  have HPS := Lib.hid ((ps_S ts).trans (psS ts))
  have HF0 := Lib.hid (show ansDp ts = .tuple #[.int .i64 (deepN (netS ts) (netS ts).ps.length), .bool g] by unfold ansDp netS; rw [HG.out]; cases g <;> rfl)
  obtain ⟨N, HNN⟩ : ∃ N, Hid (netS ts = N) := ⟨_, Lib.hid rfl⟩
  obtain ⟨CL, HCL⟩ : ∃ l, Hid (clS ts = l) := ⟨_, Lib.hid rfl⟩
  obtain ⟨m2, HM2⟩ : ∃ m, Hid (N.ps.length = m) := ⟨_, Lib.hid rfl⟩
  rw [HNN.out, HCL.out] at HNK
  rw [HNN.out] at HQ6 HPS HF0
  have HC2 := Lib.hid (show nv N CL = C by rw [← HNN.out, ← HCL.out]; exact HC.out)
  have hp8 : m2 ≤ 8 := by rw [← HM2.out]; exact HQ6.out.2.2.1
  have HF := Lib.hid (show ansDp ts = .tuple #[.int .i64 (deepN N m2), .bool g] by rw [HF0.out, HM2.out])
  clear HF0
  go_enter Tryd.func37, Tryd.ntmps37
  go_wp2_with fail
  refine (net_any A n cap ts C g HC HG w hn hts hT).mono ?_
  rintro e w1 ⟨rfl, b1⟩
  have HB1 := Lib.hid b1
  clear b1
  have hst := lay_net hcz HC1.out w1
  have HB2 := Lib.hid (HB1.out.alloc HB1.out.size (.cells C 66))
  have HG2 := Lib.hid (Blk.new w1 66 C)
  have HN2 := Lib.hid (show BsAt (w1.alloc (.cells C 66)) w1.heap.size 0 (mks 8 N.ps) from bs_ps (cl := CL) (by rw [HC2.out]; exact Blk.new _ _ _))
  go_wp2_with fail
  clear hst
  refine (marked_any w1.heap.size 0 8 _ _ (Lib.hid (mks_len _ _)) (by decide) HN2).mono ?_
  rintro e w2 ⟨A2, c2, rfl, hO, b2⟩
  rw [HPS.out] at hO ⊢
  rw [HM2.out] at hO ⊢
  have HO := Lib.hid (ints.IL.of_own hO)
  have HB := Lib.hid (HB2.out.trans (b2.mono HB2.out.size))
  have HG3 := Lib.hid (HG2.out.below b2 HG2.out.lt)
  clear hO b2 HN2 HB2 HG2
  obtain ⟨G, HGG⟩ : ∃ G, Hid (w1.heap.size = G) := ⟨_, Lib.hid rfl⟩
  rw [HGG.out] at HG3
  try rw [HGG.out]
  try simp only [HGG.out]
  clear HGG
  go_wp2_with fail
  go_loopw [6, 18] (fun bst i wr => ∃ (k m bn : Nat), k ≤ m2 ∧ i = .int .i64 (k : Nat) ∧ bn ≤ 7 ∧ Hid (deepN N k = (bn : Int)) ∧ bst = .int .i64 (bn : Nat) ∧ wr = w2.drewN m) (fun _ i _ => m2 - (intOf i).toNat)
  case atStart => exact ⟨0, 0, 0, Nat.zero_le _, rfl, by omega, Lib.hid rfl, rfl, rfl⟩
  case round =>
    obtain ⟨k, m, bn, hk, rfl, hbn, HD, rfl, rfl⟩ := hrel
    have hk0 : (0 : Int) ≤ (k : Int) := by omega
    by_cases hlt : k < m2
    · obtain ⟨q, hq⟩ := at_lt HM2.out hlt
      have hqb := HQ6.out.2.1 q (List.mem_of_getElem? hq)
      obtain ⟨a, rfl⟩ : ∃ a : Nat, q = (a : Int) := ⟨q.toNat, by omega⟩
      have ha7 : a ≤ 7 := by omega
      obtain ⟨g2, rfl, e0⟩ := HO.out.2 k _ hq
      obtain ⟨-, -, u0⟩ := nv_pl HNK.out (show a < 8 by omega)
      obtain ⟨-, -, u1⟩ := nv_pl HNK.out (show bn < 8 by omega)
      rw [HC2.out] at u0 u1
      have v0 := (HG3.out.cell _).trans u0
      have v1 := (HG3.out.cell _).trans u1
      clear u0 u1
      obtain ⟨y, HY⟩ : ∃ y, Hid ((at_ N.pl (a : Int)).up = y) := ⟨_, Lib.hid rfl⟩
      obtain ⟨z, HZ⟩ : ∃ z, Hid ((at_ N.pl (bn : Int)).up = z) := ⟨_, Lib.hid rfl⟩
      rw [HY.out] at v0
      rw [HZ.out] at v1
      have HQ := Lib.hid (show deepN N (k + 1) = if y < z then (a : Int) else (bn : Int) by rw [deepN_succ hq, HD.out, HY.out, HZ.out])
      clear hq hqb
      have hki : (k : Int) < (m2 : Int) := by omega
      have hkd : decide (k < m2) = true := by simpa using hlt
      have ha8 : (a : Int) < 8 := by omega
      have ha0 : (0 : Int) ≤ (a : Int) := by omega
      have hb8 : (bn : Int) < 8 := by omega
      have hb0 : (0 : Int) ≤ (bn : Int) := by omega
      by_cases hyz : y < z
      · have hd : decide (y < z) = true := by simpa using hyz
        have HQ2 := Lib.hid (show deepN N (k + 1) = (a : Int) by rw [HQ.out, if_pos hyz])
        go_wp2_with fail
        go_quiet (fail)
        go_wp2_with fail
        go_roundw
        case rel => exact ⟨k + 1, _, a, by omega, by go_num, ha7, HQ2, rfl, rfl⟩
        case measure => simp [intOf]; omega
      · have hd : decide (y < z) = false := by simpa using hyz
        have HQ2 := Lib.hid (show deepN N (k + 1) = (bn : Int) by rw [HQ.out, if_neg hyz])
        go_wp2_with fail
        go_quiet (fail)
        go_wp2_with fail
        go_roundw
        case rel => exact ⟨k + 1, _, bn, by omega, by go_num, hbn, HQ2, rfl, rfl⟩
        case measure => simp [intOf]; omega
    · have hkd : decide (k < m2) = false := by simpa using hlt
      obtain rfl : m2 = k := by omega
      have HFD := Lib.hid (show ansDp ts = .tuple #[.int .i64 (bn : Int), .bool g] by rw [HF.out, HD.out])
      clear hlt
      go_wp2_with fail
      go_ret2
      exact ⟨by rw [HFD.out]; rfl, HB.out.trans ((drewN_below w2 m).mono HB.out.size)⟩
#print axioms deepest_impl
end Go.Proofs.YtnoieboiklmkaaaDoor.nq
