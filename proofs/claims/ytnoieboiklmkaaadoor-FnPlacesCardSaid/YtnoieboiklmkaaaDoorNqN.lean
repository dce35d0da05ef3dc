/-
  The place of a station and the deepest station, by the program.
  The error of a leg, by the program.
  The error of a leg among others, by the program.
  The error of a leg, by the program.
  The error of a leg, by the program: all ways.
  The extent and the depth, by the program.
  The program's length of three parts.
  The stations within a distance, by the program.
  Conditions: those that each theorem names.
-/
import Derived.Test.YtnoieboiklmkaaaDoorNqG
import Derived.Test.YtnoieboiklmkaaaDoorNtE
import Derived.Test.YtnoieboiklmkaaaDoorNtG
import Derived.Deep.RegionHeld3
import Derived.Test.YtnoieboiklmkaaaDoorNtI
import Derived.Test.YtnoieboiklmkaaaDoorNtF
import Derived.Test.YtnoieboiklmkaaaDoorSinI
import Derived.Test.YtnoieboiklmkaaaDoorLenM
import Derived.LoopTactic
namespace Go.Proofs.YtnoieboiklmkaaaDoor.nq
open Go.RowKit
open reads base ty lg lgi win hs nt rowi sn
set_option linter.unusedVariables false
set_option linter.unusedSimpArgs false

set_option maxHeartbeats 8000000 in
set_option maxRecDepth 100000 in
theorem placeOf_impl (A : Option Addr) (n cap : Nat) (ts : List Lg) (z : Int) (w : World) (hn : n ≤ 2000000) (hts : Hid (LgAt w w.heap.size A n ts)) (hT : Hid (Tab w)) :
    Calls Tryd.prog 24 #[.slice A n cap, .int .i64 z] w (APost (ansPl ts z) w) := by
  obtain ⟨C, HC⟩ : ∃ C, Hid (nv (netS ts) (clS ts) = C) := ⟨_, Lib.hid rfl⟩
  have hcz : C.size = 56 := by rw [← HC.out]; exact nv_size (nok_S ts)
  have HC1 := Lib.hid (show C.all (·.oneCell') = true by rw [← HC.out]; exact nv_one)
  have HA := Lib.hid (hts.out.alloc (.cells #[.int .i64 0, .int .i64 0, .int .i64 0] 35))
  have HT0 := Lib.hid (hT.out.alloc (.cells #[.int .i64 0, .int .i64 0, .int .i64 0] 35))
  cases hg : goodLg ts
  · have HG := Lib.hid hg
    have HF := Lib.hid (show ansPl ts z = .tuple #[.agg #[.int .i64 0, .int .i64 0, .int .i64 0], .bool false] by unfold ansPl has6; rw [hg]; rfl)
    clear hg
    go_enter Tryd.func24, Tryd.ntmps24
    go_wp2_with fail
    refine (net_any A n cap ts C false HC HG _ hn HA HT0).mono ?_
    rintro e w1 ⟨rfl, b1⟩
    have HR := Lib.hid ((Blk.new w 35 #[.int .i64 0, .int .i64 0, .int .i64 0]).below b1 (by simp))
    have HB := Lib.hid (((Below.refl w.heap.size w).alloc (Nat.le_refl _) (.cells #[.int .i64 0, .int .i64 0, .int .i64 0] 35)).trans (b1.mono (by simp)))
    clear b1
    have hst := lay_net hcz HC1.out w1
    have HR2 := Lib.hid (HR.out.alloc (.cells C 66))
    have HB2 := Lib.hid (HB.out.alloc HB.out.size (.cells C 66))
    obtain ⟨W, HW⟩ : ∃ W, Hid (w1.alloc (.cells C 66) = W) := ⟨_, Lib.hid rfl⟩
    go_upto_region 2 with fail
    clear hst
    rw [HW.out] at HR2 HB2 ⊢
    clear HW HR HB
    have c0 := HR2.out.cell 0
    have c1 := HR2.out.cell 1
    have c2 := HR2.out.cell 2
    have f0 := HR2.out.frozen 0
    have f1 := HR2.out.frozen 1
    have f2 := HR2.out.frozen 2
    have hl := HR2.out.lt
    go_wp2_with fail
    refine bodyPost_ret (v := .tuple #[.agg #[.int .i64 0, .int .i64 0, .int .i64 0], .bool false]) (by simp [results, Tryd.results24, go_sem, *]) rfl ⟨by rw [HF.out], ?_⟩
    exact ((HB2.out.setCell (by simp) _).setCell (by simp) _).setCell (by simp) _
  · have HG := Lib.hid hg
    have HON := Lib.hid (ok_net hg)
    have HNS := Lib.hid (show netS ts = net ts by unfold netS; rw [hg]; rfl)
    obtain ⟨t, ht⟩ : ∃ t, mem (net ts).ps z = t := ⟨_, rfl⟩
    have HM := Lib.hid (show (btw 0 z 7 && mem (netS ts).ps z) = t by
      rw [HNS.out, ht]
      cases t
      · rw [Bool.and_false]
      · have h := HON.out.2.2.1 z (mem_iff.1 ht)
        rw [btw_mk h.1 h.2]; rfl)
    have HF := Lib.hid (show ansPl ts z = if t then .tuple #[.agg #[.int .i64 (at_ (net ts).pl z).east, .int .i64 (at_ (net ts).pl z).north, .int .i64 (at_ (net ts).pl z).up], .bool true] else .tuple #[.agg #[.int .i64 0, .int .i64 0, .int .i64 0], .bool false] by unfold ansPl has6; rw [hg, ht]; cases t <;> rfl)
    have HTM := Lib.hid ht
    clear hg ht
    go_enter Tryd.func24, Tryd.ntmps24
    go_wp2_with fail
    refine (net_any A n cap ts C true HC HG _ hn HA HT0).mono ?_
    rintro e w1 ⟨rfl, b1⟩
    have HR := Lib.hid ((Blk.new w 35 #[.int .i64 0, .int .i64 0, .int .i64 0]).below b1 (by simp))
    have HB := Lib.hid (((Below.refl w.heap.size w).alloc (Nat.le_refl _) (.cells #[.int .i64 0, .int .i64 0, .int .i64 0] 35)).trans (b1.mono (by simp)))
    clear b1
    have hst := lay_net hcz HC1.out w1
    have HR2 := Lib.hid (HR.out.alloc (.cells C 66))
    have HB2 := Lib.hid (HB.out.alloc HB.out.size (.cells C 66))
    have HG2 := Lib.hid (Blk.new w1 66 C)
    obtain ⟨W, HW⟩ : ∃ W, Hid (w1.alloc (.cells C 66) = W) := ⟨_, Lib.hid rfl⟩
    obtain ⟨G, HGG⟩ : ∃ G, Hid (w1.heap.size = G) := ⟨_, Lib.hid rfl⟩
    go_upto_region 2 with fail
    clear hst
    rw [HGG.out] at HG2
    try rw [HGG.out]
    try simp only [HGG.out]
    rw [HW.out] at HR2 HB2 HG2 ⊢
    clear HW HR HB HGG
    refine wp_region_list ?_
    refine step_move _ rfl _ rfl _ rfl ?_
    simp only [Act.put, List.getElem_toArray, List.getElem_cons_succ, List.getElem_cons_zero, List.setIfInBounds_toArray, List.set_cons_zero, List.set_cons_succ, Bool.not_true, Bool.not_false]
    refine step_not _ rfl _ _ rfl true rfl ?_
    simp only [Act.put, List.getElem_toArray, List.getElem_cons_succ, List.getElem_cons_zero, List.setIfInBounds_toArray, List.set_cons_zero, List.set_cons_succ, Bool.not_true, Bool.not_false]
    refine step_move _ rfl _ rfl _ rfl ?_
    simp only [Act.put, List.getElem_toArray, List.getElem_cons_succ, List.getElem_cons_zero, List.setIfInBounds_toArray, List.set_cons_zero, List.set_cons_succ, Bool.not_true, Bool.not_false]
    refine step_loadg _ rfl _ rfl G _ rfl HG2.out hcz ?_
    simp only [Act.put, List.getElem_toArray, List.getElem_cons_succ, List.getElem_cons_zero, List.setIfInBounds_toArray, List.set_cons_zero, List.set_cons_succ, Bool.not_true, Bool.not_false]
    go_wp2_with fail
    rw [← HC.out]
    refine (placed_any (netS ts) (clS ts) z t _ HM).mono ?_
    rintro e w3 ⟨rfl, b3⟩
    have HR3 := Lib.hid (HR2.out.below b3 HR2.out.lt)
    have HG3 := Lib.hid (HG2.out.below b3 HG2.out.lt)
    have HB3 := Lib.hid (HB2.out.trans (b3.mono HB2.out.size))
    clear b3 HR2 HG2 HB2
    have c0 := HR3.out.cell 0
    have c1 := HR3.out.cell 1
    have c2 := HR3.out.cell 2
    have f0 := HR3.out.frozen 0
    have f1 := HR3.out.frozen 1
    have f2 := HR3.out.frozen 2
    have hl := HR3.out.lt
    cases t
    · go_wp2_with fail
      refine bodyPost_ret (v := .tuple #[.agg #[.int .i64 0, .int .i64 0, .int .i64 0], .bool false]) (by simp [results, Tryd.results24, go_sem, *]) rfl ⟨by rw [HF.out]; rfl, ?_⟩
      exact ((HB3.out.setCell (by simp) _).setCell (by simp) _).setCell (by simp) _
    · have h := HON.out.2.2.1 z (mem_iff.1 HTM.out)
      obtain ⟨a, rfl⟩ := Int.eq_ofNat_of_zero_le h.1
      have ha8 : a < 8 := by omega
      have hai : (a : Int) < 8 := by omega
      have ha0 : (0 : Int) ≤ (a : Int) := by omega
      obtain ⟨p, HP⟩ : ∃ p, Hid (at_ (net ts).pl (a : Int) = p) := ⟨_, Lib.hid rfl⟩
      obtain ⟨p0, p1, p2⟩ := nv_pl (nok_S ts) ha8
      rw [HC.out, HNS.out, HP.out] at p0 p1 p2
      have k0 := (HG3.out.cell _).trans p0
      have k1 := (HG3.out.cell _).trans p1
      have k2 := (HG3.out.cell _).trans p2
      rw [HP.out] at HF
      clear p0 p1 p2 h HP
      have hne : ¬ w.heap.size = G := by have := (Blk.ne_ HR3.out HG3.out (by decide)); exact this
      go_wp2_with fail
      refine bodyPost_ret (v := .tuple #[.agg #[.int .i64 p.east, .int .i64 p.north, .int .i64 p.up], .bool true]) (by simp [results, Tryd.results24, go_sem, *]) rfl ⟨by rw [HF.out]; rfl, ?_⟩
      exact ((HB3.out.setCell (by simp) _).setCell (by simp) _).setCell (by simp) _
/-- what the program's networks keep, of valid legs and of others -/
def Q6 (s : Net) : Prop := s.pl.length = 8 ∧ (∀ x ∈ s.ps, 0 ≤ x ∧ x ≤ 7) ∧ s.ps.length ≤ 8 ∧ ∀ x, Bd4 (at_ s.pl x)
theorem q6 (ts : List Lg) : Q6 (netS ts) := by
  unfold netS
  cases h : goodLg ts
  · refine ⟨rfl, (fun x hx => by cases hx), Nat.zero_le _, fun x => ?_⟩
    have e : at_ none6.pl x = zero3 := by
      show ((List.replicate 8 zero3)[x.toNat]?).getD zero3 = zero3
      rw [List.getElem?_replicate]; split <;> rfl
    show Bd4 (at_ none6.pl x)
    rw [e]; unfold Bd4 zero3; decide
  · have ho := ok_net h
    exact ⟨ho.1, ho.2.2.1, ho.ps_len, bd4_at ho⟩
theorem deepQ {s : Net} (h : Q6 s) : ∀ k, 0 ≤ deepN s k ∧ deepN s k ≤ 7
  | 0 => by simp [deepN]
  | k + 1 => by
    have ih := deepQ h k
    cases e : s.ps[k]? with
    | none => have : deepN s (k + 1) = deepN s k := by show (match s.ps[k]? with | some q => _ | none => _) = _; rw [e]
              rw [this]; exact ih
    | some q =>
      rw [deepN_succ e]
      have := h.2.1 q (List.mem_of_getElem? e)
      split
      · exact this
      · exact ih
theorem psS (ts : List Lg) : psIds ts = (netS ts).ps := by unfold psIds netS; cases goodLg ts <;> rfl
set_option maxHeartbeats 8000000 in
set_option maxRecDepth 100000 in
theorem deepest_impl (A : Option Addr) (n cap : Nat) (ts : List Lg) (w : World) (hn : n ≤ 2000000) (hts : Hid (LgAt w w.heap.size A n ts)) (hT : Hid (Tab w)) :
    Calls Tryd.prog 37 #[.slice A n cap] w (APost (ansDp ts) w) := by
  obtain ⟨C, HC⟩ : ∃ C, Hid (nv (netS ts) (clS ts) = C) := ⟨_, Lib.hid rfl⟩
  obtain ⟨g, HG⟩ : ∃ g, Hid (goodLg ts = g) := ⟨_, Lib.hid rfl⟩
  have hcz : C.size = 56 := by rw [← HC.out]; exact nv_size (nok_S ts)
  have HC1 := Lib.hid (show C.all (·.oneCell') = true by rw [← HC.out]; exact nv_one)
  have HNK := Lib.hid (nok_S ts)
  have HQ6 := Lib.hid (q6 ts)
  have HPS := Lib.hid ((ps_S ts).trans (psS ts))
  have HF0 := Lib.hid (show ansDp ts = .tuple #[.int .i64 (deepN (netS ts) (netS ts).ps.length), .bool g] by unfold ansDp netS; rw [HG.out]; cases g <;> rfl)
  obtain ⟨N, HNN⟩ : ∃ N, Hid (netS ts = N) := ⟨_, Lib.hid rfl⟩
  obtain ⟨CL, HCL⟩ : ∃ l, Hid (clS ts = l) := ⟨_, Lib.hid rfl⟩
  obtain ⟨m2, HM2⟩ : ∃ m, Hid (N.ps.length = m) := ⟨_, Lib.hid rfl⟩
  rw [HNN.out, HCL.out] at HNK
  rw [HNN.out] at HQ6 HPS HF0
  have HC2 := Lib.hid (show nv N CL = C by rw [← HNN.out, ← HCL.out]; exact HC.out)
  have hp8 : m2 ≤ 8 := by rw [← HM2.out]; exact HQ6.out.2.2.1
  have HF := Lib.hid (show ansDp ts = .tuple #[.int .i64 (deepN N m2), .bool g] by rw [HF0.out, HM2.out])
  clear HF0
  go_enter Tryd.func37, Tryd.ntmps37
  go_wp2_with fail
  refine (net_any A n cap ts C g HC HG w hn hts hT).mono ?_
  rintro e w1 ⟨rfl, b1⟩
  have HB1 := Lib.hid b1
  clear b1
  have hst := lay_net hcz HC1.out w1
  have HB2 := Lib.hid (HB1.out.alloc HB1.out.size (.cells C 66))
  have HG2 := Lib.hid (Blk.new w1 66 C)
  have HN2 := Lib.hid (show BsAt (w1.alloc (.cells C 66)) w1.heap.size 0 (mks 8 N.ps) from bs_ps (cl := CL) (by rw [HC2.out]; exact Blk.new _ _ _))
  go_wp2_with fail
  clear hst
  refine (marked_any w1.heap.size 0 8 _ _ (Lib.hid (mks_len _ _)) (by decide) HN2).mono ?_
  rintro e w2 ⟨A2, c2, rfl, hO, b2⟩
  rw [HPS.out] at hO ⊢
  rw [HM2.out] at hO ⊢
  have HO := Lib.hid (ints.IL.of_own hO)
  have HB := Lib.hid (HB2.out.trans (b2.mono HB2.out.size))
  have HG3 := Lib.hid (HG2.out.below b2 HG2.out.lt)
  clear hO b2 HN2 HB2 HG2
  obtain ⟨G, HGG⟩ : ∃ G, Hid (w1.heap.size = G) := ⟨_, Lib.hid rfl⟩
  rw [HGG.out] at HG3
  try rw [HGG.out]
  try simp only [HGG.out]
  clear HGG
  go_wp2_with fail
  go_loopw [6, 18] (fun bst i wr => ∃ (k m bn : Nat), k ≤ m2 ∧ i = .int .i64 (k : Nat) ∧ bn ≤ 7 ∧ Hid (deepN N k = (bn : Int)) ∧ bst = .int .i64 (bn : Nat) ∧ wr = w2.drewN m) (fun _ i _ => m2 - (intOf i).toNat)
  case atStart => exact ⟨0, 0, 0, Nat.zero_le _, rfl, by omega, Lib.hid rfl, rfl, rfl⟩
  case round =>
    obtain ⟨k, m, bn, hk, rfl, hbn, HD, rfl, rfl⟩ := hrel
    have hk0 : (0 : Int) ≤ (k : Int) := by omega
    by_cases hlt : k < m2
    · obtain ⟨q, hq⟩ := at_lt HM2.out hlt
      have hqb := HQ6.out.2.1 q (List.mem_of_getElem? hq)
      obtain ⟨a, rfl⟩ : ∃ a : Nat, q = (a : Int) := ⟨q.toNat, by omega⟩
      have ha7 : a ≤ 7 := by omega
      obtain ⟨g2, rfl, e0⟩ := HO.out.2 k _ hq
      obtain ⟨-, -, u0⟩ := nv_pl HNK.out (show a < 8 by omega)
      obtain ⟨-, -, u1⟩ := nv_pl HNK.out (show bn < 8 by omega)
      rw [HC2.out] at u0 u1
      have v0 := (HG3.out.cell _).trans u0
      have v1 := (HG3.out.cell _).trans u1
      clear u0 u1
      obtain ⟨y, HY⟩ : ∃ y, Hid ((at_ N.pl (a : Int)).up = y) := ⟨_, Lib.hid rfl⟩
      obtain ⟨z, HZ⟩ : ∃ z, Hid ((at_ N.pl (bn : Int)).up = z) := ⟨_, Lib.hid rfl⟩
      rw [HY.out] at v0
      rw [HZ.out] at v1
      have HQ := Lib.hid (show deepN N (k + 1) = if y < z then (a : Int) else (bn : Int) by rw [deepN_succ hq, HD.out, HY.out, HZ.out])
      clear hq hqb
      have hki : (k : Int) < (m2 : Int) := by omega
      have hkd : decide (k < m2) = true := by simpa using hlt
      have ha8 : (a : Int) < 8 := by omega
      have ha0 : (0 : Int) ≤ (a : Int) := by omega
      have hb8 : (bn : Int) < 8 := by omega
      have hb0 : (0 : Int) ≤ (bn : Int) := by omega
      by_cases hyz : y < z
      · have hd : decide (y < z) = true := by simpa using hyz
        have HQ2 := Lib.hid (show deepN N (k + 1) = (a : Int) by rw [HQ.out, if_pos hyz])
        go_wp2_with fail
        go_quiet (fail)
        go_wp2_with fail
        go_roundw
        case rel => exact ⟨k + 1, _, a, by omega, by go_num, ha7, HQ2, rfl, rfl⟩
        case measure => simp [intOf]; omega
      · have hd : decide (y < z) = false := by simpa using hyz
        have HQ2 := Lib.hid (show deepN N (k + 1) = (bn : Int) by rw [HQ.out, if_neg hyz])
        go_wp2_with fail
        go_quiet (fail)
        go_wp2_with fail
        go_roundw
        case rel => exact ⟨k + 1, _, bn, by omega, by go_num, hbn, HQ2, rfl, rfl⟩
        case measure => simp [intOf]; omega
    · have hkd : decide (k < m2) = false := by simpa using hlt
      obtain rfl : m2 = k := by omega
      have HFD := Lib.hid (show ansDp ts = .tuple #[.int .i64 (bn : Int), .bool g] by rw [HF.out, HD.out])
      clear hlt
      go_wp2_with fail
      go_ret2
      exact ⟨by rw [HFD.out]; rfl, HB.out.trans ((drewN_below w2 m).mono HB.out.size)⟩
end Go.Proofs.YtnoieboiklmkaaaDoor.nq

namespace Go.Proofs.YtnoieboiklmkaaaDoor.nq
open Go.RowKit
open reads base ty lg lgi win hs nt rowi sn
set_option linter.unusedVariables false
set_option linter.unusedSimpArgs false

theorem between_c {s : Net} {cl : List Bool} {C : Array Value} (HC : Hid (nv s cl = C)) (a b : Nat) (p q d : Sf) (w : World) (hN : Hid (NOk s cl)) (ha : a < 8) (hb : b < 8) (HP : Hid (at_ s.pl (a : Int) = p)) (HQ : Hid (at_ s.pl (b : Int) = q)) (HD : Hid (sub3 q p = d)) (HPB : Hid (BdS p)) (HQB : Hid (BdS q)) :
    Calls Tryd.prog 66 #[.agg C, .int .i64 (a : Int), .int .i64 (b : Int)] w (APost (.agg #[.int .i64 d.east, .int .i64 d.north, .int .i64 d.up]) w) := by
  rw [← HC.out]; exact between_any s cl a b p q d w hN ha hb HP HQ HD HPB HQB
theorem ends_c {s : Net} {cl : List Bool} {C : Array Value} (HC : Hid (nv s cl = C)) (x : Lg) (p q : Bool) (w : World) (hx : Hid (okLg x = true)) (hp : Hid (mem s.ps x.frm = p)) (hq : Hid (mem s.ps x.to_ = q)) :
    Calls Tryd.prog 63 #[.agg C, .agg #[.int .i64 x.frm, .int .i64 x.to_, .int .i64 x.tape, .int .i64 x.comp, .int .i64 x.slope]] w (BPost (p && q) w) := by
  rw [← HC.out]; exact ends_any s cl x p q w hx hp hq
theorem within_dr (lo hi z : Int) (b : Bool) (W : World) (g : Nat) (hg : W.heap.size = g) (hb : allIn lo hi [z] = b) :
    Calls Tryd.prog 62 #[.int .i64 lo, .int .i64 hi, .slice (some ⟨g, 0, none⟩) 1 1] (W.alloc (.cells #[.int .i64 z] 3)).drew fun e w' => e = .returned (.bool b) ∧ (W.alloc (.cells #[.int .i64 z] 3)).drew = w' := by
  subst hg
  rw [← hb]
  have h0 : IntsAt (W.alloc (.cells #[.int .i64 z] 3)) W.heap.size [z] := ints_new W 3 [z]
  exact within_any lo hi W.heap.size 1 1 [z] _ (Lib.hid rfl) (by decide) (Lib.hid h0)
/-- a leg in a list, a network -/
def LW (gL k G : Nat) (x : Lg) (C : Array Value) (v : World) : Prop := (v.cell? ⟨gL, k * 5, none⟩ = some (.int .i64 x.frm) ∧ v.cell? ⟨gL, k * 5 + 1, none⟩ = some (.int .i64 x.to_) ∧ v.cell? ⟨gL, k * 5 + 2, none⟩ = some (.int .i64 x.tape) ∧ v.cell? ⟨gL, k * 5 + 3, none⟩ = some (.int .i64 x.comp) ∧ v.cell? ⟨gL, k * 5 + 4, none⟩ = some (.int .i64 x.slope)) ∧ gL < v.heap.size ∧ Blk v G 66 C
theorem LW.step {gL k G : Nat} {x : Lg} {C : Array Value} {v v' : World} (h : LW gL k G x C v) (hb : Below v.heap.size v v') : LW gL k G x C v' := by
  obtain ⟨⟨q0, q1, q2, q3, q4⟩, l, B⟩ := h
  have A : ∀ o, v'.cell? ⟨gL, o, none⟩ = v.cell? ⟨gL, o, none⟩ := fun o => hb.cell (p := ⟨gL, o, none⟩) l
  exact ⟨⟨(A _).trans q0, (A _).trans q1, (A _).trans q2, (A _).trans q3, (A _).trans q4⟩, by have := hb.size; omega, B.below hb B.lt⟩
theorem LW.mk6 {gL k G : Nat} {x : Lg} {C : Array Value} {v : World} (h : LW gL k G x C v) : v.cell? ⟨gL, k * 5, none⟩ = some (.int .i64 x.frm) ∧ v.cell? ⟨gL, k * 5 + 1, none⟩ = some (.int .i64 x.to_) ∧ v.cell? ⟨gL, k * 5 + 2, none⟩ = some (.int .i64 x.tape) ∧ v.cell? ⟨gL, k * 5 + 3, none⟩ = some (.int .i64 x.comp) ∧ v.cell? ⟨gL, k * 5 + 4, none⟩ = some (.int .i64 x.slope) ∧ LW gL k G x C v := ⟨h.1.1, h.1.2.1, h.1.2.2.1, h.1.2.2.2.1, h.1.2.2.2.2, h⟩
/-- a leg in a box, a network -/
def LB (X G : Nat) (x : Lg) (C : Array Value) (v : World) : Prop := Blk v X 59 #[.int .i64 x.frm, .int .i64 x.to_, .int .i64 x.tape, .int .i64 x.comp, .int .i64 x.slope] ∧ Blk v G 66 C
theorem LB.step {X G : Nat} {x : Lg} {C : Array Value} {v v' : World} (h : LB X G x C v) (hb : Below v.heap.size v v') : LB X G x C v' := ⟨h.1.below hb h.1.lt, h.2.below hb h.2.lt⟩
theorem LB.mk6 {X G : Nat} {x : Lg} {C : Array Value} {v : World} (h : LB X G x C v) : v.cell? ⟨X, 0, none⟩ = some (.int .i64 x.frm) ∧ v.cell? ⟨X, 1, none⟩ = some (.int .i64 x.to_) ∧ v.cell? ⟨X, 2, none⟩ = some (.int .i64 x.tape) ∧ v.cell? ⟨X, 3, none⟩ = some (.int .i64 x.comp) ∧ v.cell? ⟨X, 4, none⟩ = some (.int .i64 x.slope) ∧ LB X G x C v := ⟨h.1.cell 0, h.1.cell 1, h.1.cell 2, h.1.cell 3, h.1.cell 4, h⟩
end Go.Proofs.YtnoieboiklmkaaaDoor.nq

namespace Go.Proofs.YtnoieboiklmkaaaDoor.nq
open Go.RowKit
open reads base ty lg lgi win hs nt rowi sn
set_option linter.unusedVariables false
set_option linter.unusedSimpArgs false

set_option maxHeartbeats 16000000 in
set_option maxRecDepth 100000 in
theorem err_bad (A : Option Addr) (n cap : Nat) (ts : List Lg) (z : Int) (C : Array Value) (w : World) (hn : n ≤ 2000000) (HC : Hid (nv (netS ts) (clS ts) = C)) (hts : Hid (LgAt w w.heap.size A n ts)) (hT : Hid (Tab w)) (HG : Hid (goodLg ts = false)) :
    Calls Tryd.prog 31 #[.slice A n cap, .int .i64 z] w (APost (.tuple #[.agg #[.int .i64 0, .int .i64 0, .int .i64 0], .bool false]) w) := by
  have hcz : C.size = 56 := by rw [← HC.out]; exact nv_size (nok_S ts)
  have HC1 := Lib.hid (show C.all (·.oneCell') = true by rw [← HC.out]; exact nv_one)
  have HA := Lib.hid (hts.out.alloc (.cells #[.int .i64 0, .int .i64 0, .int .i64 0] 35))
  have HT0 := Lib.hid (hT.out.alloc (.cells #[.int .i64 0, .int .i64 0, .int .i64 0] 35))
  go_enter Tryd.func31, Tryd.ntmps31
  go_wp2_with fail
  refine (net_any A n cap ts C false HC HG _ hn HA HT0).mono ?_
  rintro e w1 ⟨rfl, b1⟩
  have HR := Lib.hid ((Blk.new w 35 #[.int .i64 0, .int .i64 0, .int .i64 0]).below b1 (by simp))
  have HB := Lib.hid (((Below.refl w.heap.size w).alloc (Nat.le_refl _) (.cells #[.int .i64 0, .int .i64 0, .int .i64 0] 35)).trans (b1.mono (by simp)))
  clear b1
  have hst := lay_net hcz HC1.out w1
  have HR2 := Lib.hid (HR.out.alloc (.cells C 66))
  have HB2 := Lib.hid (HB.out.alloc HB.out.size (.cells C 66))
  have HG2 := Lib.hid (Blk.new w1 66 C)
  obtain ⟨W, HW⟩ : ∃ W, Hid (w1.alloc (.cells C 66) = W) := ⟨_, Lib.hid rfl⟩
  obtain ⟨G, HGG⟩ : ∃ G, Hid (w1.heap.size = G) := ⟨_, Lib.hid rfl⟩
  go_upto_region 2 with fail
  clear hst
  rw [HGG.out] at HG2
  try rw [HGG.out]
  try simp only [HGG.out]
  rw [HW.out] at HR2 HB2 HG2 ⊢
  clear HW HR HB HGG
  refine wp_region_held_drew (S := (fun v => Blk v G 66 C)) (by kernel_rfl) ?_ (fun hHeld => ?_)
  · exact HG2.out.drew
  refine' wpAnyH_take (i := 0) (v := ?vr1_0) rfl (by kernel_rfl) (by kernel_rfl) (by kernel_rfl) (fun _ _ _ h => h) (Or.inl ⟨by rfl, ?hyr1_0⟩) (by assumption) ?restr1_0
  case hyr1_0 => (intro w hSw; (try dsimp only at hSw); go_simp; try (with_reducible rfl))
  simp only [Act.put, List.getElem_toArray, List.getElem_cons_succ, List.getElem_cons_zero, List.setIfInBounds_toArray, List.set_cons_zero, List.set_cons_succ]
  refine' wpAnyH_take (i := 1) (v := ?vr1_1) rfl (by kernel_rfl) (by kernel_rfl) (by kernel_rfl) (fun _ _ _ h => h) (Or.inl ⟨by rfl, ?hyr1_1⟩) (by assumption) ?restr1_1
  case hyr1_1 => (intro w hSw; (try dsimp only at hSw); go_simp; try (with_reducible rfl))
  simp only [Act.put, List.getElem_toArray, List.getElem_cons_succ, List.getElem_cons_zero, List.setIfInBounds_toArray, List.set_cons_zero, List.set_cons_succ]
  refine' wpAnyH_take (i := 2) (v := ?vr1_2) rfl (by kernel_rfl) (by kernel_rfl) (by kernel_rfl) (fun _ _ _ h => h) (Or.inl ⟨by rfl, ?hyr1_2⟩) (by assumption) ?restr1_2
  case hyr1_2 => (intro w hSw; (try dsimp only at hSw); go_simp; try (with_reducible rfl))
  simp only [Act.put, List.getElem_toArray, List.getElem_cons_succ, List.getElem_cons_zero, List.setIfInBounds_toArray, List.set_cons_zero, List.set_cons_succ]
  refine wpAnyH_take (i := 3) (v := undef) rfl (by kernel_rfl) (by kernel_rfl) (by kernel_rfl) (fun _ _ _ h => h) (Or.inr ⟨by rfl, rfl⟩) (by assumption) ?_
  simp only [Act.put, List.getElem_toArray, List.getElem_cons_succ, List.getElem_cons_zero, List.setIfInBounds_toArray, List.set_cons_zero, List.set_cons_succ]
  refine wpAnyH_take (i := 4) (v := undef) rfl (by kernel_rfl) (by kernel_rfl) (by kernel_rfl) (fun _ _ _ h => h) (Or.inr ⟨by rfl, rfl⟩) (by assumption) ?_
  simp only [Act.put, List.getElem_toArray, List.getElem_cons_succ, List.getElem_cons_zero, List.setIfInBounds_toArray, List.set_cons_zero, List.set_cons_succ]
  refine wpAnyH_take (i := 5) (v := undef) rfl (by kernel_rfl) (by kernel_rfl) (by kernel_rfl) (fun _ _ _ h => h) (Or.inr ⟨by rfl, rfl⟩) (by assumption) ?_
  simp only [Act.put, List.getElem_toArray, List.getElem_cons_succ, List.getElem_cons_zero, List.setIfInBounds_toArray, List.set_cons_zero, List.set_cons_succ]
  refine wpAnyH_take (i := 6) (v := undef) rfl (by kernel_rfl) (by kernel_rfl) (by kernel_rfl) (fun _ _ _ h => h) (Or.inr ⟨by rfl, rfl⟩) (by assumption) ?_
  simp only [Act.put, List.getElem_toArray, List.getElem_cons_succ, List.getElem_cons_zero, List.setIfInBounds_toArray, List.set_cons_zero, List.set_cons_succ]
  refine wpAnyH_take (i := 7) (v := undef) rfl (by kernel_rfl) (by kernel_rfl) (by kernel_rfl) (fun _ _ _ h => h) (Or.inr ⟨by rfl, rfl⟩) (by assumption) ?_
  simp only [Act.put, List.getElem_toArray, List.getElem_cons_succ, List.getElem_cons_zero, List.setIfInBounds_toArray, List.set_cons_zero, List.set_cons_succ]
  refine wpAnyH_take (i := 8) (v := undef) rfl (by kernel_rfl) (by kernel_rfl) (by kernel_rfl) (fun _ _ _ h => h) (Or.inr ⟨by rfl, rfl⟩) (by assumption) ?_
  simp only [Act.put, List.getElem_toArray, List.getElem_cons_succ, List.getElem_cons_zero, List.setIfInBounds_toArray, List.set_cons_zero, List.set_cons_succ]
  refine wpAnyH_take (i := 9) (v := undef) rfl (by kernel_rfl) (by kernel_rfl) (by kernel_rfl) (fun _ _ _ h => h) (Or.inr ⟨by rfl, rfl⟩) (by assumption) ?_
  simp only [Act.put, List.getElem_toArray, List.getElem_cons_succ, List.getElem_cons_zero, List.setIfInBounds_toArray, List.set_cons_zero, List.set_cons_succ]
  refine' wpAnyH_take (i := 10) (v := ?vr1_10) rfl (by kernel_rfl) (by kernel_rfl) (by kernel_rfl) (fun _ _ _ h => h) (Or.inl ⟨by rfl, ?hyr1_10⟩) (by assumption) ?restr1_10
  case hyr1_10 => (intro w hSw; (try dsimp only at hSw); go_simp; try (with_reducible rfl))
  simp only [Act.put, List.getElem_toArray, List.getElem_cons_succ, List.getElem_cons_zero, List.setIfInBounds_toArray, List.set_cons_zero, List.set_cons_succ]
  refine' wpAnyH_take (i := 11) (v := ?vr1_11) rfl (by kernel_rfl) (by kernel_rfl) (by kernel_rfl) (fun _ _ _ h => h) (Or.inl ⟨by rfl, ?hyr1_11⟩) (by assumption) ?restr1_11
  case hyr1_11 => (intro w hSw; (try dsimp only at hSw); go_simp; try (with_reducible rfl))
  simp only [Act.put, List.getElem_toArray, List.getElem_cons_succ, List.getElem_cons_zero, List.setIfInBounds_toArray, List.set_cons_zero, List.set_cons_succ]
  refine wpAnyH_take (i := 12) (v := undef) rfl (by kernel_rfl) (by kernel_rfl) (by kernel_rfl) (fun _ _ _ h => h) (Or.inr ⟨by rfl, rfl⟩) (by assumption) ?_
  simp only [Act.put, List.getElem_toArray, List.getElem_cons_succ, List.getElem_cons_zero, List.setIfInBounds_toArray, List.set_cons_zero, List.set_cons_succ]
  refine wpAnyH_take (i := 13) (v := undef) rfl (by kernel_rfl) (by kernel_rfl) (by kernel_rfl) (fun _ _ _ h => h) (Or.inr ⟨by rfl, rfl⟩) (by assumption) ?_
  simp only [Act.put, List.getElem_toArray, List.getElem_cons_succ, List.getElem_cons_zero, List.setIfInBounds_toArray, List.set_cons_zero, List.set_cons_succ]
  refine wpAnyH_take (i := 14) (v := undef) rfl (by kernel_rfl) (by kernel_rfl) (by kernel_rfl) (fun _ _ _ h => h) (Or.inr ⟨by rfl, rfl⟩) (by assumption) ?_
  simp only [Act.put, List.getElem_toArray, List.getElem_cons_succ, List.getElem_cons_zero, List.setIfInBounds_toArray, List.set_cons_zero, List.set_cons_succ]
  refine wpAnyH_take (i := 15) (v := undef) rfl (by kernel_rfl) (by kernel_rfl) (by kernel_rfl) (fun _ _ _ h => h) (Or.inr ⟨by rfl, rfl⟩) (by assumption) ?_
  simp only [Act.put, List.getElem_toArray, List.getElem_cons_succ, List.getElem_cons_zero, List.setIfInBounds_toArray, List.set_cons_zero, List.set_cons_succ]
  refine wpAnyH_take (i := 16) (v := undef) rfl (by kernel_rfl) (by kernel_rfl) (by kernel_rfl) (fun _ _ _ h => h) (Or.inr ⟨by rfl, rfl⟩) (by assumption) ?_
  simp only [Act.put, List.getElem_toArray, List.getElem_cons_succ, List.getElem_cons_zero, List.setIfInBounds_toArray, List.set_cons_zero, List.set_cons_succ]
  refine wpAnyH_take (i := 17) (v := undef) rfl (by kernel_rfl) (by kernel_rfl) (by kernel_rfl) (fun _ _ _ h => h) (Or.inr ⟨by rfl, rfl⟩) (by assumption) ?_
  simp only [Act.put, List.getElem_toArray, List.getElem_cons_succ, List.getElem_cons_zero, List.setIfInBounds_toArray, List.set_cons_zero, List.set_cons_succ]
  refine wpAnyH_take (i := 18) (v := undef) rfl (by kernel_rfl) (by kernel_rfl) (by kernel_rfl) (fun _ _ _ h => h) (Or.inr ⟨by rfl, rfl⟩) (by assumption) ?_
  simp only [Act.put, List.getElem_toArray, List.getElem_cons_succ, List.getElem_cons_zero, List.setIfInBounds_toArray, List.set_cons_zero, List.set_cons_succ]
  refine' wpAnyH_take (i := 19) (v := ?vr1_19) rfl (by kernel_rfl) (by kernel_rfl) (by kernel_rfl) (fun _ _ _ h => h) (Or.inl ⟨by rfl, ?hyr1_19⟩) (by assumption) ?restr1_19
  case hyr1_19 => (intro w hSw; (try dsimp only at hSw); go_simp; try (with_reducible rfl))
  simp only [Act.put, List.getElem_toArray, List.getElem_cons_succ, List.getElem_cons_zero, List.setIfInBounds_toArray, List.set_cons_zero, List.set_cons_succ]
  refine wpAnyH_done (by kernel_rfl) ?_ _
  obtain ⟨Wd, HWd⟩ : ∃ V, Hid (W.drew = V) := ⟨_, Lib.hid rfl⟩
  have HRZ := Lib.hid (show Blk Wd w.heap.size 35 #[.int .i64 0, .int .i64 0, .int .i64 0] by rw [← HWd.out]; exact HR2.out.drew)
  have HBZ := Lib.hid (show Below w.heap.size w Wd by rw [← HWd.out]; exact HB2.out.drew)
  rw [HWd.out]
  clear hHeld HWd
  have c0 := HRZ.out.cell 0
  have c1 := HRZ.out.cell 1
  have c2 := HRZ.out.cell 2
  have f0 := HRZ.out.frozen 0
  have f1 := HRZ.out.frozen 1
  have f2 := HRZ.out.frozen 2
  have hl := HRZ.out.lt
  go_wp2_with fail
  refine bodyPost_ret (v := .tuple #[.agg #[.int .i64 0, .int .i64 0, .int .i64 0], .bool false]) (by simp [results, Tryd.results31, go_sem, c0, c1, c2, hl]) rfl ⟨rfl, ?_⟩
  exact ((HBZ.out.setCell (by simp) _).setCell (by simp) _).setCell (by simp) _
set_option maxHeartbeats 16000000 in
set_option maxRecDepth 100000 in
theorem err_out (A : Option Addr) (n cap : Nat) (ts : List Lg) (z : Int) (C : Array Value) (w : World) (hn : n ≤ 2000000) (HC : Hid (nv (netS ts) (clS ts) = C)) (hts : Hid (LgAt w w.heap.size A n ts)) (hT : Hid (Tab w)) (HG : Hid (goodLg ts = true)) (HZ : Hid (btw 0 z ((n : Int) - 1) = false)) :
    Calls Tryd.prog 31 #[.slice A n cap, .int .i64 z] w (APost (.tuple #[.agg #[.int .i64 0, .int .i64 0, .int .i64 0], .bool false]) w) := by
  have hn12 : n ≤ 12 := by have h := hts.out.1; rw [← h]; exact goodLg_len HG.out
  have hcz : C.size = 56 := by rw [← HC.out]; exact nv_size (nok_S ts)
  have HC1 := Lib.hid (show C.all (·.oneCell') = true by rw [← HC.out]; exact nv_one)
  have HA := Lib.hid (hts.out.alloc (.cells #[.int .i64 0, .int .i64 0, .int .i64 0] 35))
  have HT0 := Lib.hid (hT.out.alloc (.cells #[.int .i64 0, .int .i64 0, .int .i64 0] 35))
  have H1 := Lib.hid (one_in HZ.out)
  go_enter Tryd.func31, Tryd.ntmps31
  go_wp2_with fail
  refine (net_any A n cap ts C true HC HG _ hn HA HT0).mono ?_
  rintro e w1 ⟨rfl, b1⟩
  have HR := Lib.hid ((Blk.new w 35 #[.int .i64 0, .int .i64 0, .int .i64 0]).below b1 (by simp))
  have HB := Lib.hid (((Below.refl w.heap.size w).alloc (Nat.le_refl _) (.cells #[.int .i64 0, .int .i64 0, .int .i64 0] 35)).trans (b1.mono (by simp)))
  clear b1
  have hst := lay_net hcz HC1.out w1
  have HR2 := Lib.hid (HR.out.alloc (.cells C 66))
  have HB2 := Lib.hid (HB.out.alloc HB.out.size (.cells C 66))
  have HG2 := Lib.hid (Blk.new w1 66 C)
  obtain ⟨W, HW⟩ : ∃ W, Hid (w1.alloc (.cells C 66) = W) := ⟨_, Lib.hid rfl⟩
  obtain ⟨G, HGG⟩ : ∃ G, Hid (w1.heap.size = G) := ⟨_, Lib.hid rfl⟩
  go_upto_region 2 with fail
  clear hst
  rw [HGG.out] at HG2
  try rw [HGG.out]
  try simp only [HGG.out]
  rw [HW.out] at HR2 HB2 HG2 ⊢
  clear HW HR HB HGG
  refine wp_region_held_drew (S := (fun v => Blk v G 66 C)) (by kernel_rfl) ?_ (fun hHeld => ?_)
  · exact HG2.out.drew
  refine' wpAnyH_take (i := 0) (v := ?vr2_0) rfl (by kernel_rfl) (by kernel_rfl) (by kernel_rfl) (fun _ _ _ h => h) (Or.inl ⟨by rfl, ?hyr2_0⟩) (by assumption) ?restr2_0
  case hyr2_0 => (intro w hSw; (try dsimp only at hSw); go_simp; try (with_reducible rfl))
  simp only [Act.put, List.getElem_toArray, List.getElem_cons_succ, List.getElem_cons_zero, List.setIfInBounds_toArray, List.set_cons_zero, List.set_cons_succ]
  refine' wpAnyH_take (i := 1) (v := ?vr2_1) rfl (by kernel_rfl) (by kernel_rfl) (by kernel_rfl) (fun _ _ _ h => h) (Or.inl ⟨by rfl, ?hyr2_1⟩) (by assumption) ?restr2_1
  case hyr2_1 => (intro w hSw; (try dsimp only at hSw); go_simp; try (with_reducible rfl))
  simp only [Act.put, List.getElem_toArray, List.getElem_cons_succ, List.getElem_cons_zero, List.setIfInBounds_toArray, List.set_cons_zero, List.set_cons_succ]
  refine' wpAnyH_take (i := 2) (v := ?vr2_2) rfl (by kernel_rfl) (by kernel_rfl) (by kernel_rfl) (fun _ _ _ h => h) (Or.inl ⟨by rfl, ?hyr2_2⟩) (by assumption) ?restr2_2
  case hyr2_2 => (intro w hSw; (try dsimp only at hSw); go_simp; try (with_reducible rfl))
  simp only [Act.put, List.getElem_toArray, List.getElem_cons_succ, List.getElem_cons_zero, List.setIfInBounds_toArray, List.set_cons_zero, List.set_cons_succ]
  refine' wpAnyH_take (i := 3) (v := ?vr2_3) rfl (by kernel_rfl) (by kernel_rfl) (by kernel_rfl) (fun _ _ _ h => h) (Or.inl ⟨by rfl, ?hyr2_3⟩) (by assumption) ?restr2_3
  case hyr2_3 => (intro w hSw; (try dsimp only at hSw); go_simp; try (with_reducible rfl))
  simp only [Act.put, List.getElem_toArray, List.getElem_cons_succ, List.getElem_cons_zero, List.setIfInBounds_toArray, List.set_cons_zero, List.set_cons_succ]
  refine' wpAnyH_take (i := 4) (v := ?vr2_4) rfl (by kernel_rfl) (by kernel_rfl) (by kernel_rfl) (fun _ _ _ h => h) (Or.inl ⟨by rfl, ?hyr2_4⟩) (by assumption) ?restr2_4
  case hyr2_4 => (intro w hSw; (try dsimp only at hSw); go_simp; try (with_reducible rfl))
  simp only [Act.put, List.getElem_toArray, List.getElem_cons_succ, List.getElem_cons_zero, List.setIfInBounds_toArray, List.set_cons_zero, List.set_cons_succ]
  refine' wpAnyH_take (i := 5) (v := .int .i64 ((n : Int) - 1)) rfl (by kernel_rfl) (by kernel_rfl) (by kernel_rfl) (fun _ _ _ h => h) (Or.inl ⟨by rfl, ?hyn5⟩) (by assumption) ?restn5
  case hyn5 =>
    intro v hSv
    go_simp
    exact IntWalk.i64_in _ (by omega)
  simp only [Act.put, List.getElem_toArray, List.getElem_cons_succ, List.getElem_cons_zero, List.setIfInBounds_toArray, List.set_cons_zero, List.set_cons_succ]
  refine' wpAnyH_take (i := 6) (v := ?vr2_6) rfl (by kernel_rfl) (by kernel_rfl) (by kernel_rfl) (fun _ _ _ h => h) (Or.inl ⟨by rfl, ?hyr2_6⟩) (by assumption) ?restr2_6
  case hyr2_6 => (intro w hSw; (try dsimp only at hSw); go_simp; try (with_reducible rfl))
  simp only [Act.put, List.getElem_toArray, List.getElem_cons_succ, List.getElem_cons_zero, List.setIfInBounds_toArray, List.set_cons_zero, List.set_cons_succ]
  refine wpAnyH_ready (rs := [7]) (by kernel_rfl) (by simp) ?_
  refine AllReadyH.cons rfl (fun K hK => ?_) AllReadyH.nil
  go_simp
  refine hK.out _ _ ((hHeld.alloc _).drew) (fun hHeld1 => ?_)
  clear hK K hHeld
  have hHeld := hHeld1
  clear hHeld1
  try simp only [Act.put, List.getElem_toArray, List.getElem_cons_succ, List.getElem_cons_zero, List.setIfInBounds_toArray, List.set_cons_zero, List.set_cons_succ]
  refine wpAnyH_ready (rs := [8]) (by kernel_rfl) (by simp) ?_
  refine AllReadyH.cons rfl (fun K hK => ?_) AllReadyH.nil
  go_simp
  refine (within_dr _ _ z false _ _ rfl H1.out).mono ?_
  rintro e w3 ⟨rfl, hw⟩
  have HW3 := Lib.hid hw
  clear hw
  have HRZ := Lib.hid (show Blk w3 w.heap.size 35 #[.int .i64 0, .int .i64 0, .int .i64 0] by rw [← HW3.out]; exact (HR2.out.alloc _).drew)
  have HBZ := Lib.hid (show Below w.heap.size w w3 by rw [← HW3.out]; exact (HB2.out.alloc HB2.out.size _).drew)
  refine hK.out _ _ ((by rw [← HW3.out]; exact hHeld)) (fun hHeld1 => ?_)
  clear hK K hHeld
  have hHeld := hHeld1
  clear hHeld1
  try simp only [Act.put, List.getElem_toArray, List.getElem_cons_succ, List.getElem_cons_zero, List.setIfInBounds_toArray, List.set_cons_zero, List.set_cons_succ]
  refine' wpAnyH_take (i := 9) (v := ?vr2_9) rfl (by kernel_rfl) (by kernel_rfl) (by kernel_rfl) (fun _ _ _ h => h) (Or.inl ⟨by rfl, ?hyr2_9⟩) (by assumption) ?restr2_9
  case hyr2_9 => (intro w hSw; (try dsimp only at hSw); go_simp; try (with_reducible rfl))
  simp only [Act.put, List.getElem_toArray, List.getElem_cons_succ, List.getElem_cons_zero, List.setIfInBounds_toArray, List.set_cons_zero, List.set_cons_succ]
  refine' wpAnyH_take (i := 10) (v := ?vr2_10) rfl (by kernel_rfl) (by kernel_rfl) (by kernel_rfl) (fun _ _ _ h => h) (Or.inl ⟨by rfl, ?hyr2_10⟩) (by assumption) ?restr2_10
  case hyr2_10 => (intro w hSw; (try dsimp only at hSw); go_simp; try (with_reducible rfl))
  simp only [Act.put, List.getElem_toArray, List.getElem_cons_succ, List.getElem_cons_zero, List.setIfInBounds_toArray, List.set_cons_zero, List.set_cons_succ]
  refine' wpAnyH_take (i := 11) (v := ?vr2_11) rfl (by kernel_rfl) (by kernel_rfl) (by kernel_rfl) (fun _ _ _ h => h) (Or.inl ⟨by rfl, ?hyr2_11⟩) (by assumption) ?restr2_11
  case hyr2_11 => (intro w hSw; (try dsimp only at hSw); go_simp; try (with_reducible rfl))
  simp only [Act.put, List.getElem_toArray, List.getElem_cons_succ, List.getElem_cons_zero, List.setIfInBounds_toArray, List.set_cons_zero, List.set_cons_succ]
  refine wpAnyH_take (i := 12) (v := undef) rfl (by kernel_rfl) (by kernel_rfl) (by kernel_rfl) (fun _ _ _ h => h) (Or.inr ⟨by rfl, rfl⟩) (by assumption) ?_
  simp only [Act.put, List.getElem_toArray, List.getElem_cons_succ, List.getElem_cons_zero, List.setIfInBounds_toArray, List.set_cons_zero, List.set_cons_succ]
  refine wpAnyH_take (i := 13) (v := undef) rfl (by kernel_rfl) (by kernel_rfl) (by kernel_rfl) (fun _ _ _ h => h) (Or.inr ⟨by rfl, rfl⟩) (by assumption) ?_
  simp only [Act.put, List.getElem_toArray, List.getElem_cons_succ, List.getElem_cons_zero, List.setIfInBounds_toArray, List.set_cons_zero, List.set_cons_succ]
  refine wpAnyH_take (i := 14) (v := undef) rfl (by kernel_rfl) (by kernel_rfl) (by kernel_rfl) (fun _ _ _ h => h) (Or.inr ⟨by rfl, rfl⟩) (by assumption) ?_
  simp only [Act.put, List.getElem_toArray, List.getElem_cons_succ, List.getElem_cons_zero, List.setIfInBounds_toArray, List.set_cons_zero, List.set_cons_succ]
  refine wpAnyH_take (i := 15) (v := undef) rfl (by kernel_rfl) (by kernel_rfl) (by kernel_rfl) (fun _ _ _ h => h) (Or.inr ⟨by rfl, rfl⟩) (by assumption) ?_
  simp only [Act.put, List.getElem_toArray, List.getElem_cons_succ, List.getElem_cons_zero, List.setIfInBounds_toArray, List.set_cons_zero, List.set_cons_succ]
  refine wpAnyH_take (i := 16) (v := undef) rfl (by kernel_rfl) (by kernel_rfl) (by kernel_rfl) (fun _ _ _ h => h) (Or.inr ⟨by rfl, rfl⟩) (by assumption) ?_
  simp only [Act.put, List.getElem_toArray, List.getElem_cons_succ, List.getElem_cons_zero, List.setIfInBounds_toArray, List.set_cons_zero, List.set_cons_succ]
  refine wpAnyH_take (i := 17) (v := undef) rfl (by kernel_rfl) (by kernel_rfl) (by kernel_rfl) (fun _ _ _ h => h) (Or.inr ⟨by rfl, rfl⟩) (by assumption) ?_
  simp only [Act.put, List.getElem_toArray, List.getElem_cons_succ, List.getElem_cons_zero, List.setIfInBounds_toArray, List.set_cons_zero, List.set_cons_succ]
  refine wpAnyH_take (i := 18) (v := undef) rfl (by kernel_rfl) (by kernel_rfl) (by kernel_rfl) (fun _ _ _ h => h) (Or.inr ⟨by rfl, rfl⟩) (by assumption) ?_
  simp only [Act.put, List.getElem_toArray, List.getElem_cons_succ, List.getElem_cons_zero, List.setIfInBounds_toArray, List.set_cons_zero, List.set_cons_succ]
  refine' wpAnyH_take (i := 19) (v := ?vr2_19) rfl (by kernel_rfl) (by kernel_rfl) (by kernel_rfl) (fun _ _ _ h => h) (Or.inl ⟨by rfl, ?hyr2_19⟩) (by assumption) ?restr2_19
  case hyr2_19 => (intro w hSw; (try dsimp only at hSw); go_simp; try (with_reducible rfl))
  simp only [Act.put, List.getElem_toArray, List.getElem_cons_succ, List.getElem_cons_zero, List.setIfInBounds_toArray, List.set_cons_zero, List.set_cons_succ]
  refine wpAnyH_done (by kernel_rfl) ?_ _
  clear hHeld HW3
  have c0 := HRZ.out.cell 0
  have c1 := HRZ.out.cell 1
  have c2 := HRZ.out.cell 2
  have f0 := HRZ.out.frozen 0
  have f1 := HRZ.out.frozen 1
  have f2 := HRZ.out.frozen 2
  have hl := HRZ.out.lt
  go_wp2_with fail
  refine bodyPost_ret (v := .tuple #[.agg #[.int .i64 0, .int .i64 0, .int .i64 0], .bool false]) (by simp [results, Tryd.results31, go_sem, c0, c1, c2, hl]) rfl ⟨rfl, ?_⟩
  exact ((HBZ.out.setCell (by simp) _).setCell (by simp) _).setCell (by simp) _
end Go.Proofs.YtnoieboiklmkaaaDoor.nq

namespace Go.Proofs.YtnoieboiklmkaaaDoor.nq
open Go.RowKit
open reads base ty lg lgi win hs nt rowi sn
set_option linter.unusedVariables false
set_option linter.unusedSimpArgs false

theorem sf_ext' {a b : Sf} (h1 : a.east = b.east) (h2 : a.north = b.north) (h3 : a.up = b.up) : a = b := by cases a; cases b; simp_all
theorem err_eq (s h p q : Sf) (hq : sub3 q p = s) : sub3 h s = add3 (sub3 h q) p := by
  subst hq
  exact sf_ext' (by unfold sub3 add3; simp only []; omega) (by unfold sub3 add3; simp only []; omega) (by unfold sub3 add3; simp only []; omega)
set_option maxHeartbeats 16000000 in
set_option maxRecDepth 100000 in
theorem err_in (A : Option Addr) (n cap k : Nat) (x : Lg) (t : Bool) (ts : List Lg) (C : Array Value) (w : World) (hn : n ≤ 2000000) (HC : Hid (nv (netS ts) (clS ts) = C)) (hts : Hid (LgAt w w.heap.size A n ts)) (hT : Hid (Tab w)) (HG : Hid (goodLg ts = true)) (HX : Hid (ts[k]? = some x)) (HM : Hid (mem (net ts).ps x.frm = t)) (VV : Value) (HV : Hid ((if t then .tuple #[.agg #[.int .i64 (errV ts x).east, .int .i64 (errV ts x).north, .int .i64 (errV ts x).up], .bool true] else .tuple #[.agg #[.int .i64 0, .int .i64 0, .int .i64 0], .bool false]) = VV)) :
    Calls Tryd.prog 31 #[.slice A n cap, .int .i64 (k : Int)] w (APost VV w) := by
  have hL := hts.out.1
  have hn12 : n ≤ 12 := by rw [← hL]; exact goodLg_len HG.out
  have hkn : k < n := by rw [← hL]; exact (List.getElem?_eq_some_iff.1 HX.out).1
  have hk0 : (0 : Int) ≤ (k : Int) := by omega
  have hkn' : (k : Int) < (n : Int) := by omega
  have hkd : decide (k < n) = true := by simpa using hkn
  clear hL
  have H1 := Lib.hid (one_in (show btw 0 (k : Int) ((n : Int) - 1) = true from btw_mk (by omega) (by omega)))
  have HOK := Lib.hid (goodLg_at HG.out HX.out)
  have HNS := Lib.hid (show netS ts = net ts by unfold netS; rw [HG.out]; rfl)
  have HP1 := Lib.hid (show mem (netS ts).ps x.frm = t by rw [HNS.out]; exact HM.out)
  have HP2 := Lib.hid (show mem (netS ts).ps x.to_ = t by rw [HNS.out, ← net_ends HG.out HX.out]; exact HM.out)
  obtain ⟨gL, hA0, hgL, e0, e1, e2, e3, e4⟩ := hts.out.2 k x HX.out
  have HLL := Lib.hid (show (w.cell? ⟨gL, k * 5, none⟩ = some (.int .i64 x.frm) ∧ w.cell? ⟨gL, k * 5 + 1, none⟩ = some (.int .i64 x.to_) ∧ w.cell? ⟨gL, k * 5 + 2, none⟩ = some (.int .i64 x.tape) ∧ w.cell? ⟨gL, k * 5 + 3, none⟩ = some (.int .i64 x.comp) ∧ w.cell? ⟨gL, k * 5 + 4, none⟩ = some (.int .i64 x.slope)) ∧ gL < w.heap.size from ⟨⟨e0, e1, e2, e3, e4⟩, hgL⟩)
  clear e0 e1 e2 e3 e4 hgL
  subst hA0
  have hcz : C.size = 56 := by rw [← HC.out]; exact nv_size (nok_S ts)
  have HC1 := Lib.hid (show C.all (·.oneCell') = true by rw [← HC.out]; exact nv_one)
  have HA := Lib.hid (hts.out.alloc (.cells #[.int .i64 0, .int .i64 0, .int .i64 0] 35))
  have HT0 := Lib.hid (hT.out.alloc (.cells #[.int .i64 0, .int .i64 0, .int .i64 0] 35))
  go_enter Tryd.func31, Tryd.ntmps31
  go_wp2_with fail
  refine (net_any (some ⟨gL, 0, none⟩) n cap ts C true HC HG _ hn HA HT0).mono ?_
  rintro e w1 ⟨rfl, b1⟩
  have HR := Lib.hid ((Blk.new w 35 #[.int .i64 0, .int .i64 0, .int .i64 0]).below b1 (by simp))
  have HB := Lib.hid (((Below.refl w.heap.size w).alloc (Nat.le_refl _) (.cells #[.int .i64 0, .int .i64 0, .int .i64 0] 35)).trans (b1.mono (by simp)))
  clear b1
  have hst := lay_net hcz HC1.out w1
  have HR2 := Lib.hid (HR.out.alloc (.cells C 66))
  have HB2 := Lib.hid (HB.out.alloc HB.out.size (.cells C 66))
  have HG2 := Lib.hid (Blk.new w1 66 C)
  obtain ⟨W, HW⟩ : ∃ W, Hid (w1.alloc (.cells C 66) = W) := ⟨_, Lib.hid rfl⟩
  obtain ⟨G, HGG⟩ : ∃ G, Hid (w1.heap.size = G) := ⟨_, Lib.hid rfl⟩
  go_upto_region 2 with fail
  clear hst
  rw [HGG.out] at HG2
  try rw [HGG.out]
  try simp only [HGG.out]
  rw [HW.out] at HR2 HB2 HG2 ⊢
  clear HW HR HB HGG
  have HLW := Lib.hid (show LW gL k G x C W by
    obtain ⟨⟨e0, e1, e2, e3, e4⟩, l⟩ := HLL.out
    have A : ∀ o, W.cell? ⟨gL, o, none⟩ = w.cell? ⟨gL, o, none⟩ := fun o => HB2.out.cell (p := ⟨gL, o, none⟩) l
    exact ⟨⟨(A _).trans e0, (A _).trans e1, (A _).trans e2, (A _).trans e3, (A _).trans e4⟩, by have := HB2.out.size; omega, HG2.out⟩)
  clear HLL HG2
  refine wp_region_held_drew (S := (fun v => v.cell? ⟨gL, k * 5, none⟩ = some (.int .i64 x.frm) ∧ v.cell? ⟨gL, k * 5 + 1, none⟩ = some (.int .i64 x.to_) ∧ v.cell? ⟨gL, k * 5 + 2, none⟩ = some (.int .i64 x.tape) ∧ v.cell? ⟨gL, k * 5 + 3, none⟩ = some (.int .i64 x.comp) ∧ v.cell? ⟨gL, k * 5 + 4, none⟩ = some (.int .i64 x.slope) ∧ LW gL k G x C v)) (by kernel_rfl) ?_ (fun hHeld => ?_)
  · exact (HLW.out.step (Below.refl _ _).drew).mk6
  refine' wpAnyH_take (i := 0) (v := ?vr3_0) rfl (by kernel_rfl) (by kernel_rfl) (by kernel_rfl) (fun _ _ _ h => h) (Or.inl ⟨by rfl, ?hyr3_0⟩) (by assumption) ?restr3_0
  case hyr3_0 => (intro w hSw; (try dsimp only at hSw); go_simp; try (with_reducible rfl))
  simp only [Act.put, List.getElem_toArray, List.getElem_cons_succ, List.getElem_cons_zero, List.setIfInBounds_toArray, List.set_cons_zero, List.set_cons_succ]
  refine' wpAnyH_take (i := 1) (v := ?vr3_1) rfl (by kernel_rfl) (by kernel_rfl) (by kernel_rfl) (fun _ _ _ h => h) (Or.inl ⟨by rfl, ?hyr3_1⟩) (by assumption) ?restr3_1
  case hyr3_1 => (intro w hSw; (try dsimp only at hSw); go_simp; try (with_reducible rfl))
  simp only [Act.put, List.getElem_toArray, List.getElem_cons_succ, List.getElem_cons_zero, List.setIfInBounds_toArray, List.set_cons_zero, List.set_cons_succ]
  refine' wpAnyH_take (i := 2) (v := ?vr3_2) rfl (by kernel_rfl) (by kernel_rfl) (by kernel_rfl) (fun _ _ _ h => h) (Or.inl ⟨by rfl, ?hyr3_2⟩) (by assumption) ?restr3_2
  case hyr3_2 => (intro w hSw; (try dsimp only at hSw); go_simp; try (with_reducible rfl))
  simp only [Act.put, List.getElem_toArray, List.getElem_cons_succ, List.getElem_cons_zero, List.setIfInBounds_toArray, List.set_cons_zero, List.set_cons_succ]
  refine' wpAnyH_take (i := 3) (v := ?vr3_3) rfl (by kernel_rfl) (by kernel_rfl) (by kernel_rfl) (fun _ _ _ h => h) (Or.inl ⟨by rfl, ?hyr3_3⟩) (by assumption) ?restr3_3
  case hyr3_3 => (intro w hSw; (try dsimp only at hSw); go_simp; try (with_reducible rfl))
  simp only [Act.put, List.getElem_toArray, List.getElem_cons_succ, List.getElem_cons_zero, List.setIfInBounds_toArray, List.set_cons_zero, List.set_cons_succ]
  refine' wpAnyH_take (i := 4) (v := ?vr3_4) rfl (by kernel_rfl) (by kernel_rfl) (by kernel_rfl) (fun _ _ _ h => h) (Or.inl ⟨by rfl, ?hyr3_4⟩) (by assumption) ?restr3_4
  case hyr3_4 => (intro w hSw; (try dsimp only at hSw); go_simp; try (with_reducible rfl))
  simp only [Act.put, List.getElem_toArray, List.getElem_cons_succ, List.getElem_cons_zero, List.setIfInBounds_toArray, List.set_cons_zero, List.set_cons_succ]
  refine' wpAnyH_take (i := 5) (v := .int .i64 ((n : Int) - 1)) rfl (by kernel_rfl) (by kernel_rfl) (by kernel_rfl) (fun _ _ _ h => h) (Or.inl ⟨by rfl, ?hyn5⟩) (by assumption) ?restn5
  case hyn5 =>
    intro v hSv
    go_simp
    exact IntWalk.i64_in _ (by omega)
  simp only [Act.put, List.getElem_toArray, List.getElem_cons_succ, List.getElem_cons_zero, List.setIfInBounds_toArray, List.set_cons_zero, List.set_cons_succ]
  refine' wpAnyH_take (i := 6) (v := ?vr3_6) rfl (by kernel_rfl) (by kernel_rfl) (by kernel_rfl) (fun _ _ _ h => h) (Or.inl ⟨by rfl, ?hyr3_6⟩) (by assumption) ?restr3_6
  case hyr3_6 => (intro w hSw; (try dsimp only at hSw); go_simp; try (with_reducible rfl))
  simp only [Act.put, List.getElem_toArray, List.getElem_cons_succ, List.getElem_cons_zero, List.setIfInBounds_toArray, List.set_cons_zero, List.set_cons_succ]
  refine wpAnyH_ready (rs := [7]) (by kernel_rfl) (by simp) ?_
  refine AllReadyH.cons rfl (fun K hK => ?_) AllReadyH.nil
  go_simp
  refine hK.out _ _ ((hHeld.2.2.2.2.2.step (((Below.refl _ _).alloc (Nat.le_refl _) _).drew)).mk6) (fun hHeld1 => ?_)
  clear hK K hHeld
  have hHeld := hHeld1
  clear hHeld1
  try simp only [Act.put, List.getElem_toArray, List.getElem_cons_succ, List.getElem_cons_zero, List.setIfInBounds_toArray, List.set_cons_zero, List.set_cons_succ]
  refine wpAnyH_ready (rs := [8]) (by kernel_rfl) (by simp) ?_
  refine AllReadyH.cons rfl (fun K hK => ?_) AllReadyH.nil
  go_simp
  refine (within_dr _ _ (k : Int) true _ _ rfl H1.out).mono ?_
  rintro e w3 ⟨rfl, hw⟩
  have HW3 := Lib.hid hw
  clear hw
  have HR4 := Lib.hid (show Blk w3 w.heap.size 35 #[.int .i64 0, .int .i64 0, .int .i64 0] by rw [← HW3.out]; exact (HR2.out.alloc _).drew)
  have HB4 := Lib.hid (show Below w.heap.size w w3 by rw [← HW3.out]; exact (HB2.out.alloc HB2.out.size _).drew)
  have HL4 := Lib.hid (show LW gL k G x C w3 by rw [← HW3.out]; exact hHeld.2.2.2.2.2)
  refine hK.out _ _ ((by rw [← HW3.out]; exact hHeld)) (fun hHeld1 => ?_)
  clear hK K hHeld
  have hHeld := hHeld1
  clear hHeld1
  try simp only [Act.put, List.getElem_toArray, List.getElem_cons_succ, List.getElem_cons_zero, List.setIfInBounds_toArray, List.set_cons_zero, List.set_cons_succ]
  refine' wpAnyH_take (i := 9) (v := ?vr3_9) rfl (by kernel_rfl) (by kernel_rfl) (by kernel_rfl) (fun _ _ _ h => h) (Or.inl ⟨by rfl, ?hyr3_9⟩) (by assumption) ?restr3_9
  case hyr3_9 => (intro w hSw; (try dsimp only at hSw); go_simp; try (with_reducible rfl))
  simp only [Act.put, List.getElem_toArray, List.getElem_cons_succ, List.getElem_cons_zero, List.setIfInBounds_toArray, List.set_cons_zero, List.set_cons_succ]
  refine' wpAnyH_take (i := 10) (v := ?vr3_10) rfl (by kernel_rfl) (by kernel_rfl) (by kernel_rfl) (fun _ _ _ h => h) (Or.inl ⟨by rfl, ?hyr3_10⟩) (by assumption) ?restr3_10
  case hyr3_10 => (intro w hSw; (try dsimp only at hSw); go_simp; try (with_reducible rfl))
  simp only [Act.put, List.getElem_toArray, List.getElem_cons_succ, List.getElem_cons_zero, List.setIfInBounds_toArray, List.set_cons_zero, List.set_cons_succ]
  refine' wpAnyH_take (i := 11) (v := ?vr3_11) rfl (by kernel_rfl) (by kernel_rfl) (by kernel_rfl) (fun _ _ _ h => h) (Or.inl ⟨by rfl, ?hyr3_11⟩) (by assumption) ?restr3_11
  case hyr3_11 => (intro w hSw; (try dsimp only at hSw); go_simp; try (with_reducible rfl))
  simp only [Act.put, List.getElem_toArray, List.getElem_cons_succ, List.getElem_cons_zero, List.setIfInBounds_toArray, List.set_cons_zero, List.set_cons_succ]
  refine' wpAnyH_take (i := 12) (v := .agg C) rfl (by kernel_rfl) (by kernel_rfl) (by kernel_rfl) (fun _ _ _ h => h) (Or.inl ⟨by rfl, fun v hSv => exec_load rfl rfl hSv.2.2.2.2.2.2.2 hcz⟩) (by assumption) ?_
  simp only [Act.put, List.getElem_toArray, List.getElem_cons_succ, List.getElem_cons_zero, List.setIfInBounds_toArray, List.set_cons_zero, List.set_cons_succ]
  refine' wpAnyH_take (i := 13) (v := ?vr3_13) rfl (by kernel_rfl) (by kernel_rfl) (by kernel_rfl) (fun _ _ _ h => h) (Or.inl ⟨by rfl, ?hyr3_13⟩) (by assumption) ?restr3_13
  case hyr3_13 => (intro w hSw; (try dsimp only at hSw); go_simp; try (with_reducible rfl))
  simp only [Act.put, List.getElem_toArray, List.getElem_cons_succ, List.getElem_cons_zero, List.setIfInBounds_toArray, List.set_cons_zero, List.set_cons_succ]
  refine' wpAnyH_take (i := 14) (v := ?vr3_14) rfl (by kernel_rfl) (by kernel_rfl) (by kernel_rfl) (fun _ _ _ h => h) (Or.inl ⟨by rfl, ?hyr3_14⟩) (by assumption) ?restr3_14
  case hyr3_14 => (intro w hSw; (try dsimp only at hSw); go_simp; try (with_reducible rfl))
  simp only [Act.put, List.getElem_toArray, List.getElem_cons_succ, List.getElem_cons_zero, List.setIfInBounds_toArray, List.set_cons_zero, List.set_cons_succ]
  refine' wpAnyH_take (i := 15) (v := ?vr3_15) rfl (by kernel_rfl) (by kernel_rfl) (by kernel_rfl) (fun _ _ _ h => h) (Or.inl ⟨by rfl, ?hyr3_15⟩) (by assumption) ?restr3_15
  case hyr3_15 => (intro w hSw; (try dsimp only at hSw); go_simp; try (with_reducible rfl))
  simp only [Act.put, List.getElem_toArray, List.getElem_cons_succ, List.getElem_cons_zero, List.setIfInBounds_toArray, List.set_cons_zero, List.set_cons_succ]
  refine' wpAnyH_take (i := 16) (v := ?vr3_16) rfl (by kernel_rfl) (by kernel_rfl) (by kernel_rfl) (fun _ _ _ h => h) (Or.inl ⟨by rfl, ?hyr3_16⟩) (by assumption) ?restr3_16
  case hyr3_16 => (intro w hSw; (try dsimp only at hSw); go_simp; try (with_reducible rfl))
  simp only [Act.put, List.getElem_toArray, List.getElem_cons_succ, List.getElem_cons_zero, List.setIfInBounds_toArray, List.set_cons_zero, List.set_cons_succ]
  refine wpAnyH_ready (rs := [17]) (by kernel_rfl) (by simp) ?_
  refine AllReadyH.cons rfl (fun K hK => ?_) AllReadyH.nil
  go_simp
  refine (ends_c HC x t t _ HOK HP1 HP2).mono ?_
  rintro e w5 ⟨rfl, b5⟩
  have HR5 := Lib.hid (HR4.out.below b5 HR4.out.lt)
  have HB5 := Lib.hid (HB4.out.trans (b5.mono HB4.out.size))
  have HL5 := Lib.hid (HL4.out.step b5)
  refine hK.out _ _ ((hHeld.2.2.2.2.2.step b5).mk6) (fun hHeld1 => ?_)
  clear hK K hHeld
  have hHeld := hHeld1
  clear hHeld1
  try simp only [Act.put, List.getElem_toArray, List.getElem_cons_succ, List.getElem_cons_zero, List.setIfInBounds_toArray, List.set_cons_zero, List.set_cons_succ]
  refine' wpAnyH_take (i := 18) (v := ?vr3_18) rfl (by kernel_rfl) (by kernel_rfl) (by kernel_rfl) (fun _ _ _ h => h) (Or.inl ⟨by rfl, ?hyr3_18⟩) (by assumption) ?restr3_18
  case hyr3_18 => (intro w hSw; (try dsimp only at hSw); go_simp; try (with_reducible rfl))
  simp only [Act.put, List.getElem_toArray, List.getElem_cons_succ, List.getElem_cons_zero, List.setIfInBounds_toArray, List.set_cons_zero, List.set_cons_succ]
  refine' wpAnyH_take (i := 19) (v := ?vr3_19) rfl (by kernel_rfl) (by kernel_rfl) (by kernel_rfl) (fun _ _ _ h => h) (Or.inl ⟨by rfl, ?hyr3_19⟩) (by assumption) ?restr3_19
  case hyr3_19 => (intro w hSw; (try dsimp only at hSw); go_simp; try (with_reducible rfl))
  simp only [Act.put, List.getElem_toArray, List.getElem_cons_succ, List.getElem_cons_zero, List.setIfInBounds_toArray, List.set_cons_zero, List.set_cons_succ]
  refine wpAnyH_done (by kernel_rfl) ?_ _
  clear hHeld HR4 HB4 HL4 HR2 HB2 HLW HW3
  cases t
  · have HRZ := Lib.hid HR5.out
    have HBZ := Lib.hid HB5.out
    have c0 := HRZ.out.cell 0
    have c1 := HRZ.out.cell 1
    have c2 := HRZ.out.cell 2
    have f0 := HRZ.out.frozen 0
    have f1 := HRZ.out.frozen 1
    have f2 := HRZ.out.frozen 2
    have hl := HRZ.out.lt
    go_wp2_with fail
    refine bodyPost_ret (v := .tuple #[.agg #[.int .i64 0, .int .i64 0, .int .i64 0], .bool false]) (by simp [results, Tryd.results31, go_sem, c0, c1, c2, hl]) rfl ⟨by rw [← HV.out]; rfl, ?_⟩
    exact ((HBZ.out.setCell (by simp) _).setCell (by simp) _).setCell (by simp) _
  · obtain ⟨⟨q0, q1, q2, q3, q4⟩, hgl, HGB⟩ := HL5.out
    have HGG5 := Lib.hid HGB
    clear HGB HL5
    obtain ⟨X, HXX⟩ : ∃ X, Hid (w5.heap.size = X) := ⟨_, Lib.hid rfl⟩
    obtain ⟨W6, HW6⟩ : ∃ W, Hid (w5.alloc (.cells #[.int .i64 x.frm, .int .i64 x.to_, .int .i64 x.tape, .int .i64 x.comp, .int .i64 x.slope] 59) = W) := ⟨_, Lib.hid rfl⟩
    have HLB := Lib.hid (show LB X G x C W6 by rw [← HW6.out, ← HXX.out]; exact ⟨Blk.new _ _ _, HGG5.out.alloc _⟩)
    have HR6 := Lib.hid (show Blk W6 w.heap.size 35 #[.int .i64 0, .int .i64 0, .int .i64 0] by rw [← HW6.out]; exact HR5.out.alloc _)
    have HB6 := Lib.hid (show Below w.heap.size w W6 by rw [← HW6.out]; exact HB5.out.alloc HB5.out.size _)
    go_upto_region 5 with fail
    try rw [HXX.out]
    try simp only [HXX.out]
    rw [HW6.out]
    clear HW6 HXX HGG5 HR5 HB5 q0 q1 q2 q3 q4 hgl
    obtain ⟨l1, l2, -⟩ := okLg_lim HOK.out
    obtain ⟨a, ha⟩ := Int.eq_ofNat_of_zero_le l1.1
    obtain ⟨b, hb⟩ := Int.eq_ofNat_of_zero_le l2.1
    have ha8 : a < 8 := by omega
    have hb8 : b < 8 := by omega
    clear l1 l2
    obtain ⟨p, HP⟩ : ∃ p, Hid (at_ (netS ts).pl (a : Int) = p) := ⟨_, Lib.hid rfl⟩
    obtain ⟨q, HQ⟩ : ∃ q, Hid (at_ (netS ts).pl (b : Int) = q) := ⟨_, Lib.hid rfl⟩
    obtain ⟨d, HD⟩ : ∃ d, Hid (sub3 q p = d) := ⟨_, Lib.hid rfl⟩
    obtain ⟨h, HH⟩ : ∃ h, Hid (shf x = h) := ⟨_, Lib.hid rfl⟩
    obtain ⟨r, HR⟩ : ∃ r, Hid (sub3 h d = r) := ⟨_, Lib.hid rfl⟩
    have HPB := Lib.hid (show BdS p by rw [← HP.out]; have k := (q6 ts).2.2.2 (a : Int); unfold Bd4 at k; unfold BdS; omega)
    have HQB := Lib.hid (show BdS q by rw [← HQ.out]; have k := (q6 ts).2.2.2 (b : Int); unfold Bd4 at k; unfold BdS; omega)
    have HDB := Lib.hid (show BdS d by rw [← HD.out, ← HP.out, ← HQ.out]; have k := (q6 ts).2.2.2 (a : Int); have j := (q6 ts).2.2.2 (b : Int); unfold Bd4 at k j; unfold BdS sub3; simp only []; omega)
    have HHB := Lib.hid (show BdS h by rw [← HH.out]; exact bd_shf HOK.out)
    have HE := Lib.hid (show errV ts x = r by
      unfold errV
      rw [← HR.out, HH.out, ha, hb, ← HNS.out, HP.out, HQ.out]
      exact (err_eq d h p q HD.out).symm)
    obtain ⟨xf, xt, tp, cp, sl⟩ := x
    simp only [] at ha hb
    subst ha hb
    refine wp_region_held_drew (S := (fun v => v.cell? ⟨X, 0, none⟩ = some (.int .i64 (a : Int)) ∧ v.cell? ⟨X, 1, none⟩ = some (.int .i64 (b : Int)) ∧ v.cell? ⟨X, 2, none⟩ = some (.int .i64 tp) ∧ v.cell? ⟨X, 3, none⟩ = some (.int .i64 cp) ∧ v.cell? ⟨X, 4, none⟩ = some (.int .i64 sl) ∧ LB X G ⟨(a : Int), (b : Int), tp, cp, sl⟩ C v)) (by kernel_rfl) ?_ (fun hHeld => ?_)
    · exact (HLB.out.step (Below.refl _ _).drew).mk6
    refine' wpAnyH_take (i := 0) (v := ?vr4_0) rfl (by kernel_rfl) (by kernel_rfl) (by kernel_rfl) (fun _ _ _ h => h) (Or.inl ⟨by rfl, ?hyr4_0⟩) (by assumption) ?restr4_0
    case hyr4_0 => (intro w hSw; (try dsimp only at hSw); go_simp; try (with_reducible rfl))
    simp only [Act.put, List.getElem_toArray, List.getElem_cons_succ, List.getElem_cons_zero, List.setIfInBounds_toArray, List.set_cons_zero, List.set_cons_succ]
    refine' wpAnyH_take (i := 2) (v := .agg C) rfl (by kernel_rfl) (by kernel_rfl) (by kernel_rfl) (fun _ _ _ h => h) (Or.inl ⟨by rfl, fun v hSv => exec_load rfl rfl hSv.2.2.2.2.2.2 hcz⟩) (by assumption) ?_
    simp only [Act.put, List.getElem_toArray, List.getElem_cons_succ, List.getElem_cons_zero, List.setIfInBounds_toArray, List.set_cons_zero, List.set_cons_succ]
    refine' wpAnyH_take (i := 3) (v := ?vr4_3) rfl (by kernel_rfl) (by kernel_rfl) (by kernel_rfl) (fun _ _ _ h => h) (Or.inl ⟨by rfl, ?hyr4_3⟩) (by assumption) ?restr4_3
    case hyr4_3 => (intro w hSw; (try dsimp only at hSw); go_simp; try (with_reducible rfl))
    simp only [Act.put, List.getElem_toArray, List.getElem_cons_succ, List.getElem_cons_zero, List.setIfInBounds_toArray, List.set_cons_zero, List.set_cons_succ]
    refine' wpAnyH_take (i := 4) (v := ?vr4_4) rfl (by kernel_rfl) (by kernel_rfl) (by kernel_rfl) (fun _ _ _ h => h) (Or.inl ⟨by rfl, ?hyr4_4⟩) (by assumption) ?restr4_4
    case hyr4_4 => (intro w hSw; (try dsimp only at hSw); go_simp; try (with_reducible rfl))
    simp only [Act.put, List.getElem_toArray, List.getElem_cons_succ, List.getElem_cons_zero, List.setIfInBounds_toArray, List.set_cons_zero, List.set_cons_succ]
    refine' wpAnyH_take (i := 5) (v := ?vr4_5) rfl (by kernel_rfl) (by kernel_rfl) (by kernel_rfl) (fun _ _ _ h => h) (Or.inl ⟨by rfl, ?hyr4_5⟩) (by assumption) ?restr4_5
    case hyr4_5 => (intro w hSw; (try dsimp only at hSw); go_simp; try (with_reducible rfl))
    simp only [Act.put, List.getElem_toArray, List.getElem_cons_succ, List.getElem_cons_zero, List.setIfInBounds_toArray, List.set_cons_zero, List.set_cons_succ]
    refine' wpAnyH_take (i := 6) (v := ?vr4_6) rfl (by kernel_rfl) (by kernel_rfl) (by kernel_rfl) (fun _ _ _ h => h) (Or.inl ⟨by rfl, ?hyr4_6⟩) (by assumption) ?restr4_6
    case hyr4_6 => (intro w hSw; (try dsimp only at hSw); go_simp; try (with_reducible rfl))
    simp only [Act.put, List.getElem_toArray, List.getElem_cons_succ, List.getElem_cons_zero, List.setIfInBounds_toArray, List.set_cons_zero, List.set_cons_succ]
    refine wpAnyH_ready (rs := [1]) (by kernel_rfl) (by simp) ?_
    refine AllReadyH.cons rfl (fun K hK => ?_) AllReadyH.nil
    go_simp
    refine (along_is ⟨(a : Int), (b : Int), tp, cp, sl⟩ h HH _ HOK (Lib.hid (hT.out.below HB6.out.drew))).mono ?_
    rintro e w7 ⟨rfl, b7⟩
    have HR7 := Lib.hid (HR6.out.drew.below b7 HR6.out.lt)
    have HB7 := Lib.hid (HB6.out.drew.trans (b7.mono HB6.out.size))
    refine hK.out _ _ ((hHeld.2.2.2.2.2.step b7).mk6) (fun hHeld1 => ?_)
    clear hK K hHeld
    have hHeld := hHeld1
    clear hHeld1
    try simp only [Act.put, List.getElem_toArray, List.getElem_cons_succ, List.getElem_cons_zero, List.setIfInBounds_toArray, List.set_cons_zero, List.set_cons_succ]
    refine wpAnyH_ready (rs := [7]) (by kernel_rfl) (by simp) ?_
    refine AllReadyH.cons rfl (fun K hK => ?_) AllReadyH.nil
    go_simp
    refine (between_c HC a b p q d _ (Lib.hid (nok_S ts)) ha8 hb8 HP HQ HD HPB HQB).mono ?_
    rintro e w8 ⟨rfl, b8⟩
    have HR8 := Lib.hid (HR7.out.below b8 HR7.out.lt)
    have HB8 := Lib.hid (HB7.out.trans (b8.mono HB7.out.size))
    refine hK.out _ _ ((hHeld.2.2.2.2.2.step b8).mk6) (fun hHeld1 => ?_)
    clear hK K hHeld
    have hHeld := hHeld1
    clear hHeld1
    try simp only [Act.put, List.getElem_toArray, List.getElem_cons_succ, List.getElem_cons_zero, List.setIfInBounds_toArray, List.set_cons_zero, List.set_cons_succ]
    refine wpAnyH_ready (rs := [8]) (by kernel_rfl) (by simp) ?_
    refine AllReadyH.cons rfl (fun K hK => ?_) AllReadyH.nil
    go_simp
    refine (diff_q h d r HR _ HHB HDB).mono ?_
    rintro e w9 ⟨rfl, b9⟩
    have HR9 := Lib.hid (HR8.out.below b9 HR8.out.lt)
    have HB9 := Lib.hid (HB8.out.trans (b9.mono HB8.out.size))
    have HL9 := Lib.hid (hHeld.2.2.2.2.2.step b9)
    refine hK.out _ _ ((hHeld.2.2.2.2.2.step b9).mk6) (fun hHeld1 => ?_)
    clear hK K hHeld
    have hHeld := hHeld1
    clear hHeld1
    try simp only [Act.put, List.getElem_toArray, List.getElem_cons_succ, List.getElem_cons_zero, List.setIfInBounds_toArray, List.set_cons_zero, List.set_cons_succ]
    clear HR6 HB6 HR7 HB7 HR8 HB8
    have c0 := HR9.out.cell 0
    have c1 := HR9.out.cell 1
    have c2 := HR9.out.cell 2
    have f0 := HR9.out.frozen 0
    have f1 := HR9.out.frozen 1
    have f2 := HR9.out.frozen 2
    have hl := HR9.out.lt
    have hn1 := Blk.ne_ HL9.out.1 HR9.out (by decide)
    have hn2 := Blk.ne_ HL9.out.2 HR9.out (by decide)
    refine wpAnyH_ready (rs := [9]) (by kernel_rfl) (by simp) ?_
    refine AllReadyH.cons rfl (fun K hK => ?_) AllReadyH.nil
    go_simp
    refine hK.out _ _ ((show LB X G ⟨(a : Int), (b : Int), tp, cp, sl⟩ C _ from ⟨((HL9.out.1.far hn1 _).far hn1 _).far hn1 _, ((HL9.out.2.far hn2 _).far hn2 _).far hn2 _⟩).mk6) (fun hHeld1 => ?_)
    clear hK K hHeld
    have hHeld := hHeld1
    clear hHeld1
    try simp only [Act.put, List.getElem_toArray, List.getElem_cons_succ, List.getElem_cons_zero, List.setIfInBounds_toArray, List.set_cons_zero, List.set_cons_succ]
    refine' wpAnyH_take (i := 10) (v := ?vr4_10) rfl (by kernel_rfl) (by kernel_rfl) (by kernel_rfl) (fun _ _ _ h => h) (Or.inl ⟨by rfl, ?hyr4_10⟩) (by assumption) ?restr4_10
    case hyr4_10 => (intro w hSw; (try dsimp only at hSw); go_simp; try (with_reducible rfl))
    simp only [Act.put, List.getElem_toArray, List.getElem_cons_succ, List.getElem_cons_zero, List.setIfInBounds_toArray, List.set_cons_zero, List.set_cons_succ]
    refine wpAnyH_done (by kernel_rfl) ?_ _
    clear hHeld
    go_wp2_with fail
    refine bodyPost_ret (v := .tuple #[.agg #[.int .i64 r.east, .int .i64 r.north, .int .i64 r.up], .bool true]) (by simp [results, Tryd.results31, go_sem, c0, c1, c2, hl]) rfl ⟨by rw [← HV.out, HE.out]; rfl, ?_⟩
    exact ((HB9.out.setCell (by simp) _).setCell (by simp) _).setCell (by simp) _
end Go.Proofs.YtnoieboiklmkaaaDoor.nq

namespace Go.Proofs.YtnoieboiklmkaaaDoor.nq
open Go.RowKit
open reads base ty lg lgi win hs nt rowi sn
set_option linter.unusedVariables false
set_option linter.unusedSimpArgs false

theorem errorOf_impl (A : Option Addr) (n cap : Nat) (ts : List Lg) (z : Int) (w : World) (hn : n ≤ 2000000) (hts : Hid (LgAt w w.heap.size A n ts)) (hT : Hid (Tab w)) :
    Calls Tryd.prog 31 #[.slice A n cap, .int .i64 z] w (APost (ansEr ts z) w) := by
  have hL := hts.out.1
  cases hg : goodLg ts
  · have e : ansEr ts z = .tuple #[.agg #[.int .i64 0, .int .i64 0, .int .i64 0], .bool false] := by unfold ansEr erOk; rw [hg]; rfl
    rw [e]
    exact err_bad A n cap ts z _ w hn (Lib.hid rfl) hts hT (Lib.hid hg)
  · cases hb : btw 0 z ((n : Int) - 1)
    · have e : ansEr ts z = .tuple #[.agg #[.int .i64 0, .int .i64 0, .int .i64 0], .bool false] := by unfold ansEr erOk; rw [hg, hL, hb]; rfl
      rw [e]
      exact err_out A n cap ts z _ w hn (Lib.hid rfl) hts hT (Lib.hid hg) (Lib.hid hb)
    · obtain ⟨z0, z1⟩ := btw_yes hb
      obtain ⟨k, rfl⟩ := Int.eq_ofNat_of_zero_le z0
      obtain ⟨x, hx⟩ := at_lt hL (show k < n by omega)
      have e : ansEr ts (k : Int) = if mem (net ts).ps x.frm then .tuple #[.agg #[.int .i64 (errV ts x).east, .int .i64 (errV ts x).north, .int .i64 (errV ts x).up], .bool true] else .tuple #[.agg #[.int .i64 0, .int .i64 0, .int .i64 0], .bool false] := by
        unfold ansEr erOk erAt erV
        rw [hg, hL, hb, Int.toNat_natCast, hx]
        simp only [Bool.true_and]
      rw [e]
      exact err_in A n cap k x _ ts _ w hn (Lib.hid rfl) hts hT (Lib.hid hg) (Lib.hid hx) (Lib.hid rfl) _ (Lib.hid rfl)
end Go.Proofs.YtnoieboiklmkaaaDoor.nq

namespace Go.Proofs.YtnoieboiklmkaaaDoor.nq
open Go.RowKit
open reads base ty lg lgi win hs nt rowi sn
set_option linter.unusedVariables false
set_option linter.unusedSimpArgs false

/-- two boxes for the answer, the network, the least and the greatest so far, the placed stations -/
def XE (w : World) (G L H Bz : Nat) (A2 : Option Addr) (m c2 : Nat) (lo hi : Sf) (C : Array Value) (ps : List Int) (v : World) : Prop :=
  Blk v w.heap.size 35 #[.int .i64 0, .int .i64 0, .int .i64 0] ∧ Blk v (w.heap.size + 1) 35 #[.int .i64 0, .int .i64 0, .int .i64 0] ∧ Blk v G 66 C ∧ Blk v L 35 #[.int .i64 lo.east, .int .i64 lo.north, .int .i64 lo.up] ∧ Blk v H 35 #[.int .i64 hi.east, .int .i64 hi.north, .int .i64 hi.up] ∧ v.ownsRow Bz 3 1 (.slice A2 m c2) m (ints.intsV ps) ∧ Below w.heap.size w v ∧ (w.heap.size + 1 < G ∧ G < L ∧ L < H ∧ H < Bz)
section
variable {w v v' : World} {G L H Bz : Nat} {A2 : Option Addr} {m c2 : Nat} {lo hi : Sf} {C : Array Value} {ps : List Int}
theorem XE.step (h : XE w G L H Bz A2 m c2 lo hi C ps v) (hb : Below v.heap.size v v') : XE w G L H Bz A2 m c2 lo hi C ps v' := by
  obtain ⟨h1, h2, h3, h4, h5, h6, h7, h8⟩ := h
  exact ⟨h1.below hb h1.lt, h2.below hb h2.lt, h3.below hb h3.lt, h4.below hb h4.lt, h5.below hb h5.lt, row_below h6 hb, h7.trans (hb.mono h7.size), h8⟩
theorem XE.low (h : XE w G L H Bz A2 m c2 lo hi C ps v) (z : Sf) : XE w G L H Bz A2 m c2 z hi C ps (((v.setCell ⟨L, 0, none⟩ (.int .i64 z.east)).setCell ⟨L, 1, none⟩ (.int .i64 z.north)).setCell ⟨L, 2, none⟩ (.int .i64 z.up)) := by
  obtain ⟨h1, h2, h3, h4, h5, h6, h7, h8⟩ := h
  have n1 : w.heap.size ≠ L := by omega
  have n2 : w.heap.size + 1 ≠ L := by omega
  have n3 : G ≠ L := by omega
  have n4 : H ≠ L := by omega
  have n5 : ∀ g, (Value.slice A2 m c2).ownBlock = some g → ¬ g = L := fun g e => by have := (h6.lt g e).1; omega
  have hw : w.heap.size ≤ L := by omega
  exact ⟨((h1.far n1 _).far n1 _).far n1 _, ((h2.far n2 _).far n2 _).far n2 _, ((h3.far n3 _).far n3 _).far n3 _, ((h4.set_ 0 _).set_ 1 _).set_ 2 _, ((h5.far n4 _).far n4 _).far n4 _, far_row (far_row (far_row h6 n5 _ _) n5 _ _) n5 _ _, ((h7.setCell hw _).setCell hw _).setCell hw _, h8⟩
theorem XE.high (h : XE w G L H Bz A2 m c2 lo hi C ps v) (z : Sf) : XE w G L H Bz A2 m c2 lo z C ps (((v.setCell ⟨H, 0, none⟩ (.int .i64 z.east)).setCell ⟨H, 1, none⟩ (.int .i64 z.north)).setCell ⟨H, 2, none⟩ (.int .i64 z.up)) := by
  obtain ⟨h1, h2, h3, h4, h5, h6, h7, h8⟩ := h
  have n1 : w.heap.size ≠ H := by omega
  have n2 : w.heap.size + 1 ≠ H := by omega
  have n3 : G ≠ H := by omega
  have n4 : L ≠ H := by omega
  have n5 : ∀ g, (Value.slice A2 m c2).ownBlock = some g → ¬ g = H := fun g e => by have := (h6.lt g e).1; omega
  have hw : w.heap.size ≤ H := by omega
  exact ⟨((h1.far n1 _).far n1 _).far n1 _, ((h2.far n2 _).far n2 _).far n2 _, ((h3.far n3 _).far n3 _).far n3 _, ((h4.far n4 _).far n4 _).far n4 _, ((h5.set_ 0 _).set_ 1 _).set_ 2 _, far_row (far_row (far_row h6 n5 _ _) n5 _ _) n5 _ _, ((h7.setCell hw _).setCell hw _).setCell hw _, h8⟩
end
theorem gp_mk {v : World} {G a : Nat} {C : Array Value} {p : Sf} (k0 : C[8 + a * 3]? = some (.int .i64 p.east)) (k1 : C[8 + a * 3 + 1]? = some (.int .i64 p.north)) (k2 : C[8 + a * 3 + 2]? = some (.int .i64 p.up)) (h : Blk v G 66 C) :
    v.cell? ⟨G, 8 + a * 3, none⟩ = some (.int .i64 p.east) ∧ v.cell? ⟨G, 8 + a * 3 + 1, none⟩ = some (.int .i64 p.north) ∧ v.cell? ⟨G, 8 + a * 3 + 2, none⟩ = some (.int .i64 p.up) ∧ Blk v G 66 C := ⟨(h.cell _).trans k0, (h.cell _).trans k1, (h.cell _).trans k2, h⟩
def XPost (lo hi : Sf) (g : Bool) (w : World) (e : Ending) (w' : World) : Prop := e = .returned (.tuple #[.agg #[.int .i64 lo.east, .int .i64 lo.north, .int .i64 lo.up], .agg #[.int .i64 hi.east, .int .i64 hi.north, .int .i64 hi.up], .bool g]) ∧ Below w.heap.size w w'
set_option maxHeartbeats 16000000 in
set_option maxRecDepth 100000 in
theorem ext_any (A : Option Addr) (n cap : Nat) (ts : List Lg) (lo hi : Sf) (g : Bool) (w : World) (hlo : Hid (lowN (netS ts) (netS ts).ps.length = lo)) (hhi : Hid (highN (netS ts) (netS ts).ps.length = hi)) (HG : Hid (goodLg ts = g)) (hn : n ≤ 2000000) (hts : Hid (LgAt w w.heap.size A n ts)) (hT : Hid (Tab w)) :
    Calls Tryd.prog 35 #[.slice A n cap] w (XPost lo hi g w) := by
  obtain ⟨C, HC⟩ : ∃ C, Hid (nv (netS ts) (clS ts) = C) := ⟨_, Lib.hid rfl⟩
  have hcz : C.size = 56 := by rw [← HC.out]; exact nv_size (nok_S ts)
  have HC1 := Lib.hid (show C.all (·.oneCell') = true by rw [← HC.out]; exact nv_one)
  have HNK := Lib.hid (nok_S ts)
  have HQ6 := Lib.hid (q6 ts)
  have HPS := Lib.hid ((ps_S ts).trans (psS ts))
  obtain ⟨N, HNN⟩ : ∃ N, Hid (netS ts = N) := ⟨_, Lib.hid rfl⟩
  obtain ⟨CL, HCL⟩ : ∃ l, Hid (clS ts = l) := ⟨_, Lib.hid rfl⟩
  obtain ⟨m2, HM2⟩ : ∃ m, Hid (N.ps.length = m) := ⟨_, Lib.hid rfl⟩
  rw [HNN.out, HCL.out] at HNK
  rw [HNN.out] at HQ6 HPS hlo hhi
  rw [HM2.out] at hlo hhi
  have HC2 := Lib.hid (show nv N CL = C by rw [← HNN.out, ← HCL.out]; exact HC.out)
  have hp8 : m2 ≤ 8 := by rw [← HM2.out]; exact HQ6.out.2.2.1
  have HA := Lib.hid ((hts.out.alloc (.cells #[.int .i64 0, .int .i64 0, .int .i64 0] 35)).alloc (.cells #[.int .i64 0, .int .i64 0, .int .i64 0] 35))
  have HT0 := Lib.hid ((hT.out.alloc (.cells #[.int .i64 0, .int .i64 0, .int .i64 0] 35)).alloc (.cells #[.int .i64 0, .int .i64 0, .int .i64 0] 35))
  have HB0 := Lib.hid (((Below.refl w.heap.size w).alloc (Nat.le_refl _) (.cells #[.int .i64 0, .int .i64 0, .int .i64 0] 35)).alloc (by simp) (.cells #[.int .i64 0, .int .i64 0, .int .i64 0] 35))
  have HR1 := Lib.hid ((Blk.new w 35 #[.int .i64 0, .int .i64 0, .int .i64 0]).alloc (.cells #[.int .i64 0, .int .i64 0, .int .i64 0] 35))
  have HR2 := Lib.hid (show Blk ((w.alloc (.cells #[.int .i64 0, .int .i64 0, .int .i64 0] 35)).alloc (.cells #[.int .i64 0, .int .i64 0, .int .i64 0] 35)) (w.heap.size + 1) 35 #[.int .i64 0, .int .i64 0, .int .i64 0] by have h := Blk.new (w.alloc (.cells #[.int .i64 0, .int .i64 0, .int .i64 0] 35)) 35 #[.int .i64 0, .int .i64 0, .int .i64 0]; rwa [show (w.alloc (.cells #[.int .i64 0, .int .i64 0, .int .i64 0] 35)).heap.size = w.heap.size + 1 by simp] at h)
  go_enter Tryd.func35, Tryd.ntmps35
  go_wp2_with fail
  refine (net_any A n cap ts C g HC HG _ hn HA HT0).mono ?_
  rintro e w1 ⟨rfl, b1⟩
  have hs1 : w.heap.size + 2 ≤ w1.heap.size := by have := b1.size; simpa using this
  have HB1 := Lib.hid (HB0.out.trans (b1.mono HB0.out.size))
  have HQ1 := Lib.hid (HR1.out.below b1 HR1.out.lt)
  have HQ2 := Lib.hid (HR2.out.below b1 HR2.out.lt)
  clear b1 HB0 HR1 HR2 HA HT0
  have hst := lay_net hcz HC1.out w1
  obtain ⟨G, HGG⟩ : ∃ G, Hid (w1.heap.size = G) := ⟨_, Lib.hid rfl⟩
  obtain ⟨W2, HW2⟩ : ∃ V, Hid (w1.alloc (.cells C 66) = V) := ⟨_, Lib.hid rfl⟩
  have hW2 : W2.heap.size = G + 1 := by rw [← HW2.out, ← HGG.out]; simp
  have HS2 := Lib.hid hW2
  clear hW2
  have HQ12 := Lib.hid (show Blk W2 w.heap.size 35 #[.int .i64 0, .int .i64 0, .int .i64 0] by rw [← HW2.out]; exact HQ1.out.alloc _)
  have HQ22 := Lib.hid (show Blk W2 (w.heap.size + 1) 35 #[.int .i64 0, .int .i64 0, .int .i64 0] by rw [← HW2.out]; exact HQ2.out.alloc _)
  have HG2 := Lib.hid (show Blk W2 G 66 C by rw [← HW2.out, ← HGG.out]; exact Blk.new _ _ _)
  have HB2 := Lib.hid (show Below w.heap.size w W2 by rw [← HW2.out]; exact HB1.out.alloc HB1.out.size _)
  have HGs := Lib.hid (show w.heap.size + 1 < G by rw [← HGG.out]; omega)
  go_upto_region 2 with fail
  clear hst
  try rw [HGG.out]
  try simp only [HGG.out]
  rw [HW2.out]
  clear HW2 HGG HB1 HQ1 HQ2 hs1
  obtain ⟨W3, HW3⟩ : ∃ V, Hid ((W2.alloc (.cells #[.int .i64 0, .int .i64 0, .int .i64 0] 35)).alloc (.cells #[.int .i64 0, .int .i64 0, .int .i64 0] 35) = V) := ⟨_, Lib.hid rfl⟩
  have HQ13 := Lib.hid (show Blk W3 w.heap.size 35 #[.int .i64 0, .int .i64 0, .int .i64 0] by rw [← HW3.out]; exact (HQ12.out.alloc _).alloc _)
  have HQ23 := Lib.hid (show Blk W3 (w.heap.size + 1) 35 #[.int .i64 0, .int .i64 0, .int .i64 0] by rw [← HW3.out]; exact (HQ22.out.alloc _).alloc _)
  have HG3 := Lib.hid (show Blk W3 G 66 C by rw [← HW3.out]; exact (HG2.out.alloc _).alloc _)
  have HL3 := Lib.hid (show Blk W3 (G + 1) 35 #[.int .i64 0, .int .i64 0, .int .i64 0] by rw [← HW3.out, ← HS2.out]; exact (Blk.new _ _ _).alloc _)
  have HH3 := Lib.hid (show Blk W3 (G + 2) 35 #[.int .i64 0, .int .i64 0, .int .i64 0] by rw [← HW3.out]; have h := Blk.new (W2.alloc (.cells #[.int .i64 0, .int .i64 0, .int .i64 0] 35)) 35 #[.int .i64 0, .int .i64 0, .int .i64 0]; rwa [show (W2.alloc (.cells #[.int .i64 0, .int .i64 0, .int .i64 0] 35)).heap.size = G + 2 by simp; have := HS2.out; omega] at h)
  have HB3 := Lib.hid (show Below w.heap.size w W3 by rw [← HW3.out]; exact (HB2.out.alloc HB2.out.size _).alloc (by have := HB2.out.size; simp; omega) _)
  have HS3 := Lib.hid (show W3.heap.size = G + 3 by rw [← HW3.out]; simp; have := HS2.out; omega)
  have hW2 := HS2.out
  go_upto_region 3 with fail
  obtain ⟨H, HHH⟩ : ∃ H, Hid (G + 1 + 1 = H) := ⟨_, Lib.hid rfl⟩
  obtain ⟨L, HLL⟩ : ∃ L, Hid (G + 1 = L) := ⟨_, Lib.hid rfl⟩
  have HH4 := Lib.hid (show Blk W3 H 35 #[.int .i64 0, .int .i64 0, .int .i64 0] by rw [← HHH.out]; exact HH3.out)
  have HL4 := Lib.hid (show Blk W3 L 35 #[.int .i64 0, .int .i64 0, .int .i64 0] by rw [← HLL.out]; exact HL3.out)
  have HOR := Lib.hid (show G < L ∧ L < H ∧ H < W3.heap.size by rw [HS3.out, ← HHH.out, ← HLL.out]; omega)
  rw [HHH.out, HLL.out, HW3.out]
  clear HW3 HHH HLL HH3 HL3 HQ12 HQ22 HG2 HB2 hW2 HS2 HS3
  have HN3 := Lib.hid (show BsAt W3 G 0 (mks 8 N.ps) from bs_ps (cl := CL) (by rw [HC2.out]; exact HG3.out))
  go_wp2_with fail
  refine (marked_any G 0 8 _ _ (Lib.hid (mks_len _ _)) (by decide) HN3).mono ?_
  rintro e w4 ⟨A2, c2, rfl, hO, b4⟩
  rw [HPS.out] at hO ⊢
  rw [HM2.out] at hO ⊢
  obtain ⟨Bz, HBZ⟩ : ∃ B, Hid (W3.heap.size = B) := ⟨_, Lib.hid rfl⟩
  have HX0 := Lib.hid (show XE w G L H Bz A2 m2 c2 (lowN N 0) (highN N 0) C N.ps w4 by
    have o := HOR.out
    have gs := HGs.out
    rw [← HBZ.out]
    exact ⟨HQ13.out.below b4 HQ13.out.lt, HQ23.out.below b4 HQ23.out.lt, HG3.out.below b4 HG3.out.lt, HL4.out.below b4 HL4.out.lt, HH4.out.below b4 HH4.out.lt, hO, HB3.out.trans (b4.mono HB3.out.size), gs, o.1, o.2.1, o.2.2⟩)
  clear hO b4 HQ13 HQ23 HG3 HL4 HH4 HB3 HN3 HBZ HOR HGs
  go_wp2_with fail
  go_loopw [22] (fun i wr => ∃ k : Nat, k ≤ m2 ∧ i = .int .i64 (k : Nat) ∧ XE w G L H Bz A2 m2 c2 (lowN N k) (highN N k) C N.ps wr) (fun i _ => m2 - (intOf i).toNat)
  case atStart => exact ⟨0, Nat.zero_le _, rfl, HX0.out⟩
  case round =>
    obtain ⟨k, hk, rfl, hX⟩ := hrel
    have HX := Lib.hid hX
    clear hX HX0
    have hk0 : (0 : Int) ≤ (k : Int) := by omega
    by_cases hlt : k < m2
    · obtain ⟨x, hx⟩ := at_lt HM2.out hlt
      have hxb := HQ6.out.2.1 x (List.mem_of_getElem? hx)
      obtain ⟨a, rfl⟩ : ∃ a : Nat, x = (a : Int) := ⟨x.toNat, by omega⟩
      have ha8 : (a : Int) < 8 := by omega
      have ha8n : a < 8 := by omega
      have ha0 : (0 : Int) ≤ (a : Int) := by omega
      obtain ⟨p, HPP⟩ : ∃ p, Hid (at_ N.pl (a : Int) = p) := ⟨_, Lib.hid rfl⟩
      obtain ⟨l, HL⟩ : ∃ l, Hid (lowN N k = l) := ⟨_, Lib.hid rfl⟩
      obtain ⟨h, HH⟩ : ∃ h, Hid (highN N k = h) := ⟨_, Lib.hid rfl⟩
      obtain ⟨l2, HL2⟩ : ∃ l2, Hid (lo3 l p = l2) := ⟨_, Lib.hid rfl⟩
      obtain ⟨h2, HH2⟩ : ∃ h2, Hid (hi3 h p = h2) := ⟨_, Lib.hid rfl⟩
      have HLN := Lib.hid (show lowN N (k + 1) = l2 by rw [lowN_succ hx, HL.out, HPP.out, HL2.out])
      have HHN := Lib.hid (show highN N (k + 1) = h2 by rw [highN_succ hx, HH.out, HPP.out, HH2.out])
      rw [HL.out, HH.out] at HX
      have KP := Lib.hid (show C[8 + a * 3]? = some (.int .i64 p.east) ∧ C[8 + a * 3 + 1]? = some (.int .i64 p.north) ∧ C[8 + a * 3 + 2]? = some (.int .i64 p.up) by
        have k := nv_pl HNK.out ha8n
        rwa [HC2.out, HPP.out] at k)
      obtain ⟨g2, rfl, e0⟩ := (ints.IL.of_own HX.out.2.2.2.2.2.1).2 k _ hx
      clear hx hxb
      have hki : (k : Int) < (m2 : Int) := by omega
      have hkd : decide (k < m2) = true := by simpa using hlt
      go_upto_region 6 with fail
      clear e0
      obtain ⟨D1, HD1⟩ : ∃ V, Hid (wr.drew = V) := ⟨_, Lib.hid rfl⟩
      have HXd1 := Lib.hid (show XE w G L H Bz (some ⟨g2, 0, none⟩) m2 c2 l h C N.ps D1 by rw [← HD1.out]; exact HX.out.step (Below.refl _ _).drew)
      have d0 := HXd1.out.2.2.2.1.cell 0
      have d1 := HXd1.out.2.2.2.1.cell 1
      have d2 := HXd1.out.2.2.2.1.cell 2
      refine wp_region_held_drew (S := (fun v => v.cell? ⟨G, 8 + a * 3, none⟩ = some (.int .i64 p.east) ∧ v.cell? ⟨G, 8 + a * 3 + 1, none⟩ = some (.int .i64 p.north) ∧ v.cell? ⟨G, 8 + a * 3 + 2, none⟩ = some (.int .i64 p.up) ∧ Blk v G 66 C)) (by kernel_rfl) ?_ (fun hHeld => ?_)
      · exact (gp_mk KP.out.1 KP.out.2.1 KP.out.2.2 (by rw [HD1.out]; exact HXd1.out.2.2.1))
      rw [HD1.out] at hHeld ⊢
      clear HD1 HX
      refine' wpAnyH_take (i := 1) (v := ?vr1_1) rfl (by kernel_rfl) (by kernel_rfl) (by kernel_rfl) (fun _ _ _ h => h) (Or.inl ⟨by rfl, ?hyr1_1⟩) (by assumption) ?restr1_1
      case hyr1_1 => (intro w hSw; (try dsimp only at hSw); go_simp; try (with_reducible rfl))
      simp only [Act.put, List.getElem_toArray, List.getElem_cons_succ, List.getElem_cons_zero, List.setIfInBounds_toArray, List.set_cons_zero, List.set_cons_succ]
      refine' wpAnyH_take (i := 2) (v := ?vr1_2) rfl (by kernel_rfl) (by kernel_rfl) (by kernel_rfl) (fun _ _ _ h => h) (Or.inl ⟨by rfl, ?hyr1_2⟩) (by assumption) ?restr1_2
      case hyr1_2 => (intro w hSw; (try dsimp only at hSw); go_simp; try (with_reducible rfl))
      simp only [Act.put, List.getElem_toArray, List.getElem_cons_succ, List.getElem_cons_zero, List.setIfInBounds_toArray, List.set_cons_zero, List.set_cons_succ]
      refine' wpAnyH_take (i := 3) (v := ?vr1_3) rfl (by kernel_rfl) (by kernel_rfl) (by kernel_rfl) (fun _ _ _ h => h) (Or.inl ⟨by rfl, ?hyr1_3⟩) (by assumption) ?restr1_3
      case hyr1_3 => (intro w hSw; (try dsimp only at hSw); go_simp; try (with_reducible rfl))
      simp only [Act.put, List.getElem_toArray, List.getElem_cons_succ, List.getElem_cons_zero, List.setIfInBounds_toArray, List.set_cons_zero, List.set_cons_succ]
      refine' wpAnyH_take (i := 4) (v := ?vr1_4) rfl (by kernel_rfl) (by kernel_rfl) (by kernel_rfl) (fun _ _ _ h => h) (Or.inl ⟨by rfl, ?hyr1_4⟩) (by assumption) ?restr1_4
      case hyr1_4 => (intro w hSw; (try dsimp only at hSw); go_simp; try (with_reducible rfl))
      simp only [Act.put, List.getElem_toArray, List.getElem_cons_succ, List.getElem_cons_zero, List.setIfInBounds_toArray, List.set_cons_zero, List.set_cons_succ]
      refine wpAnyH_ready (rs := [0]) (by kernel_rfl) (by simp) ?_
      refine AllReadyH.cons rfl (fun K hK => ?_) AllReadyH.nil
      go_simp
      refine hK.out _ _ (hHeld) (fun hHeld1 => ?_)
      clear hK K hHeld
      have hHeld := hHeld1
      clear hHeld1
      try simp only [Act.put, List.getElem_toArray, List.getElem_cons_succ, List.getElem_cons_zero, List.setIfInBounds_toArray, List.set_cons_zero, List.set_cons_succ]
      clear d0 d1 d2
      refine wpAnyH_ready (rs := [5]) (by kernel_rfl) (by simp) ?_
      refine AllReadyH.cons rfl (fun K hK => ?_) AllReadyH.nil
      go_simp
      refine (least_q3 l p l2 HL2 _).mono ?_
      rintro e w1 ⟨rfl, b5⟩
      have HXc1 := Lib.hid (HXd1.out.step b5)
      refine hK.out _ _ (gp_mk KP.out.1 KP.out.2.1 KP.out.2.2 (hHeld.2.2.2.below b5 hHeld.2.2.2.lt)) (fun hHeld1 => ?_)
      clear hK K hHeld
      have hHeld := hHeld1
      clear hHeld1
      try simp only [Act.put, List.getElem_toArray, List.getElem_cons_succ, List.getElem_cons_zero, List.setIfInBounds_toArray, List.set_cons_zero, List.set_cons_succ]
      clear b5 HXd1
      obtain ⟨t0, t1, t2, lg0, lg1, lg2, lg⟩ := box3 HXc1.out.2.2.2.1
      have HXs1 := Lib.hid (HXc1.out.low l2)
      refine wpAnyH_ready (rs := [6]) (by kernel_rfl) (by simp) ?_
      refine AllReadyH.cons rfl (fun K hK => ?_) AllReadyH.nil
      go_simp
      refine hK.out _ _ (gp_mk KP.out.1 KP.out.2.1 KP.out.2.2 HXs1.out.2.2.1) (fun hHeld1 => ?_)
      clear hK K hHeld
      have hHeld := hHeld1
      clear hHeld1
      try simp only [Act.put, List.getElem_toArray, List.getElem_cons_succ, List.getElem_cons_zero, List.setIfInBounds_toArray, List.set_cons_zero, List.set_cons_succ]
      refine wpAnyH_done (by kernel_rfl) ?_ _
      clear hHeld t0 t1 t2 lg0 lg1 lg2 lg HXc1
      obtain ⟨V1, HV1⟩ : ∃ V, Hid ((((w1.setCell ⟨L, 0, none⟩ (.int .i64 l2.east)).setCell ⟨L, 1, none⟩ (.int .i64 l2.north)).setCell ⟨L, 2, none⟩ (.int .i64 l2.up)) = V) := ⟨_, Lib.hid rfl⟩
      have HX1 := Lib.hid (show XE w G L H Bz (some ⟨g2, 0, none⟩) m2 c2 l2 h C N.ps V1 by rw [← HV1.out]; exact HXs1.out)
      clear HXs1
      go_upto_region 7 with fail
      rw [HV1.out]
      clear HV1
      obtain ⟨D2, HD2⟩ : ∃ V, Hid (V1.drew = V) := ⟨_, Lib.hid rfl⟩
      have HXd2 := Lib.hid (show XE w G L H Bz (some ⟨g2, 0, none⟩) m2 c2 l2 h C N.ps D2 by rw [← HD2.out]; exact HX1.out.step (Below.refl _ _).drew)
      have d0 := HXd2.out.2.2.2.2.1.cell 0
      have d1 := HXd2.out.2.2.2.2.1.cell 1
      have d2 := HXd2.out.2.2.2.2.1.cell 2
      refine wp_region_held_drew (S := (fun v => v.cell? ⟨G, 8 + a * 3, none⟩ = some (.int .i64 p.east) ∧ v.cell? ⟨G, 8 + a * 3 + 1, none⟩ = some (.int .i64 p.north) ∧ v.cell? ⟨G, 8 + a * 3 + 2, none⟩ = some (.int .i64 p.up) ∧ Blk v G 66 C)) (by kernel_rfl) ?_ (fun hHeld => ?_)
      · exact (gp_mk KP.out.1 KP.out.2.1 KP.out.2.2 (by rw [HD2.out]; exact HXd2.out.2.2.1))
      rw [HD2.out] at hHeld ⊢
      clear HD2 HX1
      refine' wpAnyH_take (i := 1) (v := ?vr2_1) rfl (by kernel_rfl) (by kernel_rfl) (by kernel_rfl) (fun _ _ _ h => h) (Or.inl ⟨by rfl, ?hyr2_1⟩) (by assumption) ?restr2_1
      case hyr2_1 => (intro w hSw; (try dsimp only at hSw); go_simp; try (with_reducible rfl))
      simp only [Act.put, List.getElem_toArray, List.getElem_cons_succ, List.getElem_cons_zero, List.setIfInBounds_toArray, List.set_cons_zero, List.set_cons_succ]
      refine' wpAnyH_take (i := 2) (v := ?vr2_2) rfl (by kernel_rfl) (by kernel_rfl) (by kernel_rfl) (fun _ _ _ h => h) (Or.inl ⟨by rfl, ?hyr2_2⟩) (by assumption) ?restr2_2
      case hyr2_2 => (intro w hSw; (try dsimp only at hSw); go_simp; try (with_reducible rfl))
      simp only [Act.put, List.getElem_toArray, List.getElem_cons_succ, List.getElem_cons_zero, List.setIfInBounds_toArray, List.set_cons_zero, List.set_cons_succ]
      refine' wpAnyH_take (i := 3) (v := ?vr2_3) rfl (by kernel_rfl) (by kernel_rfl) (by kernel_rfl) (fun _ _ _ h => h) (Or.inl ⟨by rfl, ?hyr2_3⟩) (by assumption) ?restr2_3
      case hyr2_3 => (intro w hSw; (try dsimp only at hSw); go_simp; try (with_reducible rfl))
      simp only [Act.put, List.getElem_toArray, List.getElem_cons_succ, List.getElem_cons_zero, List.setIfInBounds_toArray, List.set_cons_zero, List.set_cons_succ]
      refine' wpAnyH_take (i := 4) (v := ?vr2_4) rfl (by kernel_rfl) (by kernel_rfl) (by kernel_rfl) (fun _ _ _ h => h) (Or.inl ⟨by rfl, ?hyr2_4⟩) (by assumption) ?restr2_4
      case hyr2_4 => (intro w hSw; (try dsimp only at hSw); go_simp; try (with_reducible rfl))
      simp only [Act.put, List.getElem_toArray, List.getElem_cons_succ, List.getElem_cons_zero, List.setIfInBounds_toArray, List.set_cons_zero, List.set_cons_succ]
      refine wpAnyH_ready (rs := [0]) (by kernel_rfl) (by simp) ?_
      refine AllReadyH.cons rfl (fun K hK => ?_) AllReadyH.nil
      go_simp
      refine hK.out _ _ (hHeld) (fun hHeld1 => ?_)
      clear hK K hHeld
      have hHeld := hHeld1
      clear hHeld1
      try simp only [Act.put, List.getElem_toArray, List.getElem_cons_succ, List.getElem_cons_zero, List.setIfInBounds_toArray, List.set_cons_zero, List.set_cons_succ]
      clear d0 d1 d2
      refine wpAnyH_ready (rs := [5]) (by kernel_rfl) (by simp) ?_
      refine AllReadyH.cons rfl (fun K hK => ?_) AllReadyH.nil
      go_simp
      refine (great_q3 h p h2 HH2 _).mono ?_
      rintro e w2 ⟨rfl, b5⟩
      have HXc2 := Lib.hid (HXd2.out.step b5)
      refine hK.out _ _ (gp_mk KP.out.1 KP.out.2.1 KP.out.2.2 (hHeld.2.2.2.below b5 hHeld.2.2.2.lt)) (fun hHeld1 => ?_)
      clear hK K hHeld
      have hHeld := hHeld1
      clear hHeld1
      try simp only [Act.put, List.getElem_toArray, List.getElem_cons_succ, List.getElem_cons_zero, List.setIfInBounds_toArray, List.set_cons_zero, List.set_cons_succ]
      clear b5 HXd2
      obtain ⟨t0, t1, t2, lg0, lg1, lg2, lg⟩ := box3 HXc2.out.2.2.2.2.1
      have HXs2 := Lib.hid (HXc2.out.high h2)
      refine wpAnyH_ready (rs := [6]) (by kernel_rfl) (by simp) ?_
      refine AllReadyH.cons rfl (fun K hK => ?_) AllReadyH.nil
      go_simp
      refine hK.out _ _ (gp_mk KP.out.1 KP.out.2.1 KP.out.2.2 HXs2.out.2.2.1) (fun hHeld1 => ?_)
      clear hK K hHeld
      have hHeld := hHeld1
      clear hHeld1
      try simp only [Act.put, List.getElem_toArray, List.getElem_cons_succ, List.getElem_cons_zero, List.setIfInBounds_toArray, List.set_cons_zero, List.set_cons_succ]
      refine wpAnyH_done (by kernel_rfl) ?_ _
      clear hHeld t0 t1 t2 lg0 lg1 lg2 lg HXc2
      obtain ⟨V2, HV2⟩ : ∃ V, Hid ((((w2.setCell ⟨H, 0, none⟩ (.int .i64 h2.east)).setCell ⟨H, 1, none⟩ (.int .i64 h2.north)).setCell ⟨H, 2, none⟩ (.int .i64 h2.up)) = V) := ⟨_, Lib.hid rfl⟩
      have HX2 := Lib.hid (show XE w G L H Bz (some ⟨g2, 0, none⟩) m2 c2 l2 h2 C N.ps V2 by rw [← HV2.out]; exact HXs2.out)
      clear HXs2
      go_wp2_with fail
      rw [HV2.out]
      clear HV2
      go_roundw
      case rel => exact ⟨k + 1, by omega, by go_num, by rw [HLN.out, HHN.out]; exact HX2.out⟩
      case measure => simp [intOf]; omega
    · have hkd : decide (k < m2) = false := by simpa using hlt
      obtain rfl : m2 = k := by omega
      rw [hlo.out, hhi.out] at HX
      obtain ⟨t0, t1, t2, lg0, lg1, lg2, lg⟩ := box3 HX.out.2.2.2.1
      obtain ⟨y0, y1, y2, hg0, hg1, hg2, hhg⟩ := box3 HX.out.2.2.2.2.1
      obtain ⟨r0, r1, r2, rf0, rf1, rf2, rl⟩ := box0 HX.out.1
      obtain ⟨s0, s1, s2, sf0, sf1, sf2, sl⟩ := box0 HX.out.2.1
      have hL := HX.out.2.2.2.2.2.2.2
      clear hlt
      go_wp2_with fail
      go_region
      go_wp2_with fail
      have hb := Lib.hid HX.out.2.2.2.2.2.2.1
      have HQ1 := Lib.hid HX.out.1
      have HQ2 := Lib.hid HX.out.2.1
      obtain ⟨Z, HZ, HZ1, HZ2, HZ3⟩ : ∃ Z, Hid ((((((((wr.setCell ⟨w.heap.size, 0, none⟩ (.int .i64 lo.east)).setCell ⟨w.heap.size, 1, none⟩ (.int .i64 lo.north)).setCell ⟨w.heap.size, 2, none⟩ (.int .i64 lo.up)).setCell ⟨(w.heap.size + 1), 0, none⟩ (.int .i64 hi.east)).setCell ⟨(w.heap.size + 1), 1, none⟩ (.int .i64 hi.north)).setCell ⟨(w.heap.size + 1), 2, none⟩ (.int .i64 hi.up))).drew = Z) ∧ Hid (Blk Z w.heap.size 35 #[.int .i64 lo.east, .int .i64 lo.north, .int .i64 lo.up]) ∧ Hid (Blk Z (w.heap.size + 1) 35 #[.int .i64 hi.east, .int .i64 hi.north, .int .i64 hi.up]) ∧ Hid (Below w.heap.size w Z) := by
        have n1 : w.heap.size ≠ w.heap.size + 1 := by omega
        have n2 : w.heap.size + 1 ≠ w.heap.size := by omega
        have q1 := ((((((HQ1.out.set_ 0 (.int .i64 lo.east)).set_ 1 (.int .i64 lo.north)).set_ 2 (.int .i64 lo.up)).far (p := ⟨w.heap.size + 1, 0, none⟩) n1 (.int .i64 hi.east)).far (p := ⟨w.heap.size + 1, 1, none⟩) n1 (.int .i64 hi.north)).far (p := ⟨w.heap.size + 1, 2, none⟩) n1 (.int .i64 hi.up))
        have q2 := ((((((HQ2.out.far (p := ⟨w.heap.size, 0, none⟩) n2 (.int .i64 lo.east)).far (p := ⟨w.heap.size, 1, none⟩) n2 (.int .i64 lo.north)).far (p := ⟨w.heap.size, 2, none⟩) n2 (.int .i64 lo.up)).set_ 0 (.int .i64 hi.east)).set_ 1 (.int .i64 hi.north)).set_ 2 (.int .i64 hi.up))
        have q3 := ((((((hb.out.setCell (p := ⟨w.heap.size, 0, none⟩) (by show _ ≤ w.heap.size; omega) (.int .i64 lo.east)).setCell (p := ⟨w.heap.size, 1, none⟩) (by show _ ≤ w.heap.size; omega) (.int .i64 lo.north)).setCell (p := ⟨w.heap.size, 2, none⟩) (by show _ ≤ w.heap.size; omega) (.int .i64 lo.up)).setCell (p := ⟨w.heap.size + 1, 0, none⟩) (by show _ ≤ w.heap.size + 1; omega) (.int .i64 hi.east)).setCell (p := ⟨w.heap.size + 1, 1, none⟩) (by show _ ≤ w.heap.size + 1; omega) (.int .i64 hi.north)).setCell (p := ⟨w.heap.size + 1, 2, none⟩) (by show _ ≤ w.heap.size + 1; omega) (.int .i64 hi.up))
        exact ⟨_, Lib.hid rfl, Lib.hid (q1.below (Below.refl _ _).drew q1.lt), Lib.hid (q2.below (Below.refl _ _).drew q2.lt), Lib.hid q3.drew⟩
      rw [HZ.out]
      clear HZ HX HQ1 HQ2 hb
      obtain ⟨c0, c1, c2, cf0, cf1, cf2, cl⟩ := box3 HZ1.out
      obtain ⟨d0, d1, d2, df0, df1, df2, dl⟩ := box3 HZ2.out
      exact bodyPost_ret (v := .tuple #[.agg #[.int .i64 lo.east, .int .i64 lo.north, .int .i64 lo.up], .agg #[.int .i64 hi.east, .int .i64 hi.north, .int .i64 hi.up], .bool g]) (by simp [results, Tryd.results35, go_sem, c0, c1, c2, d0, d1, d2]) rfl ⟨rfl, HZ3.out⟩
theorem extentOf_impl (A : Option Addr) (n cap : Nat) (ts : List Lg) (w : World) (hn : n ≤ 2000000) (hts : Hid (LgAt w w.heap.size A n ts)) (hT : Hid (Tab w)) :
    Calls Tryd.prog 35 #[.slice A n cap] w (APost (ansEx ts) w) := by
  refine (ext_any A n cap ts _ _ _ w (Lib.hid rfl) (Lib.hid rfl) (Lib.hid rfl) hn hts hT).mono ?_
  rintro e w' ⟨rfl, b⟩
  refine ⟨?_, b⟩
  unfold ansEx netS lowV highV
  cases goodLg ts <;> rfl
set_option maxHeartbeats 16000000 in
set_option maxRecDepth 100000 in
theorem depthOf_impl (A : Option Addr) (n cap : Nat) (ts : List Lg) (w : World) (hn : n ≤ 2000000) (hts : Hid (LgAt w w.heap.size A n ts)) (hT : Hid (Tab w)) :
    Calls Tryd.prog 33 #[.slice A n cap] w (APost (ansDe ts) w) := by
  obtain ⟨lo, HLO⟩ : ∃ z, Hid (lowN (netS ts) (netS ts).ps.length = z) := ⟨_, Lib.hid rfl⟩
  obtain ⟨hi, HHI⟩ : ∃ z, Hid (highN (netS ts) (netS ts).ps.length = z) := ⟨_, Lib.hid rfl⟩
  obtain ⟨g, HG⟩ : ∃ g, Hid (goodLg ts = g) := ⟨_, Lib.hid rfl⟩
  have hbd : Bd4 lo ∧ Bd4 hi := by
    rw [← HLO.out, ← HHI.out]
    unfold netS
    cases h : goodLg ts
    · constructor <;> (show Bd4 zero3; unfold Bd4 zero3; decide)
    · exact ext_bd (ok_net h) _
  have HF := Lib.hid (show ansDe ts = .tuple #[.int .i64 (hi.up - lo.up), .bool g] by
    rw [← HLO.out, ← HHI.out]
    unfold ansDe netS lowV highV
    rw [HG.out]
    cases g <;> rfl)
  obtain ⟨⟨-, -, a0, a1⟩, -, -, b0, b1⟩ := hbd
  go_enter Tryd.func33, Tryd.ntmps33
  go_wp2_with fail
  refine (ext_any A n cap ts lo hi g w HLO HHI HG hn hts hT).mono ?_
  rintro e w1 ⟨rfl, b⟩
  have HB := Lib.hid b
  have hs := b.size
  clear b
  go_wp2_with fail
  go_ret2
  exact ⟨by rw [HF.out]; rfl, (HB.out.alloc hs _).alloc (by simp; omega) _⟩
end Go.Proofs.YtnoieboiklmkaaaDoor.nq

namespace Go.Proofs.YtnoieboiklmkaaaDoor.leni
open Go.RowKit
open reads base win len
set_option linter.unusedVariables false

theorem all3 {lo hi a b c : Int} {t : Bool} (h : decide ((lo ≤ a ∧ a ≤ hi) ∧ (lo ≤ b ∧ b ≤ hi) ∧ (lo ≤ c ∧ c ≤ hi)) = t) : allIn lo hi [a, b, c] = t := by
  rw [← h]; simp [allIn, btw, Bool.decide_and, Bool.and_assoc]
/-- the whole root -/
def RPost (S : Int) (w : World) (r : Ending) (w' : World) : Prop := ∃ q, IsRoot S q ∧ r = .returned (.int .i64 q) ∧ w = w'
set_option maxHeartbeats 4000000 in
set_option maxRecDepth 100000 in
theorem root_any (S : Int) (w : World) (s0 : 0 ≤ S) (s1 : S ≤ 30000000000) : Calls Tryd.prog 90 #[.int .i64 S] w (RPost S w) := by
  go_enter Tryd.func90, Tryd.ntmps90
  go_wp2_with fail
  go_loop [3, 4, 5] (fun a b _ => ∃ lo hi : Int, 0 ≤ lo ∧ lo < hi ∧ hi ≤ 200000 ∧ a = .int .i64 lo ∧ b = .int .i64 hi ∧ Hid (lo * lo ≤ S ∧ S < hi * hi)) (fun a b _ => (intOf b - intOf a).toNat)
  case atStart => exact ⟨0, 200000, by decide, by decide, by decide, rfl, rfl, Lib.hid ⟨by omega, by omega⟩⟩
  case round =>
    obtain ⟨lo, hi, l0, l1, l2, rfl, rfl, HI⟩ := hrel
    by_cases hlt : 1 < hi - lo
    · obtain ⟨M, hM⟩ : ∃ M, (lo + hi) / 2 = M := ⟨_, rfl⟩
      have m0 : lo + 1 ≤ M := by omega
      have m1 : M < hi := by omega
      have m2 : 0 ≤ M * M := Int.mul_nonneg (by omega) (by omega)
      have m3 : M * M ≤ 200000 * 200000 := sq_mono (by omega) (by omega)
      by_cases hc : M * M ≤ S
      · have hcd : decide (M * M ≤ S) = true := by simpa using hc
        go_wp2_with fail
        go_round
        case rel => exact ⟨M, hi, by omega, by omega, by omega, by first | rfl | rw [hM], rfl, Lib.hid ⟨hc, HI.out.2⟩⟩
        case measure => simp [intOf]; omega
      · have hcd : decide (M * M ≤ S) = false := by simpa using hc
        go_wp2_with fail
        go_round
        case rel => exact ⟨lo, M, by omega, by omega, by omega, rfl, by first | rfl | rw [hM], Lib.hid ⟨HI.out.1, by omega⟩⟩
        case measure => simp [intOf]; omega
    · obtain rfl : hi = lo + 1 := by omega
      have hd : decide (1 < lo + 1 - lo) = false := by simp; omega
      go_wp2_with fail
      go_ret
      exact ⟨lo, ⟨l0, HI.out.1, HI.out.2⟩, rfl, rfl⟩

theorem lengthOf_impl (e n u : Int) (w : World) : Calls Tryd.prog 72 #[.int .i64 e, .int .i64 n, .int .i64 u] w (LPost e n u w) := by
  by_cases h : (-100000 ≤ e ∧ e ≤ 100000) ∧ (-100000 ≤ n ∧ n ≤ 100000) ∧ (-100000 ≤ u ∧ u ≤ 100000)
  · have HA := Lib.hid (show okL e n u from h)
    have H1 := Lib.hid (decide_eq_true h)
    obtain ⟨p1, q1⟩ := sq_bd e h.1.1 h.1.2
    obtain ⟨p2, q2⟩ := sq_bd n h.2.1.1 h.2.1.2
    obtain ⟨p3, q3⟩ := sq_bd u h.2.2.1 h.2.2.2
    clear h
    go_enter Tryd.func72, Tryd.ntmps72
    go_wp2_with fail
    refine (lengths_new _ [e, n, u] _ _ _ true _ _ rfl rfl (by simp) rfl (all3 H1.out)).mono ?_
    rintro r w' ⟨rfl, rfl⟩
    go_wp2_with fail
    refine (root_any (e * e + n * n + u * u) _ (by omega) (by omega)).mono ?_
    rintro r w' ⟨q, hq, rfl, rfl⟩
    have HQ := Lib.hid hq
    clear hq
    go_wp2_with fail
    go_ret2
    exact ⟨.inl ⟨HA.out, q, HQ.out, rfl⟩, (Below.refl _ _).alloc (Nat.le_refl _) _⟩
  · have HA := Lib.hid (show ¬ okL e n u from h)
    have H1 := Lib.hid (decide_eq_false h)
    clear h
    go_enter Tryd.func72, Tryd.ntmps72
    go_wp2_with fail
    refine (lengths_new _ [e, n, u] _ _ _ false _ _ rfl rfl (by simp) rfl (all3 H1.out)).mono ?_
    rintro r w' ⟨rfl, rfl⟩
    go_wp2_with fail
    go_ret2
    exact ⟨.inr ⟨HA.out, rfl⟩, (Below.refl _ _).alloc (Nat.le_refl _) _⟩
end Go.Proofs.YtnoieboiklmkaaaDoor.leni

namespace Go.Proofs.YtnoieboiklmkaaaDoor.nq
open Go.RowKit
open reads base ty lg lgi win hs nt rowi sn
set_option linter.unusedVariables false
set_option linter.unusedSimpArgs false

theorem len_q (d : Sf) (r : Int) (hd : Hid ((-100000 ≤ d.east ∧ d.east ≤ 100000) ∧ (-100000 ≤ d.north ∧ d.north ≤ 100000) ∧ (-100000 ≤ d.up ∧ d.up ≤ 100000))) (hr : Hid (len.IsRoot (sq3 d) r)) (w : World) : Calls Tryd.prog 72 #[.int .i64 d.east, .int .i64 d.north, .int .i64 d.up] w (APost (.tuple #[.int .i64 r, .bool true]) w) :=
  (leni.lengthOf_impl d.east d.north d.up w).mono fun e w' hh => by
    rcases hh.1 with ⟨-, q, hq, rfl⟩ | ⟨a, -⟩
    · exact ⟨by rw [len.root_uniq hq hr.out], hh.2⟩
    · exact absurd hd.out a
/-- what is live while stations are gathered: the network, the placed stations, the list so far -/
def WI (w : World) (G Bm : Nat) (A3 : Option Addr) (m2 c3 : Nat) (C : Array Value) (ps : List Int) (A2 : Option Addr) (m c : Nat) (xs : List Int) (v : World) : Prop :=
  Below w.heap.size w v ∧ Blk v G 66 C ∧ v.ownsRow Bm 3 1 (.slice A3 m2 c3) m2 (ints.intsV ps) ∧ v.ownsRow w.heap.size 3 1 (.slice A2 m c) m (ints.intsV xs) ∧ (∀ g, (Value.slice A2 m c).ownBlock = some g → ¬ g = G ∧ ¬ (Value.slice A3 m2 c3).ownBlock = some g)
section
variable {w v v' : World} {G Bm : Nat} {A3 A2 : Option Addr} {m2 c3 m c : Nat} {C : Array Value} {ps xs : List Int}
theorem WI.step (h : WI w G Bm A3 m2 c3 C ps A2 m c xs v) (hb : Below v.heap.size v v') : WI w G Bm A3 m2 c3 C ps A2 m c xs v' :=
  ⟨h.1.trans (hb.mono h.1.size), h.2.1.below hb h.2.1.lt, row_below h.2.2.1 hb, row_below h.2.2.2.1 hb, h.2.2.2.2⟩
theorem WI.app (h : WI w G Bm A3 m2 c3 C ps A2 m c xs v) {g9 c9 : Nat} {a : Int} {o : Obj} (ho : v'.ownsRow w.heap.size 3 1 (.slice (some ⟨g9, 0, none⟩) (m + 1) c9) (m + 1) (ints.intsV xs ++ [.int .i64 a])) (hg : (v.alloc o).grownBy v' (Value.slice A2 m c).ownBlock) (hat : (Value.slice A2 m c).ownBlock = some g9 ∨ g9 = (v.alloc o).heap.size) :
    WI w G Bm A3 m2 c3 C ps (some ⟨g9, 0, none⟩) (m + 1) c9 (xs ++ [a]) v' := by
  have ha := h.step ((Below.refl v.heap.size v).alloc (Nat.le_refl _) o)
  have l1 := h.2.1.lt
  refine ⟨ha.1.grown hg ha.1.size (fun g e => (h.2.2.2.1.lt g e).1), ha.2.1.grown hg (fun e => (h.2.2.2.2 G e.symm).1 rfl), ha.2.2.1.kept hg ?_, by rw [intsV_app]; exact ho, ?_⟩
  · cases q : (Value.slice A3 m2 c3).ownBlock with
    | none => exact .inl rfl
    | some g => exact .inr (fun e => (h.2.2.2.2 g e.symm).2 q)
  · intro g e
    have e2 : g9 = g := by simpa [Value.ownBlock] using e
    subst e2
    rcases hat with q | q
    · exact h.2.2.2.2 g9 q
    · refine ⟨by simp at q; omega, fun k => ?_⟩
      have := (h.2.2.1.lt g9 k).2
      simp at q; omega
end
set_option maxHeartbeats 16000000 in
set_option maxRecDepth 100000 in
theorem within_bad (A : Option Addr) (n cap : Nat) (ts : List Lg) (z ds : Int) (C : Array Value) (w : World) (hn : n ≤ 2000000) (HC : Hid (nv (netS ts) (clS ts) = C)) (hts : Hid (LgAt w w.heap.size A n ts)) (hT : Hid (Tab w)) (HG : Hid (goodLg ts = false)) :
    Calls Tryd.prog 39 #[.slice A n cap, .int .i64 z, .int .i64 ds] w (LPost [] false w) := by
  have hcz : C.size = 56 := by rw [← HC.out]; exact nv_size (nok_S ts)
  have HC1 := Lib.hid (show C.all (·.oneCell') = true by rw [← HC.out]; exact nv_one)
  go_enter Tryd.func39, Tryd.ntmps39
  go_wp2_with fail
  refine (net_any A n cap ts C false HC HG _ hn hts hT).mono ?_
  rintro e w1 ⟨rfl, b1⟩
  have HB := Lib.hid b1
  clear b1
  have hst := lay_net hcz HC1.out w1
  have HB2 := Lib.hid (HB.out.alloc HB.out.size (.cells C 66))
  have HG2 := Lib.hid (Blk.new w1 66 C)
  obtain ⟨W, HW⟩ : ∃ W, Hid (w1.alloc (.cells C 66) = W) := ⟨_, Lib.hid rfl⟩
  obtain ⟨G, HGG⟩ : ∃ G, Hid (w1.heap.size = G) := ⟨_, Lib.hid rfl⟩
  go_upto_region 2 with fail
  clear hst
  rw [HGG.out] at HG2
  try rw [HGG.out]
  try simp only [HGG.out]
  rw [HW.out] at HB2 HG2 ⊢
  clear HW HB HGG
  have HBZ := HB2
  go_wp2_with fail
  go_ret2
  exact ⟨_, rfl, World.ownsRow_made W #[] 0 HBZ.out.size (by decide) (by simp), HBZ.out.alloc HBZ.out.size _⟩
set_option maxHeartbeats 16000000 in
set_option maxRecDepth 100000 in
theorem within_no (A : Option Addr) (n cap : Nat) (ts : List Lg) (z ds : Int) (C : Array Value) (w : World) (hn : n ≤ 2000000) (HC : Hid (nv (netS ts) (clS ts) = C)) (hts : Hid (LgAt w w.heap.size A n ts)) (hT : Hid (Tab w)) (HG : Hid (goodLg ts = true)) (HM : Hid ((btw 0 z 7 && mem (netS ts).ps z) = false)) :
    Calls Tryd.prog 39 #[.slice A n cap, .int .i64 z, .int .i64 ds] w (LPost [] false w) := by
  have hcz : C.size = 56 := by rw [← HC.out]; exact nv_size (nok_S ts)
  have HC1 := Lib.hid (show C.all (·.oneCell') = true by rw [← HC.out]; exact nv_one)
  go_enter Tryd.func39, Tryd.ntmps39
  go_wp2_with fail
  refine (net_any A n cap ts C true HC HG _ hn hts hT).mono ?_
  rintro e w1 ⟨rfl, b1⟩
  have HB := Lib.hid b1
  clear b1
  have hst := lay_net hcz HC1.out w1
  have HB2 := Lib.hid (HB.out.alloc HB.out.size (.cells C 66))
  have HG2 := Lib.hid (Blk.new w1 66 C)
  obtain ⟨W, HW⟩ : ∃ W, Hid (w1.alloc (.cells C 66) = W) := ⟨_, Lib.hid rfl⟩
  obtain ⟨G, HGG⟩ : ∃ G, Hid (w1.heap.size = G) := ⟨_, Lib.hid rfl⟩
  go_upto_region 2 with fail
  clear hst
  rw [HGG.out] at HG2
  try rw [HGG.out]
  try simp only [HGG.out]
  rw [HW.out] at HB2 HG2 ⊢
  clear HW HB HGG
  refine wp_region_list ?_
  refine step_move _ rfl _ rfl _ rfl ?_
  simp only [Act.put, List.getElem_toArray, List.getElem_cons_succ, List.getElem_cons_zero, List.setIfInBounds_toArray, List.set_cons_zero, List.set_cons_succ, Bool.not_true, Bool.not_false]
  refine step_not _ rfl _ _ rfl true rfl ?_
  simp only [Act.put, List.getElem_toArray, List.getElem_cons_succ, List.getElem_cons_zero, List.setIfInBounds_toArray, List.set_cons_zero, List.set_cons_succ, Bool.not_true, Bool.not_false]
  refine step_move _ rfl _ rfl _ rfl ?_
  simp only [Act.put, List.getElem_toArray, List.getElem_cons_succ, List.getElem_cons_zero, List.setIfInBounds_toArray, List.set_cons_zero, List.set_cons_succ, Bool.not_true, Bool.not_false]
  refine step_loadg _ rfl _ rfl G _ rfl HG2.out hcz ?_
  simp only [Act.put, List.getElem_toArray, List.getElem_cons_succ, List.getElem_cons_zero, List.setIfInBounds_toArray, List.set_cons_zero, List.set_cons_succ, Bool.not_true, Bool.not_false]
  go_wp2_with fail
  rw [← HC.out]
  refine (placed_any (netS ts) (clS ts) z false _ HM).mono ?_
  rintro e w3 ⟨rfl, b3⟩
  have HG3 := Lib.hid (HG2.out.below b3 HG2.out.lt)
  have HB3 := Lib.hid (HB2.out.trans (b3.mono HB2.out.size))
  clear b3 HG2 HB2
  have HBZ := HB3
  go_wp2_with fail
  go_ret2
  exact ⟨_, rfl, World.ownsRow_made w3 #[] 0 HBZ.out.size (by decide) (by simp), HBZ.out.alloc HBZ.out.size _⟩
set_option maxHeartbeats 16000000 in
set_option maxRecDepth 100000 in
theorem within_neg (A : Option Addr) (n cap : Nat) (ts : List Lg) (z ds : Int) (C : Array Value) (w : World) (hn : n ≤ 2000000) (HC : Hid (nv (netS ts) (clS ts) = C)) (hts : Hid (LgAt w w.heap.size A n ts)) (hT : Hid (Tab w)) (HG : Hid (goodLg ts = true)) (HM : Hid ((btw 0 z 7 && mem (netS ts).ps z) = true)) (hds : ds < 0) :
    Calls Tryd.prog 39 #[.slice A n cap, .int .i64 z, .int .i64 ds] w (LPost [] false w) := by
  have hdd : decide (ds < 0) = true := by simpa using hds
  have hcz : C.size = 56 := by rw [← HC.out]; exact nv_size (nok_S ts)
  have HC1 := Lib.hid (show C.all (·.oneCell') = true by rw [← HC.out]; exact nv_one)
  go_enter Tryd.func39, Tryd.ntmps39
  go_wp2_with fail
  refine (net_any A n cap ts C true HC HG _ hn hts hT).mono ?_
  rintro e w1 ⟨rfl, b1⟩
  have HB := Lib.hid b1
  clear b1
  have hst := lay_net hcz HC1.out w1
  have HB2 := Lib.hid (HB.out.alloc HB.out.size (.cells C 66))
  have HG2 := Lib.hid (Blk.new w1 66 C)
  obtain ⟨W, HW⟩ : ∃ W, Hid (w1.alloc (.cells C 66) = W) := ⟨_, Lib.hid rfl⟩
  obtain ⟨G, HGG⟩ : ∃ G, Hid (w1.heap.size = G) := ⟨_, Lib.hid rfl⟩
  go_upto_region 2 with fail
  clear hst
  rw [HGG.out] at HG2
  try rw [HGG.out]
  try simp only [HGG.out]
  rw [HW.out] at HB2 HG2 ⊢
  clear HW HB HGG
  refine wp_region_list ?_
  refine step_move _ rfl _ rfl _ rfl ?_
  simp only [Act.put, List.getElem_toArray, List.getElem_cons_succ, List.getElem_cons_zero, List.setIfInBounds_toArray, List.set_cons_zero, List.set_cons_succ, Bool.not_true, Bool.not_false]
  refine step_not _ rfl _ _ rfl true rfl ?_
  simp only [Act.put, List.getElem_toArray, List.getElem_cons_succ, List.getElem_cons_zero, List.setIfInBounds_toArray, List.set_cons_zero, List.set_cons_succ, Bool.not_true, Bool.not_false]
  refine step_move _ rfl _ rfl _ rfl ?_
  simp only [Act.put, List.getElem_toArray, List.getElem_cons_succ, List.getElem_cons_zero, List.setIfInBounds_toArray, List.set_cons_zero, List.set_cons_succ, Bool.not_true, Bool.not_false]
  refine step_loadg _ rfl _ rfl G _ rfl HG2.out hcz ?_
  simp only [Act.put, List.getElem_toArray, List.getElem_cons_succ, List.getElem_cons_zero, List.setIfInBounds_toArray, List.set_cons_zero, List.set_cons_succ, Bool.not_true, Bool.not_false]
  go_wp2_with fail
  rw [← HC.out]
  refine (placed_any (netS ts) (clS ts) z true _ HM).mono ?_
  rintro e w3 ⟨rfl, b3⟩
  have HG3 := Lib.hid (HG2.out.below b3 HG2.out.lt)
  have HB3 := Lib.hid (HB2.out.trans (b3.mono HB2.out.size))
  clear b3 HG2 HB2
  have HBZ := HB3
  go_wp2_with fail
  go_ret2
  exact ⟨_, rfl, World.ownsRow_made w3 #[] 0 HBZ.out.size (by decide) (by simp), HBZ.out.alloc HBZ.out.size _⟩
set_option maxHeartbeats 16000000 in
set_option maxRecDepth 100000 in
theorem within_yes (A : Option Addr) (n cap : Nat) (ts : List Lg) (qn : Nat) (ds : Int) (C : Array Value) (w : World) (hn : n ≤ 2000000) (HC : Hid (nv (netS ts) (clS ts) = C)) (hts : Hid (LgAt w w.heap.size A n ts)) (hT : Hid (Tab w)) (HG : Hid (goodLg ts = true)) (HM : Hid ((btw 0 (qn : Int) 7 && mem (netS ts).ps (qn : Int)) = true)) (hds : 0 ≤ ds) (hq8 : qn < 8) :
    Calls Tryd.prog 39 #[.slice A n cap, .int .i64 (qn : Int), .int .i64 ds] w (LPost (wdN (netS ts) (qn : Int) ds (netS ts).ps.length) true w) := by
  obtain ⟨i0, hi, hz0, hz1, hz2⟩ := info_parts infoI
  have hdd : decide (ds < 0) = false := by simp; omega
  have HNK := Lib.hid (nok_S ts)
  have HQ6 := Lib.hid (q6 ts)
  have HPS := Lib.hid ((ps_S ts).trans (psS ts))
  obtain ⟨N, HNN⟩ : ∃ N, Hid (netS ts = N) := ⟨_, Lib.hid rfl⟩
  obtain ⟨CL, HCL⟩ : ∃ l, Hid (clS ts = l) := ⟨_, Lib.hid rfl⟩
  obtain ⟨m2, HM2⟩ : ∃ m, Hid (N.ps.length = m) := ⟨_, Lib.hid rfl⟩
  rw [HNN.out, HCL.out] at HNK
  rw [HNN.out] at HQ6 HPS ⊢
  rw [HM2.out]
  have HC2 := Lib.hid (show nv N CL = C by rw [← HNN.out, ← HCL.out]; exact HC.out)
  have hp8 : m2 ≤ 8 := by rw [← HM2.out]; exact HQ6.out.2.2.1
  have hcz : C.size = 56 := by rw [← HC.out]; exact nv_size (nok_S ts)
  have HC1 := Lib.hid (show C.all (·.oneCell') = true by rw [← HC.out]; exact nv_one)
  go_enter Tryd.func39, Tryd.ntmps39
  go_wp2_with fail
  refine (net_any A n cap ts C true HC HG _ hn hts hT).mono ?_
  rintro e w1 ⟨rfl, b1⟩
  have HB := Lib.hid b1
  clear b1
  have hst := lay_net hcz HC1.out w1
  have HB2 := Lib.hid (HB.out.alloc HB.out.size (.cells C 66))
  have HG2 := Lib.hid (Blk.new w1 66 C)
  obtain ⟨W, HW⟩ : ∃ W, Hid (w1.alloc (.cells C 66) = W) := ⟨_, Lib.hid rfl⟩
  obtain ⟨G, HGG⟩ : ∃ G, Hid (w1.heap.size = G) := ⟨_, Lib.hid rfl⟩
  go_upto_region 2 with fail
  clear hst
  rw [HGG.out] at HG2
  try rw [HGG.out]
  try simp only [HGG.out]
  rw [HW.out] at HB2 HG2 ⊢
  clear HW HB HGG
  refine wp_region_list ?_
  refine step_move _ rfl _ rfl _ rfl ?_
  simp only [Act.put, List.getElem_toArray, List.getElem_cons_succ, List.getElem_cons_zero, List.setIfInBounds_toArray, List.set_cons_zero, List.set_cons_succ, Bool.not_true, Bool.not_false]
  refine step_not _ rfl _ _ rfl true rfl ?_
  simp only [Act.put, List.getElem_toArray, List.getElem_cons_succ, List.getElem_cons_zero, List.setIfInBounds_toArray, List.set_cons_zero, List.set_cons_succ, Bool.not_true, Bool.not_false]
  refine step_move _ rfl _ rfl _ rfl ?_
  simp only [Act.put, List.getElem_toArray, List.getElem_cons_succ, List.getElem_cons_zero, List.setIfInBounds_toArray, List.set_cons_zero, List.set_cons_succ, Bool.not_true, Bool.not_false]
  refine step_loadg _ rfl _ rfl G _ rfl HG2.out hcz ?_
  simp only [Act.put, List.getElem_toArray, List.getElem_cons_succ, List.getElem_cons_zero, List.setIfInBounds_toArray, List.set_cons_zero, List.set_cons_succ, Bool.not_true, Bool.not_false]
  go_wp2_with fail
  rw [← HC.out]
  refine (placed_any (netS ts) (clS ts) (qn : Int) true _ HM).mono ?_
  rintro e w3 ⟨rfl, b3⟩
  have HG3 := Lib.hid (HG2.out.below b3 HG2.out.lt)
  have HB3 := Lib.hid (HB2.out.trans (b3.mono HB2.out.size))
  clear b3 HG2 HB2
  try rw [HC.out]
  try simp only [HC.out]
  go_upto_region 5 with fail
  obtain ⟨W4, HW4⟩ : ∃ V, Hid (w3.alloc (.cells #[] 3) = V) := ⟨_, Lib.hid rfl⟩
  obtain ⟨Y, HY⟩ : ∃ Y, Hid (w3.heap.size = Y) := ⟨_, Lib.hid rfl⟩
  have HYG := Lib.hid (show G < Y by rw [← HY.out]; exact HG3.out.lt)
  have HR4 := Lib.hid (show W4.ownsRow w.heap.size 3 1 (.slice (some ⟨Y, 0, none⟩) 0 0) 0 [] by rw [← HW4.out, ← HY.out]; exact World.ownsRow_made w3 #[] 0 HB3.out.size (by decide) (by simp))
  have HG4 := Lib.hid (show Blk W4 G 66 C by rw [← HW4.out]; exact HG3.out.alloc _)
  have HB4 := Lib.hid (show Below w.heap.size w W4 by rw [← HW4.out]; exact HB3.out.alloc HB3.out.size _)
  have HYW := Lib.hid (show Y < W4.heap.size by rw [← HW4.out, ← HY.out]; simp)
  try rw [HY.out]
  try simp only [HY.out]
  rw [HW4.out]
  clear HW4 HY HG3 HB3
  have HN4 := Lib.hid (show BsAt W4 G 0 (mks 8 N.ps) from bs_ps (cl := CL) (by rw [HC2.out]; exact HG4.out))
  go_wp2_with fail
  refine (marked_any G 0 8 _ _ (Lib.hid (mks_len _ _)) (by decide) HN4).mono ?_
  rintro e w5 ⟨A3, c3, rfl, hO, b5⟩
  rw [HPS.out] at hO ⊢
  rw [HM2.out] at hO ⊢
  obtain ⟨Bm, HBM⟩ : ∃ B, Hid (W4.heap.size = B) := ⟨_, Lib.hid rfl⟩
  have HW0 := Lib.hid (show WI w G Bm A3 m2 c3 C N.ps (some ⟨Y, 0, none⟩) 0 0 (wdN N (qn : Int) ds 0) w5 by
    rw [← HBM.out]
    refine ⟨HB4.out.trans (b5.mono HB4.out.size), HG4.out.below b5 HG4.out.lt, hO, row_below HR4.out b5, fun g e => ?_⟩
    have e2 : Y = g := by simpa [Value.ownBlock] using e
    subst e2
    exact ⟨by have := HYG.out; omega, fun k => by have := (hO.lt Y k).1; have := HYW.out; omega⟩)
  clear hO b5 HR4 HG4 HB4 HN4 HBM HYG HYW
  go_wp2_with fail
  go_loopw [10, 39] (fun v i wr => ∃ (k m c : Nat) (A2 : Option Addr), k ≤ m2 ∧ i = .int .i64 (k : Nat) ∧ m ≤ k ∧ v = .slice A2 m c ∧ Hid ((wdN N (qn : Int) ds k).length = m) ∧ WI w G Bm A3 m2 c3 C N.ps A2 m c (wdN N (qn : Int) ds k) wr) (fun _ i _ => m2 - (intOf i).toNat)
  case atStart => exact ⟨0, 0, 0, _, Nat.zero_le _, rfl, Nat.le_refl _, rfl, Lib.hid rfl, HW0.out⟩
  case round =>
    obtain ⟨k, m, c, A2, hk, rfl, hmk, rfl, HMX, hX⟩ := hrel
    have HX := Lib.hid hX
    have hBs := hX.1.size
    clear hX HW0
    have hk0 : (0 : Int) ≤ (k : Int) := by omega
    by_cases hlt : k < m2
    · obtain ⟨x, hx⟩ := at_lt HM2.out hlt
      have hxb := HQ6.out.2.1 x (List.mem_of_getElem? hx)
      obtain ⟨a, rfl⟩ : ∃ a : Nat, x = (a : Int) := ⟨x.toNat, by omega⟩
      have ha8n : a < 8 := by omega
      obtain ⟨p, HPP⟩ : ∃ p, Hid (at_ N.pl (a : Int) = p) := ⟨_, Lib.hid rfl⟩
      obtain ⟨q, HQQ⟩ : ∃ q, Hid (at_ N.pl (qn : Int) = q) := ⟨_, Lib.hid rfl⟩
      obtain ⟨d, HDD⟩ : ∃ d, Hid (sub3 p q = d) := ⟨_, Lib.hid rfl⟩
      have HBP := Lib.hid (show BdS p by rw [← HPP.out]; have k := HQ6.out.2.2.2 (a : Int); unfold Bd4 at k; unfold BdS; omega)
      have HBQ := Lib.hid (show BdS q by rw [← HQQ.out]; have k := HQ6.out.2.2.2 (qn : Int); unfold Bd4 at k; unfold BdS; omega)
      have HDB := Lib.hid (show (-100000 ≤ d.east ∧ d.east ≤ 100000) ∧ (-100000 ≤ d.north ∧ d.north ≤ 100000) ∧ (-100000 ≤ d.up ∧ d.up ≤ 100000) by rw [← HDD.out, ← HPP.out, ← HQQ.out]; have k := HQ6.out.2.2.2 (a : Int); have j := HQ6.out.2.2.2 (qn : Int); unfold Bd4 at k j; unfold sub3; simp only []; omega)
      obtain ⟨r, hr⟩ := root_of d
      have HRT := Lib.hid hr
      clear hr
      obtain ⟨g3, hA3, e0⟩ := (ints.IL.of_own HX.out.2.2.1).2 k _ hx
      have HXQ := Lib.hid hx
      clear hx hxb
      subst hA3
      have hki : (k : Int) < (m2 : Int) := by omega
      have hkd : decide (k < m2) = true := by simpa using hlt
      go_upto_region 8 with fail
      clear e0
      refine wp_region_list ?_
      refine step_load _ rfl _ rfl G _ rfl HX.out.2.1 hcz ?_
      simp only [Act.put, List.getElem_toArray, List.getElem_cons_succ, List.getElem_cons_zero, List.setIfInBounds_toArray, List.set_cons_zero, List.set_cons_succ, Bool.not_true, Bool.not_false]
      go_wp2_with fail
      refine (between_c HC2 qn a q p d _ HNK hq8 ha8n HQQ HPP HDD HBQ HBP).mono ?_
      rintro e w6 ⟨rfl, b6⟩
      have HX6 := Lib.hid (HX.out.step b6)
      clear b6 HX
      obtain ⟨W7, HW7⟩ : ∃ V, Hid (w6.alloc (.cells #[.int .i64 d.east, .int .i64 d.north, .int .i64 d.up] 35) = V) := ⟨_, Lib.hid rfl⟩
      obtain ⟨Z, HZZ⟩ : ∃ Z, Hid (w6.heap.size = Z) := ⟨_, Lib.hid rfl⟩
      have HX7 := Lib.hid (show WI w G Bm (some ⟨g3, 0, none⟩) m2 c3 C N.ps A2 m c (wdN N (qn : Int) ds k) W7 by rw [← HW7.out]; exact HX6.out.step ((Below.refl _ _).alloc (Nat.le_refl _) _))
      have HD7 := Lib.hid (show Blk W7 Z 35 #[.int .i64 d.east, .int .i64 d.north, .int .i64 d.up] by rw [← HW7.out, ← HZZ.out]; exact Blk.new _ _ _)
      go_upto_region 9 with fail
      try rw [HZZ.out]
      try simp only [HZZ.out]
      rw [HW7.out]
      clear HW7 HZZ HX6
      have d0 := HD7.out.cell 0
      have d1 := HD7.out.cell 1
      have d2 := HD7.out.cell 2
      go_wp2_with fail
      refine (len_q d r HDB HRT _).mono ?_
      rintro e w8 ⟨rfl, b8⟩
      have HX8 := Lib.hid (HX7.out.step b8)
      have hB8 := HX8.out.1.size
      clear b8 HX7 HD7 d0 d1 d2
      by_cases hle : r ≤ ds
      · have hd : decide (r ≤ ds) = true := by simpa using hle
        have HNX := Lib.hid (wdN_yes HXQ.out (show near N (qn : Int) ds (a : Int) = true by unfold near; rw [HPP.out, HQQ.out, HDD.out]; exact near_iff HRT.out hle hds))
        go_wp2_with (at_builtin; refine wpList_append_lies _ rfl _ _ 24 rfl w.heap.size 3 i0 (.int .i64 0) 1 8 Tryd.underlying24 hi hz0 hz1 hz2 rfl (by decide) _ _ _ rfl (HX8.out.2.2.2.1.alloc _) ⟨w8.heap.size, 0, none⟩ 1 1 [.int .i64 (a : Int)] rfl rfl (cell_one_new _ _ _) (by simp [Value.oneCell']) (by decide) (by unfold maxLen; omega) (by omega) (by simp; omega) _ rfl ?_; intro g9 c9 w9 hown' hgrow hat hlt9)
        have HX9 := Lib.hid (HX8.out.app (a := (a : Int)) hown' hgrow hat)
        clear hown' hgrow hat
        go_wp2_with fail
        go_roundw
        case rel => exact ⟨k + 1, m + 1, c9, some ⟨g9, 0, none⟩, by omega, by go_num, by omega, rfl, Lib.hid (by rw [HNX.out, List.length_append, HMX.out]; rfl), by rw [HNX.out]; exact HX9.out⟩
        case measure => simp [intOf]; omega
      · have hd : decide (r ≤ ds) = false := by simpa using hle
        have HNX := Lib.hid (wdN_no HXQ.out (show near N (qn : Int) ds (a : Int) = false by unfold near; rw [HPP.out, HQQ.out, HDD.out]; exact near_not HRT.out hle hds))
        go_wp2_with fail
        go_roundw
        case rel => exact ⟨k + 1, m, c, A2, by omega, by go_num, by omega, rfl, Lib.hid (by rw [HNX.out]; exact HMX.out), by rw [HNX.out]; exact HX8.out⟩
        case measure => simp [intOf]; omega
    · have hkd : decide (k < m2) = false := by simpa using hlt
      obtain rfl : m2 = k := by omega
      clear hlt
      go_wp2_with fail
      go_ret2
      exact ⟨_, rfl, by rw [HMX.out]; exact HX.out.2.2.2.1, HX.out.1⟩
theorem within_impl (A : Option Addr) (n cap : Nat) (ts : List Lg) (z ds : Int) (w : World) (hn : n ≤ 2000000) (hts : Hid (LgAt w w.heap.size A n ts)) (hT : Hid (Tab w)) :
    Calls Tryd.prog 39 #[.slice A n cap, .int .i64 z, .int .i64 ds] w (LPost (wdIds ts z ds) (wdOk ts z ds) w) := by
  cases hg : goodLg ts
  · have e : wdOk ts z ds = false := by unfold wdOk has6; rw [hg]; rfl
    have e2 : wdIds ts z ds = [] := by unfold wdIds; rw [e]; rfl
    rw [e, e2]
    exact within_bad A n cap ts z ds _ w hn (Lib.hid rfl) hts hT (Lib.hid hg)
  · have ho := ok_net hg
    have HNS : netS ts = net ts := by unfold netS; rw [hg]; rfl
    have hm : (btw 0 z 7 && mem (netS ts).ps z) = has6 ts z := by
      unfold has6
      rw [HNS, hg, Bool.true_and]
      cases ht : mem (net ts).ps z
      · rw [Bool.and_false]
      · have h := ho.2.2.1 z (mem_iff.1 ht)
        rw [btw_mk h.1 h.2]; rfl
    cases hh : has6 ts z
    · have e : wdOk ts z ds = false := by unfold wdOk; rw [hh]; rfl
      have e2 : wdIds ts z ds = [] := by unfold wdIds; rw [e]; rfl
      rw [e, e2]
      exact within_no A n cap ts z ds _ w hn (Lib.hid rfl) hts hT (Lib.hid hg) (Lib.hid (by rw [hm, hh]))
    · by_cases hd : ds < 0
      · have e : wdOk ts z ds = false := by unfold wdOk; rw [hh]; simpa using hd
        have e2 : wdIds ts z ds = [] := by unfold wdIds; rw [e]; rfl
        rw [e, e2]
        exact within_neg A n cap ts z ds _ w hn (Lib.hid rfl) hts hT (Lib.hid hg) (Lib.hid (by rw [hm, hh])) hd
      · have e : wdOk ts z ds = true := by unfold wdOk; rw [hh]; simp; omega
        have e2 : wdIds ts z ds = wdN (netS ts) z ds (netS ts).ps.length := by unfold wdIds; rw [e, HNS]; rfl
        have hz := hh
        unfold has6 at hz
        rw [hg, Bool.true_and] at hz
        have hb := ho.2.2.1 z (mem_iff.1 hz)
        obtain ⟨qn, rfl⟩ := Int.eq_ofNat_of_zero_le hb.1
        rw [e, e2]
        exact within_yes A n cap ts qn ds _ w hn (Lib.hid rfl) hts hT (Lib.hid hg) (Lib.hid (by rw [hm, hh])) (by omega) (by omega)
theorem wdN_len (s : Net) (q ds : Int) : ∀ k, (wdN s q ds k).length ≤ k
  | 0 => Nat.le_refl _
  | k + 1 => by
    have ih := wdN_len s q ds k
    cases e : s.ps[k]? with
    | none => have : wdN s q ds (k + 1) = wdN s q ds k := by show (match s.ps[k]? with | some q => _ | none => _) = _; rw [e]
              rw [this]; omega
    | some x =>
      cases h : near s q ds x
      · rw [wdN_no e h]; omega
      · rw [wdN_yes e h, List.length_append]; simp; omega
theorem wdIds_len (ts : List Lg) (q ds : Int) : (wdIds ts q ds).length ≤ 12 := by
  unfold wdIds
  cases h : wdOk ts q ds
  · exact Nat.zero_le _
  · have hg : goodLg ts = true := by unfold wdOk has6 at h; rw [Bool.and_eq_true, Bool.and_eq_true] at h; exact h.1.1
    exact Nat.le_trans (wdN_len _ _ _ _) (Nat.le_trans (ok_net hg).ps_len (by decide))
end Go.Proofs.YtnoieboiklmkaaaDoor.nq
