/-
  MisclosureOf, what a loop misses, which of two loops is worse, CountLoops, by the program.
  Conditions: the legs lie in one block, at most 2000000 of them; the variable holds the table of the sines.
-/
import Derived.Test.YtkeepfkjhcmhlaaDoorKiG
namespace Go.Proofs.YtkeepfkjhcmhlaaDoor.lpi
open Go.RowKit
open reads base ty lg lgi win rowi hs nt nq sn lp
set_option linter.unusedVariables false
set_option linter.unusedSimpArgs false

def IxPost (t : Bool) (w : World) (e : Ending) (w' : World) : Prop := ∃ r : Int, e = .returned (.int .i64 r) ∧ (-1 ≤ r ∧ r ≤ 2000000) ∧ decide (0 ≤ r) = t ∧ w = w'
set_option maxHeartbeats 4000000 in
theorem index_int (A : Option Addr) (n c : Nat) (xs : List Int) (a : Int) (t : Bool) (h : Hid (mem xs a = t)) (w : World) (hn : n ≤ 2000000) (hx : Hid (ints.IL w A n xs)) :
    Calls Tryd.prog 94 #[.slice A n c, .int .i64 a] w (IxPost t w) := by
  have hL : Hid (xs.length = n) := Lib.hid hx.out.1
  go_enter Tryd.func94, Tryd.ntmps94
  go_wp2_with fail
  go_loop [8] (fun i => ∃ k : Nat, k ≤ n ∧ i = .int .i64 k ∧ Hid ((xs.take k).all (fun x => !(x == a)) = true)) (fun i => n - (intOf i).toNat)
  case atStart => exact ⟨0, Nat.zero_le _, rfl, Lib.hid (by simp)⟩
  case round =>
    obtain ⟨k, hk, rfl, HI⟩ := hrel
    have hk0 : 0 ≤ (k : Int) := by omega
    by_cases h1 : k < n
    · have hki : (k : Int) < (n : Int) := by omega
      have hkd : decide (k < n) = true := by simpa using h1
      obtain ⟨x, hxk⟩ := at_lt hL.out h1
      obtain ⟨g, rfl, e0⟩ := hx.out.2 k x hxk
      have HK := Lib.hid hxk
      clear hxk
      by_cases he : x = a
      · have HF := Lib.hid (show mem xs a = true from mem_yes HK.out he)
        have hd2 : (a == x) = true := by simpa using he.symm
        subst he
        go_wp2_with fail
        go_ret
        exact ⟨k, rfl, by omega, by rw [← h.out, HF.out]; simp, rfl⟩
      · have HN := Lib.hid (all_take (p := fun x => !(x == a)) HK.out HI.out (by simpa using he))
        have hd2 : (a == x) = false := by simp; omega
        have hd3 : decide (a = x) = false := by simp; omega
        clear he
        go_wp2_with fail
        go_round
        case rel => exact ⟨k + 1, by omega, by go_num, HN⟩
        case measure => simp [intOf]; omega
    · have hkd : decide (k < n) = false := by simpa using h1
      obtain rfl : k = n := by omega
      have HF := Lib.hid (show mem xs a = false from mem_no (by rw [hL.out]; exact HI.out))
      clear h1
      go_wp2_with fail
      go_ret
      exact ⟨-1, rfl, by omega, by rw [← h.out, HF.out]; rfl, rfl⟩
theorem contains_int (A : Option Addr) (n c : Nat) (xs : List Int) (a : Int) (t : Bool) (h : Hid (mem xs a = t)) (w : World) (hn : n ≤ 2000000) (hx : Hid (ints.IL w A n xs)) :
    Calls Tryd.prog 75 #[.slice A n c, .int .i64 a] w fun e w' => e = .returned (.bool t) ∧ w = w' := by
  go_enter Tryd.func75, Tryd.ntmps75
  go_wp2_with fail
  refine (index_int A n c xs a t h _ hn hx).mono ?_
  rintro e w1 ⟨r, rfl, ⟨h1, h2⟩, h3, rfl⟩
  go_wp2_with fail
  go_ret
  exact ⟨rfl, rfl⟩

theorem mis_zero {ts : List Lg} {z : Int} (h : lpOk ts z = false) : misV ts z = zero3 := by unfold misV; rw [h]; rfl
theorem ansLeP_is (ts : List Lg) (z : Int) : ansLeP ts z = ansLe ts z := by
  unfold ansLeP ansLe
  cases h : lpOk ts z
  · have e : lenV ts z = 0 := by unfold lenV lpIds; rw [h]; rfl
    rw [e]; rfl
  · rfl
theorem loopLength_is (A : Option Addr) (n cap : Nat) (ts : List Lg) (z : Int) (w : World) (hn : n ≤ 2000000) (hts : Hid (LgAt w w.heap.size A n ts)) (hT : Hid (Tab w)) :
    Calls Tryd.prog 29 #[.slice A n cap, .int .i64 z] w (APost (ansLe ts z) w) := by rw [← ansLeP_is]; exact loopLength_impl A n cap ts z w hn hts hT
theorem lp_all {ts : List Lg} {z : Int} : ∀ j ∈ lpIds ts z, 0 ≤ j ∧ ∃ x, ts[j.toNat]? = some x := fun j hj => by
  cases q : lpOk ts z
  · unfold lpIds at hj; rw [q] at hj; cases hj
  · exact lp_legs q j hj
set_option maxHeartbeats 8000000 in
set_option maxRecDepth 100000 in
theorem misOf_no (A : Option Addr) (n cap : Nat) (ts : List Lg) (z : Int) (w : World) (hn : n ≤ 2000000) (hts : Hid (LgAt w w.heap.size A n ts)) (hT : Hid (Tab w)) (ht : Hid (lpOk ts z = false)) :
    Calls Tryd.prog 26 #[.slice A n cap, .int .i64 z] w (APost (ansMi ts z) w) := by
  have HA := Lib.hid (hts.out.alloc (.cells #[.int .i64 0, .int .i64 0, .int .i64 0] 35))
  have HT0 := Lib.hid (hT.out.alloc (.cells #[.int .i64 0, .int .i64 0, .int .i64 0] 35))
  have HB0 := Lib.hid ((Below.refl w.heap.size w).alloc (Nat.le_refl _) (.cells #[.int .i64 0, .int .i64 0, .int .i64 0] 35))
  have HZ0 := Lib.hid (Blk.new w 35 #[.int .i64 0, .int .i64 0, .int .i64 0])
  have HF := Lib.hid (show ansMi ts z = .tuple #[.agg #[.int .i64 0, .int .i64 0, .int .i64 0], .bool false] by unfold ansMi; rw [ht.out]; rfl)
  go_enter Tryd.func26, Tryd.ntmps26
  go_wp2_with fail
  refine (loopOf0_any A n cap ts z _ hn HA HT0).mono ?_
  rintro e w1 ⟨W, a, rfl, hb, h1, h2, h3⟩
  have HB1 := Lib.hid (HB0.out.trans (hb.mono HB0.out.size))
  have HZ1 := Lib.hid (HZ0.out.below hb HZ0.out.lt)
  have HA1 := Lib.hid (HA.out.step hb)
  have HT1 := Lib.hid (HT0.out.below hb)
  obtain rfl : W = [] := by
    have e : lpIds ts z = [] := by unfold lpIds; rw [ht.out]; rfl
    rw [e] at h2; exact List.map_eq_nil_iff.1 h2
  obtain rfl : a = none := h1
  clear hb h2 h3 HB0 HZ0 HA HT0
  rw [ht.out]
  go_wp2_with fail
  refine (misAlong_none A n cap w1).mono ?_
  rintro e w2 ⟨rfl, b2⟩
  have HB2 := Lib.hid (HB1.out.trans (b2.mono HB1.out.size))
  have HZ2 := Lib.hid (HZ1.out.below b2 HZ1.out.lt)
  clear b2 HB1 HZ1 HA1
  have z0 := HZ2.out.cell 0
  have z1 := HZ2.out.cell 1
  have z2 := HZ2.out.cell 2
  have f0 := HZ2.out.frozen 0
  have f1 := HZ2.out.frozen 1
  have f2 := HZ2.out.frozen 2
  have hl := HZ2.out.lt
  simp at z0 z1 z2
  go_wp2_with fail
  refine bodyPost_ret (v := .tuple #[.agg #[.int .i64 0, .int .i64 0, .int .i64 0], .bool false]) (by simp [results, Tryd.results26, go_sem, *]) rfl ⟨by rw [HF.out], ?_⟩
  exact ((HB2.out.setCell (by simp) _).setCell (by simp) _).setCell (by simp) _
set_option maxHeartbeats 8000000 in
set_option maxRecDepth 100000 in
theorem misOf_yes (A : Option Addr) (n cap : Nat) (ts : List Lg) (z : Int) (w : World) (hn : n ≤ 2000000) (hts : Hid (LgAt w w.heap.size A n ts)) (hT : Hid (Tab w)) (ht : Hid (lpOk ts z = true)) :
    Calls Tryd.prog 26 #[.slice A n cap, .int .i64 z] w (APost (ansMi ts z) w) := by
  have HA := Lib.hid (hts.out.alloc (.cells #[.int .i64 0, .int .i64 0, .int .i64 0] 35))
  have HT0 := Lib.hid (hT.out.alloc (.cells #[.int .i64 0, .int .i64 0, .int .i64 0] 35))
  have HB0 := Lib.hid ((Below.refl w.heap.size w).alloc (Nat.le_refl _) (.cells #[.int .i64 0, .int .i64 0, .int .i64 0] 35))
  have HZ0 := Lib.hid (Blk.new w 35 #[.int .i64 0, .int .i64 0, .int .i64 0])
  obtain ⟨r, HR⟩ : ∃ r, Hid (misV ts z = r) := ⟨_, Lib.hid rfl⟩
  have HF := Lib.hid (show ansMi ts z = .tuple #[.agg #[.int .i64 r.east, .int .i64 r.north, .int .i64 r.up], .bool true] by unfold ansMi; rw [ht.out, HR.out]; rfl)
  go_enter Tryd.func26, Tryd.ntmps26
  go_wp2_with fail
  refine (loopOf0_any A n cap ts z _ hn HA HT0).mono ?_
  rintro e w1 ⟨W, a, rfl, hb, h1, h2, h3⟩
  have HB1 := Lib.hid (HB0.out.trans (hb.mono HB0.out.size))
  have HZ1 := Lib.hid (HZ0.out.below hb HZ0.out.lt)
  have HA1 := Lib.hid (HA.out.step hb)
  have HT1 := Lib.hid (HT0.out.below hb)
  have HG := Lib.hid (lp_leg ht.out).1
  have hl : W.length ≤ 13 := by have := congrArg List.length h2; rw [List.length_map] at this; have := lpIds_len (ts := ts) (i := z); omega
  have HLG := Lib.hid (show ∀ j ∈ W.map Prod.snd, 0 ≤ j ∧ ∃ x, ts[j.toNat]? = some x by rw [h2]; exact lp_all)
  have HSW := Lib.hid (show sumW ts W zero3 = r by rw [wy_mis ht.out h2 h3]; exact HR.out)
  have H1 := Lib.hid h1
  clear hb h1 h2 h3 HB0 HZ0 HA HT0
  rw [ht.out]
  go_wp2_with fail
  refine (misAlong_any A n cap ts W a r w1 HSW HG hl HLG H1 HA1 HT1).mono ?_
  rintro e w2 ⟨rfl, b2⟩
  have HB2 := Lib.hid (HB1.out.trans (b2.mono HB1.out.size))
  have HZ2 := Lib.hid (HZ1.out.below b2 HZ1.out.lt)
  clear b2 HB1 HZ1 HA1
  have z0 := HZ2.out.cell 0
  have z1 := HZ2.out.cell 1
  have z2 := HZ2.out.cell 2
  have f0 := HZ2.out.frozen 0
  have f1 := HZ2.out.frozen 1
  have f2 := HZ2.out.frozen 2
  have hl := HZ2.out.lt
  simp at z0 z1 z2
  go_wp2_with fail
  refine bodyPost_ret (v := .tuple #[.agg #[.int .i64 r.east, .int .i64 r.north, .int .i64 r.up], .bool true]) (by simp [results, Tryd.results26, go_sem, *]) rfl ⟨by rw [HF.out], ?_⟩
  exact ((HB2.out.setCell (by simp) _).setCell (by simp) _).setCell (by simp) _
theorem misclosureOf_impl (A : Option Addr) (n cap : Nat) (ts : List Lg) (z : Int) (w : World) (hn : n ≤ 2000000) (hts : Hid (LgAt w w.heap.size A n ts)) (hT : Hid (Tab w)) :
    Calls Tryd.prog 26 #[.slice A n cap, .int .i64 z] w (APost (ansMi ts z) w) := by
  cases h : lpOk ts z
  · exact misOf_no A n cap ts z w hn hts hT (Lib.hid h)
  · exact misOf_yes A n cap ts z w hn hts hT (Lib.hid h)
/-- a way in memory that is the loop of a closing leg -/
def LoopAt (ts : List Lg) (i : Int) (w : World) (B : Nat) (a : Option Addr) (W : List (Int × Int)) : Prop := WayAt w B a W ∧ W.map Prod.snd = lpIds ts i ∧ W.map Prod.fst = lpSt ts i
set_option maxHeartbeats 4000000 in
set_option maxRecDepth 100000 in
theorem missed_any (A : Option Addr) (n cap : Nat) (ts : List Lg) (i r : Int) (W : List (Int × Int)) (a : Option Addr) (w : World) (ht : Hid (lpOk ts i = true)) (hr : Hid (missV ts i = r)) (hW : Hid (LoopAt ts i w w.heap.size a W)) (hts : Hid (LgAt w w.heap.size A n ts)) (hT : Hid (Tab w)) :
    Calls Tryd.prog 92 #[.slice A n cap, .pointer a] w (APost (.int .i64 r) w) := by
  obtain ⟨h1, h2, h3⟩ := hW.out
  obtain ⟨p, HPP⟩ : ∃ p, Hid (misV ts i = p) := ⟨_, Lib.hid rfl⟩
  have HRT := Lib.hid (show len.IsRoot (sq3 p) r by rw [← HPP.out, ← hr.out]; exact missV_root ts i)
  have HLIM := Lib.hid (show (-100000 ≤ p.east ∧ p.east ≤ 100000) ∧ (-100000 ≤ p.north ∧ p.north ≤ 100000) ∧ (-100000 ≤ p.up ∧ p.up ≤ 100000) by
    have h : BdN 13 (misV ts i) := misV_bd
    rw [HPP.out] at h
    unfold BdN at h; omega)
  have HG := Lib.hid (lp_leg ht.out).1
  have hl : W.length ≤ 13 := by have := congrArg List.length h2; rw [List.length_map] at this; have := lpIds_len (ts := ts) (i := i); omega
  have HLG := Lib.hid (show ∀ j ∈ W.map Prod.snd, 0 ≤ j ∧ ∃ x, ts[j.toNat]? = some x by rw [h2]; exact lp_all)
  have HSW := Lib.hid (show sumW ts W zero3 = p by rw [wy_mis ht.out h2 h3]; exact HPP.out)
  have H1 := Lib.hid h1
  clear h1 h2 h3
  go_enter Tryd.func92, Tryd.ntmps92
  go_wp2_with fail
  refine (misAlong_any A n cap ts W a p w HSW HG hl HLG H1 hts hT).mono ?_
  rintro e w1 ⟨rfl, b1⟩
  have HB1 := Lib.hid b1
  clear b1
  go_wp2_with fail
  refine (len_q p r HLIM HRT _).mono ?_
  rintro e w2 ⟨rfl, b2⟩
  have HB2 := Lib.hid ((HB1.out.alloc HB1.out.size (.cells #[.int .i64 p.east, .int .i64 p.north, .int .i64 p.up] 35)).trans (b2.mono (by have := HB1.out.size; simp; omega)))
  clear b2
  go_wp2_with fail
  go_ret
  exact ⟨rfl, HB2.out⟩
theorem LoopAt.step {ts : List Lg} {i : Int} {w w' : World} {a : Option Addr} {W : List (Int × Int)} (h : LoopAt ts i w w.heap.size a W) (hb : Below w.heap.size w w') : LoopAt ts i w' w'.heap.size a W := ⟨h.1.step hb, h.2⟩
theorem length_l (A : Option Addr) (n cap : Nat) (ts : List Lg) (i r : Int) (W : List (Int × Int)) (a : Option Addr) (w : World) (ht : Hid (lpOk ts i = true)) (hr : Hid (lenV ts i = r)) (hW : Hid (LoopAt ts i w w.heap.size a W)) (hts : Hid (LgAt w w.heap.size A n ts)) :
    Calls Tryd.prog 60 #[.slice A n cap, .pointer a] w (APost (.int .i64 r) w) := by
  obtain ⟨h1, h2, h3⟩ := hW.out
  exact lengthAlong_any A n cap ts W a r w (Lib.hid (by rw [h2]; exact hr.out)) (Lib.hid (lp_leg ht.out).1) (by have := congrArg List.length h2; rw [List.length_map] at this; have := lpIds_len (ts := ts) (i := i); omega) (Lib.hid (by rw [h2]; exact lp_all)) (Lib.hid h1) hts
set_option maxHeartbeats 4000000 in
set_option maxRecDepth 100000 in
theorem isWorse_any (A : Option Addr) (n cap : Nat) (ts : List Lg) (cc bb : Int) (t : Bool) (Wc Wb : List (Int × Int)) (ac ab : Option Addr) (w : World) (hc : Hid (lpOk ts cc = true)) (hb : Hid (lpOk ts bb = true)) (ht : Hid (worse ts cc bb = t)) (hWc : Hid (LoopAt ts cc w w.heap.size ac Wc)) (hWb : Hid (LoopAt ts bb w w.heap.size ab Wb)) (hts : Hid (LgAt w w.heap.size A n ts)) (hT : Hid (Tab w)) :
    Calls Tryd.prog 66 #[.slice A n cap, .pointer ac, .pointer ab] w (BPost t w) := by
  obtain ⟨mc, HMC⟩ : ∃ r, Hid (missV ts cc = r) := ⟨_, Lib.hid rfl⟩
  obtain ⟨mb, HMB⟩ : ∃ r, Hid (missV ts bb = r) := ⟨_, Lib.hid rfl⟩
  obtain ⟨lc, HLC⟩ : ∃ r, Hid (lenV ts cc = r) := ⟨_, Lib.hid rfl⟩
  obtain ⟨lb, HLB⟩ : ∃ r, Hid (lenV ts bb = r) := ⟨_, Lib.hid rfl⟩
  have q1 := missV_bd ts cc
  have q2 := missV_bd ts bb
  have q3 := lenV_bd ts cc
  have q4 := lenV_bd ts bb
  rw [HMC.out] at q1
  rw [HMB.out] at q2
  rw [HLC.out] at q3
  rw [HLB.out] at q4
  have p1 := prod_lim q1.1 q1.2 q4.1 q4.2
  have p2 := prod_lim q2.1 q2.2 q3.1 q3.2
  have x1 : IntKind.i64.wrap (mc * lb) = mc * lb := IntWalk.i64_in _ (by omega)
  have x2 : IntKind.i64.wrap (mb * lc) = mb * lc := IntWalk.i64_in _ (by omega)
  have HTV := Lib.hid (show decide (mb * lc < mc * lb) = t by rw [← ht.out]; unfold worse; rw [HMC.out, HMB.out, HLC.out, HLB.out])
  clear q1 q2 q3 q4 p1 p2
  go_enter Tryd.func66, Tryd.ntmps66
  go_wp2_with fail
  refine (missed_any A n cap ts cc mc Wc ac w hc HMC hWc hts hT).mono ?_
  rintro e w1 ⟨rfl, b1⟩
  have HB1 := Lib.hid b1
  clear b1
  go_wp2_with fail
  refine (length_l A n cap ts bb lb Wb ab w1 hb HLB (Lib.hid (hWb.out.step HB1.out)) (Lib.hid (hts.out.step HB1.out))).mono ?_
  rintro e w2 ⟨rfl, b2⟩
  have HB2 := Lib.hid (HB1.out.trans (b2.mono HB1.out.size))
  clear b2
  go_wp2_with fail
  refine (missed_any A n cap ts bb mb Wb ab w2 hb HMB (Lib.hid (hWb.out.step HB2.out)) (Lib.hid (hts.out.step HB2.out)) (Lib.hid (hT.out.below HB2.out))).mono ?_
  rintro e w3 ⟨rfl, b3⟩
  have HB3 := Lib.hid (HB2.out.trans (b3.mono HB2.out.size))
  clear b3
  go_wp2_with fail
  refine (length_l A n cap ts cc lc Wc ac w3 hc HLC (Lib.hid (hWc.out.step HB3.out)) (Lib.hid (hts.out.step HB3.out))).mono ?_
  rintro e w4 ⟨rfl, b4⟩
  have HB4 := Lib.hid (HB3.out.trans (b4.mono HB3.out.size))
  clear b4
  go_wp2_with fail
  go_ret
  exact ⟨ret_bool HTV.out, HB4.out⟩
set_option maxHeartbeats 4000000 in
set_option maxRecDepth 100000 in
theorem count_impl (A : Option Addr) (n cap : Nat) (ts : List Lg) (w : World) (hn : n ≤ 2000000) (hts : Hid (LgAt w w.heap.size A n ts)) (hT : Hid (Tab w)) :
    Calls Tryd.prog 39 #[.slice A n cap] w (APost (.tuple #[.int .i64 ((clIds ts).length : Nat), .bool (goodLg ts)]) w) := by
  obtain ⟨C, HC⟩ : ∃ C, Hid (nv (netS ts) (clS ts) = C) := ⟨_, Lib.hid rfl⟩
  obtain ⟨g, HG⟩ : ∃ g, Hid (goodLg ts = g) := ⟨_, Lib.hid rfl⟩
  have hcz : C.size = 56 := by rw [← HC.out]; exact nv_size (nok_S ts)
  have HC1 := Lib.hid (show C.all (·.oneCell') = true by rw [← HC.out]; exact nv_one)
  rw [HG.out]
  go_enter Tryd.func39, Tryd.ntmps39
  go_wp2_with fail
  refine (net_any A n cap ts C g HC HG w hn hts hT).mono ?_
  rintro e w1 ⟨rfl, b1⟩
  have HB1 := Lib.hid b1
  clear b1
  have hst := lay_net hcz HC1.out w1
  have HB2 := Lib.hid (HB1.out.alloc HB1.out.size (.cells C 73))
  have HN2 := Lib.hid (show BsAt (w1.alloc (.cells C 73)) w1.heap.size 44 (clS ts) from bs_cl (nok_S ts) (by rw [HC.out]; exact Blk.new _ _ _))
  go_wp2_with fail
  clear hst
  refine (marked_any w1.heap.size 44 12 _ _ (Lib.hid ((nok_S ts).2)) (by decide) HN2).mono ?_
  rintro e w2 ⟨A2, c2, rfl, hO, b2⟩
  have HF := Lib.hid (cl_S ts)
  rw [HF.out]
  have HB := Lib.hid (HB2.out.trans (b2.mono HB2.out.size))
  clear hO b2 HN2 HB2
  go_wp2_with fail
  go_ret2
  exact ⟨rfl, HB.out⟩
#print axioms misclosureOf_impl
#print axioms isWorse_any
#print axioms count_impl
#print axioms contains_int
end Go.Proofs.YtkeepfkjhcmhlaaDoor.lpi
