/-
  The program of the declination: the declinations of all days, the days with a declination.
  Conditions: the points lie in one block, at most 2000000 of them.
-/
import Derived.Test.YtiimegmaokfpgaaVaI0
import Derived.Test.YtiimegmaokfpgaaVaJ
namespace Go.Proofs.Ytiimegmaokfpgaa.va
open Go.RowKit
open reads base ty rowi inn win mt
set_option linter.unusedVariables false
set_option linter.unusedSimpArgs false

/-- the declinations of the first days -/
def decF (ts : List Dp) (k : Nat) : Nat → Int := fun j => if j < k then dec ts (j : Int) else 0
theorem decF_succ (ts : List Dp) (k : Nat) : upd (decF ts k) k (dec ts (k : Int)) = decF ts (k + 1) := by
  funext j
  unfold upd decF
  by_cases h : j = k
  · subst h; rw [if_pos rfl, if_pos (by omega)]
  · rw [if_neg h]
    by_cases c : j < k
    · rw [if_pos c, if_pos (by omega)]
    · rw [if_neg c, if_neg (by omega)]
/-- the declinations of all days -/
def decs (ts : List Dp) : Array Value := cs1 1000 (fun j => dec ts (j : Int))
theorem decs_end (ts : List Dp) : cs1 1000 (decF ts 1000) = decs ts := cs1_congr (fun j hj => by unfold decF; rw [if_pos hj])
theorem decs_size (ts : List Dp) : (decs ts).size = 1000 := cs1_size _ _
/-- the array under way, and the result's box -/
def AR (w : World) (G : Nat) (f : Nat → Int) (v : World) : Prop := Blk v G 72 (cs1 1000 f) ∧ Blk v w.heap.size 72 arr0 ∧ Below w.heap.size w v ∧ w.heap.size < G
theorem AR.step {w v v' : World} {G : Nat} {f : Nat → Int} (h : AR w G f v) (hb : Below v.heap.size v v') : AR w G f v' := ⟨h.1.below hb h.1.lt, h.2.1.below hb h.2.1.lt, h.2.2.1.trans (hb.mono h.2.2.1.size), h.2.2.2⟩
theorem AR.put {w v : World} {G : Nat} {f : Nat → Int} (h : AR w G f v) {j : Nat} (hj : j < 1000) (x : Int) : AR w G (upd f j x) (v.setCell ⟨G, j, none⟩ (.int .i64 x)) :=
  ⟨by have := h.1.set_ j (.int .i64 x); rw [cs1_set f x hj] at this; exact this, h.2.1.far (by show w.heap.size ≠ G; have := h.2.2.2; omega) _, h.2.2.1.setCell (by show w.heap.size ≤ G; have := h.2.2.2; omega) _, h.2.2.2⟩
theorem AR.at_ {w v : World} {G : Nat} {f : Nat → Int} (h : AR w G f v) {j : Nat} (hj : j < 1000) : v.cell? ⟨G, j, none⟩ = some (.int .i64 (f j)) ∧ v.frozen? ⟨G, j, none⟩ = false ∧ G < v.heap.size := ⟨by rw [h.1.cell, cs1_at f hj], h.1.frozen j, h.1.lt⟩
set_option maxHeartbeats 8000000 in
set_option maxRecDepth 100000 in
theorem decs_any (A : Option Addr) (n cap : Nat) (ts : List Dp) (w : World) (hn : n ≤ 2000000) (hts : Hid (DpAt w w.heap.size A n ts)) (hg : Hid (goodDp ts = true)) :
    Calls Try.prog 63 #[.slice A n cap] w (APost (.agg (decs ts)) w) := by
  go_enter Try.func63, Try.ntmps63
  go_upto_region 0 with fail
  refine wp_region_list ?_
  refine step_alloc _ rfl rfl ?_
  simp only [Act.put, List.getElem_toArray, List.getElem_cons_succ, List.getElem_cons_zero, List.setIfInBounds_toArray, List.set_cons_zero, List.set_cons_succ]
  obtain ⟨W1, HW1⟩ : ∃ W, Hid (w.alloc (.cells arr0 72) = W) := ⟨_, Lib.hid rfl⟩
  have HZ1 := Lib.hid (show Blk W1 w.heap.size 72 arr0 by rw [← HW1.out]; exact Blk.new _ _ _)
  have HB1 := Lib.hid (show Below w.heap.size w W1 by rw [← HW1.out]; exact (Below.refl _ _).alloc (Nat.le_refl _) _)
  rw [HW1.out]
  clear HW1
  go_upto_region 1 with fail
  refine wp_region_list ?_
  refine step_build _ rfl rfl ?_
  simp only [Act.put, List.getElem_toArray, List.getElem_cons_succ, List.getElem_cons_zero, List.setIfInBounds_toArray, List.set_cons_zero, List.set_cons_succ]
  refine step_alloc _ rfl rfl ?_
  simp only [Act.put, List.getElem_toArray, List.getElem_cons_succ, List.getElem_cons_zero, List.setIfInBounds_toArray, List.set_cons_zero, List.set_cons_succ]
  obtain ⟨G, HGG⟩ : ∃ G, Hid (W1.heap.size = G) := ⟨_, Lib.hid rfl⟩
  obtain ⟨W2, HW2⟩ : ∃ W, Hid (W1.alloc (.cells arr0 72) = W) := ⟨_, Lib.hid rfl⟩
  have HG2 := Lib.hid (show Blk W2 G 72 arr0 by rw [← HW2.out, ← HGG.out]; exact Blk.new _ _ _)
  have HZ2 := Lib.hid (show Blk W2 w.heap.size 72 arr0 by rw [← HW2.out]; exact HZ1.out.alloc _)
  have HB2 := Lib.hid (show Below w.heap.size w W2 by rw [← HW2.out]; exact HB1.out.alloc HB1.out.size _)
  have hwG : w.heap.size < G := by rw [← HGG.out]; exact HZ1.out.lt
  rw [HW2.out]
  try simp only [HGG.out]
  clear HW2 HGG HZ1 HB1
  refine step_store _ rfl _ _ rfl G _ _ rfl rfl HG2.out arr0_size arr0_size (cs1_one _ _) ?_
  intro W3 hW hG
  have HA3 := Lib.hid (show AR w G (decF ts 0) W3 from ⟨by rw [show cs1 1000 (decF ts 0) = arr0 from cs1_congr (fun j _ => by unfold decF; rw [if_neg (by omega)])]; exact hW, HZ2.out.grown hG (fun e => by injection e with e; omega), HB2.out.grown hG HB2.out.size (fun g e => by injection e with e; omega), hwG⟩)
  clear hW hG HG2 HZ2 HB2 hwG
  simp only [Act.put, List.getElem_toArray, List.getElem_cons_succ, List.getElem_cons_zero, List.setIfInBounds_toArray, List.set_cons_zero, List.set_cons_succ]
  go_wp2_with fail
  go_loopw [6] (fun i wr => ∃ k : Nat, k ≤ 1000 ∧ i = .int .i64 (k : Nat) ∧ AR w G (decF ts k) wr) (fun i _ => 1000 - (intOf i).toNat)
  case atStart => exact ⟨0, Nat.zero_le _, rfl, HA3.out⟩
  case round =>
    clear HA3
    obtain ⟨k, hk, rfl, hA⟩ := hrel
    have HA := Lib.hid hA
    clear hA
    have hk0 : (0 : Int) ≤ (k : Int) := by omega
    by_cases hlt : k < 1000
    · have hki : (k : Int) < 1000 := by omega
      have hkd : decide (k < 1000) = true := by simpa using hlt
      have hkd2 : decide ((k : Int) < 1000) = true := by simpa using hki
      obtain ⟨r, HR⟩ : ∃ r, Hid (dec ts (k : Int) = r) := ⟨_, Lib.hid rfl⟩
      go_wp2_with fail
      refine (decAt_any A n cap ts (k : Int) r _ hn (Lib.hid (hts.out.step HA.out.2.2.1)) hg HR (by omega) (by omega)).mono ?_
      rintro e w8 ⟨rfl, b8⟩
      have HA8 := Lib.hid (HA.out.step b8)
      clear b8 HA
      obtain ⟨z, HZ⟩ : ∃ z, Hid (decF ts k k = z) := ⟨_, Lib.hid rfl⟩
      obtain ⟨c0, f0, hGl⟩ := HA8.out.at_ hlt
      rw [HZ.out] at c0
      have HA9 := Lib.hid (show AR w G (decF ts (k + 1)) (w8.setCell ⟨G, k, none⟩ (.int .i64 r)) by rw [← decF_succ, HR.out]; exact HA8.out.put hlt r)
      clear HA8
      go_wp2_with fail
      go_roundw
      case rel => exact ⟨k + 1, by omega, by go_num, HA9.out⟩
      case measure => simp [intOf]; omega
    · obtain rfl : k = 1000 := by omega
      have hkd : decide (((1000 : Nat) : Int) < 1000) = false := by decide
      have HG := Lib.hid (show Blk wr G 72 (decs ts) by have := HA.out.1; rw [decs_end] at this; exact this)
      have HZZ := Lib.hid HA.out.2.1
      have HB := Lib.hid HA.out.2.2.1
      have hwG := HA.out.2.2.2
      clear HA
      go_upto_region 7 with fail
      refine wp_region_list ?_
      refine step_load _ rfl _ rfl G _ rfl HG.out (decs_size ts) ?_
      simp only [Act.put, List.getElem_toArray, List.getElem_cons_succ, List.getElem_cons_zero, List.setIfInBounds_toArray, List.set_cons_zero, List.set_cons_succ]
      refine step_store _ rfl _ _ rfl w.heap.size _ _ rfl rfl HZZ.out arr0_size (decs_size ts) (cs1_one _ _) ?_
      intro W5 hW hG
      have HW5 := Lib.hid hW
      have HB5 := Lib.hid (HB.out.grown hG HB.out.size (fun g e => by injection e with e; omega))
      clear hW hG HG HZZ HB
      simp only [Act.put, List.getElem_toArray, List.getElem_cons_succ, List.getElem_cons_zero, List.setIfInBounds_toArray, List.set_cons_zero, List.set_cons_succ]
      go_wp2_with fail
      refine bodyPost_ret (v := .agg (decs ts)) ?_ rfl ⟨rfl, HB5.out⟩
      exact results_cell_row rfl _ _ w.heap.size _ _ _ _ rfl HW5.out undArr rfl (by rw [sizeArr, decs_size])
set_option maxHeartbeats 4000000 in
set_option maxRecDepth 100000 in
theorem daysWith_impl (A : Option Addr) (n cap : Nat) (ts : List Dp) (s : Int) (w : World) (hn : n ≤ 2000000) (hts : Hid (DpAt w w.heap.size A n ts)) :
    Calls Try.prog 20 #[.slice A n cap, .int .i64 s] w (APost (ansDw ts s) w) := by
  obtain ⟨G, HG⟩ : ∃ G, Hid (goodDp ts = G) := ⟨_, Lib.hid rfl⟩
  obtain ⟨t0, H0⟩ : ∃ t, Hid (btw (-900) s 900 = t) := ⟨_, Lib.hid rfl⟩
  obtain ⟨f, HF⟩ : ∃ f, Hid (fsD ts s 1000 = f) := ⟨_, Lib.hid rfl⟩
  obtain ⟨l, HL⟩ : ∃ f, Hid (lsD ts s 1000 = f) := ⟨_, Lib.hid rfl⟩
  have HA := Lib.hid (show ansDw ts s = if (G && t0 && decide (0 ≤ f)) = true then .tuple #[.int .i64 f, .int .i64 l, .bool true] else .tuple #[.int .i64 0, .int .i64 0, .bool false] by unfold ansDw dwOk; rw [HG.out, H0.out, HF.out, HL.out])
  have HNF9 := Lib.hid (show G = true → t0 = false → f = -1 from fun hG h0 => by
    rw [← HF.out]
    refine fsD_none (fun d e => ?_) 1000
    have hbd := dec_bd (good_lim (HG.out.trans hG)).2.2 (good_lim (HG.out.trans hG)).1 d
    have := btw_no (H0.out.trans h0)
    omega)
  go_enter Try.func20, Try.ntmps20
  go_wp2_with fail
  refine (arePoints_is A n cap ts G HG _ hn hts).mono ?_
  rintro e w1 ⟨rfl, b1⟩
  have HB2 := Lib.hid b1
  clear b1
  cases G
  · go_wp2_with fail
    go_ret3
    exact ⟨by rw [HA.out]; rfl, HB2.out⟩
  go_wp2_with fail
  refine (decs_any A n cap ts _ hn (Lib.hid (hts.out.step HB2.out)) HG).mono ?_
  rintro e w3 ⟨rfl, b3⟩
  have HB4 := Lib.hid (HB2.out.trans (b3.mono HB2.out.size))
  clear b3 HB2
  obtain ⟨ds, HDS⟩ : ∃ z, Hid (decs ts = z) := ⟨_, Lib.hid rfl⟩
  have hds : ds.size = 1000 := by rw [← HDS.out]; exact decs_size ts
  rw [HDS.out]
  have HAT := Lib.hid (show ∀ k : Nat, k < 1000 → ds[k]? = some (.int .i64 (dec ts (k : Int))) from fun k hk => by rw [← HDS.out]; exact cs1_at _ hk)
  clear HDS
  go_wp2_with fail
  go_loopw [7, 8, 9, 17] (fun f1 l1 fd i wr => ∃ (k : Nat) (a c : Int), k ≤ 1000 ∧ i = .int .i64 (k : Nat) ∧ f1 = .int .i64 a ∧ l1 = .int .i64 c ∧ fd = .bool (decide (0 ≤ fsD ts s k)) ∧ Hid (a = if 0 ≤ fsD ts s k then fsD ts s k else 0) ∧ Hid (c = if 0 ≤ fsD ts s k then lsD ts s k else 0) ∧ wr = w3) (fun _ _ _ i _ => 1000 - (intOf i).toNat)
  case atStart => exact ⟨0, 0, 0, Nat.zero_le _, rfl, rfl, rfl, rfl, Lib.hid rfl, Lib.hid rfl, rfl⟩
  case round =>
    obtain ⟨k, a, c, hk, rfl, rfl, rfl, rfl, HAA, HCC, rfl⟩ := hrel
    have hk0 : (0 : Int) ≤ (k : Int) := by omega
    have hlim := fsD_lim ts s k
    obtain ⟨x, HX⟩ : ∃ f, Hid (fsD ts s k = f) := ⟨_, Lib.hid rfl⟩
    obtain ⟨y, HY⟩ : ∃ f, Hid (lsD ts s k = f) := ⟨_, Lib.hid rfl⟩
    rw [HX.out, HY.out] at hlim
    rw [HX.out] at HAA HCC ⊢
    rw [HY.out] at HCC
    by_cases hlt : k < 1000
    · have hki : (k : Int) < 1000 := by omega
      have hkd : decide (k < 1000) = true := by simpa using hlt
      have hkd2 : decide ((k : Int) < 1000) = true := by simpa using hki
      obtain ⟨r, HR⟩ : ∃ r, Hid (dec ts (k : Int) = r) := ⟨_, Lib.hid rfl⟩
      have hat := HAT.out k hlt
      rw [HR.out] at hat
      have hidx := run_index_arr ds k r wr hlt hat
      have HNF := Lib.hid (show fsD ts s (k + 1) = if r = s ∧ x < 0 then (k : Int) else x by rw [← HR.out, ← HX.out]; rfl)
      have HNL := Lib.hid (show lsD ts s (k + 1) = if r = s then (k : Int) else y by rw [← HR.out, ← HY.out]; rfl)
      clear HR
      cases hq : (r == s)
      · have hne : (r != s) = true := by simp [bne, hq]
        have HN1 := Lib.hid (show fsD ts s (k + 1) = x by rw [HNF.out, if_neg (fun q => by simp [q.1] at hq)])
        have HN2 := Lib.hid (show lsD ts s (k + 1) = y by rw [HNL.out, if_neg (fun q => by simp [q] at hq)])
        clear hlim
        go_wp2_with fail
        go_roundw
        case rel => exact ⟨k + 1, a, c, by omega, by go_num, rfl, rfl, by rw [HN1.out], by rw [HN1.out]; exact HAA, by rw [HN1.out, HN2.out]; exact HCC, (by first | rfl | trivial)⟩
        case measure => simp [intOf]; omega
      · have hne : (r != s) = false := by simp [bne, hq]
        have HN2 := Lib.hid (show lsD ts s (k + 1) = (k : Int) by rw [HNL.out, if_pos (by simpa using hq)])
        by_cases ha : x < 0
        · have had : decide (0 ≤ x) = false := by simp; omega
          have HN1 := Lib.hid (show fsD ts s (k + 1) = (k : Int) by rw [HNF.out, if_pos ⟨by simpa using hq, ha⟩])
          have hkk : decide ((0 : Int) ≤ (k : Int)) = true := by simp
          clear hlim
          go_wp2_with fail
          go_roundw
          case rel => exact ⟨k + 1, (k : Int), (k : Int), by omega, by go_num, rfl, rfl, by rw [HN1.out, hkk], Lib.hid (by rw [HN1.out, if_pos hk0]), Lib.hid (by rw [HN1.out, HN2.out, if_pos hk0]), (by first | rfl | trivial)⟩
          case measure => simp [intOf]; omega
        · have had : decide (0 ≤ x) = true := by simp; omega
          have HN1 := Lib.hid (show fsD ts s (k + 1) = x by rw [HNF.out, if_neg (fun q => ha q.2)])
          have hx0 : 0 ≤ x := by omega
          clear hlim
          go_wp2_with fail
          go_roundw
          case rel => exact ⟨k + 1, a, (k : Int), by omega, by go_num, rfl, rfl, by rw [HN1.out, had], by rw [HN1.out]; exact HAA, Lib.hid (by rw [HN1.out, HN2.out, if_pos hx0]), (by first | rfl | trivial)⟩
          case measure => simp [intOf]; omega
    · obtain rfl : k = 1000 := by omega
      have hkd : decide (((1000 : Nat) : Int) < 1000) = false := by decide
      have e1 : x = f := by rw [← HX.out]; exact HF.out
      have e2 : y = l := by rw [← HY.out]; exact HL.out
      subst e1 e2
      have HFIN := Lib.hid (show ansDw ts s = .tuple #[.int .i64 a, .int .i64 c, .bool (decide (0 ≤ x))] by
        rw [HA.out, HAA.out, HCC.out]
        by_cases h0 : 0 ≤ x
        · have ht : t0 = true := by
            cases t0 with
            | true => rfl
            | false => have := HNF9.out (by first | exact rfl | exact trivial) (by first | exact rfl | exact trivial); omega
          rw [if_pos h0, if_pos h0, ht, decide_eq_true h0]; rfl
        · rw [if_neg h0, if_neg h0, decide_eq_false h0, Bool.and_false]; rfl)
      go_wp2_with fail
      go_ret3
      exact ⟨by rw [HFIN.out]; rfl, HB4.out⟩
end Go.Proofs.Ytiimegmaokfpgaa.va
