/-
  The loop of a closing leg, and whether a leg is needed, by the program.
  Conditions: the legs lie in one block, at most 2000000 of them; the variable holds the table of the sines.
-/
import Derived.Test.YtkeepfkjhcmhlaaDoorKiD
import Derived.Test.YtkeepfkjhcmhlaaDoorNqG0
namespace Go.Proofs.YtkeepfkjhcmhlaaDoor.lpi
open Go.RowKit
open reads base ty lg lgi win rowi hs nt nq sn lp
set_option linter.unusedVariables false
set_option linter.unusedSimpArgs false

theorem twelve (l : List Bool) (h : l.length = 12) : ∃ b0 b1 b2 b3 b4 b5 b6 b7 b8 b9 b10 b11, l = [b0, b1, b2, b3, b4, b5, b6, b7, b8, b9, b10, b11] := by
  match l, h with
  | [b0, b1, b2, b3, b4, b5, b6, b7, b8, b9, b10, b11], _ => exact ⟨_, _, _, _, _, _, _, _, _, _, _, _, rfl⟩
/-- the loop of a closing leg, as a way in memory -/
def TPo (ts : List Lg) (i : Int) (w : World) (en : Ending) (w' : World) : Prop :=
  ∃ W g, en = .returned (.pointer (some ⟨g, 0, none⟩)) ∧ Below w.heap.size w w' ∧ WayAt w' w'.heap.size (some ⟨g, 0, none⟩) W ∧ W.map Prod.snd = lpIds ts i ∧ W.map Prod.fst = lpSt ts i
theorem range_tr {w : World} {g : Nat} {s : Net} {cl : List Bool} (hn : NOk s cl) (h : Blk w g 73 (nv s cl)) : w.rangeAt g 32 ((mks 12 s.tr).map Value.bool) := fun j v hv => by
  rw [List.getElem?_map] at hv
  obtain ⟨b, hb, rfl⟩ := Option.map_eq_some_iff.1 hv
  exact (bs_tr hn h j b hb).2
set_option maxHeartbeats 8000000 in
set_option maxRecDepth 100000 in
theorem treeLoop_any (A : Option Addr) (n cap : Nat) (ts : List Lg) (i : Int) (C : Array Value) (w : World) (HC : Hid (nv (netS ts) (clS ts) = C)) (ht : Hid (lpOk ts i = true)) (hts : Hid (LgAt w w.heap.size A n ts)) :
    Calls Tryd.prog 67 #[.slice A n cap, .agg C, .int .i64 i] w (TPo ts i w) := by
  obtain ⟨hg0, h0, h1, x, hx, hl, hok, hf, hto, hnt⟩ := lp_leg ht.out
  have hg := Lib.hid hg0
  obtain ⟨k, rfl⟩ := Int.eq_ofNat_of_zero_le h0
  rw [Int.toNat_natCast] at hx
  have HX := Lib.hid hx
  have HLA := Lib.hid hl
  have HNS := Lib.hid (show netS ts = net ts by unfold netS; rw [hg0]; rfl)
  obtain ⟨bs, HBS⟩ : ∃ bs, Hid (mks 12 (net ts).tr = bs) := ⟨_, Lib.hid rfl⟩
  have HB12 := Lib.hid (show bs.length = 12 by rw [← HBS.out, mks_len])
  obtain ⟨b0, b1, b2, b3, b4, b5, b6, b7, b8, b9, b10, b11, hbs12⟩ := twelve bs HB12.out
  have HEQ := Lib.hid hbs12
  obtain ⟨V, HV⟩ : ∃ V, Hid (w.alloc (.cells C 73) = V) := ⟨_, Lib.hid rfl⟩
  have HBV := Lib.hid (show Below w.heap.size w V by rw [← HV.out]; exact (Below.refl _ _).alloc (Nat.le_refl _) _)
  have hrg : V.rangeAt w.heap.size 32 (bs.map Value.bool) := by
    have h := range_tr (nok_S ts) (show Blk V w.heap.size 73 (nv (netS ts) (clS ts)) by rw [HC.out, ← HV.out]; exact Blk.new _ _ _)
    rw [HNS.out, HBS.out] at h
    exact h
  rw [hbs12] at hrg
  have q0 := hrg 0 (.bool b0) rfl
  have q1 := hrg 1 (.bool b1) rfl
  have q2 := hrg 2 (.bool b2) rfl
  have q3 := hrg 3 (.bool b3) rfl
  have q4 := hrg 4 (.bool b4) rfl
  have q5 := hrg 5 (.bool b5) rfl
  have q6 := hrg 6 (.bool b6) rfl
  have q7 := hrg 7 (.bool b7) rfl
  have q8 := hrg 8 (.bool b8) rfl
  have q9 := hrg 9 (.bool b9) rfl
  have q10 := hrg 10 (.bool b10) rfl
  have q11 := hrg 11 (.bool b11) rfl
  clear hbs12
  clear hrg hg0 h0 h1 hx hl hok hf hto hnt
  go_enter Tryd.func67, Tryd.ntmps67
  go_upto_region 1 with fail
  rw [HV.out]
  clear HV
  go_wp2_with fail
  refine (loopBy_any A n cap ts bs _ k x _ hg HB12 (Lib.hid (by rw [HEQ.out]; rfl)) HX (Lib.hid (hts.out.step HBV.out))).mono ?_
  rintro en w2 ⟨a2, rfl, hb2, hres⟩
  have HRES := Lib.hid hres
  have HB2 := Lib.hid (HBV.out.trans (hb2.mono HBV.out.size))
  clear hres hb2
  rcases HRES.out with ⟨W, g, rfl, hw1, hw2, hw3⟩ | ⟨rfl, hno⟩
  · have H1 := Lib.hid hw1
    have HW := Lib.hid (wy_tree ht.out (W := W) (by rw [HLA.out, HBS.out]; exact hw2) (by rw [HLA.out]; exact hw3))
    clear hw1 hw2 hw3
    go_wp2_with fail
    go_ret
    exact ⟨W, g, rfl, HB2.out, H1.out, HW.out⟩
  · exfalso
    obtain ⟨W, hW, hh⟩ := wy_tree_some ht.out
    rw [HLA.out] at hW hh
    rw [HBS.out] at hW
    exact hno W hW hh
/-- the marks of all legs below i but one -/
def cellsB (bs : List Bool) : Array Value := (bs.map Value.bool).toArray
theorem other_len (n k : Nat) : (otherB n k).length = 12 := by simp [otherB]
theorem other_zero (k : Nat) : cellsB (otherB 0 k) = #[.bool false, .bool false, .bool false, .bool false, .bool false, .bool false, .bool false, .bool false, .bool false, .bool false, .bool false, .bool false] := by
  have e : otherB 0 k = List.replicate 12 false := by
    apply List.ext_getElem?
    intro q
    unfold otherB
    rw [List.getElem?_map, List.getElem?_replicate]
    rcases Nat.lt_or_ge q 12 with h | h
    · rw [List.getElem?_range h, if_pos h]; rfl
    · rw [List.getElem?_eq_none (by simpa using h), if_neg (by omega)]; rfl
  rw [e]; rfl
theorem other_set {i k : Nat} (hi : i < 12) : (cellsB (otherB i k)).setIfInBounds i (.bool (!decide (i = k))) = cellsB (otherB (i + 1) k) := by
  unfold cellsB
  rw [List.setIfInBounds_toArray]
  congr 1
  apply List.ext_getElem?
  intro q
  have hl : ∀ m, (otherB m k)[q]? = if q < 12 then some (decide (q < m) && !decide (q = k)) else none := fun m => by
    unfold otherB
    rw [List.getElem?_map]
    rcases Nat.lt_or_ge q 12 with h | h
    · rw [List.getElem?_range h, if_pos h]; rfl
    · rw [List.getElem?_eq_none (by simpa using h), if_neg (by omega)]; rfl
  by_cases e : q = i
  · subst e
    rw [List.getElem?_set_self (by rw [List.length_map, other_len]; exact hi), List.getElem?_map, hl, if_pos hi]
    simp
  · rw [List.getElem?_set_ne (fun h => e h.symm), List.getElem?_map, List.getElem?_map, hl, hl]
    split
    · have : decide (q < i) = decide (q < i + 1) := by simp; omega
      rw [this]
    · rfl
theorem other_cell {n k : Nat} (C : Array Value) (h : cellsB (otherB n k) = C) {q : Nat} (hq : q < 12) : C[q]? = some (.bool (decide (q < n) && !decide (q = k))) := by
  rw [← h]
  unfold cellsB otherB
  rw [List.getElem?_toArray, List.getElem?_map, List.getElem?_map, List.getElem?_range hq]; rfl
set_option maxHeartbeats 8000000 in
set_option maxRecDepth 100000 in
theorem isNeeded_any (A : Option Addr) (n cap : Nat) (ts : List Lg) (k : Nat) (x : Lg) (t : Bool) (w : World) (hg : Hid (goodLg ts = true)) (hx : Hid (ts[k]? = some x)) (hf : Hid (mem (net ts).ps x.frm = true)) (ht : Hid (brB ts k = t)) (hts : Hid (LgAt w w.heap.size A n ts)) :
    Calls Tryd.prog 73 #[.slice A n cap, .int .i64 (k : Int)] w (BPost t w) := by
  have HL := Lib.hid hts.out.1
  have hn12 := len12 HL.out hg.out
  have HIFF := Lib.hid (need_is hg.out hx.out (mem_iff.1 hf.out))
  rw [HL.out] at HIFF
  obtain ⟨W0, HW0⟩ : ∃ W, Hid (w.alloc (.cells #[.bool false, .bool false, .bool false, .bool false, .bool false, .bool false, .bool false, .bool false, .bool false, .bool false, .bool false, .bool false] 71) = W) := ⟨_, Lib.hid rfl⟩
  obtain ⟨Bo, HBO⟩ : ∃ B, Hid (w.heap.size = B) := ⟨_, Lib.hid rfl⟩
  have HC0 := Lib.hid (show Blk W0 Bo 71 (cellsB (otherB 0 k)) by rw [← HW0.out, ← HBO.out, other_zero]; exact Blk.new _ _ _)
  have HB0 := Lib.hid (show Below w.heap.size w W0 by rw [← HW0.out]; exact (Below.refl _ _).alloc (Nat.le_refl _) _)
  have hwb : w.heap.size ≤ Bo := by rw [← HBO.out]; exact Nat.le_refl _
  go_enter Tryd.func73, Tryd.ntmps73
  go_upto_region 2 with fail
  try rw [HBO.out]
  try simp only [HBO.out]
  rw [HW0.out]
  clear HW0 HBO
  go_wp2_with fail
  go_loopw [10] (fun i wr => ∃ j : Nat, j ≤ n ∧ i = .int .i64 (j : Nat) ∧ Blk wr Bo 71 (cellsB (otherB j k)) ∧ Below w.heap.size w wr) (fun i _ => n - (intOf i).toNat)
  case atStart => exact ⟨0, Nat.zero_le _, rfl, HC0.out, HB0.out⟩
  case round =>
    obtain ⟨j, hj, rfl, hC, hB⟩ := hrel
    have HC := Lib.hid hC
    have HB := Lib.hid hB
    clear hC hB HC0 HB0
    have hj0 : (0 : Int) ≤ (j : Int) := by omega
    by_cases hlt : j < n
    · have hji : (j : Int) < (n : Int) := by omega
      have hjd : decide (j < n) = true := by simpa using hlt
      have hj12 : (j : Int) < 12 := by omega
      have hj12n : j < 12 := by omega
      have c0 := (HC.out.cell j).trans (other_cell _ rfl hj12n)
      have c1 := HC.out.frozen j
      have c2 := HC.out.lt
      obtain ⟨u, hu⟩ : ∃ u : Bool, (!decide (j = k)) = u := ⟨_, rfl⟩
      have hne : ((j : Int) != (k : Int)) = u := by rw [← hu]; by_cases e : j = k <;> simp [e]; omega
      have HNX := Lib.hid (show Blk (wr.setCell ⟨Bo, j, none⟩ (.bool u)) Bo 71 (cellsB (otherB (j + 1) k)) by rw [← other_set hj12n, hu]; exact HC.out.set_ j _)
      have HBX := Lib.hid (HB.out.setCell (p := ⟨Bo, j, none⟩) hwb (.bool u))
      clear hu
      go_wp2_with fail
      go_roundw
      case rel => exact ⟨j + 1, by omega, by go_num, HNX.out, HBX.out⟩
      case measure => simp [intOf]; omega
    · have hjd : decide (j < n) = false := by simpa using hlt
      obtain rfl : j = n := by omega
      obtain ⟨bs, HBS⟩ : ∃ bs, Hid (otherB j k = bs) := ⟨_, Lib.hid rfl⟩
      have HB12 := Lib.hid (show bs.length = 12 by rw [← HBS.out, other_len])
      obtain ⟨b0, b1, b2, b3, b4, b5, b6, b7, b8, b9, b10, b11, hbs12⟩ := twelve bs HB12.out
      have HEQ := Lib.hid hbs12
      rw [HBS.out, hbs12] at HC HIFF
      have q0 := HC.out.cell 0
      have q1 := HC.out.cell 1
      have q2 := HC.out.cell 2
      have q3 := HC.out.cell 3
      have q4 := HC.out.cell 4
      have q5 := HC.out.cell 5
      have q6 := HC.out.cell 6
      have q7 := HC.out.cell 7
      have q8 := HC.out.cell 8
      have q9 := HC.out.cell 9
      have q10 := HC.out.cell 10
      have q11 := HC.out.cell 11
      simp [cellsB] at q0 q1 q2 q3 q4 q5 q6 q7 q8 q9 q10 q11
      clear hbs12 hlt
      go_wp2_with fail
      refine (loopBy_any A _ cap ts [b0, b1, b2, b3, b4, b5, b6, b7, b8, b9, b10, b11] _ k x _ hg (Lib.hid rfl) (Lib.hid rfl) hx (Lib.hid (hts.out.step HB.out))).mono ?_
      rintro en w2 ⟨a2, rfl, hb2, hres⟩
      have HRES := Lib.hid hres
      have HB2 := Lib.hid (HB.out.trans (hb2.mono HB.out.size))
      clear hres hb2 q0 q1 q2 q3 q4 q5 q6 q7 q8 q9 q10 q11
      rcases HRES.out with ⟨W, g, rfl, hw1, hw2, hw3⟩ | ⟨rfl, hno⟩
      · obtain rfl : t = false := by
          cases q : t
          · rfl
          · exact absurd hw3 (HIFF.out.1 (by rw [ht.out, q]) W hw2)
        clear hw1 hw2 hw3
        go_wp2_with fail
        go_ret
        exact ⟨rfl, HB2.out⟩
      · obtain rfl : t = true := by rw [← ht.out]; exact HIFF.out.2 hno
        clear hno
        go_wp2_with fail
        go_ret
        exact ⟨rfl, HB2.out⟩
/-- the loop of a closing leg, or none -/
def LOo (ts : List Lg) (i : Int) (w : World) (en : Ending) (w' : World) : Prop :=
  ∃ W a, en = .returned (.tuple #[.pointer a, .bool (lpOk ts i)]) ∧ Below w.heap.size w w' ∧ WayAt w' w'.heap.size a W ∧ W.map Prod.snd = lpIds ts i ∧ W.map Prod.fst = lpSt ts i
theorem loo_no {ts : List Lg} {i : Int} {w w' : World} (h : lpOk ts i = false) (hb : Below w.heap.size w w') : LOo ts i w (.returned (.tuple #[.pointer none, .bool false])) w' :=
  ⟨[], none, by rw [h], hb, rfl, by unfold lpIds; rw [h]; rfl, by unfold lpSt; rw [h]; rfl⟩
theorem cl_at {ts : List Lg} (hg : goodLg ts = true) {k : Nat} (hk : k < 12) : (clS ts)[k]? = some (lpOk ts (k : Int)) := by
  unfold clS lpOk clIds clM
  rw [hg, if_pos rfl, if_pos rfl, mks_at _ hk]; rfl
set_option maxHeartbeats 8000000 in
set_option maxRecDepth 100000 in
theorem loopOf0_any (A : Option Addr) (n cap : Nat) (ts : List Lg) (z : Int) (w : World) (hn : n ≤ 2000000) (hts : Hid (LgAt w w.heap.size A n ts)) (hT : Hid (Tab w)) :
    Calls Tryd.prog 54 #[.slice A n cap, .int .i64 z] w (LOo ts z w) := by
  have HL := Lib.hid hts.out.1
  obtain ⟨C, HC⟩ : ∃ C, Hid (nv (netS ts) (clS ts) = C) := ⟨_, Lib.hid rfl⟩
  have hcz : C.size = 56 := by rw [← HC.out]; exact nv_size (nok_S ts)
  have HC1 := Lib.hid (show C.all (·.oneCell') = true by rw [← HC.out]; exact nv_one)
  cases hg : goodLg ts
  · have HG := Lib.hid hg
    have HNO := Lib.hid (show lpOk ts z = false by unfold lpOk; rw [hg]; rfl)
    clear hg
    go_enter Tryd.func54, Tryd.ntmps54
    go_wp2_with fail
    refine (net_any A n cap ts C false HC HG w hn hts hT).mono ?_
    rintro e w1 ⟨rfl, b1⟩
    have HB1 := Lib.hid b1
    clear b1
    have hst := lay_net hcz HC1.out w1
    have HB2 := Lib.hid (HB1.out.alloc HB1.out.size (.cells C 73))
    go_wp2_with fail
    clear hst
    go_ret2
    exact loo_no HNO.out HB2.out
  · have HG := Lib.hid hg
    clear hg
    cases hb : btw 0 z ((n : Int) - 1)
    · have HNO := Lib.hid (show lpOk ts z = false by
        cases q : lpOk ts z
        · rfl
        · obtain ⟨-, h0, h1, -⟩ := lp_leg q
          rw [HL.out] at h1
          rcases btw_no hb with h | h <;> omega)
      have HIN := Lib.hid (one_in hb)
      clear hb
      go_enter Tryd.func54, Tryd.ntmps54
      go_wp2_with fail
      refine (net_any A n cap ts C true HC HG w hn hts hT).mono ?_
      rintro e w1 ⟨rfl, b1⟩
      have HB1 := Lib.hid b1
      clear b1
      have hst := lay_net hcz HC1.out w1
      have HB2 := Lib.hid (HB1.out.alloc HB1.out.size (.cells C 73))
      go_upto_region 2 with fail
      obtain ⟨V, HV⟩ : ∃ V, Hid (w1.alloc (.cells C 73) = V) := ⟨_, Lib.hid rfl⟩
      rw [HV.out] at HB2
      rw [HV.out]
      clear hst HV
      go_wp2_with fail
      refine (within_new 0 ((n : Int) - 1) 1 [z] 1 3 _ false V _ rfl rfl (by decide) rfl HIN.out).mono ?_
      rintro e w9 ⟨rfl, rfl⟩
      have HB3 := Lib.hid (HB2.out.alloc HB2.out.size (.cells #[.int .i64 z] 3))
      go_wp2_with fail
      go_ret2
      exact loo_no HNO.out HB3.out
    · obtain ⟨z0, z1⟩ := btw_yes hb
      obtain ⟨k, rfl⟩ := Int.eq_ofNat_of_zero_le z0
      have hn12 := len12 HL.out HG.out
      have hkn : k < n := by omega
      have hk12 : k < 12 := by omega
      have hk12i : (k : Int) < 12 := by omega
      have hk0 : (0 : Int) ≤ (k : Int) := by omega
      have HIN := Lib.hid (one_in hb)
      obtain ⟨t, HT⟩ : ∃ t, Hid (lpOk ts (k : Int) = t) := ⟨_, Lib.hid rfl⟩
      have HCK := Lib.hid (show C[44 + k]? = some (.bool t) by rw [← HC.out, ← HT.out]; exact nv_cl (nok_S ts) (cl_at HG.out hk12))
      clear hb z0 z1
      go_enter Tryd.func54, Tryd.ntmps54
      go_wp2_with fail
      refine (net_any A n cap ts C true HC HG w hn hts hT).mono ?_
      rintro e w1 ⟨rfl, b1⟩
      have HB1 := Lib.hid b1
      clear b1
      have hst := lay_net hcz HC1.out w1
      have HB2 := Lib.hid (HB1.out.alloc HB1.out.size (.cells C 73))
      go_upto_region 2 with fail
      obtain ⟨V, HV⟩ : ∃ V, Hid (w1.alloc (.cells C 73) = V) := ⟨_, Lib.hid rfl⟩
      obtain ⟨G, HGG⟩ : ∃ V, Hid (w1.heap.size = V) := ⟨_, Lib.hid rfl⟩
      have HGV := Lib.hid (show Blk V G 73 C by rw [← HV.out, ← HGG.out]; exact Blk.new _ _ _)
      rw [HV.out] at HB2
      try rw [HGG.out]
      try simp only [HGG.out]
      rw [HV.out]
      clear hst HV HGG
      have HB3 := Lib.hid (HB2.out.alloc HB2.out.size (.cells #[.int .i64 (k : Int)] 3))
      have HG3 := Lib.hid (HGV.out.alloc (.cells #[.int .i64 (k : Int)] 3))
      go_wp2_with fail
      refine (within_new 0 ((n : Int) - 1) 1 [(k : Int)] 1 3 _ true V _ rfl rfl (by decide) rfl HIN.out).mono ?_
      rintro e w9 ⟨rfl, rfl⟩
      simp only [List.map_cons, List.map_nil]
      obtain ⟨U, HU⟩ : ∃ U, Hid (V.alloc (.cells #[.int .i64 (k : Int)] 3) = U) := ⟨_, Lib.hid rfl⟩
      rw [HU.out] at HB3 HG3
      rw [HU.out]
      clear HU HB2 HGV
      have ck := (HG3.out.cell (44 + k)).trans HCK.out
      cases t
      · go_wp2_with fail
        go_ret2
        exact loo_no HT.out HB3.out
      · go_upto_region 4 with fail
        clear ck
        refine wp_region_list ?_
        refine step_move _ rfl _ rfl _ rfl ?_
        simp only [Act.put, List.getElem_toArray, List.getElem_cons_succ, List.getElem_cons_zero, List.setIfInBounds_toArray, List.set_cons_zero, List.set_cons_succ]
        refine step_load _ rfl _ rfl G _ rfl HG3.out hcz ?_
        simp only [Act.put, List.getElem_toArray, List.getElem_cons_succ, List.getElem_cons_zero, List.setIfInBounds_toArray, List.set_cons_zero, List.set_cons_succ]
        go_wp2_with fail
        refine (treeLoop_any A n cap ts (k : Int) C _ HC HT (Lib.hid (hts.out.step HB3.out))).mono ?_
        rintro e w5 ⟨W, g, rfl, hb5, h1, h2, h3⟩
        have H1 := Lib.hid h1
        have H2 := Lib.hid h2
        have H3 := Lib.hid h3
        have HB5 := Lib.hid (HB3.out.trans (hb5.mono HB3.out.size))
        clear h1 h2 h3 hb5
        go_wp2_with fail
        go_ret2
        exact ⟨W, _, by rw [HT.out]; rfl, HB5.out, H1.out, H2.out, H3.out⟩
#print axioms treeLoop_any
#print axioms isNeeded_any
#print axioms loopOf0_any
end Go.Proofs.YtkeepfkjhcmhlaaDoor.lpi
