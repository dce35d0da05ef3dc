/-
  ParseEntry of the model: the digits of a text; a line taken apart.
  Conditions: the text has at most 1048576 bytes.
-/
import Derived.Test.YtnlljdepcldibaaGreatDoorEtA
import Derived.Test.YtnlljdepcldibaaGreatDoorSplitB
import Derived.Deep.RegionHeld3
import Derived.Deep.DeepCutAuto
namespace Go.Proofs.YtnlljdepcldibaaGreatDoor.ent
open Go.RowKit
open reads base ty lg en pow txt strmath iterc readc ntx
set_option linter.unusedVariables false
set_option linter.unusedSimpArgs false

set_option maxHeartbeats 4000000 in
set_option maxRecDepth 100000 in
theorem dig_is (t : ByteArray) (v : Nat) (h : Hid (dg t.data.toList = v)) (w : World) (hs : t.size ≤ 1048576) : Calls Tryz.prog 57 #[.string t] w fun e w' => e = .returned (.int .i64 (v : Int)) ∧ w = w' := by
  have hl : t.data.toList.length = t.size := rfl
  have HL := Lib.hid hl
  clear hl
  go_enter Tryz.func57, Tryz.ntmps57
  go_wp2_with fail
  go_loopw [3, 4] (fun q i wr => ∃ (k n : Nat), k ≤ 8 ∧ k ≤ t.size ∧ i = .int .i64 k ∧ q = .int .i64 n ∧ n < 100000000 ∧ Hid ((t.data.toList.take k).foldl dstep 0 = n) ∧ wr = w) (fun _ i _ => 8 - (intOf i).toNat)
  case atStart => exact ⟨0, 0, by decide, Nat.zero_le _, rfl, rfl, by decide, Lib.hid rfl, rfl⟩
  case round =>
    obtain ⟨k, n, hk8, hks, rfl, rfl, hn8, HN, rfl⟩ := hrel
    by_cases hlt : k < t.size
    · have d1 : decide (k < t.size) = true := by simpa using hlt
      have d1i : decide ((k : Int) < (t.size : Int)) = true := by simp; omega
      by_cases h8 : k < 8
      · have d2 : decide ((k : Int) < 8) = true := by simp; omega
        have d2' : decide (k < 8) = true := by simpa using h8
        have hge : t.data.toList[k]? = some t[k] := List.getElem?_eq_getElem (by have := HL.out; omega)
        have HS := Lib.hid (show (t.data.toList.take (k + 1)).foldl dstep 0 = dstep n t[k] by rw [base.take_snoc hge, List.foldl_append, HN.out]; rfl)
        have hb := dg_take t.data.toList (k + 1) (by omega)
        rw [HS.out] at hb
        have hk0 : 0 ≤ (k : Int) := by omega
        have hki : (k : Int) < (t.size : Int) := by omega
        clear hge
        by_cases c1 : 48 ≤ t[k].toNat
        · by_cases c2 : t[k].toNat ≤ 57
          · have HV := Lib.hid (show dstep n t[k] = 10 * n + (t[k].toNat - 48) by unfold dstep; rw [if_pos ⟨c1, c2⟩])
            go_wp2_with fail
            go_roundw
            case rel => exact ⟨k + 1, dstep n t[k], by omega, by omega, by go_num, by rw [HV.out]; congr 1; omega, hb, HS, by first | rfl | trivial⟩
            case measure => simp [intOf]; omega
          · have HV := Lib.hid (show dstep n t[k] = n by unfold dstep; rw [if_neg (by omega)])
            go_wp2_with fail
            go_roundw
            case rel => exact ⟨k + 1, dstep n t[k], by omega, by omega, by go_num, by rw [HV.out], hb, HS, by first | rfl | trivial⟩
            case measure => simp [intOf]; omega
        · have HV := Lib.hid (show dstep n t[k] = n by unfold dstep; rw [if_neg (by omega)])
          go_wp2_with fail
          go_roundw
          case rel => exact ⟨k + 1, dstep n t[k], by omega, by omega, by go_num, by rw [HV.out], hb, HS, by first | rfl | trivial⟩
          case measure => simp [intOf]; omega
      · have HF := Lib.hid (show n = v by
          have hk : k = 8 := by omega
          rw [← h.out, ← HN.out, hk]; rfl)
        have d2 : decide ((k : Int) < 8) = false := by simp; omega
        have d2' : decide (k < 8) = false := by simpa using h8
        have hk8' : 8 ≤ (k : Int) := by omega
        go_wp2_with fail
        go_ret
        exact ⟨by rw [HF.out]; rfl, rfl⟩
    · obtain rfl : k = t.size := by omega
      have HF := Lib.hid (show n = v by
        rw [← h.out, ← HN.out]
        unfold dg
        rw [List.take_of_length_le (by have := HL.out; omega), List.take_of_length_le (by have := HL.out; omega)])
      have d1 : decide (t.size < t.size) = false := by simp
      have d1i : decide ((t.size : Int) < (t.size : Int)) = false := by simp
      clear hlt
      go_wp2_with fail
      go_ret
      exact ⟨by rw [HF.out]; rfl, rfl⟩
/-- the answer in the making -/
def RE (w v : World) : Prop := Blk v w.heap.size 25 #[.int .i64 0, .int .i64 0, .int .i64 0, .int .i64 0, .int .i64 0, .bool false] ∧ Below w.heap.size w v
theorem RE.start (w : World) : RE w (w.alloc (.cells #[.int .i64 0, .int .i64 0, .int .i64 0, .int .i64 0, .int .i64 0, .bool false] 25)) := ⟨Blk.new w _ _, (Below.refl _ _).alloc (Nat.le_refl _) _⟩
theorem RE.step {w v v' : World} (h : RE w v) (hb : Below v.heap.size v v') : RE w v' := ⟨h.1.below hb h.1.lt, h.2.trans (hb.mono h.2.size)⟩
theorem RE.zs {w v : World} (h : RE w v) : v.cell? ⟨w.heap.size, 0, none⟩ = some (.int .i64 0) ∧ v.cell? ⟨w.heap.size, 1, none⟩ = some (.int .i64 0) ∧ v.cell? ⟨w.heap.size, 2, none⟩ = some (.int .i64 0) ∧ v.cell? ⟨w.heap.size, 3, none⟩ = some (.int .i64 0) ∧ v.cell? ⟨w.heap.size, 4, none⟩ = some (.int .i64 0) ∧ v.cell? ⟨w.heap.size, 5, none⟩ = some (.bool false) ∧ v.frozen? ⟨w.heap.size, 0, none⟩ = false ∧ v.frozen? ⟨w.heap.size, 1, none⟩ = false ∧ v.frozen? ⟨w.heap.size, 2, none⟩ = false ∧ v.frozen? ⟨w.heap.size, 3, none⟩ = false ∧ v.frozen? ⟨w.heap.size, 4, none⟩ = false ∧ v.frozen? ⟨w.heap.size, 5, none⟩ = false ∧ w.heap.size < v.heap.size := ⟨h.1.cell 0, h.1.cell 1, h.1.cell 2, h.1.cell 3, h.1.cell 4, h.1.cell 5, h.1.frozen 0, h.1.frozen 1, h.1.frozen 2, h.1.frozen 3, h.1.frozen 4, h.1.frozen 5, h.1.lt⟩
theorem RE.put {w v : World} (h : RE w v) (a b c d e f : Value) : Below w.heap.size w ((((((v.setCell ⟨w.heap.size, 0, none⟩ a).setCell ⟨w.heap.size, 1, none⟩ b).setCell ⟨w.heap.size, 2, none⟩ c).setCell ⟨w.heap.size, 3, none⟩ d).setCell ⟨w.heap.size, 4, none⟩ e).setCell ⟨w.heap.size, 5, none⟩ f) :=
  (((((h.2.setCell (Nat.le_refl _) _).setCell (Nat.le_refl _) _).setCell (Nat.le_refl _) _).setCell (Nat.le_refl _) _).setCell (Nat.le_refl _) _).setCell (Nat.le_refl _) _
/-- the answer in the making, and the words -/
def PW (w : World) (g : Nat) (us : List ByteArray) (v : World) : Prop := RE w v ∧ (∀ (k : Nat) u, us[k]? = some u → v.cell? ⟨g, k, none⟩ = some (.string u)) ∧ g < v.heap.size
theorem PW.step {w v v' : World} {g : Nat} {us : List ByteArray} (h : PW w g us v) (hb : Below v.heap.size v v') : PW w g us v' := by
  obtain ⟨h1, h2, h3⟩ := h
  have z := hb.size
  exact ⟨h1.step hb, fun k u q => (hb.cell (p := ⟨g, k, none⟩) h3).trans (h2 k u q), by omega⟩
theorem pw_mk {w v : World} {g : Nat} {u0 u1 u2 u3 u4 : ByteArray} {r : List ByteArray} (h : PW w g (u0 :: u1 :: u2 :: u3 :: u4 :: r) v) : v.cell? ⟨g, 0, none⟩ = some (.string u0) ∧ v.cell? ⟨g, 1, none⟩ = some (.string u1) ∧ v.cell? ⟨g, 2, none⟩ = some (.string u2) ∧ v.cell? ⟨g, 3, none⟩ = some (.string u3) ∧ v.cell? ⟨g, 4, none⟩ = some (.string u4) ∧ PW w g (u0 :: u1 :: u2 :: u3 :: u4 :: r) v := ⟨h.2.1 0 u0 rfl, h.2.1 1 u1 rfl, h.2.1 2 u2 rfl, h.2.1 3 u3 rfl, h.2.1 4 u4 rfl, h⟩
theorem PW.put {w v : World} {g Y : Nat} {us : List ByteArray} (h : PW w g us v) (hg : ¬ g = Y) (hw : ¬ w.heap.size = Y) (hY : w.heap.size ≤ Y) (x : En) : PW w g us ((((((v.setCell ⟨Y, 0, none⟩ (.int .i64 x.frm)).setCell ⟨Y, 1, none⟩ (.int .i64 x.to_)).setCell ⟨Y, 2, none⟩ (.int .i64 x.tape)).setCell ⟨Y, 3, none⟩ (.int .i64 x.comp)).setCell ⟨Y, 4, none⟩ (.int .i64 x.slope)).setCell ⟨Y, 5, none⟩ (.bool x.back)) := by
  have hb : ∀ (v : World) (o : Nat) (z : Value), PW w g us v → PW w g us (v.setCell ⟨Y, o, none⟩ z) := by
    intro v o z h
    obtain ⟨⟨h1, h2⟩, h3, h4⟩ := h
    exact ⟨⟨h1.far (by show w.heap.size ≠ Y; exact hw) _, h2.setCell (p := ⟨Y, o, none⟩) hY _⟩, fun k u q => (World.cell?_setCell_other v _ _ z (by intro c; injection c with c; exact hg c.symm)).trans (h3 k u q), by simpa using h4⟩
  exact hb _ 5 _ (hb _ 4 _ (hb _ 3 _ (hb _ 2 _ (hb _ 1 _ (hb _ 0 _ h)))))
theorem PW.put1 {w v : World} {g Y : Nat} {us : List ByteArray} (h : PW w g us v) (hg : ¬ g = Y) (hw : ¬ w.heap.size = Y) (hY : w.heap.size ≤ Y) (o : Nat) (z : Value) : PW w g us (v.setCell ⟨Y, o, none⟩ z) := by
  obtain ⟨⟨h1, h2⟩, h3, h4⟩ := h
  exact ⟨⟨h1.far (by show w.heap.size ≠ Y; exact hw) _, h2.setCell (p := ⟨Y, o, none⟩) hY _⟩, fun k u q => (World.cell?_setCell_other v _ _ z (by intro c; injection c with c; exact hg c.symm)).trans (h3 k u q), by simpa using h4⟩
theorem rdM_eq (u0 u1 u2 u3 u4 : ByteArray) {d0 d1 d2 d3 d4 : Nat} {ng six : Bool} (h0 : dg u0.data.toList = d0) (h1 : dg u1.data.toList = d1) (h2 : dg u2.data.toList = d2) (h3 : dg u3.data.toList = d3) (h4 : dg u4.data.toList = d4) (hm : minus u4.data.toList = ng) :
    rdM u0 u1 u2 u3 u4 six = ⟨d0, d1, d2, d3, if ng = true then -(d4 : Int) else d4, six⟩ := by unfold rdM; rw [h0, h1, h2, h3, h4, hm]
theorem minus_at {t : ByteArray} (h : 0 < t.size) : minus t.data.toList = decide (t[0].toNat = 45) := by
  unfold minus
  have k : t.data.toList.head? = some t[0] := by
    rw [List.head?_eq_getElem?]
    exact List.getElem?_eq_getElem (show 0 < t.data.toList.length from h)
  rw [k]
  by_cases c : t[0].toNat = 45
  · have : t[0] = 45 := UInt8.toNat_inj.1 c
    simp [this]
  · have : ¬ t[0] = 45 := fun e => c (by rw [e]; rfl)
    simp [c, this]
theorem minus_none {t : ByteArray} (h : ¬ 0 < t.size) : minus t.data.toList = false := by
  unfold minus
  have k : t.data.toList = [] := List.eq_nil_of_length_eq_zero (by show t.size = 0; omega)
  rw [k]; rfl
set_option maxHeartbeats 40000000 in
set_option maxRecDepth 100000 in
theorem parseE_model (s : ByteArray) (q : En × Bool) (w : World) (hs : s.size ≤ 1048576) (hr : Hid (PT s q)) : Calls Tryz.prog 35 #[.string s] w (APost (ptV q) w) := by
  have HB0 := Lib.hid (RE.start w)
  go_enter Tryz.func35, Tryz.ntmps35
  go_wp2_with fail
  refine (splitb.l1Split_any s 32 hs _).mono ?_
  rintro e w1 ⟨v, rfl, hown, b⟩
  have HB1 := Lib.hid (HB0.out.step b)
  obtain ⟨N, hN⟩ : ∃ N, (pcs 32 s.data.toList).length = N := ⟨_, rfl⟩
  rw [hN] at hown
  obtain ⟨WA, wc, rfl⟩ := row_slice hown
  have HO := Lib.hid hown
  have HN := Lib.hid hN
  clear b hown hN HB0
  by_cases h40 : 40 < s.size
  · have d40 : decide ((40 : Int) < (s.size : Int)) = true := by simp; omega
    have d40' : decide (40 < s.size) = true := by simpa using h40
    have HNO := Lib.hid (pt_no hr.out (fun x hx => by have := etx_size hx.1; rw [hx.2] at this; omega))
    obtain ⟨z0, z1, z2, z3, z4, z5, f0, f1, f2, f3, f4, f5, hz⟩ := HB1.out.zs
    go_wp2_with fail
    refine bodyPost_ret (v := .tuple #[.agg #[.int .i64 0, .int .i64 0, .int .i64 0, .int .i64 0, .int .i64 0, .bool false], .bool false]) (by simp [results, Tryz.results35, go_sem, *]) rfl ⟨by rw [HNO.out]; rfl, ?_⟩
    exact HB1.out.put _ _ _ _ _ _
  have d40 : decide ((40 : Int) < (s.size : Int)) = false := by simp; omega
  have d40' : decide (40 < s.size) = false := by simpa using h40
  by_cases h5 : N < 5
  · have d5 : decide ((N : Int) < 5) = true := by simp; omega
    have d5' : decide (N < 5) = true := by simpa using h5
    have HNO := Lib.hid (pt_no hr.out (fun x hx => by have := (words_len hx).1; rw [HN.out] at this; omega))
    obtain ⟨z0, z1, z2, z3, z4, z5, f0, f1, f2, f3, f4, f5, hz⟩ := HB1.out.zs
    go_wp2_with fail
    refine bodyPost_ret (v := .tuple #[.agg #[.int .i64 0, .int .i64 0, .int .i64 0, .int .i64 0, .int .i64 0, .bool false], .bool false]) (by simp [results, Tryz.results35, go_sem, *]) rfl ⟨by rw [HNO.out]; rfl, ?_⟩
    exact HB1.out.put _ _ _ _ _ _
  have d5 : decide ((N : Int) < 5) = false := by simp; omega
  have d5' : decide (N < 5) = false := by simpa using h5
  by_cases h6 : 6 < N
  · have d6 : decide ((6 : Int) < (N : Int)) = true := by simp; omega
    have d6' : decide (6 < N) = true := by simpa using h6
    have HNO := Lib.hid (pt_no hr.out (fun x hx => by have := (words_len hx).2; rw [HN.out] at this; omega))
    obtain ⟨z0, z1, z2, z3, z4, z5, f0, f1, f2, f3, f4, f5, hz⟩ := HB1.out.zs
    go_wp2_with fail
    refine bodyPost_ret (v := .tuple #[.agg #[.int .i64 0, .int .i64 0, .int .i64 0, .int .i64 0, .int .i64 0, .bool false], .bool false]) (by simp [results, Tryz.results35, go_sem, *]) rfl ⟨by rw [HNO.out]; rfl, ?_⟩
    exact HB1.out.put _ _ _ _ _ _
  have d6 : decide ((6 : Int) < (N : Int)) = false := by simp; omega
  have d6' : decide (6 < N) = false := by simpa using h6
  obtain ⟨u0, u1, u2, u3, u4, r, hw, hrl⟩ := five_of (by rw [HN.out]; omega) (by rw [HN.out]; omega)
  have hNr : N = r.length + 5 := by rw [← HN.out, hw]; rfl
  have HW := Lib.hid hw
  have hrow := HO.out
  rw [hw] at hrow
  obtain ⟨g, rfl, hgl, hcells⟩ := cells_of hrow (by omega) (by rw [hNr]; rfl)
  have HPW := Lib.hid (show PW w g (u0 :: u1 :: u2 :: u3 :: u4 :: r) w1 from ⟨HB1.out, hcells, hgl⟩)
  have hm : ∀ t ∈ pcs 32 s.data.toList, t.size ≤ 40 := fun t ht => by have := pcs_mem 32 s t ht; omega
  rw [hw] at hm
  have m0 := hm u0 (by simp)
  have m1 := hm u1 (by simp)
  have m2 := hm u2 (by simp)
  have m3 := hm u3 (by simp)
  have m4 := hm u4 (by simp)
  obtain ⟨d0, HD0⟩ : ∃ d, Hid (dg u0.data.toList = d) := ⟨_, Lib.hid rfl⟩
  obtain ⟨d1, HD1⟩ : ∃ d, Hid (dg u1.data.toList = d) := ⟨_, Lib.hid rfl⟩
  obtain ⟨d2, HD2⟩ : ∃ d, Hid (dg u2.data.toList = d) := ⟨_, Lib.hid rfl⟩
  obtain ⟨d3, HD3⟩ : ∃ d, Hid (dg u3.data.toList = d) := ⟨_, Lib.hid rfl⟩
  obtain ⟨d4, HD4⟩ : ∃ d, Hid (dg u4.data.toList = d) := ⟨_, Lib.hid rfl⟩
  have hd4 : d4 < 100000000 := by rw [← HD4.out]; exact dg_take _ 8 (Nat.le_refl _)
  obtain ⟨six, HSIX⟩ : ∃ b, Hid (decide (r.length + 5 = 6) = b) := ⟨_, Lib.hid rfl⟩
  have q6 : (N == 6) = six := by rw [← HSIX.out, hNr]; rfl
  have q6i : ((N : Int) == 6) = six := by rw [← HSIX.out, hNr, Bool.eq_iff_iff]; simp; omega
  obtain ⟨ng, HNG⟩ : ∃ b, Hid (minus u4.data.toList = b) := ⟨_, Lib.hid rfl⟩
  have HRD := Lib.hid (show ∀ y, IsET s y → (⟨d0, d1, d2, d3, if ng = true then -(d4 : Int) else d4, six⟩ : En) = y from fun y hy => by
    rw [← rdM_eq u0 u1 u2 u3 u4 HD0.out HD1.out HD2.out HD3.out HD4.out HNG.out, ← HSIX.out]
    exact told HW.out hy)
  have hN5 : 5 ≤ N := by omega
  have hN6 : N ≤ 6 := by omega
  have HNR := Lib.hid hNr
  have hb0 : 0 < N := by omega
  have hb1 : 1 < N := by omega
  have hb2 : 2 < N := by omega
  have hb3 : 3 < N := by omega
  have hb4 : 4 < N := by omega
  have hbi1 : (1 : Int) < (N : Int) := by omega
  have hbi2 : (2 : Int) < (N : Int) := by omega
  have hbi3 : (3 : Int) < (N : Int) := by omega
  have hbi4 : (4 : Int) < (N : Int) := by omega
  clear hrow hcells hw HO hm HN hNr hrl HB1
  go_upto_region 4 with fail
  go_cut [5] (fun p wx => ∃ Y : Nat, p = .pointer (some ⟨Y, 0, none⟩) ∧ Blk wx Y 25 #[.int .i64 (d0 : Int), .int .i64 (d1 : Int), .int .i64 (d2 : Int), .int .i64 (d3 : Int), .int .i64 (d4 : Int), .bool six] ∧ PW w g (u0 :: u1 :: u2 :: u3 :: u4 :: r) wx ∧ w.heap.size ≤ Y ∧ ¬ g = Y ∧ ¬ w.heap.size = Y)
  case first =>
      refine wp_region_held_drew (S := (fun v => v.cell? ⟨g, 0, none⟩ = some (.string u0) ∧ v.cell? ⟨g, 1, none⟩ = some (.string u1) ∧ v.cell? ⟨g, 2, none⟩ = some (.string u2) ∧ v.cell? ⟨g, 3, none⟩ = some (.string u3) ∧ v.cell? ⟨g, 4, none⟩ = some (.string u4) ∧ PW w g (u0 :: u1 :: u2 :: u3 :: u4 :: r) v)) (by kernel_rfl) ?_ (fun hHeld => ?_)
      · exact pw_mk (HPW.out.step (drewN_below _ 1))
      refine' wpAnyH_take (i := 0) (v := ?vz1_0) rfl (by kernel_rfl) (by kernel_rfl) (by kernel_rfl) (fun _ _ _ h => h) (Or.inl ⟨by rfl, ?hyz1_0⟩) (by assumption) ?restz1_0
      case hyz1_0 => (intro w hSw; (try dsimp only at hSw); go_simp; (try simp only [if_pos hb0, if_pos hb1, if_pos hb2, if_pos hb3, if_pos hb4, hbi1, hbi2, hbi3, hbi4, if_true]); try (with_reducible rfl))
      simp only [Act.put, List.getElem_toArray, List.getElem_cons_succ, List.getElem_cons_zero, List.setIfInBounds_toArray, List.set_cons_zero, List.set_cons_succ]
      refine' wpAnyH_take (i := 1) (v := ?vz2_1) rfl (by kernel_rfl) (by kernel_rfl) (by kernel_rfl) (fun _ _ _ h => h) (Or.inl ⟨by rfl, ?hyz2_1⟩) (by assumption) ?restz2_1
      case hyz2_1 => (intro w hSw; (try dsimp only at hSw); go_simp; (try simp only [if_pos hb0, if_pos hb1, if_pos hb2, if_pos hb3, if_pos hb4, hbi1, hbi2, hbi3, hbi4, if_true]); try (with_reducible rfl))
      simp only [Act.put, List.getElem_toArray, List.getElem_cons_succ, List.getElem_cons_zero, List.setIfInBounds_toArray, List.set_cons_zero, List.set_cons_succ]
      refine' wpAnyH_take (i := 2) (v := ?vz3_2) rfl (by kernel_rfl) (by kernel_rfl) (by kernel_rfl) (fun _ _ _ h => h) (Or.inl ⟨by rfl, ?hyz3_2⟩) (by assumption) ?restz3_2
      case hyz3_2 => (intro w hSw; (try dsimp only at hSw); go_simp; (try simp only [if_pos hb0, if_pos hb1, if_pos hb2, if_pos hb3, if_pos hb4, hbi1, hbi2, hbi3, hbi4, if_true]); try (with_reducible rfl))
      simp only [Act.put, List.getElem_toArray, List.getElem_cons_succ, List.getElem_cons_zero, List.setIfInBounds_toArray, List.set_cons_zero, List.set_cons_succ]
      refine' wpAnyH_take (i := 4) (v := ?vz4_4) rfl (by kernel_rfl) (by kernel_rfl) (by kernel_rfl) (fun _ _ _ h => h) (Or.inl ⟨by rfl, ?hyz4_4⟩) (by assumption) ?restz4_4
      case hyz4_4 => (intro w hSw; (try dsimp only at hSw); go_simp; (try simp only [if_pos hb0, if_pos hb1, if_pos hb2, if_pos hb3, if_pos hb4, hbi1, hbi2, hbi3, hbi4, if_true]); try (with_reducible rfl))
      simp only [Act.put, List.getElem_toArray, List.getElem_cons_succ, List.getElem_cons_zero, List.setIfInBounds_toArray, List.set_cons_zero, List.set_cons_succ]
      refine' wpAnyH_take (i := 5) (v := ?vz5_5) rfl (by kernel_rfl) (by kernel_rfl) (by kernel_rfl) (fun _ _ _ h => h) (Or.inl ⟨by rfl, ?hyz5_5⟩) (by assumption) ?restz5_5
      case hyz5_5 => (intro w hSw; (try dsimp only at hSw); go_simp; (try simp only [if_pos hb0, if_pos hb1, if_pos hb2, if_pos hb3, if_pos hb4, hbi1, hbi2, hbi3, hbi4, if_true]); try (with_reducible rfl))
      simp only [Act.put, List.getElem_toArray, List.getElem_cons_succ, List.getElem_cons_zero, List.setIfInBounds_toArray, List.set_cons_zero, List.set_cons_succ]
      refine' wpAnyH_take (i := 6) (v := ?vz6_6) rfl (by kernel_rfl) (by kernel_rfl) (by kernel_rfl) (fun _ _ _ h => h) (Or.inl ⟨by rfl, ?hyz6_6⟩) (by assumption) ?restz6_6
      case hyz6_6 => (intro w hSw; (try dsimp only at hSw); go_simp; (try simp only [if_pos hb0, if_pos hb1, if_pos hb2, if_pos hb3, if_pos hb4, hbi1, hbi2, hbi3, hbi4, if_true]); try (with_reducible rfl))
      simp only [Act.put, List.getElem_toArray, List.getElem_cons_succ, List.getElem_cons_zero, List.setIfInBounds_toArray, List.set_cons_zero, List.set_cons_succ]
      refine' wpAnyH_take (i := 8) (v := ?vz7_8) rfl (by kernel_rfl) (by kernel_rfl) (by kernel_rfl) (fun _ _ _ h => h) (Or.inl ⟨by rfl, ?hyz7_8⟩) (by assumption) ?restz7_8
      case hyz7_8 => (intro w hSw; (try dsimp only at hSw); go_simp; (try simp only [if_pos hb0, if_pos hb1, if_pos hb2, if_pos hb3, if_pos hb4, hbi1, hbi2, hbi3, hbi4, if_true]); try (with_reducible rfl))
      simp only [Act.put, List.getElem_toArray, List.getElem_cons_succ, List.getElem_cons_zero, List.setIfInBounds_toArray, List.set_cons_zero, List.set_cons_succ]
      refine' wpAnyH_take (i := 9) (v := ?vz8_9) rfl (by kernel_rfl) (by kernel_rfl) (by kernel_rfl) (fun _ _ _ h => h) (Or.inl ⟨by rfl, ?hyz8_9⟩) (by assumption) ?restz8_9
      case hyz8_9 => (intro w hSw; (try dsimp only at hSw); go_simp; (try simp only [if_pos hb0, if_pos hb1, if_pos hb2, if_pos hb3, if_pos hb4, hbi1, hbi2, hbi3, hbi4, if_true]); try (with_reducible rfl))
      simp only [Act.put, List.getElem_toArray, List.getElem_cons_succ, List.getElem_cons_zero, List.setIfInBounds_toArray, List.set_cons_zero, List.set_cons_succ]
      refine' wpAnyH_take (i := 10) (v := ?vz9_10) rfl (by kernel_rfl) (by kernel_rfl) (by kernel_rfl) (fun _ _ _ h => h) (Or.inl ⟨by rfl, ?hyz9_10⟩) (by assumption) ?restz9_10
      case hyz9_10 => (intro w hSw; (try dsimp only at hSw); go_simp; (try simp only [if_pos hb0, if_pos hb1, if_pos hb2, if_pos hb3, if_pos hb4, hbi1, hbi2, hbi3, hbi4, if_true]); try (with_reducible rfl))
      simp only [Act.put, List.getElem_toArray, List.getElem_cons_succ, List.getElem_cons_zero, List.setIfInBounds_toArray, List.set_cons_zero, List.set_cons_succ]
      refine' wpAnyH_take (i := 12) (v := ?vz10_12) rfl (by kernel_rfl) (by kernel_rfl) (by kernel_rfl) (fun _ _ _ h => h) (Or.inl ⟨by rfl, ?hyz10_12⟩) (by assumption) ?restz10_12
      case hyz10_12 => (intro w hSw; (try dsimp only at hSw); go_simp; (try simp only [if_pos hb0, if_pos hb1, if_pos hb2, if_pos hb3, if_pos hb4, hbi1, hbi2, hbi3, hbi4, if_true]); try (with_reducible rfl))
      simp only [Act.put, List.getElem_toArray, List.getElem_cons_succ, List.getElem_cons_zero, List.setIfInBounds_toArray, List.set_cons_zero, List.set_cons_succ]
      refine' wpAnyH_take (i := 13) (v := ?vz11_13) rfl (by kernel_rfl) (by kernel_rfl) (by kernel_rfl) (fun _ _ _ h => h) (Or.inl ⟨by rfl, ?hyz11_13⟩) (by assumption) ?restz11_13
      case hyz11_13 => (intro w hSw; (try dsimp only at hSw); go_simp; (try simp only [if_pos hb0, if_pos hb1, if_pos hb2, if_pos hb3, if_pos hb4, hbi1, hbi2, hbi3, hbi4, if_true]); try (with_reducible rfl))
      simp only [Act.put, List.getElem_toArray, List.getElem_cons_succ, List.getElem_cons_zero, List.setIfInBounds_toArray, List.set_cons_zero, List.set_cons_succ]
      refine' wpAnyH_take (i := 14) (v := ?vz12_14) rfl (by kernel_rfl) (by kernel_rfl) (by kernel_rfl) (fun _ _ _ h => h) (Or.inl ⟨by rfl, ?hyz12_14⟩) (by assumption) ?restz12_14
      case hyz12_14 => (intro w hSw; (try dsimp only at hSw); go_simp; (try simp only [if_pos hb0, if_pos hb1, if_pos hb2, if_pos hb3, if_pos hb4, hbi1, hbi2, hbi3, hbi4, if_true]); try (with_reducible rfl))
      simp only [Act.put, List.getElem_toArray, List.getElem_cons_succ, List.getElem_cons_zero, List.setIfInBounds_toArray, List.set_cons_zero, List.set_cons_succ]
      refine' wpAnyH_take (i := 16) (v := ?vz13_16) rfl (by kernel_rfl) (by kernel_rfl) (by kernel_rfl) (fun _ _ _ h => h) (Or.inl ⟨by rfl, ?hyz13_16⟩) (by assumption) ?restz13_16
      case hyz13_16 => (intro w hSw; (try dsimp only at hSw); go_simp; (try simp only [if_pos hb0, if_pos hb1, if_pos hb2, if_pos hb3, if_pos hb4, hbi1, hbi2, hbi3, hbi4, if_true]); try (with_reducible rfl))
      simp only [Act.put, List.getElem_toArray, List.getElem_cons_succ, List.getElem_cons_zero, List.setIfInBounds_toArray, List.set_cons_zero, List.set_cons_succ]
      refine' wpAnyH_take (i := 17) (v := ?vz14_17) rfl (by kernel_rfl) (by kernel_rfl) (by kernel_rfl) (fun _ _ _ h => h) (Or.inl ⟨by rfl, ?hyz14_17⟩) (by assumption) ?restz14_17
      case hyz14_17 => (intro w hSw; (try dsimp only at hSw); go_simp; (try simp only [if_pos hb0, if_pos hb1, if_pos hb2, if_pos hb3, if_pos hb4, hbi1, hbi2, hbi3, hbi4, if_true]); try (with_reducible rfl))
      simp only [Act.put, List.getElem_toArray, List.getElem_cons_succ, List.getElem_cons_zero, List.setIfInBounds_toArray, List.set_cons_zero, List.set_cons_succ]
      refine' wpAnyH_take (i := 18) (v := ?vz15_18) rfl (by kernel_rfl) (by kernel_rfl) (by kernel_rfl) (fun _ _ _ h => h) (Or.inl ⟨by rfl, ?hyz15_18⟩) (by assumption) ?restz15_18
      case hyz15_18 => (intro w hSw; (try dsimp only at hSw); go_simp; (try simp only [if_pos hb0, if_pos hb1, if_pos hb2, if_pos hb3, if_pos hb4, hbi1, hbi2, hbi3, hbi4, if_true]); try (with_reducible rfl))
      simp only [Act.put, List.getElem_toArray, List.getElem_cons_succ, List.getElem_cons_zero, List.setIfInBounds_toArray, List.set_cons_zero, List.set_cons_succ]
      refine' wpAnyH_take (i := 20) (v := ?vz16_20) rfl (by kernel_rfl) (by kernel_rfl) (by kernel_rfl) (fun _ _ _ h => h) (Or.inl ⟨by rfl, ?hyz16_20⟩) (by assumption) ?restz16_20
      case hyz16_20 => (intro w hSw; (try dsimp only at hSw); go_simp; (try simp only [if_pos hb0, if_pos hb1, if_pos hb2, if_pos hb3, if_pos hb4, hbi1, hbi2, hbi3, hbi4, if_true]); try (with_reducible rfl))
      simp only [Act.put, List.getElem_toArray, List.getElem_cons_succ, List.getElem_cons_zero, List.setIfInBounds_toArray, List.set_cons_zero, List.set_cons_succ]
      refine' wpAnyH_take (i := 21) (v := ?vz17_21) rfl (by kernel_rfl) (by kernel_rfl) (by kernel_rfl) (fun _ _ _ h => h) (Or.inl ⟨by rfl, ?hyz17_21⟩) (by assumption) ?restz17_21
      case hyz17_21 => (intro w hSw; (try dsimp only at hSw); go_simp; (try simp only [if_pos hb0, if_pos hb1, if_pos hb2, if_pos hb3, if_pos hb4, hbi1, hbi2, hbi3, hbi4, if_true]); try (with_reducible rfl))
      simp only [Act.put, List.getElem_toArray, List.getElem_cons_succ, List.getElem_cons_zero, List.setIfInBounds_toArray, List.set_cons_zero, List.set_cons_succ]
      refine' wpAnyH_take (i := 22) (v := .bool six) rfl (by kernel_rfl) (by kernel_rfl) (by kernel_rfl) (fun _ _ _ h => h) (Or.inl ⟨by rfl, ?hysix⟩) (by assumption) ?restsix
      case hysix => (intro w hSw; (try dsimp only at hSw); go_simp; (try simp only [q6, q6i]); try (with_reducible rfl))
      simp only [Act.put, List.getElem_toArray, List.getElem_cons_succ, List.getElem_cons_zero, List.setIfInBounds_toArray, List.set_cons_zero, List.set_cons_succ]
      obtain ⟨V0, HV0⟩ : ∃ Wx, Hid (w1.drew = Wx) := ⟨_, Lib.hid rfl⟩
      rw [HV0.out] at hHeld
      rw [HV0.out]
      clear HV0
      refine wpAnyH_ready (rs := [3, 24]) (by kernel_rfl) (by simp) ?_
      refine AllReadyH.cons rfl (fun K hK => ?_) (AllReadyH.cons rfl (fun K hK => ?_) AllReadyH.nil)
      · go_simp
        refine (dig_is u0 d0 HD0 _ (by omega)).mono ?_
        rintro e w' ⟨rfl, rfl⟩
        refine hK.out _ _ hHeld (fun hHeld1 => ?_)
        clear hK K hHeld
        have hHeld := hHeld1
        clear hHeld1
        try simp only [Act.put, List.getElem_toArray, List.getElem_cons_succ, List.getElem_cons_zero, List.setIfInBounds_toArray, List.set_cons_zero, List.set_cons_succ]
        refine wpAnyH_ready (rs := [7, 24]) (by kernel_rfl) (by simp) ?_
        refine AllReadyH.cons rfl (fun K hK => ?_) (AllReadyH.cons rfl (fun K hK => ?_) AllReadyH.nil)
        · go_simp
          refine (dig_is u1 d1 HD1 _ (by omega)).mono ?_
          rintro e w' ⟨rfl, rfl⟩
          refine hK.out _ _ hHeld (fun hHeld1 => ?_)
          clear hK K hHeld
          have hHeld := hHeld1
          clear hHeld1
          try simp only [Act.put, List.getElem_toArray, List.getElem_cons_succ, List.getElem_cons_zero, List.setIfInBounds_toArray, List.set_cons_zero, List.set_cons_succ]
          refine wpAnyH_ready (rs := [11, 24]) (by kernel_rfl) (by simp) ?_
          refine AllReadyH.cons rfl (fun K hK => ?_) (AllReadyH.cons rfl (fun K hK => ?_) AllReadyH.nil)
          · go_simp
            refine (dig_is u2 d2 HD2 _ (by omega)).mono ?_
            rintro e w' ⟨rfl, rfl⟩
            refine hK.out _ _ hHeld (fun hHeld1 => ?_)
            clear hK K hHeld
            have hHeld := hHeld1
            clear hHeld1
            try simp only [Act.put, List.getElem_toArray, List.getElem_cons_succ, List.getElem_cons_zero, List.setIfInBounds_toArray, List.set_cons_zero, List.set_cons_succ]
            refine wpAnyH_ready (rs := [15, 24]) (by kernel_rfl) (by simp) ?_
            refine AllReadyH.cons rfl (fun K hK => ?_) (AllReadyH.cons rfl (fun K hK => ?_) AllReadyH.nil)
            · go_simp
              refine (dig_is u3 d3 HD3 _ (by omega)).mono ?_
              rintro e w' ⟨rfl, rfl⟩
              refine hK.out _ _ hHeld (fun hHeld1 => ?_)
              clear hK K hHeld
              have hHeld := hHeld1
              clear hHeld1
              try simp only [Act.put, List.getElem_toArray, List.getElem_cons_succ, List.getElem_cons_zero, List.setIfInBounds_toArray, List.set_cons_zero, List.set_cons_succ]
              refine wpAnyH_ready (rs := [19, 24]) (by kernel_rfl) (by simp) ?_
              refine AllReadyH.cons rfl (fun K hK => ?_) (AllReadyH.cons rfl (fun K hK => ?_) AllReadyH.nil)
              · go_simp
                refine (dig_is u4 d4 HD4 _ (by omega)).mono ?_
                rintro e w' ⟨rfl, rfl⟩
                refine hK.out _ _ hHeld (fun hHeld1 => ?_)
                clear hK K hHeld
                have hHeld := hHeld1
                clear hHeld1
                try simp only [Act.put, List.getElem_toArray, List.getElem_cons_succ, List.getElem_cons_zero, List.setIfInBounds_toArray, List.set_cons_zero, List.set_cons_succ]
                refine' wpAnyH_take (i := 23) (v := ?vz19_23) rfl (by kernel_rfl) (by kernel_rfl) (by kernel_rfl) (fun _ _ _ h => h) (Or.inl ⟨by rfl, ?hyz19_23⟩) (by assumption) ?restz19_23
                case hyz19_23 => (intro w hSw; (try dsimp only at hSw); go_simp; (try simp only [if_pos hb0, if_pos hb1, if_pos hb2, if_pos hb3, if_pos hb4, hbi1, hbi2, hbi3, hbi4, if_true]); try (with_reducible rfl))
                simp only [Act.put, List.getElem_toArray, List.getElem_cons_succ, List.getElem_cons_zero, List.setIfInBounds_toArray, List.set_cons_zero, List.set_cons_succ]
                refine wpAnyH_ready (rs := [24]) (by kernel_rfl) (by simp) ?_
                refine AllReadyH.cons rfl (fun K hK => ?_) AllReadyH.nil
                go_simp
                have hzz := (hHeld.2.2.2.2.2).1.2.size
                have hgl := (hHeld.2.2.2.2.2).2.2
                have hwl := (hHeld.2.2.2.2.2).1.1.lt
                refine hK.out _ _ (pw_mk (hHeld.2.2.2.2.2.step ((Below.refl _ _).alloc (Nat.le_refl _) _))) (fun hHeld1 => ?_)
                clear hK K hHeld
                have hHeld := hHeld1
                clear hHeld1
                try simp only [Act.put, List.getElem_toArray, List.getElem_cons_succ, List.getElem_cons_zero, List.setIfInBounds_toArray, List.set_cons_zero, List.set_cons_succ]
                obtain ⟨Y, HYe⟩ : ∃ Y, Hid (V0.heap.size = Y) := ⟨_, Lib.hid rfl⟩
                obtain ⟨W2, HW⟩ : ∃ Wx, Hid (V0.alloc (.cells #[.int .i64 0, .int .i64 0, .int .i64 0, .int .i64 0, .int .i64 0, .bool false] 25) = Wx) := ⟨_, Lib.hid rfl⟩
                have HY := Lib.hid (show Blk W2 Y 25 #[.int .i64 0, .int .i64 0, .int .i64 0, .int .i64 0, .int .i64 0, .bool false] by rw [← HW.out, ← HYe.out]; exact Blk.new _ _ _)
                have hY0 : w.heap.size ≤ Y ∧ ¬ g = Y ∧ ¬ w.heap.size = Y := by rw [← HYe.out]; omega
                obtain ⟨hY0, hY1, hY2⟩ := hY0
                rw [HW.out] at hHeld
                rw [HW.out]
                rw [HYe.out]
                clear HW HYe hzz hgl hwl
                obtain ⟨z0, z1, z2, z3, z4, z5⟩ := (⟨HY.out.cell 0, HY.out.cell 1, HY.out.cell 2, HY.out.cell 3, HY.out.cell 4, HY.out.cell 5⟩ : W2.cell? ⟨Y, 0, none⟩ = some (.int .i64 0) ∧ W2.cell? ⟨Y, 1, none⟩ = some (.int .i64 0) ∧ W2.cell? ⟨Y, 2, none⟩ = some (.int .i64 0) ∧ W2.cell? ⟨Y, 3, none⟩ = some (.int .i64 0) ∧ W2.cell? ⟨Y, 4, none⟩ = some (.int .i64 0) ∧ W2.cell? ⟨Y, 5, none⟩ = some (.bool false))
                obtain ⟨k0, k1, k2, k3, k4, k5⟩ := (⟨HY.out.frozen 0, HY.out.frozen 1, HY.out.frozen 2, HY.out.frozen 3, HY.out.frozen 4, HY.out.frozen 5⟩ : W2.frozen? ⟨Y, 0, none⟩ = false ∧ W2.frozen? ⟨Y, 1, none⟩ = false ∧ W2.frozen? ⟨Y, 2, none⟩ = false ∧ W2.frozen? ⟨Y, 3, none⟩ = false ∧ W2.frozen? ⟨Y, 4, none⟩ = false ∧ W2.frozen? ⟨Y, 5, none⟩ = false)
                refine wpAnyH_ready (rs := [25]) (by kernel_rfl) (by simp) ?_
                refine AllReadyH.cons rfl (fun K hK => ?_) AllReadyH.nil
                go_simp
                refine hK.out _ _ (pw_mk (PW.put (hHeld.2.2.2.2.2) hY1 hY2 hY0 ⟨(d0 : Int), (d1 : Int), (d2 : Int), (d3 : Int), (d4 : Int), six⟩)) (fun hHeld1 => ?_)
                clear hK K hHeld
                have hHeld := hHeld1
                clear hHeld1
                try simp only [Act.put, List.getElem_toArray, List.getElem_cons_succ, List.getElem_cons_zero, List.setIfInBounds_toArray, List.set_cons_zero, List.set_cons_succ]
                have HZ := Lib.hid (show Blk ((((((W2.setCell ⟨Y, 0, none⟩ (.int .i64 (d0 : Int))).setCell ⟨Y, 1, none⟩ (.int .i64 (d1 : Int))).setCell ⟨Y, 2, none⟩ (.int .i64 (d2 : Int))).setCell ⟨Y, 3, none⟩ (.int .i64 (d3 : Int))).setCell ⟨Y, 4, none⟩ (.int .i64 (d4 : Int))).setCell ⟨Y, 5, none⟩ (.bool six)) Y 25 #[.int .i64 (d0 : Int), .int .i64 (d1 : Int), .int .i64 (d2 : Int), .int .i64 (d3 : Int), .int .i64 (d4 : Int), .bool six] from (((((HY.out.set_ 0 (.int .i64 (d0 : Int))).set_ 1 (.int .i64 (d1 : Int))).set_ 2 (.int .i64 (d2 : Int))).set_ 3 (.int .i64 (d3 : Int))).set_ 4 (.int .i64 (d4 : Int))).set_ 5 (.bool six))
                refine wpAnyH_done (by kernel_rfl) ?_ _
                have HP := Lib.hid (hHeld.2.2.2.2.2)
                clear hHeld z0 z1 z2 z3 z4 z5 k0 k1 k2 k3 k4 k5
                go_wp2_with fail
                go_meet
                case rel => exact ⟨Y, rfl, HZ.out, HP.out, hY0, hY1, hY2⟩
              · go_simp
                have hzz := (hHeld.2.2.2.2.2).1.2.size
                have hgl := (hHeld.2.2.2.2.2).2.2
                have hwl := (hHeld.2.2.2.2.2).1.1.lt
                refine hK.out _ _ (pw_mk (hHeld.2.2.2.2.2.step ((Below.refl _ _).alloc (Nat.le_refl _) _))) (fun hHeld1 => ?_)
                clear hK K hHeld
                have hHeld := hHeld1
                clear hHeld1
                try simp only [Act.put, List.getElem_toArray, List.getElem_cons_succ, List.getElem_cons_zero, List.setIfInBounds_toArray, List.set_cons_zero, List.set_cons_succ]
                obtain ⟨Y, HYe⟩ : ∃ Y, Hid (V0.heap.size = Y) := ⟨_, Lib.hid rfl⟩
                obtain ⟨W2, HW⟩ : ∃ Wx, Hid (V0.alloc (.cells #[.int .i64 0, .int .i64 0, .int .i64 0, .int .i64 0, .int .i64 0, .bool false] 25) = Wx) := ⟨_, Lib.hid rfl⟩
                have HY := Lib.hid (show Blk W2 Y 25 #[.int .i64 0, .int .i64 0, .int .i64 0, .int .i64 0, .int .i64 0, .bool false] by rw [← HW.out, ← HYe.out]; exact Blk.new _ _ _)
                have hY0 : w.heap.size ≤ Y ∧ ¬ g = Y ∧ ¬ w.heap.size = Y := by rw [← HYe.out]; omega
                obtain ⟨hY0, hY1, hY2⟩ := hY0
                rw [HW.out] at hHeld
                rw [HW.out]
                rw [HYe.out]
                clear HW HYe hzz hgl hwl
                refine wpAnyH_ready (rs := [19]) (by kernel_rfl) (by simp) ?_
                refine AllReadyH.cons rfl (fun K hK => ?_) AllReadyH.nil
                go_simp
                refine (dig_is u4 d4 HD4 _ (by omega)).mono ?_
                rintro e w' ⟨rfl, rfl⟩
                refine hK.out _ _ hHeld (fun hHeld1 => ?_)
                clear hK K hHeld
                have hHeld := hHeld1
                clear hHeld1
                try simp only [Act.put, List.getElem_toArray, List.getElem_cons_succ, List.getElem_cons_zero, List.setIfInBounds_toArray, List.set_cons_zero, List.set_cons_succ]
                refine' wpAnyH_take (i := 23) (v := ?vz20_23) rfl (by kernel_rfl) (by kernel_rfl) (by kernel_rfl) (fun _ _ _ h => h) (Or.inl ⟨by rfl, ?hyz20_23⟩) (by assumption) ?restz20_23
                case hyz20_23 => (intro w hSw; (try dsimp only at hSw); go_simp; (try simp only [if_pos hb0, if_pos hb1, if_pos hb2, if_pos hb3, if_pos hb4, hbi1, hbi2, hbi3, hbi4, if_true]); try (with_reducible rfl))
                simp only [Act.put, List.getElem_toArray, List.getElem_cons_succ, List.getElem_cons_zero, List.setIfInBounds_toArray, List.set_cons_zero, List.set_cons_succ]
                obtain ⟨z0, z1, z2, z3, z4, z5⟩ := (⟨HY.out.cell 0, HY.out.cell 1, HY.out.cell 2, HY.out.cell 3, HY.out.cell 4, HY.out.cell 5⟩ : W2.cell? ⟨Y, 0, none⟩ = some (.int .i64 0) ∧ W2.cell? ⟨Y, 1, none⟩ = some (.int .i64 0) ∧ W2.cell? ⟨Y, 2, none⟩ = some (.int .i64 0) ∧ W2.cell? ⟨Y, 3, none⟩ = some (.int .i64 0) ∧ W2.cell? ⟨Y, 4, none⟩ = some (.int .i64 0) ∧ W2.cell? ⟨Y, 5, none⟩ = some (.bool false))
                obtain ⟨k0, k1, k2, k3, k4, k5⟩ := (⟨HY.out.frozen 0, HY.out.frozen 1, HY.out.frozen 2, HY.out.frozen 3, HY.out.frozen 4, HY.out.frozen 5⟩ : W2.frozen? ⟨Y, 0, none⟩ = false ∧ W2.frozen? ⟨Y, 1, none⟩ = false ∧ W2.frozen? ⟨Y, 2, none⟩ = false ∧ W2.frozen? ⟨Y, 3, none⟩ = false ∧ W2.frozen? ⟨Y, 4, none⟩ = false ∧ W2.frozen? ⟨Y, 5, none⟩ = false)
                refine wpAnyH_ready (rs := [25]) (by kernel_rfl) (by simp) ?_
                refine AllReadyH.cons rfl (fun K hK => ?_) AllReadyH.nil
                go_simp
                refine hK.out _ _ (pw_mk (PW.put (hHeld.2.2.2.2.2) hY1 hY2 hY0 ⟨(d0 : Int), (d1 : Int), (d2 : Int), (d3 : Int), (d4 : Int), six⟩)) (fun hHeld1 => ?_)
                clear hK K hHeld
                have hHeld := hHeld1
                clear hHeld1
                try simp only [Act.put, List.getElem_toArray, List.getElem_cons_succ, List.getElem_cons_zero, List.setIfInBounds_toArray, List.set_cons_zero, List.set_cons_succ]
                have HZ := Lib.hid (show Blk ((((((W2.setCell ⟨Y, 0, none⟩ (.int .i64 (d0 : Int))).setCell ⟨Y, 1, none⟩ (.int .i64 (d1 : Int))).setCell ⟨Y, 2, none⟩ (.int .i64 (d2 : Int))).setCell ⟨Y, 3, none⟩ (.int .i64 (d3 : Int))).setCell ⟨Y, 4, none⟩ (.int .i64 (d4 : Int))).setCell ⟨Y, 5, none⟩ (.bool six)) Y 25 #[.int .i64 (d0 : Int), .int .i64 (d1 : Int), .int .i64 (d2 : Int), .int .i64 (d3 : Int), .int .i64 (d4 : Int), .bool six] from (((((HY.out.set_ 0 (.int .i64 (d0 : Int))).set_ 1 (.int .i64 (d1 : Int))).set_ 2 (.int .i64 (d2 : Int))).set_ 3 (.int .i64 (d3 : Int))).set_ 4 (.int .i64 (d4 : Int))).set_ 5 (.bool six))
                refine wpAnyH_done (by kernel_rfl) ?_ _
                have HP := Lib.hid (hHeld.2.2.2.2.2)
                clear hHeld z0 z1 z2 z3 z4 z5 k0 k1 k2 k3 k4 k5
                go_wp2_with fail
                go_meet
                case rel => exact ⟨Y, rfl, HZ.out, HP.out, hY0, hY1, hY2⟩
            · go_simp
              have hzz := (hHeld.2.2.2.2.2).1.2.size
              have hgl := (hHeld.2.2.2.2.2).2.2
              have hwl := (hHeld.2.2.2.2.2).1.1.lt
              refine hK.out _ _ (pw_mk (hHeld.2.2.2.2.2.step ((Below.refl _ _).alloc (Nat.le_refl _) _))) (fun hHeld1 => ?_)
              clear hK K hHeld
              have hHeld := hHeld1
              clear hHeld1
              try simp only [Act.put, List.getElem_toArray, List.getElem_cons_succ, List.getElem_cons_zero, List.setIfInBounds_toArray, List.set_cons_zero, List.set_cons_succ]
              obtain ⟨Y, HYe⟩ : ∃ Y, Hid (V0.heap.size = Y) := ⟨_, Lib.hid rfl⟩
              obtain ⟨W2, HW⟩ : ∃ Wx, Hid (V0.alloc (.cells #[.int .i64 0, .int .i64 0, .int .i64 0, .int .i64 0, .int .i64 0, .bool false] 25) = Wx) := ⟨_, Lib.hid rfl⟩
              have HY := Lib.hid (show Blk W2 Y 25 #[.int .i64 0, .int .i64 0, .int .i64 0, .int .i64 0, .int .i64 0, .bool false] by rw [← HW.out, ← HYe.out]; exact Blk.new _ _ _)
              have hY0 : w.heap.size ≤ Y ∧ ¬ g = Y ∧ ¬ w.heap.size = Y := by rw [← HYe.out]; omega
              obtain ⟨hY0, hY1, hY2⟩ := hY0
              rw [HW.out] at hHeld
              rw [HW.out]
              rw [HYe.out]
              clear HW HYe hzz hgl hwl
              refine wpAnyH_ready (rs := [15]) (by kernel_rfl) (by simp) ?_
              refine AllReadyH.cons rfl (fun K hK => ?_) AllReadyH.nil
              go_simp
              refine (dig_is u3 d3 HD3 _ (by omega)).mono ?_
              rintro e w' ⟨rfl, rfl⟩
              refine hK.out _ _ hHeld (fun hHeld1 => ?_)
              clear hK K hHeld
              have hHeld := hHeld1
              clear hHeld1
              try simp only [Act.put, List.getElem_toArray, List.getElem_cons_succ, List.getElem_cons_zero, List.setIfInBounds_toArray, List.set_cons_zero, List.set_cons_succ]
              refine wpAnyH_ready (rs := [19]) (by kernel_rfl) (by simp) ?_
              refine AllReadyH.cons rfl (fun K hK => ?_) AllReadyH.nil
              go_simp
              refine (dig_is u4 d4 HD4 _ (by omega)).mono ?_
              rintro e w' ⟨rfl, rfl⟩
              refine hK.out _ _ hHeld (fun hHeld1 => ?_)
              clear hK K hHeld
              have hHeld := hHeld1
              clear hHeld1
              try simp only [Act.put, List.getElem_toArray, List.getElem_cons_succ, List.getElem_cons_zero, List.setIfInBounds_toArray, List.set_cons_zero, List.set_cons_succ]
              refine' wpAnyH_take (i := 23) (v := ?vz21_23) rfl (by kernel_rfl) (by kernel_rfl) (by kernel_rfl) (fun _ _ _ h => h) (Or.inl ⟨by rfl, ?hyz21_23⟩) (by assumption) ?restz21_23
              case hyz21_23 => (intro w hSw; (try dsimp only at hSw); go_simp; (try simp only [if_pos hb0, if_pos hb1, if_pos hb2, if_pos hb3, if_pos hb4, hbi1, hbi2, hbi3, hbi4, if_true]); try (with_reducible rfl))
              simp only [Act.put, List.getElem_toArray, List.getElem_cons_succ, List.getElem_cons_zero, List.setIfInBounds_toArray, List.set_cons_zero, List.set_cons_succ]
              obtain ⟨z0, z1, z2, z3, z4, z5⟩ := (⟨HY.out.cell 0, HY.out.cell 1, HY.out.cell 2, HY.out.cell 3, HY.out.cell 4, HY.out.cell 5⟩ : W2.cell? ⟨Y, 0, none⟩ = some (.int .i64 0) ∧ W2.cell? ⟨Y, 1, none⟩ = some (.int .i64 0) ∧ W2.cell? ⟨Y, 2, none⟩ = some (.int .i64 0) ∧ W2.cell? ⟨Y, 3, none⟩ = some (.int .i64 0) ∧ W2.cell? ⟨Y, 4, none⟩ = some (.int .i64 0) ∧ W2.cell? ⟨Y, 5, none⟩ = some (.bool false))
              obtain ⟨k0, k1, k2, k3, k4, k5⟩ := (⟨HY.out.frozen 0, HY.out.frozen 1, HY.out.frozen 2, HY.out.frozen 3, HY.out.frozen 4, HY.out.frozen 5⟩ : W2.frozen? ⟨Y, 0, none⟩ = false ∧ W2.frozen? ⟨Y, 1, none⟩ = false ∧ W2.frozen? ⟨Y, 2, none⟩ = false ∧ W2.frozen? ⟨Y, 3, none⟩ = false ∧ W2.frozen? ⟨Y, 4, none⟩ = false ∧ W2.frozen? ⟨Y, 5, none⟩ = false)
              refine wpAnyH_ready (rs := [25]) (by kernel_rfl) (by simp) ?_
              refine AllReadyH.cons rfl (fun K hK => ?_) AllReadyH.nil
              go_simp
              refine hK.out _ _ (pw_mk (PW.put (hHeld.2.2.2.2.2) hY1 hY2 hY0 ⟨(d0 : Int), (d1 : Int), (d2 : Int), (d3 : Int), (d4 : Int), six⟩)) (fun hHeld1 => ?_)
              clear hK K hHeld
              have hHeld := hHeld1
              clear hHeld1
              try simp only [Act.put, List.getElem_toArray, List.getElem_cons_succ, List.getElem_cons_zero, List.setIfInBounds_toArray, List.set_cons_zero, List.set_cons_succ]
              have HZ := Lib.hid (show Blk ((((((W2.setCell ⟨Y, 0, none⟩ (.int .i64 (d0 : Int))).setCell ⟨Y, 1, none⟩ (.int .i64 (d1 : Int))).setCell ⟨Y, 2, none⟩ (.int .i64 (d2 : Int))).setCell ⟨Y, 3, none⟩ (.int .i64 (d3 : Int))).setCell ⟨Y, 4, none⟩ (.int .i64 (d4 : Int))).setCell ⟨Y, 5, none⟩ (.bool six)) Y 25 #[.int .i64 (d0 : Int), .int .i64 (d1 : Int), .int .i64 (d2 : Int), .int .i64 (d3 : Int), .int .i64 (d4 : Int), .bool six] from (((((HY.out.set_ 0 (.int .i64 (d0 : Int))).set_ 1 (.int .i64 (d1 : Int))).set_ 2 (.int .i64 (d2 : Int))).set_ 3 (.int .i64 (d3 : Int))).set_ 4 (.int .i64 (d4 : Int))).set_ 5 (.bool six))
              refine wpAnyH_done (by kernel_rfl) ?_ _
              have HP := Lib.hid (hHeld.2.2.2.2.2)
              clear hHeld z0 z1 z2 z3 z4 z5 k0 k1 k2 k3 k4 k5
              go_wp2_with fail
              go_meet
              case rel => exact ⟨Y, rfl, HZ.out, HP.out, hY0, hY1, hY2⟩
          · go_simp
            have hzz := (hHeld.2.2.2.2.2).1.2.size
            have hgl := (hHeld.2.2.2.2.2).2.2
            have hwl := (hHeld.2.2.2.2.2).1.1.lt
            refine hK.out _ _ (pw_mk (hHeld.2.2.2.2.2.step ((Below.refl _ _).alloc (Nat.le_refl _) _))) (fun hHeld1 => ?_)
            clear hK K hHeld
            have hHeld := hHeld1
            clear hHeld1
            try simp only [Act.put, List.getElem_toArray, List.getElem_cons_succ, List.getElem_cons_zero, List.setIfInBounds_toArray, List.set_cons_zero, List.set_cons_succ]
            obtain ⟨Y, HYe⟩ : ∃ Y, Hid (V0.heap.size = Y) := ⟨_, Lib.hid rfl⟩
            obtain ⟨W2, HW⟩ : ∃ Wx, Hid (V0.alloc (.cells #[.int .i64 0, .int .i64 0, .int .i64 0, .int .i64 0, .int .i64 0, .bool false] 25) = Wx) := ⟨_, Lib.hid rfl⟩
            have HY := Lib.hid (show Blk W2 Y 25 #[.int .i64 0, .int .i64 0, .int .i64 0, .int .i64 0, .int .i64 0, .bool false] by rw [← HW.out, ← HYe.out]; exact Blk.new _ _ _)
            have hY0 : w.heap.size ≤ Y ∧ ¬ g = Y ∧ ¬ w.heap.size = Y := by rw [← HYe.out]; omega
            obtain ⟨hY0, hY1, hY2⟩ := hY0
            rw [HW.out] at hHeld
            rw [HW.out]
            rw [HYe.out]
            clear HW HYe hzz hgl hwl
            refine wpAnyH_ready (rs := [11]) (by kernel_rfl) (by simp) ?_
            refine AllReadyH.cons rfl (fun K hK => ?_) AllReadyH.nil
            go_simp
            refine (dig_is u2 d2 HD2 _ (by omega)).mono ?_
            rintro e w' ⟨rfl, rfl⟩
            refine hK.out _ _ hHeld (fun hHeld1 => ?_)
            clear hK K hHeld
            have hHeld := hHeld1
            clear hHeld1
            try simp only [Act.put, List.getElem_toArray, List.getElem_cons_succ, List.getElem_cons_zero, List.setIfInBounds_toArray, List.set_cons_zero, List.set_cons_succ]
            refine wpAnyH_ready (rs := [15]) (by kernel_rfl) (by simp) ?_
            refine AllReadyH.cons rfl (fun K hK => ?_) AllReadyH.nil
            go_simp
            refine (dig_is u3 d3 HD3 _ (by omega)).mono ?_
            rintro e w' ⟨rfl, rfl⟩
            refine hK.out _ _ hHeld (fun hHeld1 => ?_)
            clear hK K hHeld
            have hHeld := hHeld1
            clear hHeld1
            try simp only [Act.put, List.getElem_toArray, List.getElem_cons_succ, List.getElem_cons_zero, List.setIfInBounds_toArray, List.set_cons_zero, List.set_cons_succ]
            refine wpAnyH_ready (rs := [19]) (by kernel_rfl) (by simp) ?_
            refine AllReadyH.cons rfl (fun K hK => ?_) AllReadyH.nil
            go_simp
            refine (dig_is u4 d4 HD4 _ (by omega)).mono ?_
            rintro e w' ⟨rfl, rfl⟩
            refine hK.out _ _ hHeld (fun hHeld1 => ?_)
            clear hK K hHeld
            have hHeld := hHeld1
            clear hHeld1
            try simp only [Act.put, List.getElem_toArray, List.getElem_cons_succ, List.getElem_cons_zero, List.setIfInBounds_toArray, List.set_cons_zero, List.set_cons_succ]
            refine' wpAnyH_take (i := 23) (v := ?vz22_23) rfl (by kernel_rfl) (by kernel_rfl) (by kernel_rfl) (fun _ _ _ h => h) (Or.inl ⟨by rfl, ?hyz22_23⟩) (by assumption) ?restz22_23
            case hyz22_23 => (intro w hSw; (try dsimp only at hSw); go_simp; (try simp only [if_pos hb0, if_pos hb1, if_pos hb2, if_pos hb3, if_pos hb4, hbi1, hbi2, hbi3, hbi4, if_true]); try (with_reducible rfl))
            simp only [Act.put, List.getElem_toArray, List.getElem_cons_succ, List.getElem_cons_zero, List.setIfInBounds_toArray, List.set_cons_zero, List.set_cons_succ]
            obtain ⟨z0, z1, z2, z3, z4, z5⟩ := (⟨HY.out.cell 0, HY.out.cell 1, HY.out.cell 2, HY.out.cell 3, HY.out.cell 4, HY.out.cell 5⟩ : W2.cell? ⟨Y, 0, none⟩ = some (.int .i64 0) ∧ W2.cell? ⟨Y, 1, none⟩ = some (.int .i64 0) ∧ W2.cell? ⟨Y, 2, none⟩ = some (.int .i64 0) ∧ W2.cell? ⟨Y, 3, none⟩ = some (.int .i64 0) ∧ W2.cell? ⟨Y, 4, none⟩ = some (.int .i64 0) ∧ W2.cell? ⟨Y, 5, none⟩ = some (.bool false))
            obtain ⟨k0, k1, k2, k3, k4, k5⟩ := (⟨HY.out.frozen 0, HY.out.frozen 1, HY.out.frozen 2, HY.out.frozen 3, HY.out.frozen 4, HY.out.frozen 5⟩ : W2.frozen? ⟨Y, 0, none⟩ = false ∧ W2.frozen? ⟨Y, 1, none⟩ = false ∧ W2.frozen? ⟨Y, 2, none⟩ = false ∧ W2.frozen? ⟨Y, 3, none⟩ = false ∧ W2.frozen? ⟨Y, 4, none⟩ = false ∧ W2.frozen? ⟨Y, 5, none⟩ = false)
            refine wpAnyH_ready (rs := [25]) (by kernel_rfl) (by simp) ?_
            refine AllReadyH.cons rfl (fun K hK => ?_) AllReadyH.nil
            go_simp
            refine hK.out _ _ (pw_mk (PW.put (hHeld.2.2.2.2.2) hY1 hY2 hY0 ⟨(d0 : Int), (d1 : Int), (d2 : Int), (d3 : Int), (d4 : Int), six⟩)) (fun hHeld1 => ?_)
            clear hK K hHeld
            have hHeld := hHeld1
            clear hHeld1
            try simp only [Act.put, List.getElem_toArray, List.getElem_cons_succ, List.getElem_cons_zero, List.setIfInBounds_toArray, List.set_cons_zero, List.set_cons_succ]
            have HZ := Lib.hid (show Blk ((((((W2.setCell ⟨Y, 0, none⟩ (.int .i64 (d0 : Int))).setCell ⟨Y, 1, none⟩ (.int .i64 (d1 : Int))).setCell ⟨Y, 2, none⟩ (.int .i64 (d2 : Int))).setCell ⟨Y, 3, none⟩ (.int .i64 (d3 : Int))).setCell ⟨Y, 4, none⟩ (.int .i64 (d4 : Int))).setCell ⟨Y, 5, none⟩ (.bool six)) Y 25 #[.int .i64 (d0 : Int), .int .i64 (d1 : Int), .int .i64 (d2 : Int), .int .i64 (d3 : Int), .int .i64 (d4 : Int), .bool six] from (((((HY.out.set_ 0 (.int .i64 (d0 : Int))).set_ 1 (.int .i64 (d1 : Int))).set_ 2 (.int .i64 (d2 : Int))).set_ 3 (.int .i64 (d3 : Int))).set_ 4 (.int .i64 (d4 : Int))).set_ 5 (.bool six))
            refine wpAnyH_done (by kernel_rfl) ?_ _
            have HP := Lib.hid (hHeld.2.2.2.2.2)
            clear hHeld z0 z1 z2 z3 z4 z5 k0 k1 k2 k3 k4 k5
            go_wp2_with fail
            go_meet
            case rel => exact ⟨Y, rfl, HZ.out, HP.out, hY0, hY1, hY2⟩
        · go_simp
          have hzz := (hHeld.2.2.2.2.2).1.2.size
          have hgl := (hHeld.2.2.2.2.2).2.2
          have hwl := (hHeld.2.2.2.2.2).1.1.lt
          refine hK.out _ _ (pw_mk (hHeld.2.2.2.2.2.step ((Below.refl _ _).alloc (Nat.le_refl _) _))) (fun hHeld1 => ?_)
          clear hK K hHeld
          have hHeld := hHeld1
          clear hHeld1
          try simp only [Act.put, List.getElem_toArray, List.getElem_cons_succ, List.getElem_cons_zero, List.setIfInBounds_toArray, List.set_cons_zero, List.set_cons_succ]
          obtain ⟨Y, HYe⟩ : ∃ Y, Hid (V0.heap.size = Y) := ⟨_, Lib.hid rfl⟩
          obtain ⟨W2, HW⟩ : ∃ Wx, Hid (V0.alloc (.cells #[.int .i64 0, .int .i64 0, .int .i64 0, .int .i64 0, .int .i64 0, .bool false] 25) = Wx) := ⟨_, Lib.hid rfl⟩
          have HY := Lib.hid (show Blk W2 Y 25 #[.int .i64 0, .int .i64 0, .int .i64 0, .int .i64 0, .int .i64 0, .bool false] by rw [← HW.out, ← HYe.out]; exact Blk.new _ _ _)
          have hY0 : w.heap.size ≤ Y ∧ ¬ g = Y ∧ ¬ w.heap.size = Y := by rw [← HYe.out]; omega
          obtain ⟨hY0, hY1, hY2⟩ := hY0
          rw [HW.out] at hHeld
          rw [HW.out]
          rw [HYe.out]
          clear HW HYe hzz hgl hwl
          refine wpAnyH_ready (rs := [7]) (by kernel_rfl) (by simp) ?_
          refine AllReadyH.cons rfl (fun K hK => ?_) AllReadyH.nil
          go_simp
          refine (dig_is u1 d1 HD1 _ (by omega)).mono ?_
          rintro e w' ⟨rfl, rfl⟩
          refine hK.out _ _ hHeld (fun hHeld1 => ?_)
          clear hK K hHeld
          have hHeld := hHeld1
          clear hHeld1
          try simp only [Act.put, List.getElem_toArray, List.getElem_cons_succ, List.getElem_cons_zero, List.setIfInBounds_toArray, List.set_cons_zero, List.set_cons_succ]
          refine wpAnyH_ready (rs := [11]) (by kernel_rfl) (by simp) ?_
          refine AllReadyH.cons rfl (fun K hK => ?_) AllReadyH.nil
          go_simp
          refine (dig_is u2 d2 HD2 _ (by omega)).mono ?_
          rintro e w' ⟨rfl, rfl⟩
          refine hK.out _ _ hHeld (fun hHeld1 => ?_)
          clear hK K hHeld
          have hHeld := hHeld1
          clear hHeld1
          try simp only [Act.put, List.getElem_toArray, List.getElem_cons_succ, List.getElem_cons_zero, List.setIfInBounds_toArray, List.set_cons_zero, List.set_cons_succ]
          refine wpAnyH_ready (rs := [15]) (by kernel_rfl) (by simp) ?_
          refine AllReadyH.cons rfl (fun K hK => ?_) AllReadyH.nil
          go_simp
          refine (dig_is u3 d3 HD3 _ (by omega)).mono ?_
          rintro e w' ⟨rfl, rfl⟩
          refine hK.out _ _ hHeld (fun hHeld1 => ?_)
          clear hK K hHeld
          have hHeld := hHeld1
          clear hHeld1
          try simp only [Act.put, List.getElem_toArray, List.getElem_cons_succ, List.getElem_cons_zero, List.setIfInBounds_toArray, List.set_cons_zero, List.set_cons_succ]
          refine wpAnyH_ready (rs := [19]) (by kernel_rfl) (by simp) ?_
          refine AllReadyH.cons rfl (fun K hK => ?_) AllReadyH.nil
          go_simp
          refine (dig_is u4 d4 HD4 _ (by omega)).mono ?_
          rintro e w' ⟨rfl, rfl⟩
          refine hK.out _ _ hHeld (fun hHeld1 => ?_)
          clear hK K hHeld
          have hHeld := hHeld1
          clear hHeld1
          try simp only [Act.put, List.getElem_toArray, List.getElem_cons_succ, List.getElem_cons_zero, List.setIfInBounds_toArray, List.set_cons_zero, List.set_cons_succ]
          refine' wpAnyH_take (i := 23) (v := ?vz23_23) rfl (by kernel_rfl) (by kernel_rfl) (by kernel_rfl) (fun _ _ _ h => h) (Or.inl ⟨by rfl, ?hyz23_23⟩) (by assumption) ?restz23_23
          case hyz23_23 => (intro w hSw; (try dsimp only at hSw); go_simp; (try simp only [if_pos hb0, if_pos hb1, if_pos hb2, if_pos hb3, if_pos hb4, hbi1, hbi2, hbi3, hbi4, if_true]); try (with_reducible rfl))
          simp only [Act.put, List.getElem_toArray, List.getElem_cons_succ, List.getElem_cons_zero, List.setIfInBounds_toArray, List.set_cons_zero, List.set_cons_succ]
          obtain ⟨z0, z1, z2, z3, z4, z5⟩ := (⟨HY.out.cell 0, HY.out.cell 1, HY.out.cell 2, HY.out.cell 3, HY.out.cell 4, HY.out.cell 5⟩ : W2.cell? ⟨Y, 0, none⟩ = some (.int .i64 0) ∧ W2.cell? ⟨Y, 1, none⟩ = some (.int .i64 0) ∧ W2.cell? ⟨Y, 2, none⟩ = some (.int .i64 0) ∧ W2.cell? ⟨Y, 3, none⟩ = some (.int .i64 0) ∧ W2.cell? ⟨Y, 4, none⟩ = some (.int .i64 0) ∧ W2.cell? ⟨Y, 5, none⟩ = some (.bool false))
          obtain ⟨k0, k1, k2, k3, k4, k5⟩ := (⟨HY.out.frozen 0, HY.out.frozen 1, HY.out.frozen 2, HY.out.frozen 3, HY.out.frozen 4, HY.out.frozen 5⟩ : W2.frozen? ⟨Y, 0, none⟩ = false ∧ W2.frozen? ⟨Y, 1, none⟩ = false ∧ W2.frozen? ⟨Y, 2, none⟩ = false ∧ W2.frozen? ⟨Y, 3, none⟩ = false ∧ W2.frozen? ⟨Y, 4, none⟩ = false ∧ W2.frozen? ⟨Y, 5, none⟩ = false)
          refine wpAnyH_ready (rs := [25]) (by kernel_rfl) (by simp) ?_
          refine AllReadyH.cons rfl (fun K hK => ?_) AllReadyH.nil
          go_simp
          refine hK.out _ _ (pw_mk (PW.put (hHeld.2.2.2.2.2) hY1 hY2 hY0 ⟨(d0 : Int), (d1 : Int), (d2 : Int), (d3 : Int), (d4 : Int), six⟩)) (fun hHeld1 => ?_)
          clear hK K hHeld
          have hHeld := hHeld1
          clear hHeld1
          try simp only [Act.put, List.getElem_toArray, List.getElem_cons_succ, List.getElem_cons_zero, List.setIfInBounds_toArray, List.set_cons_zero, List.set_cons_succ]
          have HZ := Lib.hid (show Blk ((((((W2.setCell ⟨Y, 0, none⟩ (.int .i64 (d0 : Int))).setCell ⟨Y, 1, none⟩ (.int .i64 (d1 : Int))).setCell ⟨Y, 2, none⟩ (.int .i64 (d2 : Int))).setCell ⟨Y, 3, none⟩ (.int .i64 (d3 : Int))).setCell ⟨Y, 4, none⟩ (.int .i64 (d4 : Int))).setCell ⟨Y, 5, none⟩ (.bool six)) Y 25 #[.int .i64 (d0 : Int), .int .i64 (d1 : Int), .int .i64 (d2 : Int), .int .i64 (d3 : Int), .int .i64 (d4 : Int), .bool six] from (((((HY.out.set_ 0 (.int .i64 (d0 : Int))).set_ 1 (.int .i64 (d1 : Int))).set_ 2 (.int .i64 (d2 : Int))).set_ 3 (.int .i64 (d3 : Int))).set_ 4 (.int .i64 (d4 : Int))).set_ 5 (.bool six))
          refine wpAnyH_done (by kernel_rfl) ?_ _
          have HP := Lib.hid (hHeld.2.2.2.2.2)
          clear hHeld z0 z1 z2 z3 z4 z5 k0 k1 k2 k3 k4 k5
          go_wp2_with fail
          go_meet
          case rel => exact ⟨Y, rfl, HZ.out, HP.out, hY0, hY1, hY2⟩
      · go_simp
        have hzz := (hHeld.2.2.2.2.2).1.2.size
        have hgl := (hHeld.2.2.2.2.2).2.2
        have hwl := (hHeld.2.2.2.2.2).1.1.lt
        refine hK.out _ _ (pw_mk (hHeld.2.2.2.2.2.step ((Below.refl _ _).alloc (Nat.le_refl _) _))) (fun hHeld1 => ?_)
        clear hK K hHeld
        have hHeld := hHeld1
        clear hHeld1
        try simp only [Act.put, List.getElem_toArray, List.getElem_cons_succ, List.getElem_cons_zero, List.setIfInBounds_toArray, List.set_cons_zero, List.set_cons_succ]
        obtain ⟨Y, HYe⟩ : ∃ Y, Hid (V0.heap.size = Y) := ⟨_, Lib.hid rfl⟩
        obtain ⟨W2, HW⟩ : ∃ Wx, Hid (V0.alloc (.cells #[.int .i64 0, .int .i64 0, .int .i64 0, .int .i64 0, .int .i64 0, .bool false] 25) = Wx) := ⟨_, Lib.hid rfl⟩
        have HY := Lib.hid (show Blk W2 Y 25 #[.int .i64 0, .int .i64 0, .int .i64 0, .int .i64 0, .int .i64 0, .bool false] by rw [← HW.out, ← HYe.out]; exact Blk.new _ _ _)
        have hY0 : w.heap.size ≤ Y ∧ ¬ g = Y ∧ ¬ w.heap.size = Y := by rw [← HYe.out]; omega
        obtain ⟨hY0, hY1, hY2⟩ := hY0
        rw [HW.out] at hHeld
        rw [HW.out]
        rw [HYe.out]
        clear HW HYe hzz hgl hwl
        refine wpAnyH_ready (rs := [3]) (by kernel_rfl) (by simp) ?_
        refine AllReadyH.cons rfl (fun K hK => ?_) AllReadyH.nil
        go_simp
        refine (dig_is u0 d0 HD0 _ (by omega)).mono ?_
        rintro e w' ⟨rfl, rfl⟩
        refine hK.out _ _ hHeld (fun hHeld1 => ?_)
        clear hK K hHeld
        have hHeld := hHeld1
        clear hHeld1
        try simp only [Act.put, List.getElem_toArray, List.getElem_cons_succ, List.getElem_cons_zero, List.setIfInBounds_toArray, List.set_cons_zero, List.set_cons_succ]
        refine wpAnyH_ready (rs := [7]) (by kernel_rfl) (by simp) ?_
        refine AllReadyH.cons rfl (fun K hK => ?_) AllReadyH.nil
        go_simp
        refine (dig_is u1 d1 HD1 _ (by omega)).mono ?_
        rintro e w' ⟨rfl, rfl⟩
        refine hK.out _ _ hHeld (fun hHeld1 => ?_)
        clear hK K hHeld
        have hHeld := hHeld1
        clear hHeld1
        try simp only [Act.put, List.getElem_toArray, List.getElem_cons_succ, List.getElem_cons_zero, List.setIfInBounds_toArray, List.set_cons_zero, List.set_cons_succ]
        refine wpAnyH_ready (rs := [11]) (by kernel_rfl) (by simp) ?_
        refine AllReadyH.cons rfl (fun K hK => ?_) AllReadyH.nil
        go_simp
        refine (dig_is u2 d2 HD2 _ (by omega)).mono ?_
        rintro e w' ⟨rfl, rfl⟩
        refine hK.out _ _ hHeld (fun hHeld1 => ?_)
        clear hK K hHeld
        have hHeld := hHeld1
        clear hHeld1
        try simp only [Act.put, List.getElem_toArray, List.getElem_cons_succ, List.getElem_cons_zero, List.setIfInBounds_toArray, List.set_cons_zero, List.set_cons_succ]
        refine wpAnyH_ready (rs := [15]) (by kernel_rfl) (by simp) ?_
        refine AllReadyH.cons rfl (fun K hK => ?_) AllReadyH.nil
        go_simp
        refine (dig_is u3 d3 HD3 _ (by omega)).mono ?_
        rintro e w' ⟨rfl, rfl⟩
        refine hK.out _ _ hHeld (fun hHeld1 => ?_)
        clear hK K hHeld
        have hHeld := hHeld1
        clear hHeld1
        try simp only [Act.put, List.getElem_toArray, List.getElem_cons_succ, List.getElem_cons_zero, List.setIfInBounds_toArray, List.set_cons_zero, List.set_cons_succ]
        refine wpAnyH_ready (rs := [19]) (by kernel_rfl) (by simp) ?_
        refine AllReadyH.cons rfl (fun K hK => ?_) AllReadyH.nil
        go_simp
        refine (dig_is u4 d4 HD4 _ (by omega)).mono ?_
        rintro e w' ⟨rfl, rfl⟩
        refine hK.out _ _ hHeld (fun hHeld1 => ?_)
        clear hK K hHeld
        have hHeld := hHeld1
        clear hHeld1
        try simp only [Act.put, List.getElem_toArray, List.getElem_cons_succ, List.getElem_cons_zero, List.setIfInBounds_toArray, List.set_cons_zero, List.set_cons_succ]
        refine' wpAnyH_take (i := 23) (v := ?vz24_23) rfl (by kernel_rfl) (by kernel_rfl) (by kernel_rfl) (fun _ _ _ h => h) (Or.inl ⟨by rfl, ?hyz24_23⟩) (by assumption) ?restz24_23
        case hyz24_23 => (intro w hSw; (try dsimp only at hSw); go_simp; (try simp only [if_pos hb0, if_pos hb1, if_pos hb2, if_pos hb3, if_pos hb4, hbi1, hbi2, hbi3, hbi4, if_true]); try (with_reducible rfl))
        simp only [Act.put, List.getElem_toArray, List.getElem_cons_succ, List.getElem_cons_zero, List.setIfInBounds_toArray, List.set_cons_zero, List.set_cons_succ]
        obtain ⟨z0, z1, z2, z3, z4, z5⟩ := (⟨HY.out.cell 0, HY.out.cell 1, HY.out.cell 2, HY.out.cell 3, HY.out.cell 4, HY.out.cell 5⟩ : W2.cell? ⟨Y, 0, none⟩ = some (.int .i64 0) ∧ W2.cell? ⟨Y, 1, none⟩ = some (.int .i64 0) ∧ W2.cell? ⟨Y, 2, none⟩ = some (.int .i64 0) ∧ W2.cell? ⟨Y, 3, none⟩ = some (.int .i64 0) ∧ W2.cell? ⟨Y, 4, none⟩ = some (.int .i64 0) ∧ W2.cell? ⟨Y, 5, none⟩ = some (.bool false))
        obtain ⟨k0, k1, k2, k3, k4, k5⟩ := (⟨HY.out.frozen 0, HY.out.frozen 1, HY.out.frozen 2, HY.out.frozen 3, HY.out.frozen 4, HY.out.frozen 5⟩ : W2.frozen? ⟨Y, 0, none⟩ = false ∧ W2.frozen? ⟨Y, 1, none⟩ = false ∧ W2.frozen? ⟨Y, 2, none⟩ = false ∧ W2.frozen? ⟨Y, 3, none⟩ = false ∧ W2.frozen? ⟨Y, 4, none⟩ = false ∧ W2.frozen? ⟨Y, 5, none⟩ = false)
        refine wpAnyH_ready (rs := [25]) (by kernel_rfl) (by simp) ?_
        refine AllReadyH.cons rfl (fun K hK => ?_) AllReadyH.nil
        go_simp
        refine hK.out _ _ (pw_mk (PW.put (hHeld.2.2.2.2.2) hY1 hY2 hY0 ⟨(d0 : Int), (d1 : Int), (d2 : Int), (d3 : Int), (d4 : Int), six⟩)) (fun hHeld1 => ?_)
        clear hK K hHeld
        have hHeld := hHeld1
        clear hHeld1
        try simp only [Act.put, List.getElem_toArray, List.getElem_cons_succ, List.getElem_cons_zero, List.setIfInBounds_toArray, List.set_cons_zero, List.set_cons_succ]
        have HZ := Lib.hid (show Blk ((((((W2.setCell ⟨Y, 0, none⟩ (.int .i64 (d0 : Int))).setCell ⟨Y, 1, none⟩ (.int .i64 (d1 : Int))).setCell ⟨Y, 2, none⟩ (.int .i64 (d2 : Int))).setCell ⟨Y, 3, none⟩ (.int .i64 (d3 : Int))).setCell ⟨Y, 4, none⟩ (.int .i64 (d4 : Int))).setCell ⟨Y, 5, none⟩ (.bool six)) Y 25 #[.int .i64 (d0 : Int), .int .i64 (d1 : Int), .int .i64 (d2 : Int), .int .i64 (d3 : Int), .int .i64 (d4 : Int), .bool six] from (((((HY.out.set_ 0 (.int .i64 (d0 : Int))).set_ 1 (.int .i64 (d1 : Int))).set_ 2 (.int .i64 (d2 : Int))).set_ 3 (.int .i64 (d3 : Int))).set_ 4 (.int .i64 (d4 : Int))).set_ 5 (.bool six))
        refine wpAnyH_done (by kernel_rfl) ?_ _
        have HP := Lib.hid (hHeld.2.2.2.2.2)
        clear hHeld z0 z1 z2 z3 z4 z5 k0 k1 k2 k3 k4 k5
        go_wp2_with fail
        go_meet
        case rel => exact ⟨Y, rfl, HZ.out, HP.out, hY0, hY1, hY2⟩
  case rest =>
      obtain ⟨Y, rfl, hy, hp, hY0, hY1, hY2⟩ := hcut
      have HY := Lib.hid hy
      have HP := Lib.hid hp
      clear hy hp HPW q6 q6i
      have HYL := HY.out.lt
      obtain ⟨x0, x1, x2, x3, x4, x5⟩ := (⟨HY.out.cell 0, HY.out.cell 1, HY.out.cell 2, HY.out.cell 3, HY.out.cell 4, HY.out.cell 5⟩ : wc.cell? ⟨Y, 0, none⟩ = some (.int .i64 (d0 : Int)) ∧ wc.cell? ⟨Y, 1, none⟩ = some (.int .i64 (d1 : Int)) ∧ wc.cell? ⟨Y, 2, none⟩ = some (.int .i64 (d2 : Int)) ∧ wc.cell? ⟨Y, 3, none⟩ = some (.int .i64 (d3 : Int)) ∧ wc.cell? ⟨Y, 4, none⟩ = some (.int .i64 (d4 : Int)) ∧ wc.cell? ⟨Y, 5, none⟩ = some (.bool six))
      have xf := HY.out.frozen 4
      have cw4 := HP.out.2.1 4 u4 rfl
      have hgl2 := HP.out.2.2
      obtain ⟨X, HX⟩ : ∃ X : En, Hid ((⟨d0, d1, d2, d3, if ng = true then -(d4 : Int) else d4, six⟩ : En) = X) := ⟨_, Lib.hid rfl⟩
      have HXS := Lib.hid (show (if ng = true then -(d4 : Int) else (d4 : Int)) = X.slope by rw [← HX.out])
      have HXV := Lib.hid (show X.frm = (d0 : Int) ∧ X.to_ = (d1 : Int) ∧ X.tape = (d2 : Int) ∧ X.comp = (d3 : Int) ∧ X.back = six by rw [← HX.out]; exact ⟨rfl, rfl, rfl, rfl, rfl⟩)
      have HT := Lib.hid (show ∀ y, IsET s y → X = y from fun y hy => by rw [← HX.out]; exact HRD.out y hy)
      have HXE := Lib.hid (show ∀ b : Bool, ng = b → (#[.int .i64 X.frm, .int .i64 X.to_, .int .i64 X.tape, .int .i64 X.comp, .int .i64 X.slope, .bool X.back] : Array Value) = #[.int .i64 (d0 : Int), .int .i64 (d1 : Int), .int .i64 (d2 : Int), .int .i64 (d3 : Int), .int .i64 (if b = true then -(d4 : Int) else (d4 : Int)), .bool six] from fun b e => by rw [← e, ← HX.out])
      clear HXS HXV HRD
      go_upto_region 5 with fail
      go_cut [57] (fun v wx => v = .bool ng ∧ Blk wx Y 25 #[.int .i64 (d0 : Int), .int .i64 (d1 : Int), .int .i64 (d2 : Int), .int .i64 (d3 : Int), .int .i64 (d4 : Int), .bool six] ∧ PW w g (u0 :: u1 :: u2 :: u3 :: u4 :: r) wx)
      case first =>
        by_cases h0 : 0 < u4.size
        · have h0i : (0 : Int) < (u4.size : Int) := by omega
          by_cases hb : u4[0].toNat = 45
          · have hng : ng = true := by rw [← HNG.out, minus_at h0]; simpa using hb
            have HNT := Lib.hid hng
            have q1 : (u4[0].toNat == 45) = true := by simpa using hb
            have q2 : ((u4[0].toNat : Int) == 45) = true := by rw [beq_iff_eq]; omega
            clear hng
            go_wp2_with fail
            go_meet
            case rel => exact ⟨by rw [HNT.out], HY.out, HP.out⟩
          · have hng : ng = false := by rw [← HNG.out, minus_at h0]; simpa using hb
            have HNT := Lib.hid hng
            have q1 : (u4[0].toNat == 45) = false := by simpa using hb
            have q2 : ((u4[0].toNat : Int) == 45) = false := by rw [beq_eq_false_iff_ne]; intro c; exact hb (by omega)
            clear hng
            go_wp2_with fail
            go_meet
            case rel => exact ⟨by rw [HNT.out], HY.out, HP.out⟩
        · have h0i : decide ((0 : Int) < (u4.size : Int)) = false := by rw [decide_eq_false_iff_not]; omega
          have h0d : decide (0 < u4.size) = false := by simpa using h0
          have hng : ng = false := by rw [← HNG.out]; exact minus_none h0
          have HNT := Lib.hid hng
          clear hng
          go_wp2_with fail
          go_meet
          case rel => exact ⟨by rw [HNT.out], HY.out, HP.out⟩
      case rest =>
        clear HY HP x0 x1 x2 x3 x4 x5 xf cw4 hgl2 HYL
        obtain ⟨rfl, hy, hp⟩ := hcut
        have HY := Lib.hid hy
        have HP := Lib.hid hp
        clear hy hp
        have hyl := HY.out.lt
        obtain ⟨x0, x1, x2, x3, x4, x5⟩ := (⟨HY.out.cell 0, HY.out.cell 1, HY.out.cell 2, HY.out.cell 3, HY.out.cell 4, HY.out.cell 5⟩ : wc.cell? ⟨Y, 0, none⟩ = some (.int .i64 (d0 : Int)) ∧ wc.cell? ⟨Y, 1, none⟩ = some (.int .i64 (d1 : Int)) ∧ wc.cell? ⟨Y, 2, none⟩ = some (.int .i64 (d2 : Int)) ∧ wc.cell? ⟨Y, 3, none⟩ = some (.int .i64 (d3 : Int)) ∧ wc.cell? ⟨Y, 4, none⟩ = some (.int .i64 (d4 : Int)) ∧ wc.cell? ⟨Y, 5, none⟩ = some (.bool six))
        have xf := HY.out.frozen 4
        go_upto_if 57 with fail
        go_cut [58] (fun _ wx => Blk wx Y 25 #[.int .i64 X.frm, .int .i64 X.to_, .int .i64 X.tape, .int .i64 X.comp, .int .i64 X.slope, .bool X.back] ∧ PW w g (u0 :: u1 :: u2 :: u3 :: u4 :: r) wx)
        case first =>
          cases ng
          · have HR1 := Lib.hid (show Blk wc Y 25 #[.int .i64 X.frm, .int .i64 X.to_, .int .i64 X.tape, .int .i64 X.comp, .int .i64 X.slope, .bool X.back] by rw [HXE.out false rfl]; exact HY.out)
            go_wp2_with fail
            go_meet
            case rel => exact ⟨HR1.out, HP.out⟩
          · have HR1 := Lib.hid (show Blk (wc.setCell ⟨Y, 4, none⟩ (.int .i64 (-(d4 : Int)))) Y 25 #[.int .i64 X.frm, .int .i64 X.to_, .int .i64 X.tape, .int .i64 X.comp, .int .i64 X.slope, .bool X.back] by rw [HXE.out true rfl]; exact HY.out.set_ 4 _)
            have HR2 := Lib.hid (PW.put1 HP.out hY1 hY2 hY0 4 (.int .i64 (-(d4 : Int))))
            go_wp2_with fail
            go_meet
            case rel => exact ⟨HR1.out, HR2.out⟩
        case rest =>
        clear HY HP x0 x1 x2 x3 x4 x5 xf hyl HXE HX HD0 HD1 HD2 HD3 HD4 HNG HSIX
        obtain ⟨hy, hp⟩ := hcut
        have HY := Lib.hid hy
        have HP := Lib.hid hp
        clear hy hp
        have hyl := HY.out.lt
        obtain ⟨x0, x1, x2, x3, x4, x5⟩ := (⟨HY.out.cell 0, HY.out.cell 1, HY.out.cell 2, HY.out.cell 3, HY.out.cell 4, HY.out.cell 5⟩ : wc.cell? ⟨Y, 0, none⟩ = some (.int .i64 X.frm) ∧ wc.cell? ⟨Y, 1, none⟩ = some (.int .i64 X.to_) ∧ wc.cell? ⟨Y, 2, none⟩ = some (.int .i64 X.tape) ∧ wc.cell? ⟨Y, 3, none⟩ = some (.int .i64 X.comp) ∧ wc.cell? ⟨Y, 4, none⟩ = some (.int .i64 X.slope) ∧ wc.cell? ⟨Y, 5, none⟩ = some (.bool X.back))
        cases hok : okEn X
        · have HOK := Lib.hid hok
          clear hok
          go_wp2_with fail
          refine (one_is X false HOK _).mono ?_
          rintro e x6 ⟨rfl, bb⟩
          have HB6 := Lib.hid (HP.out.1.step bb)
          clear bb x0 x1 x2 x3 x4 x5 hyl
          have HNO := Lib.hid (pt_no hr.out (fun y hy => by have e := HT.out y hy; have k := hy.1; rw [← e, HOK.out] at k; cases k))
          obtain ⟨z0, z1, z2, z3, z4, z5, f0, f1, f2, f3, f4, f5, hz⟩ := HB6.out.zs
          go_wp2_with fail
          refine bodyPost_ret (v := .tuple #[.agg #[.int .i64 0, .int .i64 0, .int .i64 0, .int .i64 0, .int .i64 0, .bool false], .bool false]) (by simp [results, Tryz.results35, go_sem, *]) rfl ⟨by rw [HNO.out]; rfl, ?_⟩
          exact HB6.out.put _ _ _ _ _ _
        · have HOK := Lib.hid hok
          obtain ⟨lt, HLT⟩ : ∃ q, Hid (etx X = q) := ⟨_, Lib.hid rfl⟩
          clear hok
          go_wp2_with fail
          refine (one_is X true HOK _).mono ?_
          rintro e x6 ⟨rfl, bb⟩
          have HB6 := Lib.hid (HP.out.1.step bb)
          have HY6 := Lib.hid (HY.out.below bb HY.out.lt)
          clear bb x0 x1 x2 x3 x4 x5 hyl HY HP
          have hyl := HY6.out.lt
          obtain ⟨x0, x1, x2, x3, x4, x5⟩ := (⟨HY6.out.cell 0, HY6.out.cell 1, HY6.out.cell 2, HY6.out.cell 3, HY6.out.cell 4, HY6.out.cell 5⟩ : x6.cell? ⟨Y, 0, none⟩ = some (.int .i64 X.frm) ∧ x6.cell? ⟨Y, 1, none⟩ = some (.int .i64 X.to_) ∧ x6.cell? ⟨Y, 2, none⟩ = some (.int .i64 X.tape) ∧ x6.cell? ⟨Y, 3, none⟩ = some (.int .i64 X.comp) ∧ x6.cell? ⟨Y, 4, none⟩ = some (.int .i64 X.slope) ∧ x6.cell? ⟨Y, 5, none⟩ = some (.bool X.back))
          go_wp2_with fail
          refine (l7Line_is X lt HLT _ HOK).mono ?_
          rintro e x7 ⟨rfl, bb⟩
          have HB7 := Lib.hid (HB6.out.step bb)
          have HY7 := Lib.hid (HY6.out.below bb HY6.out.lt)
          clear bb x0 x1 x2 x3 x4 x5 hyl HY6 HB6
          by_cases hq : lt = s
          · have k1 : (lt.toList == s.toList) = true := by rw [hq]; simp
            have k2 : (lt.toList != s.toList) = false := by rw [hq]; simp
            have HYES := Lib.hid (pt_yes hr.out (show IsET s X from ⟨HOK.out, by rw [HLT.out, hq]⟩))
            have hyl := HY7.out.lt
            obtain ⟨x0, x1, x2, x3, x4, x5⟩ := (⟨HY7.out.cell 0, HY7.out.cell 1, HY7.out.cell 2, HY7.out.cell 3, HY7.out.cell 4, HY7.out.cell 5⟩ : x7.cell? ⟨Y, 0, none⟩ = some (.int .i64 X.frm) ∧ x7.cell? ⟨Y, 1, none⟩ = some (.int .i64 X.to_) ∧ x7.cell? ⟨Y, 2, none⟩ = some (.int .i64 X.tape) ∧ x7.cell? ⟨Y, 3, none⟩ = some (.int .i64 X.comp) ∧ x7.cell? ⟨Y, 4, none⟩ = some (.int .i64 X.slope) ∧ x7.cell? ⟨Y, 5, none⟩ = some (.bool X.back))
            obtain ⟨z0, z1, z2, z3, z4, z5, f0, f1, f2, f3, f4, f5, hz⟩ := HB7.out.zs
            clear hq
            go_wp2_with fail
            refine bodyPost_ret (v := .tuple #[.agg #[.int .i64 X.frm, .int .i64 X.to_, .int .i64 X.tape, .int .i64 X.comp, .int .i64 X.slope, .bool X.back], .bool true]) (by simp [results, Tryz.results35, go_sem, *]) rfl ⟨by rw [HYES.out]; rfl, ?_⟩
            exact HB7.out.put _ _ _ _ _ _
          · have k1 : (lt.toList == s.toList) = false := by
              rw [ByteArray.toList_eq, ByteArray.toList_eq]
              simpa using fun c => hq (ByteArray.ext (Array.toList_inj.1 c))
            have k2 : (lt.toList != s.toList) = true := by unfold bne; rw [k1]; rfl
            have HNQ := Lib.hid hq
            clear hq
            have HNO := Lib.hid (pt_no hr.out (fun y hy => by have e := HT.out y hy; have k := hy.2; rw [← e, HLT.out] at k; exact HNQ.out k))
            obtain ⟨z0, z1, z2, z3, z4, z5, f0, f1, f2, f3, f4, f5, hz⟩ := HB7.out.zs
            go_wp2_with fail
            refine bodyPost_ret (v := .tuple #[.agg #[.int .i64 0, .int .i64 0, .int .i64 0, .int .i64 0, .int .i64 0, .bool false], .bool false]) (by simp [results, Tryz.results35, go_sem, *]) rfl ⟨by rw [HNO.out]; rfl, ?_⟩
            exact HB7.out.put _ _ _ _ _ _
end Go.Proofs.YtnlljdepcldibaaGreatDoor.ent
