/-
  FnChains: the law's walk.
  Conditions: the code has at most 65536 bytes; the variable holds the table of the sines.
-/
import Derived.Test.YtpacgdjbclogoaaDoorLgS
import Derived.Test.YtpacgdjbclogoaaDoorDrC
import Derived.Test.YtpacgdjbclogoaaDoorVs
import Derived.Deep.DeepCutAuto
namespace Go.Proofs.YtpacgdjbclogoaaDoor.lgv
open Go.RowKit
open reads base ty win lg lgi lgo lgs rowi drl
set_option linter.unusedVariables false
set_option linter.unusedSimpArgs false

def LawPost (w : World) (e : Ending) (w' : World) : Prop := e = .returned (.bool true) ∧ Below w.heap.size w w'
/-- what is live all along: the code, the table, and nothing old has turned -/
def St (w : World) (A : Option Addr) (n : Nat) (zs : List UInt8) (v : World) : Prop := Below w.heap.size w v ∧ curs.Code v A n zs ∧ Tab v
theorem St.step {w v v' : World} {A : Option Addr} {n : Nat} {zs : List UInt8} (h : St w A n zs v) (hb : Below v.heap.size v v') : St w A n zs v' := ⟨h.1.trans (hb.mono h.1.size), h.2.1.below hb, h.2.2.below hb⟩
theorem St.alloc {w v : World} {A : Option Addr} {n : Nat} {zs : List UInt8} (h : St w A n zs v) (o : Obj) : St w A n zs (v.alloc o) := h.step ((Below.refl _ _).alloc (Nat.le_refl _) o)
theorem chain_form (ts : List Lg) : ∃ (s : Sf) (ok : Bool), ansChain ts = .tuple #[.agg #[.int .i64 s.east, .int .i64 s.north, .int .i64 s.up], .bool ok] ∧ (ok = true → chOk ts = true ∧ s = ssum ts ts.length) := by
  unfold ansChain
  by_cases h : chOk ts = true
  · rw [if_pos h]; exact ⟨ssum ts ts.length, true, rfl, fun _ => ⟨h, rfl⟩⟩
  · rw [if_neg h]; exact ⟨⟨0, 0, 0⟩, false, rfl, fun h => by cases h⟩
theorem len_form (ts : List Lg) : ∃ (z : Int) (ok : Bool), ansLen ts = .tuple #[.int .i64 z, .bool ok] ∧ (ok = true → goodLg ts = true ∧ z = tsum ts) := by
  unfold ansLen
  by_cases h : goodLg ts = true
  · rw [if_pos h]; exact ⟨tsum ts, true, rfl, fun _ => ⟨h, rfl⟩⟩
  · rw [if_neg h]; exact ⟨0, false, rfl, fun h => by cases h⟩
theorem own_cap {w : World} {base size n c : Nat} {e : TypeId} {A : Option Addr} {xs : List Value} (h : w.ownsRow base e size (.slice A n c) n xs) : n ≤ c := by
  rcases h.2 with ⟨e1, e2⟩ | ⟨g, cp, cur, e1, _, _, h2, _⟩
  · injection e1 with _ e1 e3; omega
  · injection e1 with _ e1 e3; subst e3; exact h2
set_option maxHeartbeats 8000000 in
set_option maxRecDepth 100000 in
theorem walk (A : Option Addr) (n cap : Nat) (zs : List UInt8) (w : World) (hn : n ≤ 65536) (hS : Hid (St w A n zs w)) :
    Calls Tryd.prog 5 #[.slice A n cap] w (LawPost w) := by
  have HB := Lib.hid (vs.big_no A n cap w hn)
  clear hn
  go_enter Tryd.func5, Tryd.ntmps5
  go_wp2_with fail
  refine HB.out.mono ?_
  rintro e w' ⟨rfl, rfl⟩
  clear HB
  go_wp2_with fail
  refine (chain_draw A n cap zs _ (Lib.hid hS.out.2.1)).mono ?_
  rintro e w1 ⟨v, ts, rfl, hO, hl, b⟩
  obtain ⟨L, hL⟩ : ∃ L, ts.length = L := ⟨_, rfl⟩
  rw [hL] at hO hl
  obtain ⟨LA, lc, rfl⟩ := row_slice hO
  have hcap := own_cap hO
  have HS1 := Lib.hid (hS.out.step b)
  have HO := Lib.hid hO
  have HLL := Lib.hid hL
  have HL1 := Lib.hid (own_Lg hL hO)
  clear b hO hL hS
  obtain ⟨s, ok, hF, hok⟩ := chain_form ts
  have HF := Lib.hid hF
  have HOK := Lib.hid hok
  clear hF hok
  go_wp2_with fail
  refine (chainShift_impl LA L lc ts _ (by omega) HL1 (Lib.hid HS1.out.2.2)).mono ?_
  rintro e w2 ⟨rfl, b⟩
  rw [HF.out]
  have HS2 := Lib.hid ((HS1.out.step b).alloc (.cells #[.int .i64 s.east, .int .i64 s.north, .int .i64 s.up] 25))
  have HL2 := Lib.hid ((HL1.out.step b).alloc (.cells #[.int .i64 s.east, .int .i64 s.north, .int .i64 s.up] 25))
  have HX2 := Lib.hid (Blk.new w2 25 #[.int .i64 s.east, .int .i64 s.north, .int .i64 s.up])
  clear b HS1 HO
  go_wp2_with fail
  obtain ⟨W2, HW2⟩ : ∃ W2, Hid (w2.alloc (.cells #[.int .i64 s.east, .int .i64 s.north, .int .i64 s.up] 25) = W2) := ⟨_, Lib.hid rfl⟩
  obtain ⟨X, HX⟩ : ∃ X, Hid (w2.heap.size = X) := ⟨_, Lib.hid rfl⟩
  rw [HW2.out, HX.out] at HX2
  rw [HW2.out] at HS2 HL2
  rw [HW2.out, HX.out]
  refine (chainShift_model LA L lc ts _ (by omega) HL2).mono ?_
  rintro e w3 ⟨rfl, b⟩
  rw [HF.out]
  have HS3 := Lib.hid ((HS2.out.step b).alloc (.cells #[.int .i64 s.east, .int .i64 s.north, .int .i64 s.up] 25))
  have HL3 := Lib.hid ((HL2.out.step b).alloc (.cells #[.int .i64 s.east, .int .i64 s.north, .int .i64 s.up] 25))
  have HX3 := Lib.hid ((HX2.out.below b HX2.out.lt).alloc (.cells #[.int .i64 s.east, .int .i64 s.north, .int .i64 s.up] 25))
  have hxl := (HX2.out.below b HX2.out.lt).lt
  have HY3 := Lib.hid (Blk.new w3 25 #[.int .i64 s.east, .int .i64 s.north, .int .i64 s.up])
  clear b HS2 HL2 HX2 HW2
  go_upto_region 6 with fail
  obtain ⟨W3, HW3⟩ : ∃ W3, Hid (w3.alloc (.cells #[.int .i64 s.east, .int .i64 s.north, .int .i64 s.up] 25) = W3) := ⟨_, Lib.hid rfl⟩
  obtain ⟨Y, HY⟩ : ∃ Y, Hid (w3.heap.size = Y) := ⟨_, Lib.hid rfl⟩
  rw [HW3.out, HY.out] at HY3
  rw [HY.out] at hxl
  rw [HW3.out] at HS3 HL3 HX3
  rw [HW3.out, HY.out]
  obtain ⟨x0, x1, x2, xl⟩ := (⟨HX3.out.cell 0, HX3.out.cell 1, HX3.out.cell 2, HX3.out.lt⟩ : W3.cell? ⟨X, 0, none⟩ = some (.int .i64 s.east) ∧ W3.cell? ⟨X, 1, none⟩ = some (.int .i64 s.north) ∧ W3.cell? ⟨X, 2, none⟩ = some (.int .i64 s.up) ∧ X < W3.heap.size)
  obtain ⟨y0, y1, y2, yl⟩ := (⟨HY3.out.cell 0, HY3.out.cell 1, HY3.out.cell 2, HY3.out.lt⟩ : W3.cell? ⟨Y, 0, none⟩ = some (.int .i64 s.east) ∧ W3.cell? ⟨Y, 1, none⟩ = some (.int .i64 s.north) ∧ W3.cell? ⟨Y, 2, none⟩ = some (.int .i64 s.up) ∧ Y < W3.heap.size)
  go_upto_if 50 with fail
  clear y0 y1 y2 yl HY3
  go_cut [51] (fun _ wx => St w A n zs wx)
  case first =>
    as_aux_lemma =>
      cases ok
      · go_wp2_with fail
        go_meet
        case rel => exact HS3.out
      · obtain ⟨hch, hsv⟩ := HOK.out rfl
        obtain ⟨k, hk⟩ : ∃ k, L / 2 = k := ⟨_, rfl⟩
        obtain ⟨a, c, hA, hC, hsum, hab, hcb⟩ := parts (k := k) hch (by rw [HLL.out]; omega)
        rw [← hsv] at hsum
        have hs3 : s = ⟨a.east + c.east, a.north + c.north, a.up + c.up⟩ := hsum.symm
        have HAA := Lib.hid hA
        have HCC := Lib.hid hC
        have HAB := Lib.hid hab
        have HCB := Lib.hid hcb
        have HT1 := Lib.hid (LgO.take HL3.out k (by omega))
        have hkb : k ≤ L := by omega
        have hdiv : (L : Int).tdiv 2 = (k : Int) := by rw [Int.tdiv_eq_ediv_of_nonneg (by omega)]; omega
        have hdiv2 : (L : Int) / 2 = (k : Int) := by omega
        have hkc : (k : Int) ≤ (lc : Int) := by omega
        have hkc2 : k ≤ lc := by omega
        have hk0 : 0 ≤ (k : Int) := by omega
        have hkl : (k : Int) ≤ (L : Int) := by omega
        clear hA hC hsum hab hcb hch hsv HOK HF
        by_cases hz : L = 0
        · subst hz
          obtain rfl : k = 0 := by omega
          obtain rfl : ts = [] := List.eq_nil_of_length_eq_zero HLL.out
          go_wp2_with fail
          refine (chainO_impl LA 0 lc _ _ (by omega) HT1 (Lib.hid HS3.out.2.2)).mono ?_
          rintro e w4 ⟨rfl, b⟩
          rw [HAA.out]
          have HS4 := Lib.hid ((HS3.out.step b).alloc (.cells #[.int .i64 a.east, .int .i64 a.north, .int .i64 a.up] 25))
          have HX4 := Lib.hid ((HX3.out.below b HX3.out.lt).alloc (.cells #[.int .i64 a.east, .int .i64 a.north, .int .i64 a.up] 25))
          have hl4 := (HX3.out.below b HX3.out.lt).lt
          have HP4 := Lib.hid (Blk.new w4 25 #[.int .i64 a.east, .int .i64 a.north, .int .i64 a.up])
          clear b x0 x1 x2 xl
          go_wp2_with fail
          obtain ⟨W4, HW4⟩ : ∃ W4, Hid (w4.alloc (.cells #[.int .i64 a.east, .int .i64 a.north, .int .i64 a.up] 25) = W4) := ⟨_, Lib.hid rfl⟩
          obtain ⟨P, HP⟩ : ∃ P, Hid (w4.heap.size = P) := ⟨_, Lib.hid rfl⟩
          rw [HW4.out, HP.out] at HP4
          rw [HP.out] at hl4
          rw [HW4.out] at HS4 HX4
          rw [HW4.out, HP.out]
          refine (chainO_impl _ 0 _ (([] : List Lg).drop 0) _ (by omega) (Lib.hid ⟨rfl, by simp⟩) (Lib.hid HS4.out.2.2)).mono ?_
          rintro e w5 ⟨rfl, b⟩
          rw [HCC.out]
          have HS5 := Lib.hid ((HS4.out.step b).alloc (.cells #[.int .i64 c.east, .int .i64 c.north, .int .i64 c.up] 25))
          have HX5 := Lib.hid ((HX4.out.below b HX4.out.lt).alloc (.cells #[.int .i64 c.east, .int .i64 c.north, .int .i64 c.up] 25))
          have HP5 := Lib.hid ((HP4.out.below b HP4.out.lt).alloc (.cells #[.int .i64 c.east, .int .i64 c.north, .int .i64 c.up] 25))
          have hp5 := (HP4.out.below b HP4.out.lt).lt
          have hx5 := (HX4.out.below b HX4.out.lt).lt
          have HQ5 := Lib.hid (Blk.new w5 25 #[.int .i64 c.east, .int .i64 c.north, .int .i64 c.up])
          clear b
          go_upto_region 12 with fail
          obtain ⟨W5, HW5⟩ : ∃ W5, Hid (w5.alloc (.cells #[.int .i64 c.east, .int .i64 c.north, .int .i64 c.up] 25) = W5) := ⟨_, Lib.hid rfl⟩
          obtain ⟨Q, HQ⟩ : ∃ Q, Hid (w5.heap.size = Q) := ⟨_, Lib.hid rfl⟩
          rw [HW5.out, HQ.out] at HQ5
          rw [HQ.out] at hp5 hx5
          rw [HW5.out] at HS5 HX5 HP5
          rw [HW5.out, HQ.out]
          rw [hs3] at HX5
          have B := sum_bd HAB.out HCB.out
          obtain ⟨bd0, bd1, bd2, bd3, bd4, bd5, bd6, bd7, bd8, bd9, bd10, bd11⟩ := B
          obtain ⟨x0, x1, x2, xl⟩ := (⟨HX5.out.cell 0, HX5.out.cell 1, HX5.out.cell 2, HX5.out.lt⟩ : W5.cell? ⟨X, 0, none⟩ = some (.int .i64 (a.east + c.east)) ∧ W5.cell? ⟨X, 1, none⟩ = some (.int .i64 (a.north + c.north)) ∧ W5.cell? ⟨X, 2, none⟩ = some (.int .i64 (a.up + c.up)) ∧ X < W5.heap.size)
          obtain ⟨p0, p1, p2, pl⟩ := (⟨HP5.out.cell 0, HP5.out.cell 1, HP5.out.cell 2, HP5.out.lt⟩ : W5.cell? ⟨P, 0, none⟩ = some (.int .i64 (a.east)) ∧ W5.cell? ⟨P, 1, none⟩ = some (.int .i64 (a.north)) ∧ W5.cell? ⟨P, 2, none⟩ = some (.int .i64 (a.up)) ∧ P < W5.heap.size)
          obtain ⟨q0, q1, q2, ql⟩ := (⟨HQ5.out.cell 0, HQ5.out.cell 1, HQ5.out.cell 2, HQ5.out.lt⟩ : W5.cell? ⟨Q, 0, none⟩ = some (.int .i64 (c.east)) ∧ W5.cell? ⟨Q, 1, none⟩ = some (.int .i64 (c.north)) ∧ W5.cell? ⟨Q, 2, none⟩ = some (.int .i64 (c.up)) ∧ Q < W5.heap.size)
          go_wp2_with fail
          go_meet
          case rel => exact HS5.out
        · obtain ⟨g, rfl⟩ : ∃ g, LA = some ⟨g, 0, none⟩ := by
            obtain ⟨t, ht⟩ := at_lt (k := 0) HLL.out (by omega)
            obtain ⟨g, e, -⟩ := HL3.out.2 0 t ht
            exact ⟨g, e⟩
          have HT2 := Lib.hid (LgO.drop (c := 0) HL3.out k (by omega))
          have hkL : k < L := by omega
          have hne : ¬ lc = k := by omega
          go_wp2_with fail
          refine (chainO_impl _ k lc _ _ (by omega) HT1 (Lib.hid HS3.out.2.2)).mono ?_
          rintro e w4 ⟨rfl, b⟩
          rw [HAA.out]
          have HT4 := Lib.hid ((HT2.out.step b).alloc (.cells #[.int .i64 a.east, .int .i64 a.north, .int .i64 a.up] 25))
          have HS4 := Lib.hid ((HS3.out.step b).alloc (.cells #[.int .i64 a.east, .int .i64 a.north, .int .i64 a.up] 25))
          have HX4 := Lib.hid ((HX3.out.below b HX3.out.lt).alloc (.cells #[.int .i64 a.east, .int .i64 a.north, .int .i64 a.up] 25))
          have hl4 := (HX3.out.below b HX3.out.lt).lt
          have HP4 := Lib.hid (Blk.new w4 25 #[.int .i64 a.east, .int .i64 a.north, .int .i64 a.up])
          clear b x0 x1 x2 xl
          go_wp2_with fail
          obtain ⟨W4, HW4⟩ : ∃ W4, Hid (w4.alloc (.cells #[.int .i64 a.east, .int .i64 a.north, .int .i64 a.up] 25) = W4) := ⟨_, Lib.hid rfl⟩
          obtain ⟨P, HP⟩ : ∃ P, Hid (w4.heap.size = P) := ⟨_, Lib.hid rfl⟩
          rw [HW4.out, HP.out] at HP4
          rw [HP.out] at hl4
          rw [HW4.out] at HS4 HX4
          rw [HW4.out, HP.out]
          rw [HW4.out] at HT4
          refine (chainO_impl _ (L - k) _ (ts.drop k) _ (by omega) HT4 (Lib.hid HS4.out.2.2)).mono ?_
          rintro e w5 ⟨rfl, b⟩
          rw [HCC.out]
          have HS5 := Lib.hid ((HS4.out.step b).alloc (.cells #[.int .i64 c.east, .int .i64 c.north, .int .i64 c.up] 25))
          have HX5 := Lib.hid ((HX4.out.below b HX4.out.lt).alloc (.cells #[.int .i64 c.east, .int .i64 c.north, .int .i64 c.up] 25))
          have HP5 := Lib.hid ((HP4.out.below b HP4.out.lt).alloc (.cells #[.int .i64 c.east, .int .i64 c.north, .int .i64 c.up] 25))
          have hp5 := (HP4.out.below b HP4.out.lt).lt
          have hx5 := (HX4.out.below b HX4.out.lt).lt
          have HQ5 := Lib.hid (Blk.new w5 25 #[.int .i64 c.east, .int .i64 c.north, .int .i64 c.up])
          clear b
          go_upto_region 12 with fail
          obtain ⟨W5, HW5⟩ : ∃ W5, Hid (w5.alloc (.cells #[.int .i64 c.east, .int .i64 c.north, .int .i64 c.up] 25) = W5) := ⟨_, Lib.hid rfl⟩
          obtain ⟨Q, HQ⟩ : ∃ Q, Hid (w5.heap.size = Q) := ⟨_, Lib.hid rfl⟩
          rw [HW5.out, HQ.out] at HQ5
          rw [HQ.out] at hp5 hx5
          rw [HW5.out] at HS5 HX5 HP5
          rw [HW5.out, HQ.out]
          rw [hs3] at HX5
          have B := sum_bd HAB.out HCB.out
          obtain ⟨bd0, bd1, bd2, bd3, bd4, bd5, bd6, bd7, bd8, bd9, bd10, bd11⟩ := B
          obtain ⟨x0, x1, x2, xl⟩ := (⟨HX5.out.cell 0, HX5.out.cell 1, HX5.out.cell 2, HX5.out.lt⟩ : W5.cell? ⟨X, 0, none⟩ = some (.int .i64 (a.east + c.east)) ∧ W5.cell? ⟨X, 1, none⟩ = some (.int .i64 (a.north + c.north)) ∧ W5.cell? ⟨X, 2, none⟩ = some (.int .i64 (a.up + c.up)) ∧ X < W5.heap.size)
          obtain ⟨p0, p1, p2, pl⟩ := (⟨HP5.out.cell 0, HP5.out.cell 1, HP5.out.cell 2, HP5.out.lt⟩ : W5.cell? ⟨P, 0, none⟩ = some (.int .i64 (a.east)) ∧ W5.cell? ⟨P, 1, none⟩ = some (.int .i64 (a.north)) ∧ W5.cell? ⟨P, 2, none⟩ = some (.int .i64 (a.up)) ∧ P < W5.heap.size)
          obtain ⟨q0, q1, q2, ql⟩ := (⟨HQ5.out.cell 0, HQ5.out.cell 1, HQ5.out.cell 2, HQ5.out.lt⟩ : W5.cell? ⟨Q, 0, none⟩ = some (.int .i64 (c.east)) ∧ W5.cell? ⟨Q, 1, none⟩ = some (.int .i64 (c.north)) ∧ W5.cell? ⟨Q, 2, none⟩ = some (.int .i64 (c.up)) ∧ Q < W5.heap.size)
          go_wp2_with fail
          go_meet
          case rel => exact HS5.out
  case rest =>
    as_aux_lemma =>
      have HS := Lib.hid hcut
      clear hcut HS3 HL3 HX3 HF HOK HLL x0 x1 x2 xl hxl HX HY HW3 hl hcap
      go_wp2_with fail
      refine (legsLength_draw A n cap zs _ (Lib.hid HS.out.2.1)).mono ?_
      rintro e w1 ⟨v, ts, rfl, hO, hl, b⟩
      obtain ⟨L, hL⟩ : ∃ L, ts.length = L := ⟨_, rfl⟩
      rw [hL] at hO hl
      obtain ⟨LA, lc, rfl⟩ := row_slice hO
      have HS1 := Lib.hid (HS.out.step b)
      have HLL := Lib.hid hL
      have HL1 := Lib.hid (own_Lg hL hO)
      clear b hO hL HS
      obtain ⟨z, ok, hF, hok⟩ := len_form ts
      have HF := Lib.hid hF
      have HOK := Lib.hid hok
      clear hF hok
      go_wp2_with fail
      refine (legsLength_impl LA L lc ts _ (by omega) HL1).mono ?_
      rintro e w2 ⟨rfl, b⟩
      rw [HF.out]
      have HS2 := Lib.hid (HS1.out.step b)
      have HL2 := Lib.hid (HL1.out.step b)
      clear b HS1 HL1
      go_wp2_with fail
      refine (legsLength_model LA L lc ts _ (by omega) HL2).mono ?_
      rintro e w3 ⟨rfl, b⟩
      rw [HF.out]
      have HS3 := Lib.hid (HS2.out.step b)
      have HL3 := Lib.hid (HL2.out.step b)
      clear b HS2 HL2
      go_upto_if 124 with fail
      go_cut [125] (fun _ wx => St w A n zs wx)
      case first =>
        as_aux_lemma =>
          cases ok
          · go_wp2_with fail
            go_meet
            case rel => exact HS3.out
          · obtain ⟨hg, hz⟩ := HOK.out rfl
            have hge := tsum_ge ts (goodLg_all hg)
            have hsum := esum_all hg
            rw [HLL.out] at hge hsum
            rw [← hz] at hge
            have HG := Lib.hid hg
            have HE := Lib.hid hsum
            clear hg hz hsum HOK HF
            go_wp2_with fail
            go_loopw [18, 19] (fun u i wr => ∃ q : Nat, q ≤ 8 ∧ i = .int .i64 q ∧ u = .int .i64 (esum ts q : Nat) ∧ St w A n zs wr ∧ LgAt wr wr.heap.size LA L ts) (fun _ i _ => 8 - (intOf i).toNat)
            case atStart => exact ⟨0, by decide, rfl, rfl, HS3.out, HL3.out⟩
            case round =>
              obtain ⟨q, hq, rfl, rfl, hS, hLg⟩ := hrel
              have HSr := Lib.hid hS
              have HLr := Lib.hid hLg
              clear hS hLg HS3 HL3
              by_cases hq8 : q < 8
              · have hok : atOk ts (q : Int) = true := by unfold atOk; rw [HG.out, btw_mk (by omega) (by omega)]; rfl
                obtain ⟨xs, hxs⟩ : ∃ xs, atIds ts (q : Int) = xs := ⟨_, rfl⟩
                have hxl : xs.length = (idxs (isAt (q : Int)) ts ts.length).length := by rw [← hxs]; unfold atIds; rw [if_pos hok]
                have hb := esum_le ts q
                have hc := idxs_len (isAt (q : Int)) ts ts.length
                rw [HLL.out] at hb hc
                have hq13 : q * L ≤ 104 := Nat.le_trans (Nat.mul_le_mul (show q ≤ 8 by omega) (show L ≤ 13 from hl)) (by decide)
                have HN := Lib.hid (show esum ts (q + 1) = esum ts q + xs.length by rw [hxl]; rfl)
                obtain ⟨N, hN⟩ : ∃ N, xs.length = N := ⟨_, rfl⟩
                have hN13 : N ≤ 13 := by rw [← hN, hxl, HLL.out]; omega
                obtain ⟨E, hE⟩ : ∃ E, esum ts q = E := ⟨_, rfl⟩
                rw [hE] at hb ⊢
                rw [hN, hE] at HN
                have HNN := Lib.hid hN
                have HXS := Lib.hid hxs
                have HQ := Lib.hid hok
                have hE1 : E ≤ 104 := by omega
                clear hxl hb hc hN hE hxs hok hq13
                have hd : decide ((q : Int) < 8) = true := by simp; omega
                have hd2 : decide (q < 8) = true := by simpa using hq8
                go_wp2_with fail
                refine (legsAt_impl LA L lc ts q _ (by omega) HLr).mono ?_
                rintro e w4 ⟨v, rfl, hO, b⟩
                rw [HQ.out]
                rw [HXS.out, HNN.out] at hO
                obtain ⟨VA, vc, rfl⟩ := row_slice hO
                have HS4 := Lib.hid (HSr.out.step b)
                have HL4 := Lib.hid (HLr.out.step b)
                clear b hO HSr HLr
                go_wp2_with fail
                go_roundw
                case rel => exact ⟨q + 1, by omega, by go_num, by rw [HN.out]; first | go_num | (congr 1; omega), HS4.out, HL4.out⟩
                case measure => simp [intOf]; omega
              · obtain rfl : q = 8 := by omega
                have hd : decide ((8 : Int) < 8) = false := by decide
                have hes : ((esum ts 8 : Nat) : Int) = 2 * (L : Int) := by rw [HE.out]; omega
                have hn0 : decide (z < (L : Int)) = false := by simp; omega
                rw [HE.out]
                go_wp2_with fail
                go_meet
                case rel => exact HSr.out
      case rest =>
        as_aux_lemma =>
          have HS := Lib.hid hcut
          clear hcut HS3 HL3 HF HOK HLL hl
          go_wp2_with fail
          refine (legsAt_draw A n cap zs _ (Lib.hid HS.out.2.1)).mono ?_
          rintro e w1 ⟨v, ts, q, rfl, hO, hl, b⟩
          obtain ⟨L, hL⟩ : ∃ L, ts.length = L := ⟨_, rfl⟩
          rw [hL] at hO hl
          obtain ⟨LA, lc, rfl⟩ := row_slice hO
          have HS1 := Lib.hid (HS.out.step b)
          have HL1 := Lib.hid (own_Lg hL hO)
          have HLL := Lib.hid hL
          clear b hO hL HS
          obtain ⟨ok, HK⟩ : ∃ t, Hid (atOk ts q = t) := ⟨_, Lib.hid rfl⟩
          obtain ⟨xs, hxs⟩ : ∃ xs, atIds ts q = xs := ⟨_, rfl⟩
          have hN13 : xs.length ≤ 13 := by
            rw [← hxs]
            unfold atIds
            split
            · have := idxs_len (isAt q) ts ts.length; rw [HLL.out] at this; rw [HLL.out]; omega
            · simp
          have HXS := Lib.hid hxs
          obtain ⟨N, hN⟩ : ∃ N, xs.length = N := ⟨_, rfl⟩
          rw [hN] at hN13
          have HNN := Lib.hid hN
          clear hxs hN
          go_wp2_with fail
          refine (legsAt_impl LA L lc ts q _ (by omega) HL1).mono ?_
          rintro e w2 ⟨v, rfl, hO, b⟩
          rw [HK.out]
          rw [HXS.out, HNN.out] at hO
          obtain ⟨VA, vc, rfl⟩ := row_slice hO
          have HS2 := Lib.hid (HS1.out.step b)
          have HL2 := Lib.hid (HL1.out.step b)
          have HO2 := Lib.hid hO
          clear b hO HS1 HL1
          go_wp2_with fail
          refine (legsAt_model LA L lc ts q _ (by omega) HL2).mono ?_
          rintro e w3 ⟨v, rfl, hO, b⟩
          rw [HK.out]
          rw [HXS.out, HNN.out] at hO
          obtain ⟨UA, uc, rfl⟩ := row_slice hO
          have HS3 := Lib.hid (HS2.out.step b)
          have HI := Lib.hid (ints.IL.of_own (row_below HO2.out b))
          have HJ := Lib.hid (ints.IL.of_own hO)
          clear b hO HS2 HL2 HO2
          go_wp2_with fail
          refine (vs.vints_any VA UA N vc uc xs _ (by omega) HI HJ).mono ?_
          rintro e w4 ⟨rfl, m, rfl⟩
          go_wp2_with fail
          go_ret
          exact ⟨rfl, HS3.out.1.trans ((drewN_below _ m).mono HS3.out.1.size)⟩
end Go.Proofs.YtpacgdjbclogoaaDoor.lgv
