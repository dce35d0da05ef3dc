/-
  The determinant of a matrix, by the model.
  Conditions: at most 8 rows; no determinant of some rows and columns is greater than 1161216000.
-/
import Derived.Test.YtnpghhpcloljeabGreatDoorMtA
import Derived.Test.YtnpghhpcloljeabGreatDoorMdM
import Derived.StillTailTactics
import Derived.Deep.DeepCutAuto
import Derived.LoopTactic
import Derived.OwnWalk
namespace Go.Proofs.YtnpghhpcloljeabGreatDoor.mt
open Go.RowKit
open reads base rowi dt
set_option linter.unusedVariables false
set_option linter.unusedSimpArgs false

/-- a matrix whose lower rows are being worked on: rows below i, and row i from column t on, are done -/
def mid (M : Nat → Nat → Int) (k i t : Nat) (last : Int) : Nat → Nat → Int :=
  fun r c => if k < r ∧ k ≤ c ∧ (r < i ∨ (r = i ∧ t ≤ c)) then (M r c * M k k - M r k * M k c).tdiv last else M r c
theorem mid_start (M : Nat → Nat → Int) (k n : Nat) (last : Int) (r c : Nat) : mid M k (k + 1) n last r c = M r c ∨ n ≤ c := by
  unfold mid
  by_cases h : n ≤ c
  · exact .inr h
  · exact .inl (if_neg (by omega))
theorem mid_put (M : Nat → Nat → Int) {k i t : Nat} (last : Int) (hk : k < i) (ht : k ≤ t) (r c : Nat) :
    upd2 (mid M k i (t + 1) last) i t ((M i t * M k k - M i k * M k t).tdiv last) r c = mid M k i t last r c := by
  rw [upd2_at]
  unfold mid
  by_cases h : r = i ∧ c = t
  · obtain ⟨h1, h2⟩ := h
    subst h1 h2
    rw [if_pos ⟨rfl, rfl⟩, if_pos ⟨hk, ht, .inr ⟨rfl, Nat.le_refl _⟩⟩]
  · rw [if_neg h]
    by_cases q : k < r ∧ k ≤ c ∧ (r < i ∨ (r = i ∧ t + 1 ≤ c))
    · rw [if_pos q, if_pos ⟨q.1, q.2.1, q.2.2.imp id (fun z => ⟨z.1, by omega⟩)⟩]
    · rw [if_neg q, if_neg (fun z => q ⟨z.1, z.2.1, z.2.2.imp id (fun y => ⟨y.1, by omega⟩)⟩)]
theorem mid_row (M : Nat → Nat → Int) {k i n : Nat} (last : Int) (r c : Nat) (hc : c < n) : mid M k i k last r c = mid M k (i + 1) n last r c := by
  unfold mid
  by_cases q : k < r ∧ k ≤ c ∧ (r < i ∨ (r = i ∧ k ≤ c))
  · rw [if_pos q, if_pos ⟨q.1, q.2.1, .inl (by omega)⟩]
  · rw [if_neg q, if_neg (fun z => q ⟨z.1, z.2.1, by omega⟩)]
theorem mid_all (M : Nat → Nat → Int) {k n : Nat} (last : Int) (r c : Nat) (hr : r < n) (hc : k ≤ c) : mid M k n n last r c = if k < r then (M r c * M k k - M r k * M k c).tdiv last else M r c := by
  unfold mid
  by_cases q : k < r
  · rw [if_pos q, if_pos ⟨q, hc, .inl hr⟩]
  · rw [if_neg q, if_neg (fun z => q z.1)]
theorem sq_bd {a b : Int} (h1 : -1161216000 ≤ a) (h2 : a ≤ 1161216000) (h3 : -1161216000 ≤ b) (h4 : b ≤ 1161216000) : -1348422598656000000 ≤ a * b ∧ a * b ≤ 1348422598656000000 := by
  have h := Int.mul_le_mul (show (a.natAbs : Int) ≤ 1161216000 by omega) (show (b.natAbs : Int) ≤ 1161216000 by omega) (by omega) (by omega)
  have e : ((a * b).natAbs : Int) = (a.natAbs : Int) * (b.natAbs : Int) := by rw [Int.natAbs_mul]; simp
  omega
theorem tdiv_bd {a b B : Int} (h1 : -B ≤ a) (h2 : a ≤ B) : -B ≤ a.tdiv b ∧ a.tdiv b ≤ B := by
  have h : (a.tdiv b).natAbs ≤ a.natAbs := by rw [Int.natAbs_tdiv]; exact Nat.div_le_self _ _
  omega
/-- the state of an elimination in memory -/
def ES (w : World) (bs : Nat) (A : Option Addr) (n c kk : Nat) (det : Int) (s l : Int) (v : World) : Prop :=
  ∃ (a : Nat → Rw) (P : Nat → Nat) (M : Nat → Nat → Int), El n kk a M l s det 1161216000 ∧ MxB v bs A n c n P M ∧ Below bs w v
def DPo (bs : Nat) (det : Int) (w : World) (e : Ending) (w' : World) : Prop := e = .returned (.int .i64 det) ∧ Below bs w w'
set_option maxHeartbeats 16000000 in
set_option maxRecDepth 100000 in
theorem det_any (bs : Nat) (A : Option Addr) (n c : Nat) (P0 : Nat → Nat) (M0 : Nat → Nat → Int) (det : Int) (w : World) (hn : n ≤ 8) (hd : Hid (dt ((rv n).map (fun i j => M0 i j)) (rv n) = det)) (hB : Hid (Bdd n (fun i j => M0 i j) 1161216000)) (hM : Hid (MxB w bs A n c n P0 M0)) :
    Calls Tryz.prog 123 #[.slice A n c] w (DPo bs det w) := by
  have HS0 := Lib.hid (show ES w bs A n c 0 det 1 1 w from ⟨_, P0, M0, by rw [← hd.out]; exact El.start hB.out (fun i j _ _ => rfl), hM.out, Below.refl _ _⟩)
  clear hd hB hM
  go_enter Tryz.func123, Tryz.ntmps123
  go_wp2_with fail
  go_loopw [4, 5, 6] (fun s l k wr => ∃ (kk : Nat) (sv lv : Int), kk ≤ n ∧ k = .int .i64 (kk : Nat) ∧ s = .int .i64 sv ∧ l = .int .i64 lv ∧ ES w bs A n c kk det sv lv wr) (fun _ _ k _ => n - (intOf k).toNat)
  case atStart => exact ⟨0, 1, 1, Nat.zero_le _, rfl, rfl, rfl, HS0.out⟩
  case round =>
    obtain ⟨kk, sv, lv, hkn, rfl, rfl, rfl, a, P, M, hE, hM, hB⟩ := hrel
    have HE := Lib.hid hE
    have HM := Lib.hid hM
    have HB := Lib.hid hB
    clear hE hM hB HS0
    have hk0 : (0 : Int) ≤ (kk : Int) := by omega
    by_cases hlt : kk < n
    · have hki : (kk : Int) < (n : Int) := by omega
      have hkd : decide (kk < n) = true := by simpa using hlt
      obtain ⟨g, rfl, hgb, hgl, htc, htf⟩ := HM.out.top hlt
      have HTC := Lib.hid htc
      have HTF := Lib.hid htf
      clear htc htf
      go_wp2_with fail
      go_loop [7] (fun p => ∃ pp : Nat, kk ≤ pp ∧ pp ≤ n ∧ p = .int .i64 (pp : Nat) ∧ Hid (∀ i, kk ≤ i → i < pp → M i kk = 0)) (fun p => n - (intOf p).toNat)
      case atStart => exact ⟨kk, Nat.le_refl _, by omega, rfl, Lib.hid (fun i h1 h2 => by omega)⟩
      case round =>
        obtain ⟨pp, hkp, hpn, rfl, HZ⟩ := hrel
        have hp0 : (0 : Int) ≤ (pp : Int) := by omega
        by_cases hpl : pp < n
        · have hpi : (pp : Int) < (n : Int) := by omega
          have hpd : decide (pp < n) = true := by simpa using hpl
          have c1 := HTC.out pp hpl
          obtain ⟨r1, r2, r3, r4⟩ := HM.out.row hpl
          have c2 := r1 kk hlt
          clear r1 r2
          by_cases hz : M pp kk = 0
          · have HZ2 := Lib.hid (show ∀ i, kk ≤ i → i < pp + 1 → M i kk = 0 from fun i h1 h2 => by
              rcases Nat.lt_or_ge i pp with q | q
              · exact HZ.out i h1 q
              · rw [show i = pp by omega]; exact hz)
            rw [hz] at c2
            clear hz
            go_wp2_with fail
            go_round
            case rel => exact ⟨pp + 1, by omega, by omega, by go_num, HZ2⟩
            case measure => simp [intOf]; omega
          · have hz1 : (M pp kk == 0) = false := by simpa using hz
            have HZZ := Lib.hid hz
            have hpe : ((pp : Int) == (n : Int)) = false := by simp; omega
            have hpe2 : decide ((pp : Int) = (n : Int)) = false := by simp; omega
            have hpe3 : ¬ pp = n := by omega
            clear hz
            go_upto_if 39 with fail
            go_cut [4] (fun s wx => ∃ (sv2 : Int) (a2 : Nat → Rw) (P2 : Nat → Nat) (M2 : Nat → Nat → Int), s = .int .i64 sv2 ∧ El n kk a2 M2 lv sv2 det 1161216000 ∧ M2 kk kk ≠ 0 ∧ MxB wx bs (some ⟨g, 0, none⟩) n c n P2 M2 ∧ Below bs w wx)
            case first =>
              by_cases hpk : pp = kk
              · have he1 : ((pp : Int) != (kk : Int)) = false := by simp; omega
                have he2 : decide (¬ (pp : Int) = (kk : Int)) = false := by simp; omega
                subst hpk
                go_wp2_with fail
                go_meet
                case rel => exact ⟨sv, a, P, M, rfl, HE.out, HZZ.out, HM.out, HB.out⟩
              · have he1 : ((pp : Int) != (kk : Int)) = true := by simp; omega
                have he2 : ((pp : Int) == (kk : Int)) = false := by simp; omega
                have he3 : ¬ kk = pp := fun q => hpk q.symm
                have ck := HTC.out kk hlt
                have fk := HTF.out kk
                have fp := HTF.out pp
                have HE2 := Lib.hid (HE.out.change (p := pp) (by omega) hpl)
                have HM2 := Lib.hid (HM.out.swap (p := pp) (k := kk) hpl hlt (sw pp kk) (sw_p pp kk) (sw_k pp kk) (fun i h1 h2 => sw_o h1 h2))
                have HB2 := Lib.hid ((HB.out.setCell (p := ⟨g, pp, none⟩) hgb (.slice (some ⟨P kk, 0, none⟩) n n)).setCell (p := ⟨g, kk, none⟩) hgb (.slice (some ⟨P pp, 0, none⟩) n n))
                have HZ3 := Lib.hid (show M (sw pp kk kk) kk ≠ 0 by rw [sw_k]; exact HZZ.out)
                have xs : IntKind.i64.wrap (-sv) = -sv := by rcases HE.out.hs with q | q <;> rw [q] <;> rfl
                clear c2
                go_wp2_with fail
                go_meet
                case rel => exact ⟨-sv, _, _, _, rfl, HE2.out, HZ3.out, HM2.out, HB2.out⟩
            case rest =>
              obtain ⟨sv2, a2, P2, M2, rfl, hE2, hz2, hM2, hB2⟩ := hcut
              have HE2 := Lib.hid hE2
              have HZ2 := Lib.hid hz2
              have HMM := Lib.hid ((hM2.congr (N := mid M2 kk (kk + 1) n lv) (fun i _ j hj => ((mid_start M2 kk n lv i j).resolve_right (by omega)).symm)))
              have HBB := Lib.hid hB2
              have hl0 : ¬ lv = 0 := hE2.h0
              have hl1 : (lv == 0) = false := by simpa using hl0
              have hlb := hE2.last
              clear hE2 hz2 hM2 hB2 HE HM HB HTC HTF HZ HZZ c1 c2 r3 r4 hgl hz1 hp0 hpl hpi hpd hpe hpe2 hpe3 hkp hpn
              go_wp2_with fail
              go_loopw [9] (fun i wq => ∃ ii : Nat, kk + 1 ≤ ii ∧ ii ≤ n ∧ i = .int .i64 (ii : Nat) ∧ MxB wq bs (some ⟨g, 0, none⟩) n c n P2 (mid M2 kk ii n lv) ∧ Below bs w wq) (fun i _ => n - (intOf i).toNat)
              case atStart => exact ⟨kk + 1, Nat.le_refl _, by omega, by go_num, HMM.out, HBB.out⟩
              case round =>
                obtain ⟨ii, hki1, hii, rfl, hMQ, hBQ⟩ := hrel
                have HMQ := Lib.hid hMQ
                have HBQ := Lib.hid hBQ
                clear hMQ hBQ HMM HBB
                have hi0 : (0 : Int) ≤ (ii : Int) := by omega
                by_cases hin : ii < n
                · have hini : (ii : Int) < (n : Int) := by omega
                  have hind : decide (ii < n) = true := by simpa using hin
                  go_wp2_with fail
                  go_loopw [10] (fun j wz => ∃ (t : Nat) (z : Int), kk ≤ t ∧ t ≤ n ∧ z + 1 = (t : Int) ∧ j = .int .i64 z ∧ MxB wz bs (some ⟨g, 0, none⟩) n c n P2 (mid M2 kk ii t lv) ∧ Below bs w wz) (fun j _ => (intOf j + 1 - kk).toNat)
                  case atStart => exact ⟨n, (n : Int) - 1, by omega, Nat.le_refl _, by omega, rfl, HMQ.out, HBQ.out⟩
                  case round =>
                    obtain ⟨t0, z, htk, htn0, hzt, rfl, hMZ, hBZ⟩ := hrel
                    have HMZ := Lib.hid hMZ
                    have HBZ := Lib.hid hBZ
                    clear hMZ hBZ HMQ HBQ
                    by_cases htt : kk < t0
                    · obtain ⟨t, rfl⟩ : ∃ t, t0 = t + 1 := ⟨t0 - 1, by omega⟩
                      obtain rfl : z = (t : Int) := by omega
                      have htn : t < n := by omega
                      have hti : (t : Int) < (n : Int) := by omega
                      have ht0 : (0 : Int) ≤ (t : Int) := by omega
                      have htc : (kk : Int) ≤ (t : Int) := by omega
                      clear hzt
                      by_cases htk2 : t = kk
                      · subst htk2
                        have b1 := HE2.out.bound (show t ≤ ii by omega) hin (show t ≤ t by omega) htn
                        have b2 := HE2.out.bound (Nat.le_refl t) hlt (Nat.le_refl t) hlt
                        have b3 := HE2.out.bound (show t ≤ ii by omega) hin (Nat.le_refl t) hlt
                        have b4 := HE2.out.bound (Nat.le_refl t) hlt (show t ≤ t by omega) htn
                        have q1 := sq_bd b1.1 b1.2 b2.1 b2.2
                        have q2 := sq_bd b3.1 b3.2 b4.1 b4.2
                        have q3 := tdiv_bd (a := M2 ii t * M2 t t - M2 ii t * M2 t t) (b := lv) (B := 2696845197312000000) (by omega) (by omega)
                        have x1 : IntKind.i64.wrap (M2 ii t * M2 t t) = M2 ii t * M2 t t := IntWalk.i64_in _ (by omega)
                        have x2 : IntKind.i64.wrap (M2 ii t * M2 t t) = M2 ii t * M2 t t := IntWalk.i64_in _ (by omega)
                        have x3 : IntKind.i64.wrap (M2 ii t * M2 t t - M2 ii t * M2 t t) = M2 ii t * M2 t t - M2 ii t * M2 t t := IntWalk.i64_in _ (by omega)
                        have x4 : IntKind.i64.wrap ((M2 ii t * M2 t t - M2 ii t * M2 t t).tdiv lv) = (M2 ii t * M2 t t - M2 ii t * M2 t t).tdiv lv := IntWalk.i64_in _ (by omega)
                        have e1 : mid M2 t ii (t + 1) lv ii t = M2 ii t := if_neg (by omega)
                        have e2 : mid M2 t ii (t + 1) lv t t = M2 t t := if_neg (by omega)
                        have e3 : mid M2 t ii (t + 1) lv ii t = M2 ii t := if_neg (by omega)
                        have e4 : mid M2 t ii (t + 1) lv t t = M2 t t := if_neg (by omega)
                        obtain ⟨ri, fi, hbi, hli⟩ := HMZ.out.row hin
                        obtain ⟨rk, -, -, -⟩ := HMZ.out.row hlt
                        have d1 := ri t htn
                        have d2 := rk t hlt
                        have d3 := ri t hlt
                        have d4 := rk t htn
                        rw [e1] at d1
                        rw [e2] at d2
                        rw [e3] at d3
                        rw [e4] at d4
                        obtain ⟨g', eg, -, -, ht0, -⟩ := HMZ.out.top hlt
                        obtain rfl : g = g' := by injection eg with eg; injection eg
                        have t1 := ht0 ii hin
                        have t2 := ht0 t hlt
                        have f1 := fi t
                        have HMN := Lib.hid ((HMZ.out.set hin htn ((M2 ii t * M2 t t - M2 ii t * M2 t t).tdiv lv)).congr (fun r _ c _ => mid_put M2 lv (show t < ii by omega) (show t ≤ t by omega) r c))
                        have HBN := Lib.hid (HBZ.out.setCell (p := ⟨P2 ii, t, none⟩) hbi (.int .i64 ((M2 ii t * M2 t t - M2 ii t * M2 t t).tdiv lv)))
                        rw [show (M2 ii t * M2 t t - M2 ii t * M2 t t).tdiv lv = 0 from by simp] at HMN HBN
                        have w0 : wrap64 0 = 0 := by kernel_rfl
                        clear b1 b2 b3 b4 q1 q2 q3 e1 e2 e3 e4 ri fi rk eg ht0
                        go_upto_region 21 with fail
                        refine wp_region_still_tail 39 (by kernel_rfl) (by kernel_rfl) ?_
                        simp only [List.take_succ_cons, List.take_zero, List.drop_succ_cons, List.drop_zero]
                        repeat still_step
                        refine wpStill_nil ?_
                        change wpList _ _ _ _ _ wr.drew
                        go_wp2_with fail
                        go_roundw
                        case rel => exact ⟨t, (t : Int) - 1, by omega, by omega, by omega, by go_num, HMN.out, HBN.out.drew⟩
                        case measure => first | (simp [intOf]; omega) | simp [intOf]
                      · have htk3 : ¬ kk = t := fun q => htk2 q.symm
                        have b1 := HE2.out.bound (show kk ≤ ii by omega) hin (show kk ≤ t by omega) htn
                        have b2 := HE2.out.bound (Nat.le_refl kk) hlt (Nat.le_refl kk) hlt
                        have b3 := HE2.out.bound (show kk ≤ ii by omega) hin (Nat.le_refl kk) hlt
                        have b4 := HE2.out.bound (Nat.le_refl kk) hlt (show kk ≤ t by omega) htn
                        have q1 := sq_bd b1.1 b1.2 b2.1 b2.2
                        have q2 := sq_bd b3.1 b3.2 b4.1 b4.2
                        have q3 := tdiv_bd (a := M2 ii t * M2 kk kk - M2 ii kk * M2 kk t) (b := lv) (B := 2696845197312000000) (by omega) (by omega)
                        have x1 : IntKind.i64.wrap (M2 ii t * M2 kk kk) = M2 ii t * M2 kk kk := IntWalk.i64_in _ (by omega)
                        have x2 : IntKind.i64.wrap (M2 ii kk * M2 kk t) = M2 ii kk * M2 kk t := IntWalk.i64_in _ (by omega)
                        have x3 : IntKind.i64.wrap (M2 ii t * M2 kk kk - M2 ii kk * M2 kk t) = M2 ii t * M2 kk kk - M2 ii kk * M2 kk t := IntWalk.i64_in _ (by omega)
                        have x4 : IntKind.i64.wrap ((M2 ii t * M2 kk kk - M2 ii kk * M2 kk t).tdiv lv) = (M2 ii t * M2 kk kk - M2 ii kk * M2 kk t).tdiv lv := IntWalk.i64_in _ (by omega)
                        have e1 : mid M2 kk ii (t + 1) lv ii t = M2 ii t := if_neg (by omega)
                        have e2 : mid M2 kk ii (t + 1) lv kk kk = M2 kk kk := if_neg (by omega)
                        have e3 : mid M2 kk ii (t + 1) lv ii kk = M2 ii kk := if_neg (by omega)
                        have e4 : mid M2 kk ii (t + 1) lv kk t = M2 kk t := if_neg (by omega)
                        obtain ⟨ri, fi, hbi, hli⟩ := HMZ.out.row hin
                        obtain ⟨rk, -, -, -⟩ := HMZ.out.row hlt
                        have d1 := ri t htn
                        have d2 := rk kk hlt
                        have d3 := ri kk hlt
                        have d4 := rk t htn
                        rw [e1] at d1
                        rw [e2] at d2
                        rw [e3] at d3
                        rw [e4] at d4
                        obtain ⟨g', eg, -, -, ht0, -⟩ := HMZ.out.top hlt
                        obtain rfl : g = g' := by injection eg with eg; injection eg
                        have t1 := ht0 ii hin
                        have t2 := ht0 kk hlt
                        have f1 := fi t
                        have HMN := Lib.hid ((HMZ.out.set hin htn ((M2 ii t * M2 kk kk - M2 ii kk * M2 kk t).tdiv lv)).congr (fun r _ c _ => mid_put M2 lv (show kk < ii by omega) (show kk ≤ t by omega) r c))
                        have HBN := Lib.hid (HBZ.out.setCell (p := ⟨P2 ii, t, none⟩) hbi (.int .i64 ((M2 ii t * M2 kk kk - M2 ii kk * M2 kk t).tdiv lv)))
                        clear b1 b2 b3 b4 q1 q2 q3 e1 e2 e3 e4 ri fi rk eg ht0
                        go_upto_region 21 with fail
                        refine wp_region_still_tail 39 (by kernel_rfl) (by kernel_rfl) ?_
                        simp only [List.take_succ_cons, List.take_zero, List.drop_succ_cons, List.drop_zero]
                        repeat still_step
                        refine wpStill_nil ?_
                        change wpList _ _ _ _ _ wr.drew
                        go_wp2_with fail
                        go_roundw
                        case rel => exact ⟨t, (t : Int) - 1, by omega, by omega, by omega, by go_num, HMN.out, HBN.out.drew⟩
                        case measure => first | (simp [intOf]; omega) | simp [intOf]
                    · obtain rfl : t0 = kk := by omega
                      have hzz : ¬ (t0 : Int) ≤ z := by omega
                      have hzd : decide ((t0 : Int) ≤ z) = false := by simpa using hzz
                      have HMR := Lib.hid (HMZ.out.congr (fun r _ c hc => mid_row M2 (k := t0) (i := ii) (n := n) lv r c hc))
                      clear hzt htt
                      go_wp2_with fail
                      go_roundw
                      case rel => exact ⟨ii + 1, by omega, by omega, by go_num, HMR.out, HBZ.out⟩
                      case measure => simp [intOf]; omega
                · have hind : decide (ii < n) = false := by simpa using hin
                  obtain rfl : ii = n := by omega
                  have HE3 := Lib.hid ((HE2.out.step hlt HZ2.out).congr (M' := mid M2 kk ii ii lv) (fun i j h1 h2 h3 h4 => mid_all M2 lv i j h2 (by omega)))
                  obtain ⟨rk, -, -, -⟩ := HMQ.out.row hlt
                  have d2 := rk kk hlt
                  have e2 : mid M2 kk ii ii lv kk kk = M2 kk kk := if_neg (by omega)
                  rw [e2] at d2
                  obtain ⟨g', eg, -, -, ht0, -⟩ := HMQ.out.top hlt
                  obtain rfl : g = g' := by injection eg with eg; injection eg
                  have t2 := ht0 kk hlt
                  clear rk e2 eg ht0 hin
                  go_wp2_with fail
                  go_roundw
                  case rel => exact ⟨kk + 1, sv2, M2 kk kk, by omega, by go_num, rfl, rfl, a2, P2, _, HE3.out, HMQ.out, HBQ.out⟩
                  case measure => simp [intOf]; omega
        · have hpd : decide (pp < n) = false := by simpa using hpl
          obtain rfl : pp = n := by omega
          have HD := Lib.hid (HE.out.stuck hlt HZ.out)
          clear hpl
          go_wp2_with fail
          go_ret
          exact ⟨by rw [HD.out]; rfl, HB.out⟩
    · have hkd : decide (kk < n) = false := by simpa using hlt
      obtain rfl : kk = n := by omega
      have hF := HE.out.done
      have hb1 := HE.out.last
      have hb2 := HE.out.det_le
      have x1 : IntKind.i64.wrap (sv * lv) = det := by rw [hF]; exact IntWalk.i64_in _ (by omega)
      clear hlt hF
      go_wp2_with fail
      go_ret
      exact ⟨rfl, HB.out⟩
#print axioms det_any
end Go.Proofs.YtnpghhpcloljeabGreatDoor.mt
