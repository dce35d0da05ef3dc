/-
  How many bits of a number below 512 are set, by the library that the program calls.
  What the program adds to the determinants of greater sets of columns.
  The determinants of all sets of columns, by the program.
  The determinants of all sets of columns are what their expansions along the last row tell (pure mathematics).
  What the program finds in its determinants: the number of trees and the coordinates (pure mathematics).
  Conditions: those that each theorem names.
-/
import Derived.Test.YtnpghhpcloljeabGreatDoorReadsq
import Derived.Test.YtnpghhpcloljeabGreatDoorMtA
import Derived.StillTailTactics
import Derived.Deep.DeepCutAuto
import Derived.Deep.RegionHeld3
import Derived.Test.YtnpghhpcloljeabGreatDoorMlAq
import Derived.Test.YtnpghhpcloljeabGreatDoorPgM
namespace Go.Proofs.YtnpghhpcloljeabGreatDoor.pg
open Go.RowKit
open reads base
set_option linter.unusedVariables false

/-- the columns of a set, the last one first -/
def cols (x : Nat) : List Nat := ((List.range 9).reverse).filter (fun i => x.testBit i)
set_option maxHeartbeats 4000000 in
theorem ones64 (x : Nat) (w : World) (h : x < 512) : Calls Tryz.prog 175 #[.int .u64 (x : Int)] w fun e w' => e = .returned (.int .i64 ((cols x).length : Nat)) ∧ w' = w := by
  go_enter Tryz.func175, Tryz.ntmps175
  go_wp2_with fail
  go_ret
  refine ⟨congrArg (fun z : Int => Ending.returned (Value.int .i64 z)) (?_ : (_ : Int) = _), rfl⟩
  revert h
  clear w
  revert x
  decide +kernel
theorem ones_any (x : Nat) (w : World) (h : x < 512) : Calls Tryz.prog 159 #[.int .u64 (x : Int)] w fun e w' => e = .returned (.int .i64 ((cols x).length : Nat)) ∧ w' = w := by
  go_enter Tryz.func159, Tryz.ntmps159
  go_wp2_with fail
  have x1 : IntKind.u64.wrap (x : Int) = (x : Int) := by
    show (x : Int) % 18446744073709551616 = x
    omega
  first | rw [x1] | skip
  refine (ones64 x _ h).mono ?_
  rintro e w1 ⟨rfl, rfl⟩
  go_wp2_with fail
  go_ret
  exact ⟨rfl, rfl⟩
end Go.Proofs.YtnpghhpcloljeabGreatDoor.pg

namespace Go.Proofs.YtnpghhpcloljeabGreatDoor.pg
open Go.RowKit
open reads base mt
set_option linter.unusedVariables false
set_option linter.unusedSimpArgs false

theorem or_is : ∀ T : Nat, T < 512 → ∀ c : Nat, c < 9 → bits BinOp.or IntKind.u64 (T : Int) (IntKind.u64.wrap (2 ^ c)) = ((T ||| 2 ^ c : Nat) : Int) := by decide +kernel
theorem or_lt : ∀ T : Nat, T < 512 → ∀ c : Nat, c < 9 → T ||| 2 ^ c < 512 := by decide +kernel
theorem or_eq : ∀ T : Nat, T < 512 → ∀ c : Nat, c < 9 → (T ||| 2 ^ c = T ↔ T.testBit c = true) := by decide +kernel
theorem shr_is : ∀ T : Nat, T < 512 → ∀ c : Nat, c < 9 → ((T : Int) / 2 ^ c) = ((T / 2 ^ c : Nat) : Int) := fun T _ c _ => by
  rw [Int.natCast_ediv]; congr 1
/-- the factor with its sign -/
def sgf (T c : Nat) (x : Int) : Int := if (cols (T / 2 ^ c)).length % 2 = 1 then -x else x
/-- one column -/
def em1 (f : Nat → Int) (T c : Nat) (mn : Nat → Int) : Nat → Int :=
  if f c = 0 ∨ T ||| 2 ^ c = T then mn else upd mn (T ||| 2 ^ c) (wrap64 (mn (T ||| 2 ^ c) + wrap64 (sgf T c (f c) * mn T)))
def em (f : Nat → Int) (T : Nat) : Nat → (Nat → Int) → Nat → Int
  | 0, mn => mn
  | c + 1, mn => em1 f T c (em f T c mn)
def EPo (R : Nat) (mn : Nat → Int) (w : World) (e : Ending) (w' : World) : Prop := e = .returned (.tuple #[]) ∧ RwB w' R 512 mn ∧ w.grownBy w' (some R)
theorem grown_refl (w : World) (r : Option Nat) : w.grownBy w r := ⟨rfl, rfl, rfl, Nat.le_refl _, fun _ _ _ => rfl⟩
theorem grown_drew {w v : World} {r : Option Nat} (h : w.grownBy v r) : w.grownBy v.drew r := ⟨h.os, h.tape, h.output, h.size, h.block⟩
set_option maxHeartbeats 8000000 in
set_option maxRecDepth 100000 in
theorem expand_any (p R : Nat) (T : Nat) (f : Nat → Int) (mn : Nat → Int) (w : World) (hT : T < 512) (hf : Hid (∀ c, -10000 ≤ f c ∧ f c ≤ 10000)) (hr : Hid (RwB w p 9 f)) (hm : Hid (RwB w R 512 mn)) (hne : p ≠ R) :
    Calls Tryz.prog 160 #[.slice (some ⟨p, 0, none⟩) 9 9, .int .u64 (T : Int), .slice (some ⟨R, 0, none⟩) 512 512] w (EPo R (em f T 9 mn) w) := by
  go_enter Tryz.func160, Tryz.ntmps160
  go_wp2_with fail
  go_loopw [11] (fun i wr => ∃ c : Nat, c ≤ 9 ∧ i = .int .i64 (c : Nat) ∧ RwB wr R 512 (em f T c mn) ∧ w.grownBy wr (some R)) (fun i _ => 9 - (intOf i).toNat)
  case atStart => exact ⟨0, by omega, rfl, hm.out, grown_refl _ _⟩
  case round =>
    obtain ⟨c, hc, rfl, hM, hG⟩ := hrel
    have HM := Lib.hid hM
    have HG := Lib.hid hG
    have HP := Lib.hid (Blk.grown hr.out hG (by intro e; injection e with e; exact hne e))
    clear hM hG
    have hc0 : (0 : Int) ≤ (c : Int) := by omega
    by_cases hlt : c < 9
    · have hci : (c : Int) < 9 := by omega
      have d1 := RwB.at_ (f := f) HP.out hlt
      have o1 := or_is T hT c hlt
      obtain ⟨L, HL⟩ : ∃ L, Hid (T ||| 2 ^ c = L) := ⟨_, Lib.hid rfl⟩
      rw [HL.out] at o1
      have hL : L < 512 := by rw [← HL.out]; exact or_lt T hT c hlt
      obtain ⟨x, HX⟩ : ∃ x, Hid (f c = x) := ⟨_, Lib.hid rfl⟩
      have hxb := hf.out c
      rw [HX.out] at d1 hxb
      by_cases hz : x = 0
      · have HN := Lib.hid (show em f T (c + 1) mn = em f T c mn from if_pos (.inl (by rw [HX.out]; exact hz)))
        subst hz
        go_wp2_with fail
        go_roundw
        case rel => exact ⟨c + 1, by omega, by go_num, by rw [HN.out]; exact HM.out, HG.out⟩
        case measure => simp [intOf]; omega
      · have hz1 : (x == 0) = false := by simpa using hz
        by_cases hb : L = T
        · have HN := Lib.hid (show em f T (c + 1) mn = em f T c mn from if_pos (.inr (by rw [HL.out]; exact hb)))
          subst hb
          go_wp2_with fail
          go_roundw
          case rel => exact ⟨c + 1, by omega, by go_num, by rw [HN.out]; exact HM.out, HG.out⟩
          case measure => simp [intOf]; omega
        · have hb1 : ((L : Int) == (T : Int)) = false := by simp; omega
          have hb2 : ¬ (L : Int) = (T : Int) := by omega
          obtain ⟨s, HS⟩ : ∃ s, Hid (sgf T c x = s) := ⟨_, Lib.hid rfl⟩
          have HN := Lib.hid (show em f T (c + 1) mn = upd (em f T c mn) L (wrap64 (em f T c mn L + wrap64 (s * em f T c mn T))) by
            show em1 f T c (em f T c mn) = _
            unfold em1
            rw [if_neg (by rw [HX.out, HL.out]; exact fun q => q.elim hz hb), HL.out, HX.out, HS.out])
          have HZ := Lib.hid hz
          have s1 := shr_is T hT c hlt
          obtain ⟨Q, HQ⟩ : ∃ Q, Hid (T / 2 ^ c = Q) := ⟨_, Lib.hid rfl⟩
          rw [HQ.out] at s1
          have hQ : Q < 512 := by rw [← HQ.out]; exact Nat.lt_of_le_of_lt (Nat.div_le_self _ _) hT
          obtain ⟨K, HK⟩ : ∃ K, Hid ((cols Q).length = K) := ⟨_, Lib.hid rfl⟩
          have k1 : (K : Int).tmod 2 = ((K % 2 : Nat) : Int) := rfl
          have k2 : IntKind.i64.wrap ((K % 2 : Nat) : Int) = ((K % 2 : Nat) : Int) := IntWalk.i64_in _ (by omega)
          have m1 := HM.out.at_ hL
          have m2 := HM.out.at_ (j := T) hT
          have f1 := HM.out.fro L
          have lR := HM.out.lt
          have hLi : (L : Int) < 512 := by omega
          have hL0 : (0 : Int) ≤ (L : Int) := by omega
          have hTi : (T : Int) < 512 := by omega
          have hT0 : (0 : Int) ≤ (T : Int) := by omega
          obtain ⟨ml, HML⟩ : ∃ q, Hid (em f T c mn L = q) := ⟨_, Lib.hid rfl⟩
          obtain ⟨mt', HMT⟩ : ∃ q, Hid (em f T c mn T = q) := ⟨_, Lib.hid rfl⟩
          rw [HML.out] at m1
          rw [HMT.out] at m2
          rw [HML.out, HMT.out] at HN
          have HMN := Lib.hid (HM.out.set hL (wrap64 (ml + wrap64 (s * mt'))))
          have HGN := Lib.hid (grown_drew (grown_set HG.out L (.int .i64 (wrap64 (ml + wrap64 (s * mt'))))))
          have xn : IntKind.i64.wrap (-x) = -x := IntWalk.i64_in _ (by omega)
          have HKT := Lib.hid (show (if K % 2 = 1 then -x else x) = s by rw [← HS.out]; unfold sgf; rw [HQ.out, HK.out])
          clear HX HL HQ HS HML HMT
          go_wp2_with fail
          refine (ones_any Q _ hQ).mono ?_
          rintro e w1 ⟨rfl, rfl⟩
          rw [HK.out]
          clear HK
          by_cases hk : K % 2 = 1
          · obtain rfl : s = -x := by rw [← HKT.out, if_pos hk]
            rw [hk] at k1 k2
            clear hk HKT
            go_upto_region 7 with fail
            refine wp_region_still_tail 12 (by kernel_rfl) (by kernel_rfl) ?_
            simp only [List.take_succ_cons, List.take_zero, List.drop_succ_cons, List.drop_zero]
            repeat still_step
            refine wpStill_nil ?_
            change wpList _ _ _ _ _ w1.drew
            go_wp2_with fail
            go_roundw
            case rel => exact ⟨c + 1, by omega, by go_num, by rw [HN.out]; exact Blk.drew HMN.out, HGN.out⟩
            case measure => simp [intOf]; omega
          · obtain rfl : s = x := by rw [← HKT.out, if_neg hk]
            have hk0 : K % 2 = 0 := by omega
            rw [hk0] at k1 k2
            clear hk HKT hk0
            go_upto_region 7 with fail
            refine wp_region_still_tail 12 (by kernel_rfl) (by kernel_rfl) ?_
            simp only [List.take_succ_cons, List.take_zero, List.drop_succ_cons, List.drop_zero]
            repeat still_step
            refine wpStill_nil ?_
            change wpList _ _ _ _ _ w1.drew
            go_wp2_with fail
            go_roundw
            case rel => exact ⟨c + 1, by omega, by go_num, by rw [HN.out]; exact Blk.drew HMN.out, HGN.out⟩
            case measure => simp [intOf]; omega
    · have hcd : ¬ (c : Int) < 9 := by omega
      obtain rfl : c = 9 := by omega
      clear hlt
      go_wp2_with fail
      refine bodyPost_ret (v := .tuple #[]) (by simp [results, Tryz.results160, go_sem]) rfl ⟨rfl, HM.out, HG.out⟩
end Go.Proofs.YtnpghhpcloljeabGreatDoor.pg

namespace Go.Proofs.YtnpghhpcloljeabGreatDoor.pg
open Go.RowKit
open reads base mt rowi
set_option linter.unusedVariables false
set_option linter.unusedSimpArgs false

/-- the determinants behind the first sets -/
def ms (M : Nat → Nat → Int) : Nat → Nat → Int
  | 0 => upd (fun _ => 0) 0 1
  | s + 1 => if ms M s s = 0 ∨ 8 ≤ (cols s).length then ms M s else em (M (cols s).length) s 9 (ms M s)
def FPo (f : Nat → Int) (w : World) (e : Ending) (w' : World) : Prop :=
  ∃ R, e = .returned (.slice (some ⟨R, 0, none⟩) 512 512) ∧ RwB w' R 512 f ∧ w.heap.size ≤ R ∧ Below w.heap.size w w'
theorem mx_grown {w v : World} {b n c m R : Nat} {A : Option Addr} {P : Nat → Nat} {M : Nat → Nat → Int} (h : MxB w b A n c m P M) (hg : w.grownBy v (some R)) (hR : w.heap.size ≤ R ∨ (∀ i, i < n → P i ≠ R) ∧ (Value.slice A n c).ownBlock ≠ some R) : MxB v b A n c m P M := by
  have h2 : (∀ i, i < n → P i ≠ R) ∧ (Value.slice A n c).ownBlock ≠ some R := by
    rcases hR with q | q
    · refine ⟨fun i hi => ?_, fun e => ?_⟩
      · have := (h.2.1 i hi).1.lt; omega
      · have := (h.1.lt R e).2; omega
    · exact q
  exact ⟨h.1.kept hg (.inr h2.2), fun i hi => ⟨Blk.grown (h.2.1 i hi).1 hg (fun e => h2.1 i hi (by injection e)), (h.2.1 i hi).2⟩, h.2.2⟩
set_option maxHeartbeats 8000000 in
set_option maxRecDepth 100000 in
theorem minors_any (b : Nat) (A : Option Addr) (c : Nat) (P : Nat → Nat) (M : Nat → Nat → Int) (w : World) (hb : Hid (∀ i j, -10000 ≤ M i j ∧ M i j ≤ 10000)) (hM : Hid (MxB w b A 8 c 9 P M)) :
    Calls Tryz.prog 134 #[.slice A 8 c] w (FPo (ms M 512) w) := by
  obtain ⟨i0, hi, hz0, hz1, hz2⟩ := info_parts infoI
  have hmk : ∀ W : World, (Instr.makeSlice 27 (.int .i64 512) (.int .i64 512)).run Tryz.prog W = .ok (.slice (some ⟨W.heap.size, 0, none⟩) 512 512) (W.alloc (.cells (cs1 512 (fun _ => 0)) 3)) := fun W => by
    have h := run_make_rowN (P := Tryz.prog) 27 3 i0 _ Tryz.underlying27 hi hz0 .i64 .i64 512 512 (Nat.le_refl _) (by rw [hz2]; omega) (by omega) W
    rw [hz1] at h
    rw [← cs1_zero]
    exact h
  obtain ⟨g, rfl, hgb, hgl, htc, htf⟩ := hM.out.top (show 0 < 8 by omega)
  have t0 := htc 0 (by omega)
  clear htc htf
  obtain ⟨R, HRE⟩ : ∃ q, Hid (w.heap.size = q) := ⟨_, Lib.hid rfl⟩
  have HR0 := Lib.hid (Blk.new w 3 (cs1 512 (fun _ => 0)))
  have HB0 := Lib.hid ((Below.refl w.heap.size w).alloc (Nat.le_refl _) (.cells (cs1 512 (fun _ => 0)) 3))
  have HM0 := Lib.hid (hM.out.step HB0.out)
  have q0 : (w.alloc (.cells (cs1 512 (fun _ => 0)) 3)).frozen? ⟨w.heap.size, 0, none⟩ = false := HR0.out.frozen 0
  have q1 : (w.alloc (.cells (cs1 512 (fun _ => 0)) 3)).cell? ⟨w.heap.size, 0, none⟩ = some (.int .i64 0) := RwB.at_ (f := fun _ => 0) HR0.out (by omega)
  have HR1 := Lib.hid (show RwB (w.alloc (.cells ((cs1 512 (fun _ => 0)).setIfInBounds 0 (.int .i64 1)) 3)) w.heap.size 512 (ms M 0) from by
    have h := Blk.new w 3 ((cs1 512 (fun _ => 0)).setIfInBounds 0 (.int .i64 1))
    rw [cs1_set _ _ (by omega)] at h ⊢
    exact h)
  have HB1 := Lib.hid ((Below.refl w.heap.size w).alloc (Nat.le_refl _) (.cells ((cs1 512 (fun _ => 0)).setIfInBounds 0 (.int .i64 1)) 3))
  have HM1 := Lib.hid (hM.out.step HB1.out)
  have HNE := Lib.hid (show (∀ i, i < 8 → P i ≠ w.heap.size) ∧ (Value.slice (some ⟨g, 0, none⟩) 8 c).ownBlock ≠ some w.heap.size from ⟨fun i hi9 => by have := (hM.out.row hi9).2.2.2; omega, fun e => by have := (hM.out.1.lt _ e).2; omega⟩)
  rw [HRE.out] at HR1 HNE
  clear HR0 HB0 HM0
  go_enter Tryz.func134, Tryz.ntmps134
  go_wp2_with fail
  try simp only [HRE.out]
  go_loopw [16] (fun i wr => ∃ s : Nat, s ≤ 512 ∧ i = .int .i64 (s : Nat) ∧ RwB wr R 512 (ms M s) ∧ MxB wr b (some ⟨g, 0, none⟩) 8 c 9 P M ∧ Below w.heap.size w wr) (fun i _ => 512 - (intOf i).toNat)
  case atStart => exact ⟨0, by omega, rfl, HR1.out, HM1.out, HB1.out⟩
  case round =>
    obtain ⟨s, hs, rfl, hR, hMM, hB⟩ := hrel
    have HR := Lib.hid hR
    have HMM := Lib.hid hMM
    have HB := Lib.hid hB
    clear hR hMM hB HR1 HM1 HB1 t0 q0 q1
    have hs0 : (0 : Int) ≤ (s : Int) := by omega
    by_cases hlt : s < 512
    · have hsi : (s : Int) < 512 := by omega
      have x1 : IntKind.u64.wrap (s : Int) = (s : Int) := by
        show (s : Int) % 18446744073709551616 = s
        omega
      have d1 := HR.out.at_ hlt
      obtain ⟨ml, HML⟩ : ∃ q, Hid (ms M s s = q) := ⟨_, Lib.hid rfl⟩
      obtain ⟨K, HK⟩ : ∃ q, Hid ((cols s).length = q) := ⟨_, Lib.hid rfl⟩
      rw [HML.out] at d1
      go_wp2_with fail
      refine (ones_any s _ hlt).mono ?_
      rintro e w1 ⟨rfl, rfl⟩
      rw [HK.out]
      by_cases hz : ml = 0
      · have HN := Lib.hid (show ms M (s + 1) = ms M s from if_pos (.inl (by rw [HML.out]; exact hz)))
        subst hz
        go_wp2_with fail
        go_roundw
        case rel => exact ⟨s + 1, by omega, by go_num, by rw [HN.out]; exact HR.out, HMM.out, HB.out⟩
        case measure => simp [intOf]; omega
      · have hz1 : (ml == 0) = false := by simpa using hz
        by_cases hk : K < 8
        · have HN := Lib.hid (show ms M (s + 1) = em (M K) s 9 (ms M s) by
            show (if ms M s s = 0 ∨ 8 ≤ (cols s).length then _ else _) = _
            rw [if_neg (by rw [HML.out, HK.out]; exact fun q => q.elim hz (by omega)), HK.out])
          have hki : (K : Int) < 8 := by omega
          have hkd : decide (K < 8) = true := by simpa using hk
          have hk0 : (0 : Int) ≤ (K : Int) := by omega
          obtain ⟨g', eg, -, lg, htc, htf⟩ := HMM.out.top (show 0 < 8 by omega)
          obtain rfl : g = g' := by injection eg with eg; injection eg
          have tk := htc K hk
          have HP := Lib.hid ((HMM.out.2.1 K hk).1)
          clear eg htc htf HML
          go_wp2_with fail
          refine (expand_any (P K) R s (M K) (ms M s) _ hlt (Lib.hid (hb.out K)) HP HR (HNE.out.1 K hk)).mono ?_
          rintro e w2 ⟨rfl, hR2, hG2⟩
          have HR2 := Lib.hid (show RwB w2 R 512 (ms M (s + 1)) by rw [HN.out]; exact hR2)
          have HMM2 := Lib.hid (mx_grown HMM.out hG2 (.inr HNE.out))
          have HB2 := Lib.hid (HB.out.grown hG2 HB.out.size (fun k e => by injection e with e; rw [← e, ← HRE.out]; exact Nat.le_refl _))
          clear hR2 hG2 HR HMM HB HP tk d1 lg
          go_wp2_with fail
          go_roundw
          case rel => exact ⟨s + 1, by omega, by go_num, HR2.out, HMM2.out, HB2.out⟩
          case measure => simp [intOf]; omega
        · have HN := Lib.hid (show ms M (s + 1) = ms M s from if_pos (.inr (by rw [HK.out]; omega)))
          have hki : ¬ (K : Int) < 8 := by omega
          have hkd : decide (K < 8) = false := by simpa using hk
          go_wp2_with fail
          go_roundw
          case rel => exact ⟨s + 1, by omega, by go_num, by rw [HN.out]; exact HR.out, HMM.out, HB.out⟩
          case measure => simp [intOf]; omega
    · have hcd : ¬ (s : Int) < 512 := by omega
      obtain rfl : s = 512 := by omega
      clear hlt
      go_wp2_with fail
      go_ret
      exact ⟨R, rfl, HR.out, by rw [HRE.out]; exact Nat.le_refl _, HB.out⟩
end Go.Proofs.YtnpghhpcloljeabGreatDoor.pg

namespace Go.Proofs.YtnpghhpcloljeabGreatDoor.dt
open Go.RowKit
open pg mt
set_option linter.unusedVariables false

/-! numbers that go round -/
def Cg (a b : Int) : Prop := ∃ k : Int, a = b + k * 18446744073709551616
theorem cg_refl (a : Int) : Cg a a := ⟨0, by omega⟩
theorem Cg.symm {a b : Int} (h : Cg a b) : Cg b a := by
  obtain ⟨k, e⟩ := h
  exact ⟨-k, by omega⟩
theorem Cg.trans {a b c : Int} (h : Cg a b) (g : Cg b c) : Cg a c := by
  obtain ⟨k, e⟩ := h
  obtain ⟨l, f⟩ := g
  exact ⟨k + l, by omega⟩
theorem Cg.add {a b c d : Int} (h : Cg a b) (g : Cg c d) : Cg (a + c) (b + d) := by
  obtain ⟨k, e⟩ := h
  obtain ⟨l, f⟩ := g
  exact ⟨k + l, by omega⟩
theorem Cg.mul {a b : Int} (c : Int) (h : Cg a b) : Cg (c * a) (c * b) := by
  obtain ⟨k, e⟩ := h
  exact ⟨c * k, by rw [e]; grind⟩
theorem cg_wrap (x : Int) : Cg (wrap64 x) x := by
  have h : wrap64 x = (x + 9223372036854775808) % 18446744073709551616 - 9223372036854775808 := by kernel_rfl
  refine ⟨-((x + 9223372036854775808) / 18446744073709551616), ?_⟩
  rw [h]
  have := Int.emod_add_mul_ediv (x + 9223372036854775808) 18446744073709551616
  omega
theorem Cg.eq {a b : Int} (h : Cg a b) (h1 : -9223372036854775808 ≤ a) (h2 : a < 9223372036854775808) (h3 : -9223372036854775808 ≤ b) (h4 : b < 9223372036854775808) : a = b := by
  obtain ⟨k, e⟩ := h
  have : k = 0 := by omega
  rw [this] at e; omega

/-! an expansion as a sum over the columns -/
theorem ex_sum (r : Rw) : ∀ (cs : List Nat) (f : List Nat → Int), cs.Nodup → ex r f cs = (cs.map (fun c => sg (cs.idxOf c) * r c * f (cs.erase c))).sum
  | [], f, h => rfl
  | a :: cs, f, h => by
    have hn := List.nodup_cons.1 h
    simp only [ex, List.map_cons, List.sum_cons]
    rw [ex_sum r cs _ hn.2]
    have e : (cs.map (fun c => sg ((a :: cs).idxOf c) * r c * f ((a :: cs).erase c))).sum = (cs.map (fun c => (-1) * (sg (cs.idxOf c) * r c * f (a :: cs.erase c)))).sum := sum_congr (fun c hc => by
      have hac : ¬ a = c := fun q => hn.1 (by rw [q]; exact hc)
      have hb : (a == c) = false := by simpa using hac
      rw [List.idxOf_cons, List.erase_cons]
      simp only [hb, cond_false, if_false, Bool.false_eq_true]
      rw [sg_succ]; grind)
    rw [e, sum_mul, List.idxOf_cons_self, List.erase_cons_head, sg_zero, Int.one_mul]; omega

/-! sets of columns as numbers -/
/-- a set without a column -/
def wo (S c : Nat) : Nat := S ^^^ 2 ^ c
theorem wo_facts : ∀ S : Nat, S < 512 → ∀ c ∈ cols S, wo S c < S ∧ cols (wo S c) = (cols S).erase c ∧ wo S c ||| 2 ^ c = S ∧ (cols (wo S c / 2 ^ c)).length = (cols S).idxOf c ∧ (cols (wo S c)).length + 1 = (cols S).length ∧ c < 9 := by decide +kernel
theorem put_facts : ∀ T : Nat, T < 512 → ∀ c : Nat, c < 9 → T ||| 2 ^ c = T ∨ (wo (T ||| 2 ^ c) c = T ∧ c ∈ cols (T ||| 2 ^ c) ∧ T ||| 2 ^ c < 512 ∧ T < T ||| 2 ^ c) := by decide +kernel
theorem same_facts : ∀ S : Nat, S < 512 → ∀ c ∈ cols S, wo S c ||| 2 ^ c ≠ wo S c := by decide +kernel
theorem cols_nodup : ∀ S : Nat, S < 512 → (cols S).Nodup := by decide +kernel
theorem cols_full : ∀ S : Nat, S < 512 → ((cols S).length ≤ 8 ∨ S = 511) ∧ ((cols S).length = 0 ↔ S = 0) := by decide +kernel
/-- the determinant of a set of columns -/
def VV (R : Nat → Rw) (S : Nat) : Int := dt ((rv (cols S).length).map R) (cols S)
/-- one part of it -/
def tm (R : Nat → Rw) (S c : Nat) : Int := sg ((cols S).idxOf c) * R ((cols S).length - 1) c * VV R (wo S c)
/-- the parts that come from sets ahead of s, or from s and columns ahead of c -/
def Pt (R : Nat → Rw) (S s c0 : Nat) : Int := ((cols S).map (fun c => if wo S c < s ∨ wo S c = s ∧ c < c0 then tm R S c else 0)).sum
theorem pt_all {R : Nat → Rw} {S s : Nat} (hS : S < 512) (h0 : S ≠ 0) (hs : S ≤ s) : Pt R S s 0 = VV R S := by
  unfold Pt VV
  have hl : 0 < (cols S).length := Nat.pos_of_ne_zero (fun e => h0 ((cols_full S hS).2.1 e))
  obtain ⟨k, hk⟩ : ∃ k, (cols S).length = k + 1 := ⟨(cols S).length - 1, by omega⟩
  rw [hk, rv_succ, List.map_cons, dt_cons, ex_sum _ _ _ (cols_nodup S hS)]
  refine sum_congr (fun c hc => ?_)
  obtain ⟨h1, h2, -, -, h5, -⟩ := wo_facts S hS c hc
  rw [if_pos (.inl (by omega))]
  unfold tm VV
  rw [h2, hk, show (cols S).erase c = cols (wo S c) from h2.symm]
  have e : (cols (wo S c)).length = k := by omega
  rw [e]; rfl
theorem pt_next {R : Nat → Rw} {S s : Nat} (hS : S < 512) : Pt R S s 9 = Pt R S (s + 1) 0 := by
  unfold Pt
  refine sum_congr (fun c hc => ?_)
  have h9 := (wo_facts S hS c hc).2.2.2.2.2
  by_cases q : wo S c < s ∨ wo S c = s ∧ c < 9
  · rw [if_pos q, if_pos (.inl (by omega))]
  · rw [if_neg q, if_neg (by omega)]
theorem pt_other {R : Nat → Rw} {S s c0 : Nat} (hS : S < 512) (h : ∀ c ∈ cols S, ¬ (wo S c = s ∧ c = c0)) : Pt R S s (c0 + 1) = Pt R S s c0 := by
  unfold Pt
  refine sum_congr (fun c hc => ?_)
  have := h c hc
  by_cases q : wo S c < s ∨ wo S c = s ∧ c < c0
  · rw [if_pos q, if_pos (by omega)]
  · rw [if_neg q, if_neg (by omega)]
theorem pt_this {R : Nat → Rw} {S s c0 : Nat} (hS : S < 512) (hc0 : c0 ∈ cols S) (h : wo S c0 = s) : Pt R S s (c0 + 1) = Pt R S s c0 + tm R S c0 := by
  unfold Pt
  have hn := cols_nodup S hS
  obtain ⟨u, v, e⟩ := List.append_of_mem hc0
  have same : ∀ l : List Nat, c0 ∉ l → (∀ c ∈ l, c ∈ cols S) → (l.map (fun c => if wo S c < s ∨ wo S c = s ∧ c < c0 + 1 then tm R S c else 0)).sum = (l.map (fun c => if wo S c < s ∨ wo S c = s ∧ c < c0 then tm R S c else 0)).sum := fun l hl _ => sum_congr (fun c hc => by
    have : c ≠ c0 := fun q => hl (by rw [← q]; exact hc)
    by_cases q : wo S c < s ∨ wo S c = s ∧ c < c0
    · rw [if_pos q, if_pos (by omega)]
    · rw [if_neg q, if_neg (by omega)])
  rw [e] at hn
  have n1 := List.nodup_append.1 hn
  have hu : c0 ∉ u := fun q => n1.2.2 c0 q c0 (List.mem_cons_self ..) rfl
  have hv : c0 ∉ v := (List.nodup_cons.1 n1.2.1).1
  have e1 : ((cols S).map (fun c => if wo S c < s ∨ wo S c = s ∧ c < c0 + 1 then tm R S c else 0)).sum = (u.map (fun c => if wo S c < s ∨ wo S c = s ∧ c < c0 + 1 then tm R S c else 0)).sum + (tm R S c0 + (v.map (fun c => if wo S c < s ∨ wo S c = s ∧ c < c0 + 1 then tm R S c else 0)).sum) := by
    rw [e, List.map_append, List.sum_append, List.map_cons, List.sum_cons, if_pos (.inr ⟨h, by omega⟩)]
  have e2 : ((cols S).map (fun c => if wo S c < s ∨ wo S c = s ∧ c < c0 then tm R S c else 0)).sum = (u.map (fun c => if wo S c < s ∨ wo S c = s ∧ c < c0 then tm R S c else 0)).sum + (0 + (v.map (fun c => if wo S c < s ∨ wo S c = s ∧ c < c0 then tm R S c else 0)).sum) := by
    rw [e, List.map_append, List.sum_append, List.map_cons, List.sum_cons, if_neg (by omega)]
  rw [e1, e2, same u hu (fun c hc => by rw [e]; exact List.mem_append_left _ hc), same v hv (fun c hc => by rw [e]; exact List.mem_append_right _ (List.mem_cons_of_mem _ hc))]
  omega
/-- what the array holds -/
def MI (R : Nat → Rw) (s c0 : Nat) (mn : Nat → Int) : Prop := mn 0 = 1 ∧ ∀ S, S < 511 → S ≠ 0 → Cg (mn S) (Pt R S s c0)
theorem mi_em {R : Nat → Rw} {s : Nat} {mn : Nat → Int} (hs : s < 512) (hv : Cg (mn s) (VV R s)) (h : MI R s 0 mn) : ∀ c0, c0 ≤ 9 → MI R s c0 (em (R (cols s).length) s c0 mn) ∧ (em (R (cols s).length) s c0 mn) s = mn s
  | 0, _ => ⟨h, rfl⟩
  | c0 + 1, hc => by
    obtain ⟨⟨i0, ih⟩, is⟩ := mi_em hs hv h c0 (by omega)
    have e : em (R (cols s).length) s (c0 + 1) mn = em1 (R (cols s).length) s c0 (em (R (cols s).length) s c0 mn) := rfl
    obtain ⟨m, hm⟩ : ∃ m, m = em (R (cols s).length) s c0 mn := ⟨_, rfl⟩
    rw [← hm] at i0 ih is e
    rw [e]
    unfold em1
    rcases put_facts s hs c0 (by omega) with hb | ⟨p1, p2, p3, p4⟩
    · rw [if_pos (.inr hb)]
      refine ⟨⟨i0, fun S h1 h2 => ?_⟩, is⟩
      rw [pt_other (by omega) (fun c hc9 q => same_facts S (by omega) c hc9 (by rw [q.1, q.2]; exact hb))]
      exact ih S h1 h2
    · obtain ⟨L, hL⟩ : ∃ L, L = s ||| 2 ^ c0 := ⟨_, rfl⟩
      rw [← hL] at p1 p2 p3 p4 ⊢
      have only : ∀ S, S < 512 → S ≠ L → ∀ c ∈ cols S, ¬ (wo S c = s ∧ c = c0) := fun S h1 h2 c hc9 q => h2 (by
        have := (wo_facts S h1 c hc9).2.2.1
        rw [q.1, q.2] at this
        rw [hL]; exact this.symm)
      obtain ⟨-, -, -, w4, w5, -⟩ := wo_facts L p3 c0 p2
      have ht : tm R L c0 = sgf s c0 (R (cols s).length c0) * VV R s := by
        unfold tm sgf
        rw [p1] at w4 w5 ⊢
        rw [show (cols L).length - 1 = (cols s).length by omega, ← w4]
        unfold sg
        split <;> simp
      by_cases hf : R (cols s).length c0 = 0
      · rw [if_pos (.inl hf)]
        refine ⟨⟨i0, fun S h1 h2 => ?_⟩, is⟩
        by_cases q : S = L
        · rw [q, pt_this p3 p2 p1, ht, hf, ← q]
          have : sgf s c0 0 = 0 := by unfold sgf; split <;> rfl
          rw [this, Int.zero_mul, Int.add_zero]
          exact ih S h1 h2
        · rw [pt_other (by omega) (only S (by omega) q)]; exact ih S h1 h2
      · rw [if_neg (fun q => q.elim hf (fun z => by omega))]
        refine ⟨⟨?_, fun S h1 h2 => ?_⟩, ?_⟩
        · show upd m L _ 0 = 1
          unfold upd; rw [if_neg (by omega)]; exact i0
        · by_cases q : S = L
          · rw [q, pt_this p3 p2 p1, ht]
            show Cg (upd m L _ L) _
            unfold upd; rw [if_pos rfl]
            refine (cg_wrap _).trans (Cg.add (by rw [← q]; exact ih S h1 h2) ((cg_wrap _).trans (Cg.mul _ ?_)))
            rw [is]; exact hv
          · rw [pt_other (by omega) (only S (by omega) q)]
            show Cg (upd m L _ S) _
            unfold upd; rw [if_neg q]; exact ih S h1 h2
        · show upd m L _ s = mn s
          unfold upd; rw [if_neg (by omega)]; exact is
theorem mi_ms (R : Nat → Rw) : ∀ s, s ≤ 511 → MI R s 0 (ms R s)
  | 0, _ => by
    refine ⟨rfl, fun S h1 h2 => ?_⟩
    have e : Pt R S 0 0 = 0 := by
      unfold Pt
      have : ((cols S).map (fun c => if wo S c < 0 ∨ wo S c = 0 ∧ c < 0 then tm R S c else 0)).sum = ((cols S).map (fun c => 0 * (0 : Int))).sum := sum_congr (fun c _ => by rw [if_neg (by omega)]; rfl)
      rw [this, sum_mul]; omega
    rw [e]
    show Cg (upd (fun _ => 0) 0 1 S) 0
    unfold upd; rw [if_neg h2]; exact cg_refl 0
  | s + 1, hs => by
    have ih := mi_ms R s (by omega)
    have hv : Cg (ms R s s) (VV R s) := by
      by_cases q : s = 0
      · rw [q] at ih ⊢
        rw [ih.1]
        have : VV R 0 = 1 := by
          have e0 : cols 0 = [] := by decide
          unfold VV; rw [e0]; rfl
        rw [this]; exact cg_refl 1
      · have := ih.2 s (by omega) q
        rw [pt_all (by omega) q (Nat.le_refl _)] at this; exact this
    show MI R (s + 1) 0 (if ms R s s = 0 ∨ 8 ≤ (cols s).length then _ else _)
    by_cases hz : ms R s s = 0 ∨ 8 ≤ (cols s).length
    · rw [if_pos hz]
      refine ⟨ih.1, fun S h1 h2 => ?_⟩
      rw [← pt_next (by omega)]
      -- all parts that come from s are nothing, or there are none
      have key : ∀ c0, c0 ≤ 9 → Cg (Pt R S s 0) (Pt R S s c0) := by
        intro c0
        induction c0 with
        | zero => intro _; exact cg_refl _
        | succ c0 ih9 =>
          intro hc
          have i9 := ih9 (by omega)
          by_cases q : c0 ∈ cols S ∧ wo S c0 = s
          · rw [pt_this (by omega) q.1 q.2]
            have hv0 : ms R s s = 0 := by
              rcases hz with z | z
              · exact z
              · have w5 := (wo_facts S (by omega) c0 q.1).2.2.2.2.1
                rw [q.2] at w5
                rcases (cols_full S (by omega)).1 with y | y <;> omega
            rw [hv0] at hv
            have ht : Cg 0 (tm R S c0) := by
              unfold tm
              rw [q.2]
              have := Cg.mul (sg ((cols S).idxOf c0) * R ((cols S).length - 1) c0) hv
              rwa [Int.mul_zero] at this
            have := i9.add ht
            rwa [Int.add_zero] at this
          · rw [pt_other (by omega) (fun c hc9 z => q ⟨by rw [← z.2]; exact hc9, by rw [← z.2]; exact z.1⟩)]
            exact i9
      exact (ih.2 S h1 h2).trans (key 9 (by omega))
    · rw [if_neg hz]
      have := (mi_em (by omega) hv ih 9 (by omega)).1
      refine ⟨this.1, fun S h1 h2 => ?_⟩
      rw [← pt_next (by omega)]
      exact this.2 S h1 h2
/-- THE ARRAY's ENTRIES ARE THE DETERMINANTS -/
theorem ms_VV (R : Nat → Rw) {S : Nat} (hS : S < 511) (h0 : S ≠ 0) : Cg (ms R 512 S) (VV R S) := by
  have h := (mi_ms R 511 (by omega)).2 S hS h0
  rw [pt_all (by omega) h0 (by omega)] at h
  have e : ms R 512 = ms R 511 := if_pos (.inr (by decide))
  rw [e]; exact h
end Go.Proofs.YtnpghhpcloljeabGreatDoor.dt

namespace Go.Proofs.YtnpghhpcloljeabGreatDoor.dt
open Go.RowKit
open pg mt lg
set_option linter.unusedVariables false

theorem wrap_in (x : Int) : -9223372036854775808 ≤ wrap64 x ∧ wrap64 x < 9223372036854775808 := by unfold wrap64; omega
theorem em_in {f : Nat → Int} {T : Nat} {mn : Nat → Int} (h : ∀ S, -9223372036854775808 ≤ mn S ∧ mn S < 9223372036854775808) : ∀ c S, -9223372036854775808 ≤ em f T c mn S ∧ em f T c mn S < 9223372036854775808
  | 0, S => h S
  | c + 1, S => by
    show _ ≤ em1 f T c (em f T c mn) S ∧ em1 f T c (em f T c mn) S < _
    unfold em1
    by_cases q : f c = 0 ∨ T ||| 2 ^ c = T
    · rw [if_pos q]; exact em_in h c S
    · rw [if_neg q]
      unfold upd
      by_cases z : S = T ||| 2 ^ c
      · rw [if_pos z]; exact wrap_in _
      · rw [if_neg z]; exact em_in h c S
theorem ms_in (M : Nat → Nat → Int) : ∀ s S, -9223372036854775808 ≤ ms M s S ∧ ms M s S < 9223372036854775808
  | 0, S => by
    show _ ≤ upd (fun _ => 0) 0 1 S ∧ upd (fun _ => 0) 0 1 S < _
    unfold upd
    by_cases z : S = 0
    · rw [if_pos z]; omega
    · rw [if_neg z]; show -9223372036854775808 ≤ (0 : Int) ∧ (0 : Int) < 9223372036854775808; omega
  | s + 1, S => by
    show _ ≤ (if ms M s s = 0 ∨ 8 ≤ (cols s).length then ms M s else em (M (cols s).length) s 9 (ms M s)) S ∧ (if ms M s s = 0 ∨ 8 ≤ (cols s).length then ms M s else em (M (cols s).length) s 9 (ms M s)) S < _
    by_cases q : ms M s s = 0 ∨ 8 ≤ (cols s).length
    · rw [if_pos q]; exact ms_in M s S
    · rw [if_neg q]; exact em_in (ms_in M s) 9 S
theorem cols_255 : cols 255 = rv 8 := by decide
theorem cols_x : ∀ s : Nat, s < 8 → cols (511 - 2 ^ s) = 8 :: (rv 8).filter (fun x => x != s) ∧ 511 - 2 ^ s < 511 ∧ 511 - 2 ^ s ≠ 0 := by decide
theorem ms_TC {ts : List ty.Lg} (hg : goodLg ts = true) (ax : Int) : ms (prF (US ts ax) (stN ts)) 512 255 = TC ts := by
  have h := nw_net hg ax
  have c := ms_VV (prF (US ts ax) (stN ts)) (S := 255) (by omega) (by omega)
  have e : VV (prF (US ts ax) (stN ts)) 255 = TC ts := by
    unfold VV
    rw [cols_255, rv_length, ← DD_ax hg ax, ← PR_DD h.hn h.h8]; rfl
  rw [e] at c
  have b := ms_in (prF (US ts ax) (stN ts)) 512 255
  have b2 := TC_le hg
  have b3 := TC_pos hg
  exact c.eq b.1 b.2 (by omega) (by omega)
theorem ms_XC {ts : List ty.Lg} (hg : goodLg ts = true) (ax : Int) {s : Nat} (hs : s < 8) : ms (prF (US ts ax) (stN ts)) 512 (511 - 2 ^ s) = if (7 - s) % 2 = 1 then -(XC ts ax s) else XC ts ax s := by
  have h := nw_net hg ax
  obtain ⟨k1, k2, k3⟩ := cols_x s hs
  have c := ms_VV (prF (US ts ax) (stN ts)) k2 k3
  have e : XC ts ax s = sg (7 - s) * VV (prF (US ts ax) (stN ts)) (511 - 2 ^ s) := by
    unfold VV
    have l8 : (cols (511 - 2 ^ s)).length = 8 := by
      have : ∀ s : Nat, s < 8 → (cols (511 - 2 ^ s)).length = 8 := by decide
      exact this s hs
    rw [l8, k1]
    unfold XC
    rw [← PR_XX h.hn h.h8 hs, dt_place hs]; rfl
  have e2 : VV (prF (US ts ax) (stN ts)) (511 - 2 ^ s) = if (7 - s) % 2 = 1 then -(XC ts ax s) else XC ts ax s := by
    rw [e]
    unfold sg
    split <;> omega
  rw [e2] at c
  have b := ms_in (prF (US ts ax) (stN ts)) 512 (511 - 2 ^ s)
  have b2 := XC_le hg ax s
  refine c.eq b.1 b.2 ?_ ?_ <;> (split <;> omega)
theorem ix_is : ∀ s : Nat, s < 8 → bits BinOp.or IntKind.u64 (bits BinOp.andNot IntKind.u64 255 (IntKind.u64.wrap (2 ^ s))) 256 = ((511 - 2 ^ s : Nat) : Int) := by decide +kernel
theorem ix_lt : ∀ s : Nat, s < 8 → 511 - 2 ^ s < 512 := by decide
end Go.Proofs.YtnpghhpcloljeabGreatDoor.dt
