/-
  FnAngles, walked: it answers true at every code.
  Conditions: the code has at most 65536 bytes, the variable holds the table of the sines.
-/
import Derived.Test.YtekbiapgbhaibabDoorAngF
import Derived.Deep.DeepCutAuto
namespace Go.Proofs.YtekbiapgbhaibabDoor.angw
open Go.RowKit
open ang angi angc angf
set_option linter.unusedVariables false

theorem sq1000 (a : Int) (h0 : -1000 ≤ a) (h1 : a ≤ 1000) : 0 ≤ a * a ∧ a * a ≤ 1000000 := by
  have h : (a * a).natAbs ≤ 1000 * 1000 := by rw [Int.natAbs_mul]; exact Nat.mul_le_mul (by omega) (by omega)
  have k : 0 ≤ a * a := by
    rcases Int.le_total 0 a with k | k
    · exact Int.mul_nonneg k k
    · have := Int.mul_nonneg (show 0 ≤ -a by omega) (show 0 ≤ -a by omega)
      rwa [Int.neg_mul_neg] at this
  omega
set_option maxHeartbeats 8000000 in
set_option maxRecDepth 100000 in
theorem walk (A : Option Addr) (n cap : Nat) (zs : List UInt8) (w : World) (hn : n ≤ 65536) (hS : Hid (St w A n zs w)) :
    Calls Tryd.prog 3 #[.slice A n cap] w (LawPost w) := by
  have HB := Lib.hid (big_no A n cap w hn)
  clear hn
  go_enter Tryd.func3, Tryd.ntmps3
  go_wp2_with fail
  refine HB.out.mono ?_
  rintro e w' ⟨rfl, rfl⟩
  clear HB
  go_wp2_with fail
  refine (angd.sine_draw A n cap zs _ hS.out.2.1).mono ?_
  rintro e w1 ⟨d, rfl, d0, d1, b1⟩
  obtain ⟨sv, cv, ok, hsc⟩ := sc_any d
  obtain ⟨⟨s0, s1⟩, c0, c1⟩ := hsc.bd
  have HSC := Lib.hid hsc
  have S1 := Lib.hid (hS.out.step b1)
  clear b1 hS hsc
  go_wp2_with fail
  refine (sineOf_impl d _ S1.out.tab).mono ?_
  rintro e w2 ⟨rfl, b2⟩
  rw [HSC.out.s]
  have S2 := Lib.hid (S1.out.step b2)
  clear b2 S1
  go_wp2_with fail
  refine (cosineOf_impl d _ S2.out.tab).mono ?_
  rintro e w3 ⟨rfl, b3⟩
  rw [HSC.out.c]
  have S3 := Lib.hid (S2.out.step b3)
  clear b3 S2
  go_wp2_with fail
  refine (sineOf_model d _).mono ?_
  rintro e w4 ⟨rfl, b4⟩
  rw [HSC.out.s]
  have S4 := Lib.hid (S3.out.step b4)
  clear b4 S3
  go_wp2_with fail
  refine (cosineOf_model d _).mono ?_
  rintro e w5 ⟨rfl, b5⟩
  rw [HSC.out.c]
  have S5 := Lib.hid (S4.out.step b5)
  clear b5 S4
  go_upto_if 88 with fail
  go_cut [17] (fun _ wx => St w A n zs wx)
  case first =>
    as_aux_lemma =>
      cases ok
      · go_wp2_with fail
        go_meet
        case rel => exact S5.out
      · obtain ⟨⟨e0, e1⟩, hs, hc⟩ := HSC.out.yes rfl
        obtain ⟨q0, q1⟩ := sum_near d
        rw [← hs, ← hc] at q0 q1
        obtain ⟨p0, p1⟩ := sq1000 sv s0 s1
        obtain ⟨p2, p3⟩ := sq1000 cv c0 c1
        have HN := Lib.hid (show ansSine (-d) = .tuple #[.int .i64 (-sv), .bool true] by rw [(sc_ok (d := -d) (by omega) (by omega)).1, sinZ_neg, ← hs])
        obtain ⟨x9, t9, hx9, hy9⟩ := s_any (d + 90) cv hc.symm
        obtain ⟨x3, t3, hx3, hy3⟩ := s_any (d + 360) sv (by rw [sinZ_turn]; exact hs.symm)
        have HX9 := Lib.hid hx9
        have HX3 := Lib.hid hx3
        have HY9 := Lib.hid hy9
        have HY3 := Lib.hid hy3
        clear hs hc hx9 hx3 hy9 hy3 HSC
        go_wp2_with fail
        refine (sineOf_impl (-d) _ S5.out.tab).mono ?_
        rintro e w6 ⟨rfl, b6⟩
        rw [HN.out]
        have S6 := Lib.hid (S5.out.step b6)
        clear b6 S5
        go_wp2_with fail
        refine (sineOf_impl (d + 90) _ S6.out.tab).mono ?_
        rintro e w7 ⟨rfl, b7⟩
        rw [HX9.out]
        have S7 := Lib.hid (S6.out.step b7)
        clear b7 S6 HX9
        rcases HY9.out with rfl | ⟨rfl, rfl⟩
        all_goals
          clear HY9
          go_wp2_with fail
          refine (sineOf_impl (d + 360) _ S7.out.tab).mono ?_
          rintro e w8 ⟨rfl, b8⟩
          rw [HX3.out]
          have S8 := Lib.hid (S7.out.step b8)
          clear b8 S7 HX3
          rcases HY3.out with rfl | ⟨rfl, rfl⟩
          all_goals
            clear HY3
            go_wp2_with fail
            go_meet
            case rel => exact S8.out
  case rest =>
    as_aux_lemma =>
      have SA := Lib.hid hcut
      clear hcut HSC S5
      go_wp2_with fail
      refine (angd.round_draw A n cap zs _ SA.out.2.1).mono ?_
      rintro e wa ⟨a, b, rfl, a0, a1, b0, b1, bb⟩
      obtain ⟨q, told, hdv⟩ := dv_any a b
      have HD := Lib.hid hdv
      have SB := Lib.hid (SA.out.step bb)
      clear bb SA hdv
      go_wp2_with fail
      refine (roundedDiv_impl a b _).mono ?_
      rintro e wb ⟨rfl, bb⟩
      rw [HD.out.s]
      have SC := Lib.hid (SB.out.step bb)
      clear bb SB
      go_wp2_with fail
      refine (roundedDiv_model a b _).mono ?_
      rintro e wc' ⟨rfl, bb⟩
      rw [HD.out.s]
      have SD := Lib.hid (SC.out.step bb)
      clear bb SC
      go_upto_region 25 with fail
      go_cut [185] (fun x wx => x = .bool false ∧ St w A n zs wx)
      case first =>
        as_aux_lemma =>
          cases told
          · go_wp2_with fail
            go_meet
            case rel => exact ⟨rfl, SD.out⟩
          · obtain ⟨⟨k0, k1⟩, ⟨k2, k3⟩, k4, k5⟩ := dv_bd HD.out rfl
            obtain ⟨v, HV⟩ : ∃ v, Hid (far (q * b - a) = v) := ⟨_, Lib.hid rfl⟩
            have hv : 0 ≤ v ∧ 2 * v ≤ b := by
              rw [← HV.out]
              unfold far
              split <;> omega
            obtain ⟨v0, v1⟩ := hv
            have hvd : decide (b < 2 * v) = false := by simp; omega
            go_wp2_with fail
            refine (far_any (q * b - a) v _ HV (by omega) (by omega)).mono ?_
            rintro e w' ⟨rfl, rfl⟩
            go_wp2_with fail
            go_meet
            case rel => exact ⟨rfl, SD.out⟩
      case rest =>
        as_aux_lemma =>
          obtain ⟨rfl, hcut⟩ := hcut
          have SE := Lib.hid hcut
          clear hcut HD SD
          go_wp2_with fail
          refine (angd.part_draw A n cap zs _ SE.out.2.1).mono ?_
          rintro e wd ⟨l, g, rfl, l0, l1, g0, g1, bb⟩
          obtain ⟨x, y, known, hpa⟩ := pa_any l g
          obtain ⟨⟨x0, x1⟩, y0, y1⟩ := hpa.bd
          have HP := Lib.hid hpa
          have SF := Lib.hid (SE.out.step bb)
          clear bb SE hpa
          go_wp2_with fail
          refine (partOf_impl l g _ SF.out.tab).mono ?_
          rintro e we ⟨rfl, bb⟩
          rw [HP.out.s]
          have SG := Lib.hid (SF.out.step bb)
          clear bb SF
          go_wp2_with fail
          refine (partOf_model l g _).mono ?_
          rintro e wf ⟨rfl, bb⟩
          rw [HP.out.s]
          have SH := Lib.hid (SG.out.step bb)
          clear bb SG
          go_upto_if 218 with fail
          go_cut [34] (fun _ wx => St w A n zs wx)
          case first =>
            as_aux_lemma =>
              cases known
              · go_wp2_with fail
                go_meet
                case rel => exact SH.out
              · have HO := Lib.hid (HP.out.opp rfl)
                go_wp2_with fail
                refine (partOf_impl (-l) g _ SH.out.tab).mono ?_
                rintro e wg ⟨rfl, bb⟩
                rw [HO.out]
                have SI := Lib.hid (SH.out.step bb)
                clear bb SH
                go_wp2_with fail
                go_meet
                case rel => exact SI.out
          case rest =>
            as_aux_lemma =>
              have SJ := Lib.hid hcut
              clear hcut HP SH
              go_wp2_with fail
              refine (angd.turn_draw A n cap zs _ SJ.out.2.1).mono ?_
              rintro e wh ⟨m, k, rfl, m0, m1, k0, k1, bb⟩
              obtain ⟨tn, some, htn⟩ := tn_any m k
              obtain ⟨t0, t1⟩ := htn.bd
              have HT := Lib.hid htn
              have SK := Lib.hid (SJ.out.step bb)
              clear bb SJ htn
              go_wp2_with fail
              refine (turn_impl m k _).mono ?_
              rintro e wi ⟨rfl, bb⟩
              rw [HT.out.s]
              have SL := Lib.hid (SK.out.step bb)
              clear bb SK
              go_wp2_with fail
              refine (turn_impl k m _).mono ?_
              rintro e wj ⟨rfl, bb⟩
              rw [HT.out.r]
              have SM := Lib.hid (SL.out.step bb)
              clear bb SL
              go_wp2_with fail
              refine (turn_model m k _).mono ?_
              rintro e wk ⟨rfl, bb⟩
              rw [HT.out.s]
              have SN := Lib.hid (SM.out.step bb)
              clear bb SM HT
              cases some
              all_goals
                go_wp2_with fail
                go_ret
                exact ⟨rfl, SN.out.1⟩
end Go.Proofs.YtekbiapgbhaibabDoor.angw
