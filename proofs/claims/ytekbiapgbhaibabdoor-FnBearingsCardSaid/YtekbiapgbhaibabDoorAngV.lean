/-
  FnBearings, walked: it answers true at every code.
  Conditions: the code has at most 65536 bytes, the variable holds the table of the sines.
-/
import Derived.Test.YtekbiapgbhaibabDoorAngF
import Derived.Deep.DeepCutAuto
namespace Go.Proofs.YtekbiapgbhaibabDoor.angv
open Go.RowKit
open ang angi angc angf
set_option linter.unusedVariables false

structure BK (b k : Int) (ok : Bool) : Prop where
  s : ansBack b = .tuple #[.int .i64 k, .bool ok]
  again : ok = true → ansBack k = .tuple #[.int .i64 b, .bool true]
  turn : ok = true → ansTurn b k = .tuple #[.int .i64 180, .bool true]
theorem bk_any (b : Int) : ∃ k ok, BK b k ok := by
  by_cases h : 0 ≤ b ∧ b ≤ 359
  · refine ⟨(b + 180) % 360, true, if_pos h, fun _ => ?_, fun _ => ?_⟩
    · rw [show ansBack ((b + 180) % 360) = _ from if_pos (by omega), back_back b h.1 h.2]
    · rw [show ansTurn b ((b + 180) % 360) = _ from if_pos ⟨h, by omega⟩, turn_back]
  · exact ⟨0, false, if_neg h, fun c => (by cases c), fun c => (by cases c)⟩
structure BT (e n v : Int) (ok : Bool) : Prop where
  s : ansBearing e n = .tuple #[.int .i64 v, .bool ok]
  lim : ok = true → ((-100000 ≤ e ∧ e ≤ 100000) ∧ (-100000 ≤ n ∧ n ≤ 100000)) ∧ 0 ≤ v ∧ v ≤ 359
  best : ok = true → ∀ d : Nat, d ≤ 359 → e * sinZ d + n * cosZ d ≤ e * sinZ v + n * cosZ v
theorem bt_any (e n : Int) : ∃ v ok, BT e n v ok := by
  by_cases h : okB e n
  · refine ⟨(bestB e n : Nat), true, if_pos h, fun _ => ⟨⟨h.1, h.2.1⟩, by omega, ?_⟩, fun _ d hd => (bst_spec (fitB e n) 359).1 d hd⟩
    have := bst_le (fitB e n) 359
    unfold bestB
    omega
  · exact ⟨0, false, if_neg h, fun c => (by cases c), fun c => (by cases c)⟩
structure SL (l u v : Int) (ok : Bool) : Prop where
  s : ansSlope l u = .tuple #[.int .i64 v, .bool ok]
  bd : -90 ≤ v ∧ v ≤ 90
  opp : ok = true → 0 ≤ l ∧ ∃ x, ansSlope l (-u) = .tuple #[.int .i64 x, .bool true] ∧ (0 < l → x = -v)
theorem sl_any (l u : Int) : ∃ v ok, SL l u v ok := by
  by_cases h : okS l u
  · refine ⟨bestS l u, true, if_pos h, bestS_bd l u, fun _ => ⟨h.1.1, bestS l (-u), if_pos ⟨h.1, by have := h.2.1; omega, fun c => h.2.2 ⟨c.1, by omega⟩⟩, fun hl => bestS_opp l u hl⟩⟩
  · exact ⟨0, false, if_neg h, by omega, fun c => (by cases c)⟩
/-- the root's bound -/
theorem root_bd {S q : Int} (h : IsRoot S q) (hS : S ≤ 30000000000) : 0 ≤ q ∧ q ≤ 200000 := by
  refine ⟨h.1, ?_⟩
  rcases Int.lt_or_le 200000 q with k | k
  · have := sq_mono (show (0 : Int) ≤ 200000 by decide) (show (200000 : Int) ≤ q by omega)
    have := h.2.1
    omega
  · exact k
theorem root_sq {S q : Int} (h : IsRoot S q) (hS : S ≤ 30000000000) : (0 ≤ q * q ∧ q * q ≤ 30000000000) ∧ (0 ≤ (q + 1) * (q + 1) ∧ (q + 1) * (q + 1) ≤ 50000000000) := by
  obtain ⟨a, b⟩ := root_bd h hS
  refine ⟨⟨Int.mul_nonneg a a, by have := h.2.1; omega⟩, Int.mul_nonneg (by omega) (by omega), ?_⟩
  have := sq_mono (show (0 : Int) ≤ q + 1 by omega) (show q + 1 ≤ 200001 by omega)
  omega

set_option maxHeartbeats 8000000 in
set_option maxRecDepth 100000 in
theorem walk (A : Option Addr) (n cap : Nat) (zs : List UInt8) (w : World) (hn : n ≤ 65536) (hS : Hid (St w A n zs w)) :
    Calls Tryd.prog 4 #[.slice A n cap] w (LawPost w) := by
  have HB := Lib.hid (big_no A n cap w hn)
  clear hn
  go_enter Tryd.func4, Tryd.ntmps4
  go_wp2_with fail
  refine HB.out.mono ?_
  rintro e w' ⟨rfl, rfl⟩
  clear HB
  go_wp2_with fail
  refine (angd.back_draw A n cap zs _ hS.out.2.1).mono ?_
  rintro e w1 ⟨b, rfl, b0, b1, bb⟩
  obtain ⟨k, ok, hbk⟩ := bk_any b
  have HK := Lib.hid hbk
  have S1 := Lib.hid (hS.out.step bb)
  clear bb hS hbk
  go_wp2_with fail
  refine (back_impl b _).mono ?_
  rintro e w2 ⟨rfl, bb⟩
  rw [HK.out.s]
  have S2 := Lib.hid (S1.out.step bb)
  clear bb S1
  go_wp2_with fail
  refine (back_model b _).mono ?_
  rintro e w3 ⟨rfl, bb⟩
  rw [HK.out.s]
  have S3 := Lib.hid (S2.out.step bb)
  clear bb S2
  go_upto_if 64 with fail
  go_cut [11] (fun _ wx => St w A n zs wx)
  case first =>
    as_aux_lemma =>
      cases ok
      · go_wp2_with fail
        go_meet
        case rel => exact S3.out
      · have HG := Lib.hid (HK.out.again rfl)
        have HT := Lib.hid (HK.out.turn rfl)
        clear HK
        go_wp2_with fail
        refine (back_impl k _).mono ?_
        rintro e w4 ⟨rfl, bb⟩
        rw [HG.out]
        have S4 := Lib.hid (S3.out.step bb)
        clear bb S3 HG
        go_wp2_with fail
        refine (turn_impl b k _).mono ?_
        rintro e w5 ⟨rfl, bb⟩
        rw [HT.out]
        have S5 := Lib.hid (S4.out.step bb)
        clear bb S4 HT
        go_wp2_with fail
        go_meet
        case rel => exact S5.out
  case rest =>
    as_aux_lemma =>
      have SA := Lib.hid hcut
      clear hcut HK S3
      go_wp2_with fail
      refine (angd.bearingTo_draw A n cap zs _ SA.out.2.1).mono ?_
      rintro e wa ⟨ea, no, rfl, ea0, ea1, no0, no1, bb⟩
      obtain ⟨best, told, hbt⟩ := bt_any ea no
      have HD := Lib.hid hbt
      have SB := Lib.hid (SA.out.step bb)
      clear bb SA hbt
      go_wp2_with fail
      refine (bearingTo_impl ea no _ SB.out.tab).mono ?_
      rintro e wb ⟨rfl, bb⟩
      rw [HD.out.s]
      have SC := Lib.hid (SB.out.step bb)
      clear bb SB
      go_wp2_with fail
      refine (bearingTo_model ea no _).mono ?_
      rintro e wc' ⟨rfl, bb⟩
      rw [HD.out.s]
      have SD := Lib.hid (SC.out.step bb)
      clear bb SC
      go_upto_if 116 with fail
      go_cut [26] (fun _ wx => St w A n zs wx)
      case first =>
        as_aux_lemma =>
          cases told
          · go_wp2_with fail
            go_meet
            case rel => exact SD.out
          · obtain ⟨⟨⟨e0, e1⟩, n0, n1⟩, v0, v1⟩ := HD.out.lim rfl
            have HBest := Lib.hid (HD.out.best rfl)
            have HV := Lib.hid (sc_ok (d := best) (by omega) (by omega))
            obtain ⟨sv, HS⟩ : ∃ v, Hid (sinZ best = v) := ⟨_, Lib.hid rfl⟩
            obtain ⟨cv, HC⟩ : ∃ v, Hid (cosZ best = v) := ⟨_, Lib.hid rfl⟩
            have hs := sinZ_bd best
            have hc := cosZ_bd best
            rw [HS.out] at hs
            rw [HC.out] at hc
            obtain ⟨p0, p1⟩ := prod_bd ea sv e0 e1 hs.1 hs.2
            obtain ⟨p2, p3⟩ := prod_bd no cv n0 n1 hc.1 hc.2
            rw [HS.out, HC.out] at HV HBest
            clear HD hs hc
            go_wp2_with fail
            refine (sineOf_impl best _ SD.out.tab).mono ?_
            rintro e wd ⟨rfl, bb⟩
            rw [HV.out.1]
            have SE := Lib.hid (SD.out.step bb)
            clear bb SD
            go_wp2_with fail
            refine (cosineOf_impl best _ SE.out.tab).mono ?_
            rintro e we ⟨rfl, bb⟩
            rw [HV.out.2]
            have SF := Lib.hid (SE.out.step bb)
            clear bb SE HV
            go_wp2_with fail
            go_loopw [22] (fun i wr => ∃ j : Nat, j ≤ 24 ∧ i = .int .i64 ((15 * j : Nat) : Int) ∧ St w A n zs wr) (fun i _ => (360 - intOf i).toNat)
            case atStart => exact ⟨0, by decide, rfl, SF.out⟩
            case round =>
              obtain ⟨j, j1, rfl, hSt⟩ := hrel
              have SG := Lib.hid hSt
              clear hSt SF
              by_cases hlt : j < 24
              · have HW := Lib.hid (sc_ok (d := ((15 * j : Nat) : Int)) (by omega) (by omega))
                obtain ⟨J, hJ⟩ : ∃ J : Nat, 15 * j = J := ⟨_, rfl⟩
                have HJ := Lib.hid hJ
                have hJ1 : J ≤ 345 := by omega
                have HL := Lib.hid (HBest.out J (by omega))
                rw [hJ] at HW ⊢
                clear hJ
                obtain ⟨xv, HX⟩ : ∃ v, Hid (sinZ (J : Int) = v) := ⟨_, Lib.hid rfl⟩
                obtain ⟨yv, HY⟩ : ∃ v, Hid (cosZ (J : Int) = v) := ⟨_, Lib.hid rfl⟩
                have hx := sinZ_bd (J : Int)
                have hy := cosZ_bd (J : Int)
                rw [HX.out] at hx
                rw [HY.out] at hy
                obtain ⟨r0, r1⟩ := prod_bd ea xv e0 e1 hx.1 hx.2
                obtain ⟨r2, r3⟩ := prod_bd no yv n0 n1 hy.1 hy.2
                rw [HX.out, HY.out] at HW HL
                have hle := HL.out
                have hdd : decide (ea * sv + no * cv < ea * xv + no * yv) = false := by simp; omega
                clear HL hx hy
                go_wp2_with fail
                refine (sineOf_impl J _ SG.out.tab).mono ?_
                rintro e wf ⟨rfl, bb⟩
                rw [HW.out.1]
                have SH := Lib.hid (SG.out.step bb)
                clear bb SG
                go_wp2_with fail
                refine (cosineOf_impl J _ SH.out.tab).mono ?_
                rintro e wg ⟨rfl, bb⟩
                rw [HW.out.2]
                have SI := Lib.hid (SH.out.step bb)
                clear bb SH HW
                go_wp2_with fail
                go_roundw
                case rel => exact ⟨j + 1, by omega, by rw [show 15 * (j + 1) = J + 15 by have := HJ.out; omega]; go_num, SI.out⟩
                case measure => simp [intOf]; omega
              · obtain rfl : j = 24 := by omega
                go_wp2_with fail
                go_meet
                case rel => exact SG.out
      case rest =>
        as_aux_lemma =>
          have SJ := Lib.hid hcut
          clear hcut HD SD
          go_wp2_with fail
          refine (angd.slope_draw A n cap zs _ SJ.out.2.1).mono ?_
          rintro e wh ⟨l, u, rfl, l0, l1, u0, u1, bb⟩
          obtain ⟨sl, fine, hsl⟩ := sl_any l u
          obtain ⟨sl0, sl1⟩ := hsl.bd
          have HP := Lib.hid hsl
          have SK := Lib.hid (SJ.out.step bb)
          clear bb SJ hsl
          go_wp2_with fail
          refine (slopeTo_impl l u _ SK.out.tab).mono ?_
          rintro e wi ⟨rfl, bb⟩
          rw [HP.out.s]
          have SL := Lib.hid (SK.out.step bb)
          clear bb SK
          go_wp2_with fail
          refine (slopeTo_model l u _).mono ?_
          rintro e wj ⟨rfl, bb⟩
          rw [HP.out.s]
          have SM := Lib.hid (SL.out.step bb)
          clear bb SL
          go_upto_if 197 with fail
          go_cut [34] (fun _ wx => St w A n zs wx)
          case first =>
            as_aux_lemma =>
              cases fine
              · go_wp2_with fail
                go_meet
                case rel => exact SM.out
              · obtain ⟨hl0, x, hx, hx2⟩ := HP.out.opp rfl
                have HX := Lib.hid hx
                have HX2 := Lib.hid hx2
                clear hx hx2 HP
                go_wp2_with fail
                refine (slopeTo_impl l (-u) _ SM.out.tab).mono ?_
                rintro e wk ⟨rfl, bb⟩
                rw [HX.out]
                have SN := Lib.hid (SM.out.step bb)
                clear bb SM HX
                by_cases hl : 0 < l
                · obtain rfl := HX2.out hl
                  clear HX2
                  go_wp2_with fail
                  go_meet
                  case rel => exact SN.out
                · obtain rfl : l = 0 := by omega
                  clear HX2
                  go_wp2_with fail
                  go_meet
                  case rel => exact SN.out
          case rest =>
            as_aux_lemma =>
              have SO := Lib.hid hcut
              clear hcut HP SM
              go_wp2_with fail
              refine (angd.length_draw A n cap zs _ SO.out.2.1).mono ?_
              rintro e wl ⟨x, y, z, rfl, x0, x1, y0, y1, z0, z1, bb⟩
              have SP := Lib.hid (SO.out.step bb)
              clear bb SO
              go_wp2_with fail
              refine (lengthOf_impl x y z _).mono ?_
              rintro e wm ⟨⟨ho, q, hq, rfl⟩ | ⟨ho, rfl⟩, bb⟩
              · have SQ := Lib.hid (SP.out.step bb)
                have HO := Lib.hid ho
                have HQ := Lib.hid hq
                clear bb SP ho hq
                go_wp2_with fail
                refine (lengthOf_model x y z _).mono ?_
                rintro e wn ⟨⟨ho, r, hr, rfl⟩ | ⟨ho, rfl⟩, bb⟩
                · obtain rfl : q = r := root_uniq HQ.out hr
                  have SR := Lib.hid (SQ.out.step bb)
                  obtain ⟨p1, q1⟩ := sq_bd x ho.1.1 ho.1.2
                  obtain ⟨p2, q2⟩ := sq_bd y ho.2.1.1 ho.2.1.2
                  obtain ⟨p3, q3⟩ := sq_bd z ho.2.2.1 ho.2.2.2
                  obtain ⟨⟨a1, a2⟩, a3, a4⟩ := root_sq hr (by omega)
                  obtain ⟨c1, c2⟩ := root_bd hr (by omega)
                  have g1 := hr.2.1
                  have g2 := hr.2.2
                  have d1 : decide (q * q ≤ x * x + y * y + z * z) = true := by simpa using g1
                  have d2 : decide (x * x + y * y + z * z < (q + 1) * (q + 1)) = true := by simpa using g2
                  clear bb SQ ho hr HQ HO
                  go_wp2_with fail
                  go_ret
                  exact ⟨rfl, SR.out.1⟩
                · exact absurd HO.out ho
              · have SQ := Lib.hid (SP.out.step bb)
                have HO := Lib.hid ho
                clear bb SP ho
                go_wp2_with fail
                refine (lengthOf_model x y z _).mono ?_
                rintro e wn ⟨⟨ho, r, hr, rfl⟩ | ⟨ho, rfl⟩, bb⟩
                · exact absurd ho HO.out
                · have SR := Lib.hid (SQ.out.step bb)
                  clear bb SQ ho HO
                  go_wp2_with fail
                  go_ret
                  exact ⟨rfl, SR.out.1⟩
end Go.Proofs.YtekbiapgbhaibabDoor.angv
