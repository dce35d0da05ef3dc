/-
  FnTeamCounts: the law's walk.
  Conditions: the code has at most 65536 bytes.
-/
import Derived.Test.YtidofckanadkpaaDqH
namespace Go.Proofs.Ytidofckanadkpaa.tec
open Go.RowKit
open reads base curs curd ty rowi psk psl psm psn pso psp pq dps tab tea
set_option linter.unusedVariables false
set_option linter.unusedSimpArgs false

theorem off_flat : ∀ L : List (List Int), intt.off L = L.flatten.length
  | [] => rfl
  | x :: t => by rw [intt.off, List.flatten_cons, List.length_append, off_flat t]
theorem tb_now {w : World} {lo hi n c : Nat} {A : Option Addr} {vs : List Value} {L : List (List Int)} (h : intt.TB w lo hi A n c vs L) : intt.TB w lo w.heap.size A n c vs L := by
  refine ⟨h.1, h.2.1, fun g e => (h.1.lt g e).2, fun i v hv g hg => ?_⟩
  have hi : i < L.length := by rw [← h.2.1.1]; exact (List.getElem?_eq_some_iff.1 hv).1
  exact ((h.2.1.2 i v _ hv (List.getElem?_eq_getElem hi)).lt g hg).2
theorem take_flat {L : List (List Int)} {k : Nat} {x : List Int} (h : L[k]? = some x) : (L.take (k + 1)).flatten = (L.take k).flatten ++ x := by
  rw [List.take_add_one, h]; simp
theorem take_more {x : List Int} {p : Nat} {y : Int} (h : x[p]? = some y) : x.take (p + 1) = x.take p ++ [y] := by rw [List.take_add_one, h]; rfl
theorem flat_take_le (L : List (List Int)) (k : Nat) : ((L.take k).flatten).length ≤ L.flatten.length := by
  have h := congrArg (fun M : List (List Int) => M.flatten.length) (List.take_append_drop k L)
  simp only [List.flatten_append, List.length_append] at h
  omega
/-- what the round of a list stands on -/
def RS (w : World) (sb : Nat) (b1 : Nat) (A1 : Option Addr) (L1 c1 : Nat) (t1 : List Ps) (lo : Nat) (AT : Option Addr) (NR cT : Nat) (vs : List Value) (R : List (List Int)) (As : Option Addr) (ms cs : Nat) (ys : List Int) (v : World) : Prop :=
  Below w.heap.size w v ∧ sb ≤ v.heap.size ∧ v.ownsRow b1 41 4 (.slice A1 L1 c1) L1 (flatPs t1) ∧ intt.TB v lo sb AT NR cT vs R ∧ v.ownsRow sb 3 1 (.slice As ms cs) ms (ints.intsV ys)
section
variable {w v v' : World} {sb b1 : Nat} {A1 : Option Addr} {L1 c1 : Nat} {t1 : List Ps} {lo : Nat} {AT : Option Addr} {NR cT : Nat} {vs : List Value} {R : List (List Int)} {As : Option Addr} {ms cs : Nat} {ys : List Int}
theorem RS.step (h : RS w sb b1 A1 L1 c1 t1 lo AT NR cT vs R As ms cs ys v) (hb : Below v.heap.size v v') : RS w sb b1 A1 L1 c1 t1 lo AT NR cT vs R As ms cs ys v' :=
  ⟨h.1.trans (hb.mono h.1.size), Nat.le_trans h.2.1 hb.size, row_below h.2.2.1 hb, h.2.2.2.1.below hb, row_below h.2.2.2.2 hb⟩
theorem RS.app (h : RS w sb b1 A1 L1 c1 t1 lo AT NR cT vs R As ms cs ys v) (hw : w.heap.size ≤ sb) (hl : ∀ g, (Value.slice A1 L1 c1).ownBlock = some g → g < sb) {A9 : Option Addr} {c9 : Nat} {y : Int} (ho : v'.ownsRow sb 3 1 (.slice A9 (ms + 1) c9) (ms + 1) (ints.intsV ys ++ [.int .i64 y])) (hg : v.grownBy v' (Value.slice As ms cs).ownBlock) :
    RS w sb b1 A1 L1 c1 t1 lo AT NR cT vs R A9 (ms + 1) c9 (ys ++ [y]) v' := by
  have hb : Below sb v v' := (Below.refl sb v).grown hg h.2.1 (fun g e => (h.2.2.2.2.lt g e).1)
  exact ⟨h.1.trans (hb.mono hw), Nat.le_trans h.2.1 hg.size, intt.own_under h.2.2.1 hb hl, h.2.2.2.1.under hb (Nat.le_refl _), by rw [intsV_app]; exact ho⟩
end
set_option maxHeartbeats 16000000 in
set_option maxRecDepth 100000 in
theorem walk (A : Option Addr) (n cap : Nat) (zs : List UInt8) (w : World) (hn : n ≤ 65536) (hS : Hid (St w A n zs w)) :
    Calls Try.prog 4 #[.slice A n cap] w (LawPost w) := by
  obtain ⟨i0, hi, hz0, hz1, hz2⟩ := info_parts infoI
  have HS0 := hS
  have HB := Lib.hid (rs.big_no A n cap w hn)
  clear hn
  go_enter Try.func4, Try.ntmps4
  go_wp2_with fail
  refine HB.out.mono ?_
  rintro e w' ⟨rfl, rfl⟩
  clear HB
  go_wp2_with fail
  refine (dps.split_draw A n cap zs _ (Lib.hid hS.out.2)).mono ?_
  rintro e W1 ⟨v1, t1, rfl, ho, hl1, hnm, b⟩
  obtain ⟨L1, HL1⟩ : ∃ L, Hid (t1.length = L) := ⟨_, Lib.hid rfl⟩
  rw [HL1.out] at ho hl1
  obtain ⟨A1, c1, rfl⟩ := base.row_slice ho
  have HR1 := Lib.hid ho
  have hc1 := pi5.own_cap5 ho
  have HN1 := Lib.hid (show ∀ t ∈ t1, t.name.size ≤ 1048576 from fun t ht => by have := hnm t ht; omega)
  clear ho hnm
  have H1 := Lib.hid (show St w A n zs W1 from hS.out.step b)
  clear b hS
  obtain ⟨R, HSR⟩ : ∃ R, Hid (stTss t1 = R) := ⟨_, Lib.hid rfl⟩
  obtain ⟨G, HG⟩ : ∃ G, Hid (psg.good t1 = G) := ⟨_, Lib.hid rfl⟩
  obtain ⟨NR, HNR⟩ : ∃ N, Hid (R.length = N) := ⟨_, Lib.hid rfl⟩
  have hst := fq.st_facts t1
  rw [HSR.out] at hst
  have HST := Lib.hid hst
  have hNR : NR ≤ 3 := by rw [← HNR.out]; exact hst.2.2.1
  have HOFF := Lib.hid (show intt.off R ≤ 2000000 by have := fq.seen_len hst.2.2.1 hst.2.2.2; rw [off_flat]; omega)
  clear hst
  go_wp2_with fail
  refine (pi5.splitTeams_is A1 L1 c1 t1 R G _ HSR HG (by omega) hc1 HN1 (Lib.hid (own_Ps HL1.out HR1.out))).mono ?_
  rintro e W2 ⟨vr, vsG1, rfl, ho, ht, hdj, b⟩
  obtain ⟨AG1, cG1, rfl, htb⟩ := intt.TB.new ho ht HNR.out
  have HTG1 := Lib.hid htb
  clear ho ht htb hdj
  have H2 := Lib.hid (show St w A n zs W2 from H1.out.step b)
  have H3 := Lib.hid (show W2.ownsRow (w.heap.size) 41 4 (.slice A1 L1 c1) L1 (flatPs t1) from row_below HR1.out b)
  clear b H1 HR1
  go_wp2_with fail
  refine (split_m HSR HG (by omega) HN1 (Lib.hid (own_Ps HL1.out H3.out))).mono ?_
  rintro e W3 ⟨vr, vsM1, rfl, ho, ht, b⟩
  obtain ⟨AM1, cM1, rfl, htb⟩ := intt.TB.new ho ht HNR.out
  have HTM1 := Lib.hid htb
  clear ho ht htb
  have H4 := Lib.hid (show St w A n zs W3 from H2.out.step b)
  have H5 := Lib.hid (show W3.ownsRow (w.heap.size) 41 4 (.slice A1 L1 c1) L1 (flatPs t1) from row_below H3.out b)
  have H6 := Lib.hid (show intt.TB W3 W1.heap.size W2.heap.size AG1 NR cG1 vsG1 R from HTG1.out.below b)
  clear b H2 H3 HTG1
  go_wp2_with fail
  refine (dq.rtable_tab AG1 AM1 NR cG1 cM1 _ _ vsG1 vsM1 R _ (by omega) HOFF HNR (Lib.hid H6.out.1) (Lib.hid H6.out.2.1) (Lib.hid HTM1.out.1) (Lib.hid HTM1.out.2.1)).mono ?_
  rintro e W4 ⟨rfl, b⟩
  have H7 := Lib.hid (show St w A n zs W4 from H4.out.step b)
  have H8 := Lib.hid (show W4.ownsRow (w.heap.size) 41 4 (.slice A1 L1 c1) L1 (flatPs t1) from row_below H5.out b)
  have H9 := Lib.hid (show intt.TB W4 W1.heap.size W2.heap.size AG1 NR cG1 vsG1 R from H6.out.below b)
  have H10 := Lib.hid (show intt.TB W4 W2.heap.size W3.heap.size AM1 NR cM1 vsM1 R from HTM1.out.below b)
  clear b H4 H5 H6 HTM1
  clear H10
  have hd3 : decide (3 < NR) = false := by simp; omega
  have hd3i : decide ((3 : Int) < (NR : Int)) = false := by simp; omega
  obtain ⟨sb, HSB⟩ : ∃ sb, Hid (W4.heap.size = sb) := ⟨_, Lib.hid rfl⟩
  have hsbw : w.heap.size ≤ sb := by rw [← HSB.out]; exact H7.out.1.size
  have HUL := Lib.hid (show ∀ g, (Value.slice A1 L1 c1).ownBlock = some g → g < sb from fun g e => by rw [← HSB.out]; exact (H8.out.lt g e).2)
  have HRS := Lib.hid (show RS w sb (w.heap.size) A1 L1 c1 t1 (W1.heap.size) AG1 NR cG1 vsG1 R (some ⟨W4.heap.size, 0, none⟩) 0 0 [] (W4.alloc (.cells #[] 3)) from ⟨H7.out.1.alloc H7.out.1.size _, by rw [← HSB.out]; simp, H8.out.alloc _, by have h := tb_now H9.out; rw [HSB.out] at h; exact h.below ((Below.refl _ _).alloc (Nat.le_refl _) _), by have h := World.ownsRow_made (e := 3) (size := 1) W4 #[] 0 (Nat.le_refl _) (by decide) (by simp); rw [HSB.out] at h ⊢; exact h⟩)
  clear H7 H8 H9
  go_wp2_with fail
  go_loopw [8, 9] (fun sv i wr => ∃ (k ms cs : Nat) (As : Option Addr), k ≤ NR ∧ i = .int .i64 (k : Nat) ∧ sv = .slice As ms cs ∧ Hid (((R.take k).flatten).length = ms) ∧ RS w sb (w.heap.size) A1 L1 c1 t1 (W1.heap.size) AG1 NR cG1 vsG1 R As ms cs ((R.take k).flatten) wr) (fun _ i _ => NR - (intOf i).toNat)
  case atStart => exact ⟨0, 0, 0, _, Nat.zero_le _, rfl, rfl, Lib.hid (by simp), by simpa using HRS.out⟩
  case round =>
    obtain ⟨k, ms, cs, As, hk, rfl, rfl, HML, hR⟩ := hrel
    have HR := Lib.hid hR
    clear hR HRS
    by_cases hlt : k < NR
    · obtain ⟨x, hx⟩ := at_lt HNR.out hlt
      have HX := Lib.hid hx
      have HIS := Lib.hid (HST.out.1 x (List.mem_of_getElem? hx))
      have hx5 := HST.out.2.2.2 x (List.mem_of_getElem? hx)
      obtain ⟨X, cx, hv, hrow⟩ := intt.row_at (n := NR) HR.out.2.2.2.1.2.1 hx
      obtain ⟨xl, HXL⟩ : ∃ xl, Hid (x.length = xl) := ⟨_, Lib.hid rfl⟩
      rw [HXL.out] at hv hrow hx5
      have HV := Lib.hid hv
      have HRW := Lib.hid hrow
      obtain ⟨g, cap9, hg1, -, -⟩ := HR.out.2.2.2.1.1.form (by omega)
      injection hg1 with hA _ hc
      subst hA hc
      have h0 : wr.cell? ⟨g, k, none⟩ = some (.slice X xl cx) := (HR.out.2.2.2.1.1.cellAt k (by omega)).trans hv
      clear hx hv hrow
      have hki : (k : Int) < (NR : Int) := by omega
      have hk0 : 0 ≤ (k : Int) := by omega
      have hkd : decide (k < NR) = true := by simpa using hlt
      go_wp2_with fail
      refine (pi5.isTeam_is A1 L1 c1 t1 X xl cx x _ _ HIS (by omega) (by omega) HN1 (Lib.hid (own_Ps HL1.out HR.out.2.2.1)) (Lib.hid (own_In HXL.out HRW.out))).mono ?_
      rintro e w5 ⟨rfl, b5⟩
      have HR5 := Lib.hid (HR.out.step b5)
      clear b5 h0 HR HRW
      have HML5 := HML
      go_wp2_with fail
      go_loopw [8, 12] (fun sv j wr2 => ∃ (p ms2 cs2 : Nat) (As2 : Option Addr), p ≤ xl ∧ j = .int .i64 (p : Nat) ∧ sv = .slice As2 ms2 cs2 ∧ Hid (((R.take k).flatten ++ x.take p).length = ms2) ∧ RS w sb (w.heap.size) A1 L1 c1 t1 (W1.heap.size) (some ⟨g, 0, none⟩) NR cG1 vsG1 R As2 ms2 cs2 ((R.take k).flatten ++ x.take p) wr2) (fun _ j _ => xl - (intOf j).toNat)
      case atStart => exact ⟨0, ms, cs, As, Nat.zero_le _, rfl, rfl, Lib.hid (by rw [List.take_zero, List.append_nil]; exact HML5.out), by rw [List.take_zero, List.append_nil]; exact HR5.out⟩
      case round =>
        obtain ⟨p, ms2, cs2, As2, hp, rfl, rfl, HM2, hR2⟩ := hrel
        have HR2 := Lib.hid hR2
        clear hR2 HR5 HML5
        have h0 : wr.cell? ⟨g, k, none⟩ = some (.slice X xl cx) := (HR2.out.2.2.2.1.1.cellAt k (by omega)).trans HV.out
        by_cases hlt2 : p < xl
        · obtain ⟨y, hy⟩ := at_lt HXL.out hlt2
          have hms : ms2 ≤ 15 := by have h1 := fq.seen_len HST.out.2.2.1 HST.out.2.2.2; have h2 := HM2.out; have h3 := take_flat HX.out; have h4 := flat_take_le R (k + 1); rw [h3, List.length_append] at h4; rw [List.length_append, List.length_take] at h2; omega
          have HNM := Lib.hid (show mem ((R.take k).flatten ++ x.take p) y = false by
            have h := fq.not_seen HST.out.2.1 HX.out hy
            cases e : mem ((R.take k).flatten ++ x.take p) y
            · rfl
            · exact absurd (mem_iff.1 e) h)
          have HTK := Lib.hid (take_more hy)
          have hrow := HR2.out.2.2.2.1.2.1.2 k _ x HV.out HX.out
          rw [HXL.out] at hrow
          obtain ⟨gx, hgx, e0⟩ := (ints.IL.of_own hrow).2 p y hy
          subst hgx
          clear hrow hy
          have hpi : (p : Int) < (xl : Int) := by omega
          have hp0 : 0 ≤ (p : Int) := by omega
          have hpd : decide (p < xl) = true := by simpa using hlt2
          have hki2 : (k : Int) < (NR : Int) := by omega
          have hk02 : 0 ≤ (k : Int) := by omega
          go_wp2_with fail
          refine (dq.rhas_is As2 ms2 cs2 ((R.take k).flatten ++ x.take p) y false HNM _ (by omega) (Lib.hid (ints.IL.of_own HR2.out.2.2.2.2))).mono ?_
          rintro e w7 ⟨rfl, rfl⟩
          have hs7 := HR2.out.2.1
          go_wp2_with (at_builtin; refine wpList_append_own _ rfl _ _ 27 rfl sb 3 i0 (.int .i64 0) 1 8 Try.underlying27 hi hz0 hz1 hz2 rfl (by decide) _ _ _ rfl (HR2.out.2.2.2.2.alloc _) ⟨wr.heap.size, 0, none⟩ 1 1 [.int .i64 y] rfl rfl (cell_one_new _ _ _) (by simp [Value.oneCell']) (by unfold maxLen; omega) (by omega) (by simp; omega) ?_; intro v' w9 hown' hgrow _)
          obtain ⟨A9, c9, rfl⟩ := base.row_slice hown'
          have HR9 := Lib.hid ((HR2.out.step ((Below.refl _ _).alloc (Nat.le_refl _) (.cells #[.int .i64 y] 3))).app hsbw HUL.out hown' hgrow)
          clear hown' hgrow h0 e0
          go_wp2_with fail
          go_roundw
          case rel => exact ⟨p + 1, ms2 + 1, c9, A9, by omega, by go_num, rfl, Lib.hid (by rw [HTK.out, ← List.append_assoc, List.length_append, HM2.out]; rfl), by rw [HTK.out, ← List.append_assoc]; exact HR9.out⟩
          case measure => simp [intOf]; omega
        · have hpd : decide (p < xl) = false := by simpa using hlt2
          have hpx : p = xl := by omega
          have HF := Lib.hid (show x.take p = x by rw [hpx]; exact List.take_of_length_le (by rw [HXL.out]; exact Nat.le_refl _))
          clear hpx hlt2
          have hki2 : (k : Int) < (NR : Int) := by omega
          have hk02 : 0 ≤ (k : Int) := by omega
          go_wp2_with fail
          go_roundw
          case rel => exact ⟨k + 1, ms2, cs2, As2, by omega, by go_num, rfl, Lib.hid (by rw [take_flat HX.out]; have h := HM2.out; rw [HF.out] at h; exact h), by rw [take_flat HX.out]; have h := HR2.out; rw [HF.out] at h; exact h⟩
          case measure => simp [intOf]; omega
    · have hkd : decide (k < NR) = false := by simpa using hlt
      clear hlt
      have HSX := Lib.hid (HS0.out.step HR.out.1)
      have HLX := Lib.hid HR.out.2.2.1
      clear HR HML
      obtain ⟨nn, aa, ff, hct, ha1, hn1, hf1⟩ := fq.ct_form t1
      rw [HSR.out, HNR.out] at hf1
      have HCT := Lib.hid hct
      have HFF := Lib.hid hf1
      clear hct hf1
      go_wp2_with fail
      refine (pi5.countTeams_is A1 L1 c1 t1 _ _ HCT (by omega) hc1 HN1 (Lib.hid (own_Ps HL1.out HLX.out))).mono ?_
      rintro e W5 ⟨rfl, b⟩
      have H11 := Lib.hid (show St w A n zs W5 from HSX.out.step b)
      have H12 := Lib.hid (show W5.ownsRow (w.heap.size) 41 4 (.slice A1 L1 c1) L1 (flatPs t1) from row_below HLX.out b)
      clear b HSX HLX
      go_wp2_with fail
      refine (ct_m HCT (by omega) HN1 (Lib.hid (own_Ps HL1.out H12.out))).mono ?_
      rintro e W6 ⟨rfl, b⟩
      have H13 := Lib.hid (show St w A n zs W6 from H11.out.step b)
      clear b H11 H12
      have hda : decide (nn < aa) = false := by simp; omega
      have hdai : decide ((nn : Int) < (aa : Int)) = false := by simp; omega
      go_upto_region 23 with fail
      go_cut [149] (fun u wx => u = .bool false ∧ St w A n zs wx)
      case first =>
        as_aux_lemma =>
          have hff := HFF.out
          clear HFF
          cases ff
          · go_wp2_with fail
            go_meet
            case rel => exact ⟨rfl, H13.out⟩
          · have hff := hff rfl
            by_cases hz : NR = 0
            · have hz2 : nn = 0 := hff.2 hz
              subst hz hz2
              clear hff
              go_wp2_with fail
              go_meet
              case rel => exact ⟨rfl, H13.out⟩
            · have hz2 : ¬ nn = 0 := fun h => hz (hff.1 h)
              have y1 : ((NR : Int) == 0) = false := by simp; omega
              have y2 : ((nn : Int) == 0) = false := by simp; omega
              clear hff
              go_wp2_with fail
              go_meet
              case rel => exact ⟨rfl, H13.out⟩
      case rest =>
        as_aux_lemma =>
          obtain ⟨rfl, hs⟩ := hcut
          have SB := Lib.hid hs
          clear hs
          go_wp2_with fail
          refine (dps.withSkills_draw A n cap zs _ (Lib.hid SB.out.2)).mono ?_
          rintro e W7 ⟨v2, t2, q2, rfl, ⟨qa2, qb2⟩, ho, hl2, hnm, b⟩
          obtain ⟨L2, HL2⟩ : ∃ L, Hid (t2.length = L) := ⟨_, Lib.hid rfl⟩
          rw [HL2.out] at ho hl2
          obtain ⟨A2, c2, rfl⟩ := base.row_slice ho
          have HR2 := Lib.hid ho
          have hc2 := pi5.own_cap5 ho
          have HN2 := Lib.hid (show ∀ t ∈ t2, t.name.size ≤ 1048576 from fun t ht => by have := hnm t ht; omega)
          clear ho hnm
          have H14 := Lib.hid (show St w A n zs W7 from SB.out.step b)
          clear b SB
          obtain ⟨I2, HI2⟩ : ∃ I, Hid (wsIds t2 q2 = I) := ⟨_, Lib.hid rfl⟩
          obtain ⟨B2, HB2⟩ : ∃ B, Hid (wsOk t2 q2 = B) := ⟨_, Lib.hid rfl⟩
          obtain ⟨M2, HM2⟩ : ∃ M, Hid (I2.length = M) := ⟨_, Lib.hid rfl⟩
          have hM2 : M2 ≤ 11 := by rw [← HM2.out, ← HI2.out]; unfold wsIds; split; (have := wsN_len q2 t2 t2.length; have := HL2.out; omega); simp
          go_wp2_with fail
          refine (pi5.withSkills_is A2 L2 c2 t2 q2 I2 B2 _ HI2 HB2 (by omega) HN2 (Lib.hid (own_Ps HL2.out HR2.out))).mono ?_
          rintro e W8 ⟨vr, rfl, ho, b⟩
          rw [HM2.out] at ho
          obtain ⟨Ag2, cg2, rfl⟩ := base.row_slice ho
          have HRg2 := Lib.hid ho
          clear ho
          have H15 := Lib.hid (show St w A n zs W8 from H14.out.step b)
          have H16 := Lib.hid (show W8.ownsRow (wc.heap.size) 41 4 (.slice A2 L2 c2) L2 (flatPs t2) from row_below HR2.out b)
          clear b H14 HR2
          go_wp2_with fail
          refine (ws_m HI2 HB2 (by omega) HN2 (Lib.hid (own_Ps HL2.out H16.out))).mono ?_
          rintro e W9 ⟨vr, rfl, ho, b⟩
          rw [HM2.out] at ho
          obtain ⟨Aw2, cw2, rfl⟩ := base.row_slice ho
          have HRw2 := Lib.hid ho
          clear ho
          have H17 := Lib.hid (show St w A n zs W9 from H15.out.step b)
          have H18 := Lib.hid (show W9.ownsRow (wc.heap.size) 41 4 (.slice A2 L2 c2) L2 (flatPs t2) from row_below H16.out b)
          have H19 := Lib.hid (show W9.ownsRow (W7.heap.size) 3 1 (.slice Ag2 M2 cg2) M2 (ints.intsV I2) from row_below HRg2.out b)
          clear b H15 H16 HRg2
          go_wp2_with fail
          refine (rints_b (by omega) (Lib.hid (ints.IL.of_own H19.out)) (Lib.hid (ints.IL.of_own HRw2.out))).mono ?_
          rintro e W10 ⟨rfl, b⟩
          have H20 := Lib.hid (show St w A n zs W10 from H17.out.step b)
          clear b H17 H18 H19 HRw2
          go_wp2_with fail
          refine (dps.skillsOf_draw A n cap zs _ (Lib.hid H20.out.2)).mono ?_
          rintro e W11 ⟨v3, t3, u3, x3, rfl, hu, hx3, ho, hl3, hnm, b⟩
          obtain ⟨L3, HL3⟩ : ∃ L, Hid (t3.length = L) := ⟨_, Lib.hid rfl⟩
          rw [HL3.out] at ho hl3
          obtain ⟨A3, c3, rfl⟩ := base.row_slice ho
          have HR3 := Lib.hid ho
          have hc3 := pi5.own_cap5 ho
          have HN3 := Lib.hid (show ∀ t ∈ t3, t.name.size ≤ 1048576 from fun t ht => by have := hnm t ht; omega)
          clear ho hnm
          obtain ⟨K3, HK3⟩ : ∃ K, Hid (x3.length = K) := ⟨_, Lib.hid rfl⟩
          rw [HK3.out] at hu hx3
          obtain ⟨X3, d3, rfl⟩ := base.row_slice hu
          have HU3 := Lib.hid hu
          clear hu
          have H21 := Lib.hid (show St w A n zs W11 from H20.out.step b)
          clear b H20
          obtain ⟨sv, sk, hs⟩ := fq.sk_form t3 x3
          have HSK := Lib.hid hs
          clear hs
          go_wp2_with fail
          refine (pi5.skillsOf_is A3 L3 c3 t3 X3 K3 d3 x3 _ _ HSK (by omega) (by omega) HN3 (Lib.hid (own_Ps HL3.out HR3.out)) (Lib.hid (own_In HK3.out HU3.out))).mono ?_
          rintro e W12 ⟨rfl, b⟩
          have H22 := Lib.hid (show St w A n zs W12 from H21.out.step b)
          have H23 := Lib.hid (show W12.ownsRow (W10.heap.size) 41 4 (.slice A3 L3 c3) L3 (flatPs t3) from row_below HR3.out b)
          have H24 := Lib.hid (show W12.ownsRow (W10.heap.size) 3 1 (.slice X3 K3 d3) K3 (ints.intsV x3) from row_below HU3.out b)
          clear b H21 HR3 HU3
          go_wp2_with fail
          refine (sk_m HSK (by omega) (by omega) HN3 (Lib.hid (own_Ps HL3.out H23.out)) (Lib.hid (own_In HK3.out H24.out))).mono ?_
          rintro e W13 ⟨rfl, b⟩
          have H25 := Lib.hid (show St w A n zs W13 from H22.out.step b)
          clear b H22 H23 H24
          go_wp2_with fail
          go_ret
          exact ⟨by simp, H25.out.1⟩
#print axioms walk
end Go.Proofs.Ytidofckanadkpaa.tec
