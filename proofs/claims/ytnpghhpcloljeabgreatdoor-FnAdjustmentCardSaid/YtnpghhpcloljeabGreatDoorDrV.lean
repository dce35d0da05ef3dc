/-
  A closing leg is drawn.
  Conditions: those that each theorem names.
-/
import Derived.Test.YtnpghhpcloljeabGreatDoorDcN
import Derived.Test.YtnpghhpcloljeabGreatDoorNqG0q
import Derived.Test.YtnpghhpcloljeabGreatDoorKuMq
import Derived.Deep.RegionHeld3
namespace Go.Proofs.YtnpghhpcloljeabGreatDoor.dcv
open Go.RowKit
open reads base curs curd cure ty lg nt drl
set_option linter.unusedVariables false
set_option linter.unusedSimpArgs false

theorem gs_below {w u u' : World} {B b k : Nat} {A : Option Addr} {n cap : Nat} {zs : List UInt8} {v : Value} {ts : List Lg} (h : GS w B b k A n cap zs v ts u) (hb : Below u.heap.size u u') : GS w B b k A n cap zs v ts u' := keep_GS h (grown_of hb none) (fun g e => by cases e)
theorem gs_low {w u u' : World} {B b k : Nat} {A : Option Addr} {n cap : Nat} {zs : List UInt8} {v : Value} {ts : List Lg} (hw : w.grownBy u (some b)) (hb : b < w.heap.size) (hB : B ≤ w.heap.size) (h : GS u B b k A n cap zs v ts u') : GS w B b k A n cap zs v ts u' := ⟨h.1, hw.trans h.2.1, own_base hw.size h.2.2.1, h.2.2.2.1, hb, hB⟩
theorem il_at {w : World} {base n c : Nat} {A : Option Addr} {xs : List Int} {r : Nat} {x : Int} (h : w.ownsRow base 3 1 (.slice A n c) n (ints.intsV xs)) (hx : xs[r]? = some x) : ∃ g, A = some ⟨g, 0, none⟩ ∧ g < w.heap.size ∧ w.cell? ⟨g, r, none⟩ = some (.int .i64 x) := by
  obtain ⟨g, e, c0⟩ := (ints.IL.of_own h).2 r x hx
  exact ⟨g, e, by rw [e] at h; exact (h.lt g rfl).2, c0⟩
/-- drawn legs and a number, the cursor going on -/
def CGo (B b k : Nat) (A : Option Addr) (n cap : Nat) (zs : List UInt8) (w : World) (e : Ending) (w' : World) : Prop := ∃ (v : Value) (ts : List Lg) (q : Int), e = .returned (.tuple #[v, .int .i64 q]) ∧ ts.length ≤ 13 ∧ (-1 ≤ q ∧ q ≤ 13) ∧ GS w B b k A n cap zs v ts w'
set_option maxHeartbeats 16000000 in
set_option maxRecDepth 100000 in
theorem closing_draw (B b kk : Nat) (A : Option Addr) (n cap : Nat) (zs : List UInt8) (w : World) (hk : kk ≤ 40000) (h : Hid (Cur w B b kk A n cap zs)) :
    Calls Tryz.prog 63 #[.pointer (some ⟨b, 0, none⟩)] w (CGo B b (kk + 900) A n cap zs w) := by
  go_enter Tryz.func63, Tryz.ntmps63
  go_wp2_with fail
  refine (cave_any B b kk A n cap zs w (by omega) h).mono ?_
  rintro e w1 ⟨v, ts, rfl, hl, hG⟩
  obtain ⟨A', c, hv⟩ := row_slice hG.2.2.1
  subst hv
  have hbw := hG.2.2.2.2.1
  have hBw := hG.2.2.2.2.2
  have HG0 := Lib.hid hG
  clear hG h
  go_wp2_with fail
  go_loopw [4, 5] (fun v i wr => ∃ (k L c : Nat) (A2 : Option Addr) (ts : List Lg), k ≤ 3 ∧ i = .int .i64 (k : Nat) ∧ v = .slice A2 L c ∧ Hid (ts.length = L) ∧ L ≤ 13 ∧ GS w B b (kk + 200 + 200 * k) A n cap zs (.slice A2 L c) ts wr) (fun _ i _ => 3 - (intOf i).toNat)
  case atStart => exact ⟨0, _, _, _, ts, Nat.zero_le _, rfl, rfl, Lib.hid rfl, hl, HG0.out⟩
  case round =>
    clear HG0 hl
    obtain ⟨k, L, c, A2, ts, hk3, rfl, rfl, HLL, hl13, hG⟩ := hrel
    have HG := Lib.hid hG
    have hwr := hG.2.1
    have HWR := Lib.hid hwr
    clear hG hwr
    have hk0 : (0 : Int) ≤ (k : Int) := by omega
    by_cases hlt : k < 3
    · have hki : (k : Int) < 3 := by omega
      have hkd : decide (k < 3) = true := by simpa using hlt
      obtain ⟨g, HGO⟩ : ∃ g, Hid (goodLg ts = g) := ⟨_, Lib.hid rfl⟩
      have HA := Lib.hid (show LgAt wr wr.heap.size A2 L ts from by have h := HG.out.2.2.1; rw [HLL.out] at h; exact own_Lg HLL.out h)
      go_wp2_with fail
      refine (legs_is A2 L c ts g wr (by omega) HA HGO).mono ?_
      rintro e w2 ⟨rfl, b2⟩
      have HG2 := Lib.hid (gs_below HG.out b2)
      clear b2 HA HG HWR
      cases g
      · skip
        have hwr := HG2.out.2.1
        have HWR := Lib.hid hwr
        clear hwr
        go_wp2_with fail
        refine (cave_any B b (kk + 200 + 200 * k) A n cap zs w2 (by omega) (Lib.hid HG2.out.1)).mono ?_
        rintro e w4 ⟨v4, ts4, rfl, hl4, hG4⟩
        obtain ⟨A4, c4, hv⟩ := row_slice hG4.2.2.1
        subst hv
        have HG4 := Lib.hid (gs_low HWR.out hbw hBw hG4)
        clear hG4 HWR HG2
        go_wp2_with fail
        go_roundw
        case rel => exact ⟨k + 1, _, _, _, ts4, by omega, by go_num, rfl, Lib.hid rfl, hl4, HG4.out.more (by omega)⟩
        case measure => simp [intOf]; omega
      · skip
        have HA2 := Lib.hid (show LgAt w2 w2.heap.size A2 L ts from by have h := HG2.out.2.2.1; rw [HLL.out] at h; exact own_Lg HLL.out h)
        obtain ⟨CL, HCL⟩ : ∃ C, Hid (clN ts (net ts) ts.length = C) := ⟨_, Lib.hid rfl⟩
        obtain ⟨m, HMM⟩ : ∃ m, Hid (CL.length = m) := ⟨_, Lib.hid rfl⟩
        go_wp2_with fail
        refine (closing_any A2 L c ts (net ts) (Lib.hid rfl) w2 HGO HA2).mono ?_
        rintro e w3 ⟨v3, rfl, ho, b3⟩
        rw [HCL.out, HMM.out] at ho
        obtain ⟨A7, c7, rfl⟩ := row_slice ho
        have HG3 := Lib.hid (gs_below HG2.out b3)
        clear ho b3 HA2 HG2 HGO HCL HMM
        by_cases hm : m = 0
        · have hz : (m : Int) = 0 := by omega
          have hwr := HG3.out.2.1
          have HWR := Lib.hid hwr
          clear hwr
          go_wp2_with fail
          refine (cave_any B b (kk + 200 + 200 * k) A n cap zs w3 (by omega) (Lib.hid HG3.out.1)).mono ?_
          rintro e w4 ⟨v4, ts4, rfl, hl4, hG4⟩
          obtain ⟨A4, c4, hv⟩ := row_slice hG4.2.2.1
          subst hv
          have HG4 := Lib.hid (gs_low HWR.out hbw hBw hG4)
          clear hG4 HWR HG3
          go_wp2_with fail
          go_roundw
          case rel => exact ⟨k + 1, _, _, _, ts4, by omega, by go_num, rfl, Lib.hid rfl, hl4, HG4.out.more (by omega)⟩
          case measure => simp [intOf]; omega
        · have hz : ¬ (m : Int) = 0 := by omega
          have hzb : ((m : Int) == 0) = false := by simp; omega
          have HG := HG3
          clear HG3
          obtain ⟨g2, HG2⟩ : ∃ g, Hid (goodLg ts = g) := ⟨_, Lib.hid rfl⟩
          obtain ⟨K, HKK⟩ : ∃ K, Hid (kk + 200 + 200 * k = K) := ⟨_, Lib.hid rfl⟩
          have hK : K ≤ kk + 800 := by rw [← HKK.out]; omega
          rw [HKK.out] at HG
          have HA := Lib.hid (show LgAt w3 w3.heap.size A2 L ts from by have h := HG.out.2.2.1; rw [HLL.out] at h; exact own_Lg HLL.out h)
          clear HKK
          go_wp2_with fail
          refine (legs_is A2 L c ts g2 w3 (by omega) HA HG2).mono ?_
          rintro e w5 ⟨rfl, b5⟩
          have HG5 := Lib.hid (gs_below HG.out b5)
          clear b5 HA
          cases g2
          · skip
            have hz := HG5.out.2.1.size
            have HP := Lib.hid (show Calls Tryz.prog 84 #[.pointer (some ⟨b, 0, none⟩), .int .i64 ((L : Int) + 1)] w5 (curs.NPost B b (K + 1) A n cap zs (L + 1 - 1) w5) from pick_any B b (K) A n cap zs w5 (L + 1) (by omega) HG5.out.1 (by omega) (by omega))
            go_wp2_with fail
            refine HP.out.mono ?_
            rintro e w8 ⟨r1, rfl, hr1, hC, hg⟩
            have HG8 := Lib.hid (HG5.out.step hC hg)
            clear hC hg HP
            go_wp2_with fail
            refine (pick_any B b (K + 1) A n cap zs w8 9 (by omega) HG8.out.1 (by decide) (by decide)).mono ?_
            rintro e w9 ⟨r2, rfl, hr2, hC, hg⟩
            have HG9 := Lib.hid (HG8.out.step hC hg)
            clear hC hg HG8
            have hq : 0 ≤ (r2 : Int) / 8 ∧ (r2 : Int) / 8 ≤ 1 := by omega
            go_wp2_with fail
            go_ret2
            exact ⟨_, ts, _, rfl, by rw [HLL.out]; exact hl13, by omega, HG9.out.more (by omega)⟩
          · skip
            go_wp2_with fail
            refine (one_any B b K A n cap zs w5 12 (by omega) HG5.out.1 (by decide) (by decide)).mono ?_
            rintro e w6 ⟨t, rfl, hC, hg⟩
            have HG6 := Lib.hid (HG5.out.step hC hg)
            clear hC hg HG5
            cases t
            · skip
              have HA6 := Lib.hid (show LgAt w6 w6.heap.size A2 L ts from by have h := HG6.out.2.2.1; rw [HLL.out] at h; exact own_Lg HLL.out h)
              obtain ⟨CL, HCL⟩ : ∃ C, Hid (clN ts (net ts) ts.length = C) := ⟨_, Lib.hid rfl⟩
              obtain ⟨m, HMM⟩ : ∃ m, Hid (CL.length = m) := ⟨_, Lib.hid rfl⟩
              have hm13 : m ≤ 13 := by rw [← HMM.out, ← HCL.out]; exact Nat.le_trans (clN_len ts (net ts) ts.length) (by rw [HLL.out]; exact hl13)
              have HXB := Lib.hid (show ∀ x ∈ CL, -1 ≤ x ∧ x ≤ 13 from fun x hx => by rw [← HCL.out] at hx; obtain ⟨h0, h1, -⟩ := (lp.clN_iff ts.length (Nat.le_refl _) x).1 hx; rw [HLL.out] at h1; omega)
              go_wp2_with fail
              refine (closing_any A2 L c ts (net ts) (Lib.hid rfl) w6 HG2 HA6).mono ?_
              rintro e w7 ⟨v7, rfl, ho, b7⟩
              rw [HCL.out, HMM.out] at ho
              obtain ⟨A7, c7, rfl⟩ := row_slice ho
              have HP7 := Lib.hid ho
              have HG7 := Lib.hid (gs_below HG6.out b7)
              clear ho b7 HA6
              by_cases hm : 0 < m
              · have hmi : (0 : Int) < (m : Int) := by omega
                have hmd : decide (0 < m) = true := by simpa using hm
                go_upto_region 9 with fail
                obtain ⟨gC, c9, hA9, -, -⟩ := HP7.out.form hm
                have hA9' : A7 = some ⟨gC, 0, none⟩ := by injection hA9
                subst hA9'
                clear hA9
                have HGD := Lib.hid (gs_below HG7.out (Below.refl w7.heap.size w7).drew)
                have HPD := Lib.hid (row_below HP7.out (Below.refl w7.heap.size w7).drew)
                have hb6 := HG6.out.2.1.size
                have hbw := HG6.out.2.2.2.2.1
                have HPK := Lib.hid (show Calls Tryz.prog 84 #[.pointer (some ⟨b, 0, none⟩), .int .i64 (m : Int)] w7.drew (curs.NPost B b ((K) + 2) A n cap zs (m - 1) w7.drew) from pick_any B b ((K) + 1) A n cap zs w7.drew m (by omega) HGD.out.1 (by omega) (by omega))
                refine wp_region_held_drew (S := (fun v => v.ownsRow w6.heap.size 3 1 (.slice (some ⟨gC, 0, none⟩) m c7) m (ints.intsV CL))) (by kernel_rfl) ?_ (fun hHeld => ?_)
                · exact HPD.out
                refine' wpAnyH_take (i := 0) (v := ?vr1_0) rfl (by kernel_rfl) (by kernel_rfl) (by kernel_rfl) (fun _ _ _ h => h) (Or.inl ⟨by rfl, ?hyr1_0⟩) (by assumption) ?restr1_0
                case hyr1_0 => (intro w hSw; (try dsimp only at hSw); go_simp; try (with_reducible rfl))
                simp only [Act.put, List.getElem_toArray, List.getElem_cons_succ, List.getElem_cons_zero, List.setIfInBounds_toArray, List.set_cons_zero, List.set_cons_succ]
                refine' wpAnyH_take (i := 1) (v := ?vr1_1) rfl (by kernel_rfl) (by kernel_rfl) (by kernel_rfl) (fun _ _ _ h => h) (Or.inl ⟨by rfl, ?hyr1_1⟩) (by assumption) ?restr1_1
                case hyr1_1 => (intro w hSw; (try dsimp only at hSw); go_simp; try (with_reducible rfl))
                simp only [Act.put, List.getElem_toArray, List.getElem_cons_succ, List.getElem_cons_zero, List.setIfInBounds_toArray, List.set_cons_zero, List.set_cons_succ]
                refine' wpAnyH_take (i := 2) (v := ?vr1_2) rfl (by kernel_rfl) (by kernel_rfl) (by kernel_rfl) (fun _ _ _ h => h) (Or.inl ⟨by rfl, ?hyr1_2⟩) (by assumption) ?restr1_2
                case hyr1_2 => (intro w hSw; (try dsimp only at hSw); go_simp; try (with_reducible rfl))
                simp only [Act.put, List.getElem_toArray, List.getElem_cons_succ, List.getElem_cons_zero, List.setIfInBounds_toArray, List.set_cons_zero, List.set_cons_succ]
                refine' wpAnyH_take (i := 3) (v := ?vr1_3) rfl (by kernel_rfl) (by kernel_rfl) (by kernel_rfl) (fun _ _ _ h => h) (Or.inl ⟨by rfl, ?hyr1_3⟩) (by assumption) ?restr1_3
                case hyr1_3 => (intro w hSw; (try dsimp only at hSw); go_simp; try (with_reducible rfl))
                simp only [Act.put, List.getElem_toArray, List.getElem_cons_succ, List.getElem_cons_zero, List.setIfInBounds_toArray, List.set_cons_zero, List.set_cons_succ]
                refine' wpAnyH_take (i := 4) (v := ?vr1_4) rfl (by kernel_rfl) (by kernel_rfl) (by kernel_rfl) (fun _ _ _ h => h) (Or.inl ⟨by rfl, ?hyr1_4⟩) (by assumption) ?restr1_4
                case hyr1_4 => (intro w hSw; (try dsimp only at hSw); go_simp; try (with_reducible rfl))
                simp only [Act.put, List.getElem_toArray, List.getElem_cons_succ, List.getElem_cons_zero, List.setIfInBounds_toArray, List.set_cons_zero, List.set_cons_succ]
                refine wpAnyH_ready (rs := [5]) (by kernel_rfl) (by simp) ?_
                refine AllReadyH.cons rfl (fun K hK => ?_) AllReadyH.nil
                go_simp
                refine (HPK.out).mono ?_
                rintro e w8 ⟨r, rfl, hr, hC, hg⟩
                have HG8 := Lib.hid (HGD.out.step hC hg)
                obtain ⟨x, hx⟩ := at_lt HMM.out (show r < m by omega)
                have HX := Lib.hid hx
                have hri : (r : Int) < (m : Int) := by omega
                have hr0 : (0 : Int) ≤ (r : Int) := by omega
                clear hx hC
                refine hK.out _ _ (own_step hHeld hg (by omega)) (fun hHeld1 => ?_)
                clear hK K hHeld
                have hHeld := hHeld1
                clear hHeld1
                try simp only [Act.put, List.getElem_toArray, List.getElem_cons_succ, List.getElem_cons_zero, List.setIfInBounds_toArray, List.set_cons_zero, List.set_cons_succ]
                refine' wpAnyH_take (i := 6) (v := ?vr1_6) rfl (by kernel_rfl) (by kernel_rfl) (by kernel_rfl) (fun _ _ _ h => h) (Or.inl ⟨by rfl, ?hyr1_6⟩) (by assumption) ?restr1_6
                case hyr1_6 => (intro w hSw; (try dsimp only at hSw); go_simp; try (with_reducible rfl))
                simp only [Act.put, List.getElem_toArray, List.getElem_cons_succ, List.getElem_cons_zero, List.setIfInBounds_toArray, List.set_cons_zero, List.set_cons_succ]
                refine' wpAnyH_take (i := 7) (v := .int .i64 x) rfl (by kernel_rfl) (by kernel_rfl) (by kernel_rfl) (fun _ _ _ h => h) (Or.inl ⟨by rfl, ?hyL1⟩) (by assumption) ?restL1
                case hyL1 =>
                  intro v hSv
                  obtain ⟨g1, e1, hl1, e0⟩ := il_at hSv HX.out
                  injection e1 with e1
                  injection e1 with e1
                  subst e1
                  go_simp
                simp only [Act.put, List.getElem_toArray, List.getElem_cons_succ, List.getElem_cons_zero, List.setIfInBounds_toArray, List.set_cons_zero, List.set_cons_succ]
                refine' wpAnyH_take (i := 8) (v := ?vr1_8) rfl (by kernel_rfl) (by kernel_rfl) (by kernel_rfl) (fun _ _ _ h => h) (Or.inl ⟨by rfl, ?hyr1_8⟩) (by assumption) ?restr1_8
                case hyr1_8 => (intro w hSw; (try dsimp only at hSw); go_simp; try (with_reducible rfl))
                simp only [Act.put, List.getElem_toArray, List.getElem_cons_succ, List.getElem_cons_zero, List.setIfInBounds_toArray, List.set_cons_zero, List.set_cons_succ]
                refine' wpAnyH_take (i := 9) (v := ?vr1_9) rfl (by kernel_rfl) (by kernel_rfl) (by kernel_rfl) (fun _ _ _ h => h) (Or.inl ⟨by rfl, ?hyr1_9⟩) (by assumption) ?restr1_9
                case hyr1_9 => (intro w hSw; (try dsimp only at hSw); go_simp; try (with_reducible rfl))
                simp only [Act.put, List.getElem_toArray, List.getElem_cons_succ, List.getElem_cons_zero, List.setIfInBounds_toArray, List.set_cons_zero, List.set_cons_succ]
                refine wpAnyH_done (by kernel_rfl) ?_ _
                clear hHeld
                go_wp2_with fail
                go_ret2
                exact ⟨_, ts, _, rfl, by rw [HLL.out]; exact hl13, HXB.out x (List.mem_of_getElem? HX.out), HG8.out.more (by omega)⟩
              · have hmi : ¬ (0 : Int) < (m : Int) := by omega
                have hmd : decide (0 < m) = false := by simpa using hm
                have hz := HG7.out.2.1.size
                have HP := Lib.hid (show Calls Tryz.prog 84 #[.pointer (some ⟨b, 0, none⟩), .int .i64 ((L : Int) + 1)] w7 (curs.NPost B b (K + 1 + 1) A n cap zs (L + 1 - 1) w7) from pick_any B b (K + 1) A n cap zs w7 (L + 1) (by omega) HG7.out.1 (by omega) (by omega))
                go_wp2_with fail
                refine HP.out.mono ?_
                rintro e w8 ⟨r1, rfl, hr1, hC, hg⟩
                have HG8 := Lib.hid (HG7.out.step hC hg)
                clear hC hg HP
                go_wp2_with fail
                refine (pick_any B b (K + 1 + 1) A n cap zs w8 9 (by omega) HG8.out.1 (by decide) (by decide)).mono ?_
                rintro e w9 ⟨r2, rfl, hr2, hC, hg⟩
                have HG9 := Lib.hid (HG8.out.step hC hg)
                clear hC hg HG8
                have hq : 0 ≤ (r2 : Int) / 8 ∧ (r2 : Int) / 8 ≤ 1 := by omega
                go_wp2_with fail
                go_ret2
                exact ⟨_, ts, _, rfl, by rw [HLL.out]; exact hl13, by omega, HG9.out.more (by omega)⟩
            · skip
              have hz := HG6.out.2.1.size
              have HP := Lib.hid (show Calls Tryz.prog 84 #[.pointer (some ⟨b, 0, none⟩), .int .i64 ((L : Int) + 1)] w6 (curs.NPost B b (K + 1 + 1) A n cap zs (L + 1 - 1) w6) from pick_any B b (K + 1) A n cap zs w6 (L + 1) (by omega) HG6.out.1 (by omega) (by omega))
              go_wp2_with fail
              refine HP.out.mono ?_
              rintro e w8 ⟨r1, rfl, hr1, hC, hg⟩
              have HG8 := Lib.hid (HG6.out.step hC hg)
              clear hC hg HP
              go_wp2_with fail
              refine (pick_any B b (K + 1 + 1) A n cap zs w8 9 (by omega) HG8.out.1 (by decide) (by decide)).mono ?_
              rintro e w9 ⟨r2, rfl, hr2, hC, hg⟩
              have HG9 := Lib.hid (HG8.out.step hC hg)
              clear hC hg HG8
              have hq : 0 ≤ (r2 : Int) / 8 ∧ (r2 : Int) / 8 ≤ 1 := by omega
              go_wp2_with fail
              go_ret2
              exact ⟨_, ts, _, rfl, by rw [HLL.out]; exact hl13, by omega, HG9.out.more (by omega)⟩
    · have hki : ¬ (k : Int) < 3 := by omega
      have hkd : decide (k < 3) = false := by simpa using hlt
      obtain ⟨g2, HG2⟩ : ∃ g, Hid (goodLg ts = g) := ⟨_, Lib.hid rfl⟩
      obtain ⟨K, HKK⟩ : ∃ K, Hid (kk + 200 + 200 * k = K) := ⟨_, Lib.hid rfl⟩
      have hK : K ≤ kk + 800 := by rw [← HKK.out]; omega
      rw [HKK.out] at HG
      have HA := Lib.hid (show LgAt wr wr.heap.size A2 L ts from by have h := HG.out.2.2.1; rw [HLL.out] at h; exact own_Lg HLL.out h)
      clear HKK
      go_wp2_with fail
      refine (legs_is A2 L c ts g2 wr (by omega) HA HG2).mono ?_
      rintro e w5 ⟨rfl, b5⟩
      have HG5 := Lib.hid (gs_below HG.out b5)
      clear b5 HA
      cases g2
      · skip
        have hz := HG5.out.2.1.size
        have HP := Lib.hid (show Calls Tryz.prog 84 #[.pointer (some ⟨b, 0, none⟩), .int .i64 ((L : Int) + 1)] w5 (curs.NPost B b (K + 1) A n cap zs (L + 1 - 1) w5) from pick_any B b (K) A n cap zs w5 (L + 1) (by omega) HG5.out.1 (by omega) (by omega))
        go_wp2_with fail
        refine HP.out.mono ?_
        rintro e w8 ⟨r1, rfl, hr1, hC, hg⟩
        have HG8 := Lib.hid (HG5.out.step hC hg)
        clear hC hg HP
        go_wp2_with fail
        refine (pick_any B b (K + 1) A n cap zs w8 9 (by omega) HG8.out.1 (by decide) (by decide)).mono ?_
        rintro e w9 ⟨r2, rfl, hr2, hC, hg⟩
        have HG9 := Lib.hid (HG8.out.step hC hg)
        clear hC hg HG8
        have hq : 0 ≤ (r2 : Int) / 8 ∧ (r2 : Int) / 8 ≤ 1 := by omega
        go_wp2_with fail
        go_ret2
        exact ⟨_, ts, _, rfl, by rw [HLL.out]; exact hl13, by omega, HG9.out.more (by omega)⟩
      · skip
        go_wp2_with fail
        refine (one_any B b K A n cap zs w5 12 (by omega) HG5.out.1 (by decide) (by decide)).mono ?_
        rintro e w6 ⟨t, rfl, hC, hg⟩
        have HG6 := Lib.hid (HG5.out.step hC hg)
        clear hC hg HG5
        cases t
        · skip
          have HA6 := Lib.hid (show LgAt w6 w6.heap.size A2 L ts from by have h := HG6.out.2.2.1; rw [HLL.out] at h; exact own_Lg HLL.out h)
          obtain ⟨CL, HCL⟩ : ∃ C, Hid (clN ts (net ts) ts.length = C) := ⟨_, Lib.hid rfl⟩
          obtain ⟨m, HMM⟩ : ∃ m, Hid (CL.length = m) := ⟨_, Lib.hid rfl⟩
          have hm13 : m ≤ 13 := by rw [← HMM.out, ← HCL.out]; exact Nat.le_trans (clN_len ts (net ts) ts.length) (by rw [HLL.out]; exact hl13)
          have HXB := Lib.hid (show ∀ x ∈ CL, -1 ≤ x ∧ x ≤ 13 from fun x hx => by rw [← HCL.out] at hx; obtain ⟨h0, h1, -⟩ := (lp.clN_iff ts.length (Nat.le_refl _) x).1 hx; rw [HLL.out] at h1; omega)
          go_wp2_with fail
          refine (closing_any A2 L c ts (net ts) (Lib.hid rfl) w6 HG2 HA6).mono ?_
          rintro e w7 ⟨v7, rfl, ho, b7⟩
          rw [HCL.out, HMM.out] at ho
          obtain ⟨A7, c7, rfl⟩ := row_slice ho
          have HP7 := Lib.hid ho
          have HG7 := Lib.hid (gs_below HG6.out b7)
          clear ho b7 HA6
          by_cases hm : 0 < m
          · have hmi : (0 : Int) < (m : Int) := by omega
            have hmd : decide (0 < m) = true := by simpa using hm
            go_upto_region 9 with fail
            obtain ⟨gC, c9, hA9, -, -⟩ := HP7.out.form hm
            have hA9' : A7 = some ⟨gC, 0, none⟩ := by injection hA9
            subst hA9'
            clear hA9
            have HGD := Lib.hid (gs_below HG7.out (Below.refl w7.heap.size w7).drew)
            have HPD := Lib.hid (row_below HP7.out (Below.refl w7.heap.size w7).drew)
            have hb6 := HG6.out.2.1.size
            have hbw := HG6.out.2.2.2.2.1
            have HPK := Lib.hid (show Calls Tryz.prog 84 #[.pointer (some ⟨b, 0, none⟩), .int .i64 (m : Int)] w7.drew (curs.NPost B b ((K) + 2) A n cap zs (m - 1) w7.drew) from pick_any B b ((K) + 1) A n cap zs w7.drew m (by omega) HGD.out.1 (by omega) (by omega))
            refine wp_region_held_drew (S := (fun v => v.ownsRow w6.heap.size 3 1 (.slice (some ⟨gC, 0, none⟩) m c7) m (ints.intsV CL))) (by kernel_rfl) ?_ (fun hHeld => ?_)
            · exact HPD.out
            refine' wpAnyH_take (i := 0) (v := ?vr2_0) rfl (by kernel_rfl) (by kernel_rfl) (by kernel_rfl) (fun _ _ _ h => h) (Or.inl ⟨by rfl, ?hyr2_0⟩) (by assumption) ?restr2_0
            case hyr2_0 => (intro w hSw; (try dsimp only at hSw); go_simp; try (with_reducible rfl))
            simp only [Act.put, List.getElem_toArray, List.getElem_cons_succ, List.getElem_cons_zero, List.setIfInBounds_toArray, List.set_cons_zero, List.set_cons_succ]
            refine' wpAnyH_take (i := 1) (v := ?vr2_1) rfl (by kernel_rfl) (by kernel_rfl) (by kernel_rfl) (fun _ _ _ h => h) (Or.inl ⟨by rfl, ?hyr2_1⟩) (by assumption) ?restr2_1
            case hyr2_1 => (intro w hSw; (try dsimp only at hSw); go_simp; try (with_reducible rfl))
            simp only [Act.put, List.getElem_toArray, List.getElem_cons_succ, List.getElem_cons_zero, List.setIfInBounds_toArray, List.set_cons_zero, List.set_cons_succ]
            refine' wpAnyH_take (i := 2) (v := ?vr2_2) rfl (by kernel_rfl) (by kernel_rfl) (by kernel_rfl) (fun _ _ _ h => h) (Or.inl ⟨by rfl, ?hyr2_2⟩) (by assumption) ?restr2_2
            case hyr2_2 => (intro w hSw; (try dsimp only at hSw); go_simp; try (with_reducible rfl))
            simp only [Act.put, List.getElem_toArray, List.getElem_cons_succ, List.getElem_cons_zero, List.setIfInBounds_toArray, List.set_cons_zero, List.set_cons_succ]
            refine' wpAnyH_take (i := 3) (v := ?vr2_3) rfl (by kernel_rfl) (by kernel_rfl) (by kernel_rfl) (fun _ _ _ h => h) (Or.inl ⟨by rfl, ?hyr2_3⟩) (by assumption) ?restr2_3
            case hyr2_3 => (intro w hSw; (try dsimp only at hSw); go_simp; try (with_reducible rfl))
            simp only [Act.put, List.getElem_toArray, List.getElem_cons_succ, List.getElem_cons_zero, List.setIfInBounds_toArray, List.set_cons_zero, List.set_cons_succ]
            refine' wpAnyH_take (i := 4) (v := ?vr2_4) rfl (by kernel_rfl) (by kernel_rfl) (by kernel_rfl) (fun _ _ _ h => h) (Or.inl ⟨by rfl, ?hyr2_4⟩) (by assumption) ?restr2_4
            case hyr2_4 => (intro w hSw; (try dsimp only at hSw); go_simp; try (with_reducible rfl))
            simp only [Act.put, List.getElem_toArray, List.getElem_cons_succ, List.getElem_cons_zero, List.setIfInBounds_toArray, List.set_cons_zero, List.set_cons_succ]
            refine wpAnyH_ready (rs := [5]) (by kernel_rfl) (by simp) ?_
            refine AllReadyH.cons rfl (fun K hK => ?_) AllReadyH.nil
            go_simp
            refine (HPK.out).mono ?_
            rintro e w8 ⟨r, rfl, hr, hC, hg⟩
            have HG8 := Lib.hid (HGD.out.step hC hg)
            obtain ⟨x, hx⟩ := at_lt HMM.out (show r < m by omega)
            have HX := Lib.hid hx
            have hri : (r : Int) < (m : Int) := by omega
            have hr0 : (0 : Int) ≤ (r : Int) := by omega
            clear hx hC
            refine hK.out _ _ (own_step hHeld hg (by omega)) (fun hHeld1 => ?_)
            clear hK K hHeld
            have hHeld := hHeld1
            clear hHeld1
            try simp only [Act.put, List.getElem_toArray, List.getElem_cons_succ, List.getElem_cons_zero, List.setIfInBounds_toArray, List.set_cons_zero, List.set_cons_succ]
            refine' wpAnyH_take (i := 6) (v := ?vr2_6) rfl (by kernel_rfl) (by kernel_rfl) (by kernel_rfl) (fun _ _ _ h => h) (Or.inl ⟨by rfl, ?hyr2_6⟩) (by assumption) ?restr2_6
            case hyr2_6 => (intro w hSw; (try dsimp only at hSw); go_simp; try (with_reducible rfl))
            simp only [Act.put, List.getElem_toArray, List.getElem_cons_succ, List.getElem_cons_zero, List.setIfInBounds_toArray, List.set_cons_zero, List.set_cons_succ]
            refine' wpAnyH_take (i := 7) (v := .int .i64 x) rfl (by kernel_rfl) (by kernel_rfl) (by kernel_rfl) (fun _ _ _ h => h) (Or.inl ⟨by rfl, ?hyL2⟩) (by assumption) ?restL2
            case hyL2 =>
              intro v hSv
              obtain ⟨g1, e1, hl1, e0⟩ := il_at hSv HX.out
              injection e1 with e1
              injection e1 with e1
              subst e1
              go_simp
            simp only [Act.put, List.getElem_toArray, List.getElem_cons_succ, List.getElem_cons_zero, List.setIfInBounds_toArray, List.set_cons_zero, List.set_cons_succ]
            refine' wpAnyH_take (i := 8) (v := ?vr2_8) rfl (by kernel_rfl) (by kernel_rfl) (by kernel_rfl) (fun _ _ _ h => h) (Or.inl ⟨by rfl, ?hyr2_8⟩) (by assumption) ?restr2_8
            case hyr2_8 => (intro w hSw; (try dsimp only at hSw); go_simp; try (with_reducible rfl))
            simp only [Act.put, List.getElem_toArray, List.getElem_cons_succ, List.getElem_cons_zero, List.setIfInBounds_toArray, List.set_cons_zero, List.set_cons_succ]
            refine' wpAnyH_take (i := 9) (v := ?vr2_9) rfl (by kernel_rfl) (by kernel_rfl) (by kernel_rfl) (fun _ _ _ h => h) (Or.inl ⟨by rfl, ?hyr2_9⟩) (by assumption) ?restr2_9
            case hyr2_9 => (intro w hSw; (try dsimp only at hSw); go_simp; try (with_reducible rfl))
            simp only [Act.put, List.getElem_toArray, List.getElem_cons_succ, List.getElem_cons_zero, List.setIfInBounds_toArray, List.set_cons_zero, List.set_cons_succ]
            refine wpAnyH_done (by kernel_rfl) ?_ _
            clear hHeld
            go_wp2_with fail
            go_ret2
            exact ⟨_, ts, _, rfl, by rw [HLL.out]; exact hl13, HXB.out x (List.mem_of_getElem? HX.out), HG8.out.more (by omega)⟩
          · have hmi : ¬ (0 : Int) < (m : Int) := by omega
            have hmd : decide (0 < m) = false := by simpa using hm
            have hz := HG7.out.2.1.size
            have HP := Lib.hid (show Calls Tryz.prog 84 #[.pointer (some ⟨b, 0, none⟩), .int .i64 ((L : Int) + 1)] w7 (curs.NPost B b (K + 1 + 1) A n cap zs (L + 1 - 1) w7) from pick_any B b (K + 1) A n cap zs w7 (L + 1) (by omega) HG7.out.1 (by omega) (by omega))
            go_wp2_with fail
            refine HP.out.mono ?_
            rintro e w8 ⟨r1, rfl, hr1, hC, hg⟩
            have HG8 := Lib.hid (HG7.out.step hC hg)
            clear hC hg HP
            go_wp2_with fail
            refine (pick_any B b (K + 1 + 1) A n cap zs w8 9 (by omega) HG8.out.1 (by decide) (by decide)).mono ?_
            rintro e w9 ⟨r2, rfl, hr2, hC, hg⟩
            have HG9 := Lib.hid (HG8.out.step hC hg)
            clear hC hg HG8
            have hq : 0 ≤ (r2 : Int) / 8 ∧ (r2 : Int) / 8 ≤ 1 := by omega
            go_wp2_with fail
            go_ret2
            exact ⟨_, ts, _, rfl, by rw [HLL.out]; exact hl13, by omega, HG9.out.more (by omega)⟩
        · skip
          have hz := HG6.out.2.1.size
          have HP := Lib.hid (show Calls Tryz.prog 84 #[.pointer (some ⟨b, 0, none⟩), .int .i64 ((L : Int) + 1)] w6 (curs.NPost B b (K + 1 + 1) A n cap zs (L + 1 - 1) w6) from pick_any B b (K + 1) A n cap zs w6 (L + 1) (by omega) HG6.out.1 (by omega) (by omega))
          go_wp2_with fail
          refine HP.out.mono ?_
          rintro e w8 ⟨r1, rfl, hr1, hC, hg⟩
          have HG8 := Lib.hid (HG6.out.step hC hg)
          clear hC hg HP
          go_wp2_with fail
          refine (pick_any B b (K + 1 + 1) A n cap zs w8 9 (by omega) HG8.out.1 (by decide) (by decide)).mono ?_
          rintro e w9 ⟨r2, rfl, hr2, hC, hg⟩
          have HG9 := Lib.hid (HG8.out.step hC hg)
          clear hC hg HG8
          have hq : 0 ≤ (r2 : Int) / 8 ∧ (r2 : Int) / 8 ≤ 1 := by omega
          go_wp2_with fail
          go_ret2
          exact ⟨_, ts, _, rfl, by rw [HLL.out]; exact hl13, by omega, HG9.out.more (by omega)⟩
set_option maxHeartbeats 4000000 in
set_option maxRecDepth 100000 in
theorem loopOf_draw (A : Option Addr) (n cap : Nat) (zs : List UInt8) (w : World) (h : Hid (curs.Code w A n zs)) : Calls Tryz.prog 133 #[.slice A n cap] w (CAPo (-1) 13 w) := by
  have HC0 := Lib.hid (cur_new cap h.out)
  go_enter Tryz.func133, Tryz.ntmps133
  go_wp2_with fail
  refine (closing_draw w.heap.size w.heap.size 0 A n cap zs _ (by omega) HC0).mono ?_
  rintro e w1 ⟨v, ts, q, rfl, hl, hq, hG⟩
  have HG := Lib.hid hG
  clear hG HC0 h
  go_wp2_with fail
  go_ret2
  exact ⟨v, ts, q, rfl, own_base (by simp) HG.out.2.2.1, hl, hq, low HG.out.2.1⟩
set_option maxHeartbeats 4000000 in
set_option maxRecDepth 100000 in
theorem worst_draw (A : Option Addr) (n cap : Nat) (zs : List UInt8) (w : World) (h : Hid (curs.Code w A n zs)) : Calls Tryz.prog 90 #[.slice A n cap] w (DLPo w) := by
  go_enter Tryz.func90, Tryz.ntmps90
  go_wp2_with fail
  refine (loopOf_draw A n cap zs w h).mono ?_
  rintro e w1 ⟨v, ts, q, rfl, ho, hl, hq, hb⟩
  have HO := Lib.hid ho
  have HB := Lib.hid hb
  clear ho h hb
  go_wp2_with fail
  go_ret
  exact ⟨v, ts, rfl, HO.out, hl, HB.out⟩
end Go.Proofs.YtnpghhpcloljeabGreatDoor.dcv
