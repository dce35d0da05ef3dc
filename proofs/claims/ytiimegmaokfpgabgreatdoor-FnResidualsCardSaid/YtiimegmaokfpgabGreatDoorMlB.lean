/-
  The model: the placed legs, the unknown stations, measures and residuals of a leg.
  Conditions: the legs are valid and lie in one block; the axis is one; numbers within the limits that each theorem names.
-/
import Derived.Test.YtiimegmaokfpgabGreatDoorMlA
import Derived.Test.YtiimegmaokfpgabGreatDoorLgD
import Derived.Deep.RegionHeld3
namespace Go.Proofs.YtiimegmaokfpgabGreatDoor.ml
open Go.RowKit
open reads base ty lg rowi hs nt mt
set_option linter.unusedVariables false
set_option linter.unusedSimpArgs false

theorem own_cap {w : World} {base size n c : Nat} {e : TypeId} {A : Option Addr} {xs : List Value} (h : w.ownsRow base e size (.slice A n c) n xs) : n ≤ c := by
  rcases h.2 with ⟨h1, h2⟩ | ⟨g, cap, cur, h1, -, -, h2, -⟩
  · omega
  · injection h1 with _ _ h3; omega
/-- the placed legs below k -/
def plN (ts : List Lg) (k : Nat) : List Int := idxs (fun x => mem (net ts).ps x.frm) ts k
def plIds (ts : List Lg) : List Int := plN ts ts.length
/-- a list of ints that the call has made -/
def JPo (xs : List Int) (w : World) (e : Ending) (w' : World) : Prop :=
  ∃ v, e = .returned v ∧ w'.ownsRow w.heap.size 3 1 v xs.length (ints.intsV xs) ∧ Below w.heap.size w w'
set_option maxHeartbeats 8000000 in
set_option maxRecDepth 100000 in
theorem legs9_any (A : Option Addr) (n cap : Nat) (ts : List Lg) (w : World) (hg : Hid (goodLg ts = true)) (hts : Hid (LgAt w w.heap.size A n ts)) :
    Calls Tryz.prog 80 #[.slice A n cap] w (JPo (plIds ts) w) := by
  obtain ⟨i0, hi, hz0, hz1, hz2⟩ := info_parts infoI
  have HL := Lib.hid hts.out.1
  have hn12 := len12 HL.out hg.out
  have HP := Lib.hid (show plIds ts = plN ts n by unfold plIds; rw [HL.out])
  obtain ⟨m2, HM2⟩ : ∃ m, Hid ((net ts).ps.length = m) := ⟨_, Lib.hid rfl⟩
  go_enter Tryz.func80, Tryz.ntmps80
  go_wp2_with fail
  refine (place_any A n cap ts _ hg hts).mono ?_
  rintro e w1 ⟨g1, g2, c2, g3, c3, rfl, hN⟩
  rw [HM2.out] at hN ⊢
  have hm2 : m2 ≤ 8 := by rw [← HM2.out]; exact (ok_net hg.out).ps_len
  have HIL := Lib.hid (ints.IL.of_own hN.2.2.1)
  have HB1 := Lib.hid hN.1
  have HPS := Lib.hid hN.2.2.1
  clear hN
  have HR1 := Lib.hid (show (w1.alloc (.cells #[] 3)).ownsRow w.heap.size 3 1 (.slice (some ⟨w1.heap.size, 0, none⟩) 0 0) 0 [] from World.ownsRow_made w1 #[] 0 HB1.out.size (by decide) (by simp))
  have HBA := Lib.hid (HB1.out.alloc HB1.out.size (.cells #[] 3))
  have HPA := Lib.hid (HPS.out.alloc (.cells #[] 3))
  have hg2 := (HPS.out.lt g2 rfl)
  have hg2n : g2 ≠ w1.heap.size := by omega
  have HNE0 := Lib.hid (show ∀ g, (Value.slice (some ⟨w1.heap.size, 0, none⟩) 0 0).ownBlock = some g → g2 ≠ g from fun g e h => by
    have e2 : w1.heap.size = g := by simpa [Value.ownBlock] using e
    omega)
  clear hg2 hg2n HIL HB1 HPS
  go_wp2_with fail
  go_loopw [6, 7] (fun v i wr => ∃ (k m c : Nat) (A2 : Option Addr), k ≤ n ∧ i = .int .i64 (k : Nat) ∧ m ≤ k ∧ v = .slice A2 m c ∧ Hid ((plN ts k).length = m) ∧ (∀ g, (Value.slice A2 m c).ownBlock = some g → g2 ≠ g) ∧ wr.ownsRow w.heap.size 3 1 (.slice A2 m c) m (ints.intsV (plN ts k)) ∧ wr.ownsRow w.heap.size 3 1 (.slice (some ⟨g2, 0, none⟩) m2 c2) m2 (ints.intsV (net ts).ps) ∧ Below w.heap.size w wr) (fun _ i _ => n - (intOf i).toNat)
  case atStart => exact ⟨0, 0, 0, _, Nat.zero_le _, rfl, Nat.le_refl _, rfl, Lib.hid rfl, HNE0.out, HR1.out, HPA.out, HBA.out⟩
  case round =>
    obtain ⟨k, m, c, A2, hk, rfl, hmk, rfl, HM, hne, hO, hPP, hB⟩ := hrel
    have HO := Lib.hid hO
    have HPP := Lib.hid hPP
    have HB := Lib.hid hB
    have HNE := Lib.hid hne
    have hBs := hB.size
    clear hO hPP hB hne HR1 HPA HBA HNE0
    have hk0 : (0 : Int) ≤ (k : Int) := by omega
    by_cases hlt : k < n
    · obtain ⟨x, hx⟩ := at_lt HL.out hlt
      obtain ⟨gL, rfl, hgL, e0, e1, e2, e3, e4⟩ := (hts.out.below HB.out).2 k x hx
      have HX := Lib.hid hx
      have hki : (k : Int) < (n : Int) := by omega
      have hkd : decide (k < n) = true := by simpa using hlt
      clear hx e1 e2 e3 e4
      cases hfa : mem (net ts).ps x.frm
      · have HH := Lib.hid hfa
        have HC := Lib.hid (show plN ts (k + 1) = plN ts k from idxs_no HX.out hfa)
        clear hfa
        go_wp2_with fail
        refine (has_is _ m2 c2 (net ts).ps x.frm false HH _ (by omega) (Lib.hid (ints.IL.of_own HPP.out))).mono ?_
        rintro e w5 ⟨rfl, rfl⟩
        clear e0
        go_wp2_with fail
        go_roundw
        case rel => exact ⟨k + 1, m, c, A2, by omega, by go_num, by omega, rfl, Lib.hid (by rw [HC.out]; exact HM.out), HNE.out, by rw [HC.out]; exact HO.out, HPP.out, HB.out⟩
        case measure => simp [intOf]; omega
      · have HH := Lib.hid hfa
        have HC := Lib.hid (show plN ts (k + 1) = plN ts k ++ [(k : Int)] from idxs_yes HX.out hfa)
        clear hfa
        go_wp2_with fail
        refine (has_is _ m2 c2 (net ts).ps x.frm true HH _ (by omega) (Lib.hid (ints.IL.of_own HPP.out))).mono ?_
        rintro e w5 ⟨rfl, rfl⟩
        clear e0
        go_wp2_with (at_builtin; refine wpList_append_lies _ rfl _ _ 27 rfl w.heap.size 3 i0 (.int .i64 0) 1 8 Tryz.underlying27 hi hz0 hz1 hz2 rfl (by decide) _ _ _ rfl (HO.out.alloc _) ⟨wr.heap.size, 0, none⟩ 1 1 [.int .i64 (k : Int)] rfl rfl (cell_one_new _ _ _) (by simp [Value.oneCell']) (by decide) (by unfold maxLen; omega) (by omega) (by simp; omega) _ rfl ?_; intro g9 c9 w3 hown' hgrow hat hlt9)
        have hg2l := (HPP.out.lt g2 rfl).2
        have HNE9 := Lib.hid (show ∀ g, (Value.slice (some ⟨g9, 0, none⟩) (m + 1) c9).ownBlock = some g → g2 ≠ g from fun g e h => by
          have e1 : g9 = g := by simpa [Value.ownBlock] using e
          rcases hat with z | z
          · exact HNE.out g9 z (by omega)
          · have z2 : g9 = wr.heap.size + 1 := by simpa using z
            omega)
        have HAL := Lib.hid ((Below.refl wr.heap.size wr).alloc (Nat.le_refl _) (.cells #[.int .i64 (k : Int)] 3))
        have HP9 := Lib.hid ((row_below HPP.out HAL.out).kept hgrow (.inr (fun e => HNE.out g2 e.symm rfl)))
        have HB9 := Lib.hid ((HB.out.trans (HAL.out.mono hBs)).grown hgrow (by simp; omega) (fun g e => (HO.out.lt g e).1))
        have HO9 := Lib.hid (show w3.ownsRow w.heap.size 3 1 (.slice (some ⟨g9, 0, none⟩) (m + 1) c9) (m + 1) (ints.intsV (plN ts (k + 1))) by rw [HC.out, intsV_app]; exact hown')
        clear hown' hgrow hat
        go_wp2_with fail
        go_roundw
        case rel => exact ⟨k + 1, m + 1, c9, some ⟨g9, 0, none⟩, by omega, by go_num, by omega, rfl, Lib.hid (by rw [HC.out, List.length_append, HM.out]; rfl), HNE9.out, HO9.out, HP9.out, HB9.out⟩
        case measure => simp [intOf]; omega
    · have hkd : decide (k < n) = false := by simpa using hlt
      obtain rfl : k = n := by omega
      have HFIN := Lib.hid (show wr.ownsRow w.heap.size 3 1 (.slice A2 m c) (plIds ts).length (ints.intsV (plIds ts)) by rw [HP.out, HM.out]; exact HO.out)
      clear hlt
      go_wp2_with fail
      go_ret
      exact ⟨_, rfl, HFIN.out, HB.out⟩
/-- the unknown stations -/
def unk (ts : List Lg) : List Int := (net ts).ps.tail
def UPo (xs : List Int) (w : World) (e : Ending) (w' : World) : Prop :=
  ∃ A m c, e = .returned (.slice A m c) ∧ xs.length = m ∧ IO w' w'.heap.size A m xs ∧ Below w.heap.size w w'
set_option maxHeartbeats 8000000 in
set_option maxRecDepth 100000 in
theorem unk_any (A : Option Addr) (n cap : Nat) (ts : List Lg) (w : World) (hg : Hid (goodLg ts = true)) (hts : Hid (LgAt w w.heap.size A n ts)) :
    Calls Tryz.prog 122 #[.slice A n cap] w (UPo (unk ts) w) := by
  have HL := Lib.hid hts.out.1
  obtain ⟨ps, HPS⟩ : ∃ p, Hid ((net ts).ps = p) := ⟨_, Lib.hid rfl⟩
  have HU := Lib.hid (show unk ts = ps.tail by unfold unk; rw [HPS.out])
  have hm1 : 0 < ps.length := by rw [← HPS.out]; exact List.length_pos_of_mem (ok_net hg.out).2.2.2.2.2.1
  have hm2 : ps.length ≤ 8 := by rw [← HPS.out]; exact (ok_net hg.out).ps_len
  obtain ⟨m2, HM2⟩ : ∃ m, Hid (ps.length = m) := ⟨_, Lib.hid rfl⟩
  rw [HM2.out] at hm1 hm2
  go_enter Tryz.func122, Tryz.ntmps122
  go_wp2_with fail
  refine (place_any A n cap ts _ hg hts).mono ?_
  rintro e w1 ⟨g1, g2, c2, g3, c3, rfl, hN⟩
  rw [HPS.out, HM2.out] at hN ⊢
  have HB1 := Lib.hid hN.1
  have HR := Lib.hid hN.2.2.1
  have hc2 : m2 ≤ c2 := own_cap hN.2.2.1
  clear hN
  have hm0 : 1 ≤ m2 := hm1
  have HLT := Lib.hid (show (unk ts).length = m2 - 1 by rw [HU.out, List.length_tail, HM2.out])
  have HIO := Lib.hid (show ∀ k x, (unk ts)[k]? = some x → w1.cell? ⟨g2, 1 + k, none⟩ = some (.int .i64 x) from fun k x hx => by
    rw [HU.out, List.getElem?_tail] at hx
    obtain ⟨g, e, hc⟩ := (ints.IL.of_own HR.out).2 (k + 1) x (by rw [HPS.out]; exact hx)
    obtain rfl : g2 = g := by injection e with e; injection e
    rw [Nat.add_comm 1 k]; exact hc)
  have hlt2 := (HR.out.lt g2 rfl).2
  by_cases hc1 : c2 = 1
  · obtain rfl : m2 = 1 := by omega
    subst hc1
    go_wp2_with fail
    go_ret
    refine ⟨_, _, _, rfl, HLT.out, ⟨HLT.out, fun k x hx => ?_⟩, HB1.out⟩
    have h1 := lt_at hx
    rw [HLT.out] at h1; omega
  · have hm3 : m2 - 1 ≤ c2 - 1 := by omega
    go_wp2_with fail
    go_ret
    exact ⟨_, _, _, rfl, HLT.out, ⟨HLT.out, fun k x hx => ⟨g2, 1, rfl, hlt2, HIO.out k x hx⟩⟩, HB1.out⟩
/-- the measure of a leg on an axis -/
def msA (x : Lg) (ax : Int) : Int := if ax = 0 then (shf x).east else if ax = 1 then (shf x).north else (shf x).up
theorem msA_bd {x : Lg} (h : okLg x = true) (ax : Int) : -500 ≤ msA x ax ∧ msA x ax ≤ 500 := by
  have := shf_bd h
  unfold msA; split
  · omega
  · split <;> omega
set_option maxHeartbeats 8000000 in
set_option maxRecDepth 100000 in
theorem measure_any (x : Lg) (ax r : Int) (w : World) (hx : Hid (okLg x = true)) (h0 : 0 ≤ ax) (h2 : ax ≤ 2) (hr : Hid (msA x ax = r)) :
    Calls Tryz.prog 131 #[.agg #[.int .i64 x.frm, .int .i64 x.to_, .int .i64 x.tape, .int .i64 x.comp, .int .i64 x.slope], .int .i64 ax] w (APost (.int .i64 r) w) := by
  have HB0 := Lib.hid ((Below.refl w.heap.size w).alloc (Nat.le_refl _) (.cells #[.int .i64 x.frm, .int .i64 x.to_, .int .i64 x.tape, .int .i64 x.comp, .int .i64 x.slope] 87))
  have hax : ax = 0 ∨ ax = 1 ∨ ax = 2 := by omega
  obtain ⟨s, HS⟩ : ∃ s, Hid (shf x = s) := ⟨_, Lib.hid rfl⟩
  rcases hax with rfl | rfl | rfl
  · obtain rfl : r = s.east := by rw [← hr.out, ← HS.out]; rfl
    go_enter Tryz.func131, Tryz.ntmps131
    go_wp2_with fail
    refine (shift_any x _ hx).mono ?_
    rintro e w1 ⟨rfl, b1⟩
    rw [HS.out]
    have HB1 := Lib.hid (HB0.out.trans (b1.mono HB0.out.size))
    clear b1
    go_wp2_with fail
    go_ret
    exact ⟨rfl, (HB1.out.alloc HB1.out.size _).alloc (by have := HB1.out.size; simp; omega) _⟩
  · obtain rfl : r = s.north := by rw [← hr.out, ← HS.out]; rfl
    go_enter Tryz.func131, Tryz.ntmps131
    go_wp2_with fail
    refine (shift_any x _ hx).mono ?_
    rintro e w1 ⟨rfl, b1⟩
    rw [HS.out]
    have HB1 := Lib.hid (HB0.out.trans (b1.mono HB0.out.size))
    clear b1
    go_wp2_with fail
    go_ret
    exact ⟨rfl, (HB1.out.alloc HB1.out.size _).alloc (by have := HB1.out.size; simp; omega) _⟩
  · obtain rfl : r = s.up := by rw [← hr.out, ← HS.out]; rfl
    go_enter Tryz.func131, Tryz.ntmps131
    go_wp2_with fail
    refine (shift_any x _ hx).mono ?_
    rintro e w1 ⟨rfl, b1⟩
    rw [HS.out]
    have HB1 := Lib.hid (HB0.out.trans (b1.mono HB0.out.size))
    clear b1
    go_wp2_with fail
    go_ret
    exact ⟨rfl, (HB1.out.alloc HB1.out.size _).alloc (by have := HB1.out.size; simp; omega) _⟩
#print axioms legs9_any
#print axioms unk_any
#print axioms measure_any
end Go.Proofs.YtiimegmaokfpgabGreatDoor.ml
