/-
  The search for a way, by the program.
  Conditions: the exits lie in blocks of their own; the legs are valid.
-/
import Derived.Test.YtkeepfkjhcmhlaaDoorKiA
import Derived.Deep.DeepCutAuto
import Derived.Deep.QuietTactic
import Derived.BigQuiet
import Derived.Deep.RegionWith
namespace Go.Proofs.YtkeepfkjhcmhlaaDoor.lpi
open Go.RowKit
open reads base ty lg rowi hs nt lp
set_option linter.unusedVariables false
set_option linter.unusedSimpArgs false

/-- exits of a station in memory -/
def RowEx (w : World) (B : Nat) (A : Option Addr) (m : Nat) (xs : List (Int × Int)) : Prop :=
  xs.length = m ∧ ∀ k j t, xs[k]? = some (j, t) → ∃ h, A = some ⟨h, 0, none⟩ ∧ h < B ∧ w.cell? ⟨h, k * 2, none⟩ = some (.int .i64 j) ∧ w.cell? ⟨h, k * 2 + 1, none⟩ = some (.int .i64 t)
/-- the exits of all stations in memory -/
def ExAt (w : World) (B g : Nat) (R : Int → List (Int × Int)) : Prop :=
  g < B ∧ ∀ s : Nat, s < 8 → ∃ A m c, w.cell? ⟨g, s, none⟩ = some (.slice A m c) ∧ m ≤ 12 ∧ RowEx w B A m (R (s : Int))
theorem RowEx.below {w w' : World} {B : Nat} {A : Option Addr} {m : Nat} {xs : List (Int × Int)} (h : RowEx w B A m xs) (hb : Below B w w') : RowEx w' B A m xs :=
  ⟨h.1, fun k j t hk => by
    obtain ⟨g, e, hg, h0, h1⟩ := h.2 k j t hk
    exact ⟨g, e, hg, (hb.cell (p := ⟨g, k * 2, none⟩) hg).trans h0, (hb.cell (p := ⟨g, k * 2 + 1, none⟩) hg).trans h1⟩⟩
theorem RowEx.more {w : World} {B B' : Nat} {A : Option Addr} {m : Nat} {xs : List (Int × Int)} (h : RowEx w B A m xs) (hB : B ≤ B') : RowEx w B' A m xs :=
  ⟨h.1, fun k j t hk => by
    obtain ⟨g, e, hg, h0⟩ := h.2 k j t hk
    exact ⟨g, e, by omega, h0⟩⟩
theorem ExAt.below {w w' : World} {B g : Nat} {R : Int → List (Int × Int)} (h : ExAt w B g R) (hb : Below B w w') : ExAt w' B g R :=
  ⟨h.1, fun s hs => by
    obtain ⟨A, m, c, e, hm, hr⟩ := h.2 s hs
    exact ⟨A, m, c, (hb.cell (p := ⟨g, s, none⟩) h.1).trans e, hm, hr.below hb⟩⟩
theorem ExAt.more {w : World} {B B' g : Nat} {R : Int → List (Int × Int)} (h : ExAt w B g R) (hB : B ≤ B') : ExAt w B' g R :=
  ⟨by have := h.1; omega, fun s hs => by
    obtain ⟨A, m, c, e, hm, hr⟩ := h.2 s hs
    exact ⟨A, m, c, e, hm, hr.more hB⟩⟩
theorem ExAt.step {w w' : World} {g : Nat} {R : Int → List (Int × Int)} (h : ExAt w w.heap.size g R) (hb : Below w.heap.size w w') : ExAt w' w'.heap.size g R := (h.below hb).more hb.size
/-- a way with the first station that is asked for, or none if there is none -/
def FPo (ts : List Lg) (O : Int → Prop) (z e st : Int) (P : List (Int × Int)) (w : World) (en : Ending) (w' : World) : Prop :=
  ∃ a', en = .returned (.pointer a') ∧ Below w.heap.size w w' ∧ ((∃ W g, a' = some ⟨g, 0, none⟩ ∧ WayAt w' w'.heap.size a' W ∧ Wy ts O z e W ∧ hd W = st) ∨ (a' = none ∧ NoWay ts O z e st P))
/-- the first k exits lead to no way -/
def TriedX (ts : List Lg) (O : Int → Prop) (z e st : Int) (xs P : List (Int × Int)) (k : Nat) : Prop := ∀ i j t, i < k → xs[i]? = some (j, t) → NoWay ts O z e st ((t, j) :: P)
theorem triedX_next {ts : List Lg} {O : Int → Prop} {z e st : Int} {xs P : List (Int × Int)} {k : Nat} {j t : Int} (h : TriedX ts O z e st xs P k) (hx : xs[k]? = some (j, t)) (hs : NoWay ts O z e st ((t, j) :: P)) : TriedX ts O z e st xs P (k + 1) := fun i j' t' hi hx' => by
  by_cases q : i = k
  · rw [q, hx] at hx'
    obtain ⟨rfl, rfl⟩ := Prod.mk.inj (Option.some.inj hx')
    exact hs
  · exact h i j' t' (by omega) hx'
set_option maxHeartbeats 8000000 in
set_option maxRecDepth 100000 in
theorem wayFrom_any (ts : List Lg) (O : Int → Prop) (z e st : Int) (g : Nat) (R : Int → List (Int × Int)) (hg : Hid (goodLg ts = true)) (hz : Hid (0 ≤ z ∧ z ≤ 7)) (hR : Hid (∀ (s : Nat) j t, (j, t) ∈ R (s : Int) ↔ (O j ∧ Jn ts j (s : Int) t))) :
    ∀ (f : Nat) (P : List (Int × Int)) (a : Option Addr) (w : World), 8 < f + P.length → Hid (Wy ts O z e P) → Hid (WayAt w w.heap.size a P) → Hid (ExAt w w.heap.size g R) →
    Calls Tryd.prog 111 #[.int .i64 st, .pointer a, .slice (some ⟨g, 0, none⟩) 8 8] w (FPo ts O z e st P w) := by
  intro f
  induction f with
  | zero =>
    intro P a w hf hP _ _
    have := hP.out.len hg.out hz.out
    omega
  | succ f ih =>
  have IH := Lib.hid ih
  clear ih
  intro P a w hf hP hWA hEX
  cases P with
  | nil => exact absurd rfl hP.out.ne
  | cons p P =>
  obtain ⟨s, i0⟩ := p
  have hs7 := hP.out.bd hg.out hz.out s (by simp)
  obtain ⟨g0, u, rfl, hg0, hk0, -⟩ := hWA.out
  have HK0 := Lib.hid hk0
  have e0 := hk0.cell 0
  simp at e0
  clear hk0
  cases hst : (s == st)
  · have hne : ¬ s = st := by simpa using hst
    have HNE := Lib.hid hne
    obtain ⟨sn, rfl⟩ := Int.eq_ofNat_of_zero_le hs7.1
    have hsn : sn < 8 := by omega
    obtain ⟨A, m, c, ec, hm, hrow⟩ := hEX.out.2 sn hsn
    obtain ⟨xs, HXS⟩ : ∃ xs, Hid (R (sn : Int) = xs) := ⟨_, Lib.hid rfl⟩
    rw [HXS.out] at hrow
    have HRW := Lib.hid hrow
    have HXL := Lib.hid hrow.1
    have hs8 : (sn : Int) < 8 := by omega
    have hs0 : (0 : Int) ≤ (sn : Int) := by omega
    clear hne hrow hs7
    go_enter Tryd.func111, Tryd.ntmps111
    go_wp2_with fail
    clear e0 ec
    go_loopw [25] (fun i wr => ∃ k : Nat, k ≤ m ∧ i = .int .i64 (k : Nat) ∧ Hid (TriedX ts O z e st xs ((↑sn, i0) :: P) k) ∧ Below w.heap.size w wr) (fun i _ => m - (intOf i).toNat)
    case atStart => exact ⟨0, Nat.zero_le _, rfl, Lib.hid (fun i j t hi => by omega), Below.refl _ _⟩
    case round =>
      obtain ⟨k, hk, rfl, HT, hB⟩ := hrel
      have HB := Lib.hid hB
      have hBs := hB.size
      clear hB
      have hkz : (0 : Int) ≤ (k : Int) := by omega
      by_cases hlt : k < m
      · obtain ⟨jt, hjt⟩ := at_lt HXL.out hlt
        obtain ⟨j, t⟩ := jt
        obtain ⟨h, rfl, hh, c0, c1⟩ := (HRW.out.below HB.out).2 k j t hjt
        have HJT := Lib.hid hjt
        obtain ⟨hO, hJ⟩ := (hR.out sn j t).1 (by rw [HXS.out]; exact List.mem_of_getElem? hjt)
        have HOo := Lib.hid hO
        have HJ := Lib.hid hJ
        have hki : (k : Int) < (m : Int) := by omega
        have hkd : decide (k < m) = true := by simpa using hlt
        clear hjt hO hJ
        go_upto_region 6 with fail
        obtain ⟨V, HV⟩ : ∃ V, Hid (wr.alloc (.cells #[.int .i64 j, .int .i64 t] 121) = V) := ⟨_, Lib.hid rfl⟩
        obtain ⟨X, HX⟩ : ∃ X, Hid (wr.heap.size = X) := ⟨_, Lib.hid rfl⟩
        have HBV := Lib.hid (show Below w.heap.size w V by rw [← HV.out]; exact HB.out.alloc hBs _)
        have HXV := Lib.hid (show Blk V X 121 #[.int .i64 j, .int .i64 t] by rw [← HV.out, ← HX.out]; exact Blk.new _ _ _)
        try rw [HX.out]
        try simp only [HX.out]
        rw [HV.out]
        clear HV HX HB c0 c1
        have x0 := HXV.out.cell 0
        have x1 := HXV.out.cell 1
        simp at x0 x1
        cases hbg : beg ((↑sn, i0) :: P) t
        · have HBG := Lib.hid hbg
          have HNI := Lib.hid (show t ∉ (((sn : Int), i0) :: P).map Prod.fst from fun q => by rw [beg_iff.2 q] at hbg; cases hbg)
          have HP2 := Lib.hid (Wy.more HOo.out HJ.out.symm HNI.out hP.out)
          clear hbg
          go_wp2_with fail
          refine (begins_any t V.heap.size V _ _ false HBG (Lib.hid (hWA.out.step HBV.out))).mono ?_
          rintro en w9 ⟨rfl, rfl⟩
          have HC := Lib.hid ((hWA.out.step HBV.out).cons t j)
          have HBC := Lib.hid (HBV.out.alloc HBV.out.size (.cells #[.int .i64 t, .int .i64 j, .pointer (some ⟨g0, 0, none⟩)] 61))
          have HEC := Lib.hid (hEX.out.step HBC.out)
          go_wp2_with fail
          refine (IH.out ((t, j) :: ((sn : Int), i0) :: P) _ _ (by simp at hf ⊢; omega) HP2 HC HEC).mono ?_
          rintro en w5 ⟨a', rfl, hb5, hres⟩
          have HB5 := Lib.hid (HBC.out.trans (hb5.mono HBC.out.size))
          have HRES := Lib.hid hres
          clear hb5 hres HBC HC HEC x0 x1 HXV HBV
          rcases HRES.out with ⟨W, gw, rfl, hw1, hw2, hw3⟩ | ⟨rfl, hsh⟩
          · have H1 := Lib.hid hw1
            have H2 := Lib.hid hw2
            have H3 := Lib.hid hw3
            clear hw1 hw2 hw3 HRES
            go_wp2_with fail
            go_ret
            exact ⟨some ⟨gw, 0, none⟩, rfl, HB5.out, .inl ⟨W, gw, rfl, H1.out, H2.out, H3.out⟩⟩
          · have HNX := Lib.hid (triedX_next HT.out HJT.out hsh)
            clear hsh HRES
            go_wp2_with fail
            go_roundw
            case rel => exact ⟨k + 1, by omega, by go_num, HNX, HB5.out⟩
            case measure => simp [intOf]; omega
        · have HBG := Lib.hid hbg
          have HNX := Lib.hid (triedX_next HT.out HJT.out (shut_seen (ts := ts) (O := O) (z := z) (e := e) (st := st) (j := j) (beg_iff.1 hbg)))
          clear hbg
          go_wp2_with fail
          refine (begins_any t V.heap.size V _ _ true HBG (Lib.hid (hWA.out.step HBV.out))).mono ?_
          rintro en w9 ⟨rfl, rfl⟩
          go_wp2_with fail
          go_roundw
          case rel => exact ⟨k + 1, by omega, by go_num, HNX, HBV.out⟩
          case measure => simp [intOf]; omega
      · have hkd : decide (k < m) = false := by simpa using hlt
        obtain rfl : k = m := by omega
        have HSH := Lib.hid (show NoWay ts O z e st (((sn : Int), i0) :: P) from shut_all HNE.out (fun j t hO hJ hn => by
          obtain ⟨q, hq⟩ := List.getElem?_of_mem (show (j, t) ∈ xs by rw [← HXS.out]; exact (hR.out _ j t).2 ⟨hO, hJ⟩)
          exact HT.out q j t (by have := lt_at hq; rw [HXL.out] at this; exact this) hq))
        clear hlt
        go_wp2_with fail
        go_ret
        exact ⟨none, rfl, HB.out, .inr ⟨rfl, HSH.out⟩⟩
  · have HEQ := Lib.hid (show s = st by simpa using hst)
    go_enter Tryd.func111, Tryd.ntmps111
    go_wp2_with fail
    go_ret
    exact ⟨some ⟨g0, 0, none⟩, rfl, Below.refl _ _, .inl ⟨(s, i0) :: P, g0, rfl, hWA.out, hP.out, HEQ.out⟩⟩
#print axioms wayFrom_any
end Go.Proofs.YtkeepfkjhcmhlaaDoor.lpi
