/-
  The reverse of a leg by the program; its shift is the opposite one.
  Ways in memory; whether one begins a step at a station, its legs, its length, by the program.
  The search for a way, by the program.
  The exits of all stations, by the program.
  A way from the one end of a leg to the other one by open legs, by the program.
  The loop of a closing leg, and whether a leg is needed, by the program.
  LoopOf, LoopLegs and LoopLength, by the program.
  Conditions: those that each theorem names.
-/
import Derived.Test.YtnpghhpcloljeabGreatDoorLgRaq
import Derived.Test.YtnpghhpcloljeabGreatDoorLgIq
import Derived.Test.YtnpghhpcloljeabGreatDoorLgD
import Derived.Deep.DeepCutAuto
import Derived.Deep.RegionWith
import Derived.Deep.QuietTactic
import Derived.BigQuiet
import Derived.Test.YtnpghhpcloljeabGreatDoorKuMq
import Derived.Test.YtnpghhpcloljeabGreatDoorReadsq
import Derived.OwnWalk
import Derived.LoopTactic
import Derived.Deep.LoopGhost
import Derived.Deep.RegionHeld3
import Derived.Test.YtnpghhpcloljeabGreatDoorTyLegq
import Derived.Deep.MidRow
import Derived.Test.YtnpghhpcloljeabGreatDoorNqG0q
namespace Go.Proofs.YtnpghhpcloljeabGreatDoor.lpi
open Go.RowKit
open reads base ty win lg lgi
set_option linter.unusedVariables false
set_option linter.unusedSimpArgs false
end Go.Proofs.YtnpghhpcloljeabGreatDoor.lpi
namespace Go.Proofs.YtnpghhpcloljeabGreatDoor.lpi
open Go.RowKit
open reads base ty lg rowi hs nt lp
set_option linter.unusedVariables false
set_option linter.unusedSimpArgs false
def WayAt (w : World) (B : Nat) : Option Addr → List (Int × Int) → Prop
  | a, [] => a = none
  | a, (s, i) :: W => ∃ g u, a = some ⟨g, 0, none⟩ ∧ g < B ∧ Blk w g 158 #[.int .i64 s, .int .i64 i, .pointer u] ∧ WayAt w B u W
theorem WayAt.below {w w' : World} {B : Nat} (hb : Below B w w') : ∀ {W : List (Int × Int)} {a : Option Addr}, WayAt w B a W → WayAt w' B a W
  | [], _, h => h
  | (s, i) :: W, a, h => by
    obtain ⟨g, u, e, hg, hk, h2⟩ := h
    exact ⟨g, u, e, hg, hk.below hb hg, WayAt.below hb h2⟩
theorem WayAt.more {w : World} {B B' : Nat} (hB : B ≤ B') : ∀ {W : List (Int × Int)} {a : Option Addr}, WayAt w B a W → WayAt w B' a W
  | [], _, h => h
  | (s, i) :: W, a, h => by
    obtain ⟨g, u, e, hg, hk, h2⟩ := h
    exact ⟨g, u, e, by omega, hk, WayAt.more hB h2⟩
theorem WayAt.step {w w' : World} {W : List (Int × Int)} {a : Option Addr} (h : WayAt w w.heap.size a W) (hb : Below w.heap.size w w') : WayAt w' w'.heap.size a W := (h.below hb).more hb.size
theorem WayAt.alloc {w : World} {W : List (Int × Int)} {a : Option Addr} (h : WayAt w w.heap.size a W) (o : Obj) : WayAt (w.alloc o) (w.alloc o).heap.size a W := h.step ((Below.refl _ _).alloc (Nat.le_refl _) o)
theorem WayAt.cons {w : World} {W : List (Int × Int)} {a : Option Addr} (h : WayAt w w.heap.size a W) (s i : Int) : WayAt (w.alloc (.cells #[.int .i64 s, .int .i64 i, .pointer a] 158)) (w.alloc (.cells #[.int .i64 s, .int .i64 i, .pointer a] 158)).heap.size (some ⟨w.heap.size, 0, none⟩) ((s, i) :: W) :=
  ⟨w.heap.size, a, rfl, by simp, Blk.new _ _ _, h.alloc _⟩
def beg (W : List (Int × Int)) (s : Int) : Bool := (W.map Prod.fst).any fun x => x == s
theorem beg_iff {W : List (Int × Int)} {s : Int} : beg W s = true ↔ s ∈ W.map Prod.fst := by
  unfold beg
  rw [List.any_eq_true]
  constructor
  · rintro ⟨x, hx, e⟩
    have : x = s := by simpa using e
    rw [← this]; exact hx
  · intro h; exact ⟨s, h, by simp⟩
set_option maxHeartbeats 4000000 in
set_option maxRecDepth 100000 in
theorem begins_any (s : Int) (B : Nat) (w : World) : ∀ (W : List (Int × Int)) (a : Option Addr) (t : Bool), Hid (beg W s = t) → Hid (WayAt w B a W) →
    Calls Tryz.prog 173 #[.pointer a, .int .i64 s] w fun e w' => e = .returned (.bool t) ∧ w = w' := by
  intro W
  induction W with
  | nil =>
    intro a t ht hW
    obtain rfl : a = none := hW.out
    obtain rfl : t = false := by rw [← ht.out]; rfl
    go_enter Tryz.func173, Tryz.ntmps173
    go_wp2_with fail
    go_ret
    exact ⟨rfl, rfl⟩
  | cons p W ih =>
    intro a t ht hW
    have IH := Lib.hid ih
    clear ih
    obtain ⟨c, i⟩ := p
    obtain ⟨g, u, rfl, hg, hk, h2⟩ := hW.out
    have HK := Lib.hid hk
    have H2 := Lib.hid h2
    have e0 := hk.cell 0
    have e2 := hk.cell 2
    clear hk h2
    cases hc : (c == s)
    · have HT := Lib.hid (show beg W s = t by rw [← ht.out]; show _ = ((c == s) || (W.map Prod.fst).any _); rw [hc]; rfl)
      have hn : (c != s) = true := by simp [bne, hc]
      simp at e0 e2
      go_enter Tryz.func173, Tryz.ntmps173
      go_wp2_with fail
      refine (IH.out u t HT H2).mono ?_
      rintro e w9 ⟨rfl, rfl⟩
      go_wp2_with fail
      go_ret
      exact ⟨rfl, rfl⟩
    · obtain rfl : t = true := by rw [← ht.out]; show ((c == s) || (W.map Prod.fst).any _) = true; rw [hc]; rfl
      simp at e0 e2
      go_enter Tryz.func173, Tryz.ntmps173
      go_wp2_with fail
      go_ret
      exact ⟨rfl, rfl⟩
end Go.Proofs.YtnpghhpcloljeabGreatDoor.lpi
namespace Go.Proofs.YtnpghhpcloljeabGreatDoor.lpi
open Go.RowKit
open reads base ty lg rowi hs nt lp
set_option linter.unusedVariables false
set_option linter.unusedSimpArgs false
def RowEx (w : World) (B : Nat) (A : Option Addr) (m : Nat) (xs : List (Int × Int)) : Prop :=
  xs.length = m ∧ ∀ k j t, xs[k]? = some (j, t) → ∃ h, A = some ⟨h, 0, none⟩ ∧ h < B ∧ w.cell? ⟨h, k * 2, none⟩ = some (.int .i64 j) ∧ w.cell? ⟨h, k * 2 + 1, none⟩ = some (.int .i64 t)
def ExAt (w : World) (B g : Nat) (R : Int → List (Int × Int)) : Prop :=
  g < B ∧ ∀ s : Nat, s < 8 → ∃ A m c, w.cell? ⟨g, s, none⟩ = some (.slice A m c) ∧ m ≤ 12 ∧ RowEx w B A m (R (s : Int))
theorem RowEx.below {w w' : World} {B : Nat} {A : Option Addr} {m : Nat} {xs : List (Int × Int)} (h : RowEx w B A m xs) (hb : Below B w w') : RowEx w' B A m xs :=
  ⟨h.1, fun k j t hk => by
    obtain ⟨g, e, hg, h0, h1⟩ := h.2 k j t hk
    exact ⟨g, e, hg, (hb.cell (p := ⟨g, k * 2, none⟩) hg).trans h0, (hb.cell (p := ⟨g, k * 2 + 1, none⟩) hg).trans h1⟩⟩
theorem RowEx.more {w : World} {B B' : Nat} {A : Option Addr} {m : Nat} {xs : List (Int × Int)} (h : RowEx w B A m xs) (hB : B ≤ B') : RowEx w B' A m xs :=
  ⟨h.1, fun k j t hk => by
    obtain ⟨g, e, hg, h0⟩ := h.2 k j t hk
    exact ⟨g, e, by omega, h0⟩⟩
theorem ExAt.below {w w' : World} {B g : Nat} {R : Int → List (Int × Int)} (h : ExAt w B g R) (hb : Below B w w') : ExAt w' B g R :=
  ⟨h.1, fun s hs => by
    obtain ⟨A, m, c, e, hm, hr⟩ := h.2 s hs
    exact ⟨A, m, c, (hb.cell (p := ⟨g, s, none⟩) h.1).trans e, hm, hr.below hb⟩⟩
theorem ExAt.more {w : World} {B B' g : Nat} {R : Int → List (Int × Int)} (h : ExAt w B g R) (hB : B ≤ B') : ExAt w B' g R :=
  ⟨by have := h.1; omega, fun s hs => by
    obtain ⟨A, m, c, e, hm, hr⟩ := h.2 s hs
    exact ⟨A, m, c, e, hm, hr.more hB⟩⟩
theorem ExAt.step {w w' : World} {g : Nat} {R : Int → List (Int × Int)} (h : ExAt w w.heap.size g R) (hb : Below w.heap.size w w') : ExAt w' w'.heap.size g R := (h.below hb).more hb.size
def FPo (ts : List Lg) (O : Int → Prop) (z e st : Int) (P : List (Int × Int)) (w : World) (en : Ending) (w' : World) : Prop :=
  ∃ a', en = .returned (.pointer a') ∧ Below w.heap.size w w' ∧ ((∃ W g, a' = some ⟨g, 0, none⟩ ∧ WayAt w' w'.heap.size a' W ∧ Wy ts O z e W ∧ hd W = st) ∨ (a' = none ∧ NoWay ts O z e st P))
def TriedX (ts : List Lg) (O : Int → Prop) (z e st : Int) (xs P : List (Int × Int)) (k : Nat) : Prop := ∀ i j t, i < k → xs[i]? = some (j, t) → NoWay ts O z e st ((t, j) :: P)
theorem triedX_next {ts : List Lg} {O : Int → Prop} {z e st : Int} {xs P : List (Int × Int)} {k : Nat} {j t : Int} (h : TriedX ts O z e st xs P k) (hx : xs[k]? = some (j, t)) (hs : NoWay ts O z e st ((t, j) :: P)) : TriedX ts O z e st xs P (k + 1) := fun i j' t' hi hx' => by
  by_cases q : i = k
  · rw [q, hx] at hx'
    obtain ⟨rfl, rfl⟩ := Prod.mk.inj (Option.some.inj hx')
    exact hs
  · exact h i j' t' (by omega) hx'
set_option maxHeartbeats 8000000 in
set_option maxRecDepth 100000 in
theorem wayFrom_any (ts : List Lg) (O : Int → Prop) (z e st : Int) (g : Nat) (R : Int → List (Int × Int)) (hg : Hid (goodLg ts = true)) (hz : Hid (0 ≤ z ∧ z ≤ 7)) (hR : Hid (∀ (s : Nat) j t, (j, t) ∈ R (s : Int) ↔ (O j ∧ Jn ts j (s : Int) t))) :
    ∀ (f : Nat) (P : List (Int × Int)) (a : Option Addr) (w : World), 8 < f + P.length → Hid (Wy ts O z e P) → Hid (WayAt w w.heap.size a P) → Hid (ExAt w w.heap.size g R) →
    Calls Tryz.prog 156 #[.int .i64 st, .pointer a, .slice (some ⟨g, 0, none⟩) 8 8] w (FPo ts O z e st P w) := by
  intro f
  induction f with
  | zero =>
    intro P a w hf hP _ _
    have := hP.out.len hg.out hz.out
    omega
  | succ f ih =>
  have IH := Lib.hid ih
  clear ih
  intro P a w hf hP hWA hEX
  cases P with
  | nil => exact absurd rfl hP.out.ne
  | cons p P =>
  obtain ⟨s, i0⟩ := p
  have hs7 := hP.out.bd hg.out hz.out s (by simp)
  obtain ⟨g0, u, rfl, hg0, hk0, -⟩ := hWA.out
  have HK0 := Lib.hid hk0
  have e0 := hk0.cell 0
  simp at e0
  clear hk0
  cases hst : (s == st)
  · have hne : ¬ s = st := by simpa using hst
    have HNE := Lib.hid hne
    obtain ⟨sn, rfl⟩ := Int.eq_ofNat_of_zero_le hs7.1
    have hsn : sn < 8 := by omega
    obtain ⟨A, m, c, ec, hm, hrow⟩ := hEX.out.2 sn hsn
    obtain ⟨xs, HXS⟩ : ∃ xs, Hid (R (sn : Int) = xs) := ⟨_, Lib.hid rfl⟩
    rw [HXS.out] at hrow
    have HRW := Lib.hid hrow
    have HXL := Lib.hid hrow.1
    have hs8 : (sn : Int) < 8 := by omega
    have hs0 : (0 : Int) ≤ (sn : Int) := by omega
    clear hne hrow hs7
    go_enter Tryz.func156, Tryz.ntmps156
    go_wp2_with fail
    clear e0 ec
    go_loopw [25] (fun i wr => ∃ k : Nat, k ≤ m ∧ i = .int .i64 (k : Nat) ∧ Hid (TriedX ts O z e st xs ((↑sn, i0) :: P) k) ∧ Below w.heap.size w wr) (fun i _ => m - (intOf i).toNat)
    case atStart => exact ⟨0, Nat.zero_le _, rfl, Lib.hid (fun i j t hi => by omega), Below.refl _ _⟩
    case round =>
      obtain ⟨k, hk, rfl, HT, hB⟩ := hrel
      have HB := Lib.hid hB
      have hBs := hB.size
      clear hB
      have hkz : (0 : Int) ≤ (k : Int) := by omega
      by_cases hlt : k < m
      · obtain ⟨jt, hjt⟩ := at_lt HXL.out hlt
        obtain ⟨j, t⟩ := jt
        obtain ⟨h, rfl, hh, c0, c1⟩ := (HRW.out.below HB.out).2 k j t hjt
        have HJT := Lib.hid hjt
        obtain ⟨hO, hJ⟩ := (hR.out sn j t).1 (by rw [HXS.out]; exact List.mem_of_getElem? hjt)
        have HOo := Lib.hid hO
        have HJ := Lib.hid hJ
        have hki : (k : Int) < (m : Int) := by omega
        have hkd : decide (k < m) = true := by simpa using hlt
        clear hjt hO hJ
        go_upto_region 6 with fail
        obtain ⟨V, HV⟩ : ∃ V, Hid (wr.alloc (.cells #[.int .i64 j, .int .i64 t] 170) = V) := ⟨_, Lib.hid rfl⟩
        obtain ⟨X, HX⟩ : ∃ X, Hid (wr.heap.size = X) := ⟨_, Lib.hid rfl⟩
        have HBV := Lib.hid (show Below w.heap.size w V by rw [← HV.out]; exact HB.out.alloc hBs _)
        have HXV := Lib.hid (show Blk V X 170 #[.int .i64 j, .int .i64 t] by rw [← HV.out, ← HX.out]; exact Blk.new _ _ _)
        try rw [HX.out]
        try simp only [HX.out]
        rw [HV.out]
        clear HV HX HB c0 c1
        have x0 := HXV.out.cell 0
        have x1 := HXV.out.cell 1
        simp at x0 x1
        cases hbg : beg ((↑sn, i0) :: P) t
        · have HBG := Lib.hid hbg
          have HNI := Lib.hid (show t ∉ (((sn : Int), i0) :: P).map Prod.fst from fun q => by rw [beg_iff.2 q] at hbg; cases hbg)
          have HP2 := Lib.hid (Wy.more HOo.out HJ.out.symm HNI.out hP.out)
          clear hbg
          go_wp2_with fail
          refine (begins_any t V.heap.size V _ _ false HBG (Lib.hid (hWA.out.step HBV.out))).mono ?_
          rintro en w9 ⟨rfl, rfl⟩
          have HC := Lib.hid ((hWA.out.step HBV.out).cons t j)
          have HBC := Lib.hid (HBV.out.alloc HBV.out.size (.cells #[.int .i64 t, .int .i64 j, .pointer (some ⟨g0, 0, none⟩)] 158))
          have HEC := Lib.hid (hEX.out.step HBC.out)
          go_wp2_with fail
          refine (IH.out ((t, j) :: ((sn : Int), i0) :: P) _ _ (by simp at hf ⊢; omega) HP2 HC HEC).mono ?_
          rintro en w5 ⟨a', rfl, hb5, hres⟩
          have HB5 := Lib.hid (HBC.out.trans (hb5.mono HBC.out.size))
          have HRES := Lib.hid hres
          clear hb5 hres HBC HC HEC x0 x1 HXV HBV
          rcases HRES.out with ⟨W, gw, rfl, hw1, hw2, hw3⟩ | ⟨rfl, hsh⟩
          · have H1 := Lib.hid hw1
            have H2 := Lib.hid hw2
            have H3 := Lib.hid hw3
            clear hw1 hw2 hw3 HRES
            go_wp2_with fail
            go_ret
            exact ⟨some ⟨gw, 0, none⟩, rfl, HB5.out, .inl ⟨W, gw, rfl, H1.out, H2.out, H3.out⟩⟩
          · have HNX := Lib.hid (triedX_next HT.out HJT.out hsh)
            clear hsh HRES
            go_wp2_with fail
            go_roundw
            case rel => exact ⟨k + 1, by omega, by go_num, HNX, HB5.out⟩
            case measure => simp [intOf]; omega
        · have HBG := Lib.hid hbg
          have HNX := Lib.hid (triedX_next HT.out HJT.out (shut_seen (ts := ts) (O := O) (z := z) (e := e) (st := st) (j := j) (beg_iff.1 hbg)))
          clear hbg
          go_wp2_with fail
          refine (begins_any t V.heap.size V _ _ true HBG (Lib.hid (hWA.out.step HBV.out))).mono ?_
          rintro en w9 ⟨rfl, rfl⟩
          go_wp2_with fail
          go_roundw
          case rel => exact ⟨k + 1, by omega, by go_num, HNX, HBV.out⟩
          case measure => simp [intOf]; omega
      · have hkd : decide (k < m) = false := by simpa using hlt
        obtain rfl : k = m := by omega
        have HSH := Lib.hid (show NoWay ts O z e st (((sn : Int), i0) :: P) from shut_all HNE.out (fun j t hO hJ hn => by
          obtain ⟨q, hq⟩ := List.getElem?_of_mem (show (j, t) ∈ xs by rw [← HXS.out]; exact (hR.out _ j t).2 ⟨hO, hJ⟩)
          exact HT.out q j t (by have := lt_at hq; rw [HXL.out] at this; exact this) hq))
        clear hlt
        go_wp2_with fail
        go_ret
        exact ⟨none, rfl, HB.out, .inr ⟨rfl, HSH.out⟩⟩
  · have HEQ := Lib.hid (show s = st by simpa using hst)
    go_enter Tryz.func156, Tryz.ntmps156
    go_wp2_with fail
    go_ret
    exact ⟨some ⟨g0, 0, none⟩, rfl, Below.refl _ _, .inl ⟨(s, i0) :: P, g0, rfl, hWA.out, hP.out, HEQ.out⟩⟩
end Go.Proofs.YtnpghhpcloljeabGreatDoor.lpi
namespace Go.Proofs.YtnpghhpcloljeabGreatDoor.lpi
open Go.RowKit
open reads base ty lg rowi hs nt lp
set_option linter.unusedVariables false
set_option linter.unusedSimpArgs false
theorem infoEx : (Tryz.prog.info? 170).map (fun i => (i.zero, i.size, i.bytes)) = some (some (.agg #[.int .i64 0, .int .i64 0]), 2, 16) := by kernel_rfl
theorem infoExs : (Tryz.prog.info? 168).map (fun i => (i.zero, i.size, i.bytes)) = some (some (.slice none 0 0), 1, 24) := by kernel_rfl
def flatEx (xs : List (Int × Int)) : List Value := xs.flatMap fun p => [.int .i64 p.1, .int .i64 p.2]
theorem flatEx_app (xs : List (Int × Int)) (j t : Int) : flatEx (xs ++ [(j, t)]) = flatEx xs ++ [.int .i64 j, .int .i64 t] := by simp [flatEx]
theorem flatEx_at : ∀ (xs : List (Int × Int)) (k : Nat) (j t : Int), xs[k]? = some (j, t) → (flatEx xs)[k * 2]? = some (.int .i64 j) ∧ (flatEx xs)[k * 2 + 1]? = some (.int .i64 t)
  | [], k, j, t, h => by simp at h
  | d :: xs, 0, j, t, h => by
    simp at h
    subst h
    exact ⟨rfl, rfl⟩
  | d :: xs, k + 1, j, t, h => by
    obtain ⟨k0, k1⟩ := flatEx_at xs k j t (by simpa using h)
    have e : flatEx (d :: xs) = .int .i64 d.1 :: .int .i64 d.2 :: flatEx xs := rfl
    rw [e, show (k + 1) * 2 = k * 2 + 1 + 1 by omega, show k * 2 + 1 + 1 + 1 = (k * 2 + 1) + 1 + 1 by omega]
    exact ⟨by simpa using k0, by simpa using k1⟩
def arr8 (F : Nat → Value) : Array Value := #[F 0, F 1, F 2, F 3, F 4, F 5, F 6, F 7]
def upd {α : Type} (F : Nat → α) (s : Nat) (v : α) : Nat → α := fun q => if q = s then v else F q
theorem upd_same {α : Type} (F : Nat → α) (s : Nat) (v : α) : upd F s v s = v := if_pos rfl
theorem upd_ne {α : Type} (F : Nat → α) {s q : Nat} (v : α) (h : ¬ q = s) : upd F s v q = F q := if_neg h
theorem arr8_get (F : Nat → Value) {s : Nat} (h : s < 8) : (arr8 F)[s]? = some (F s) := by
  have : s = 0 ∨ s = 1 ∨ s = 2 ∨ s = 3 ∨ s = 4 ∨ s = 5 ∨ s = 6 ∨ s = 7 := by omega
  rcases this with rfl | rfl | rfl | rfl | rfl | rfl | rfl | rfl <;> rfl
theorem arr8_set (F : Nat → Value) (v : Value) {s : Nat} (h : s < 8) : (arr8 F).setIfInBounds s v = arr8 (upd F s v) := by
  have : s = 0 ∨ s = 1 ∨ s = 2 ∨ s = 3 ∨ s = 4 ∨ s = 5 ∨ s = 6 ∨ s = 7 := by omega
  rcases this with rfl | rfl | rfl | rfl | rfl | rfl | rfl | rfl <;> rfl
def EXb (w : World) (g Bx : Nat) (C : Array Value) (F : Nat → Value) (R : Nat → List (Int × Int)) (v : World) : Prop :=
  Below w.heap.size w v ∧ Blk v Bx 74 C ∧ Blk v g 168 (arr8 F) ∧ (∀ s, s < 8 → ∃ A m c, F s = .slice A m c ∧ (R s).length = m ∧ v.ownsRow w.heap.size 170 2 (.slice A m c) m (flatEx (R s))) ∧ (∀ s t, s < 8 → t < 8 → ¬ s = t → ∀ b, (F s).ownBlock = some b → ¬ (F t).ownBlock = some b) ∧ w.heap.size ≤ g
section
variable {w v v' : World} {g Bx : Nat} {C : Array Value} {F : Nat → Value} {R R' : Nat → List (Int × Int)}
theorem EXb.step (h : EXb w g Bx C F R v) (hb : Below v.heap.size v v') : EXb w g Bx C F R v' := by
  obtain ⟨h1, h2, h3, h4, h5, h6⟩ := h
  refine ⟨h1.trans (hb.mono h1.size), h2.below hb h2.lt, h3.below hb h3.lt, fun s hs => ?_, h5, h6⟩
  obtain ⟨A, m, c, e1, e2, e3⟩ := h4 s hs
  exact ⟨A, m, c, e1, e2, row_below e3 hb⟩
theorem EXb.congr (h : EXb w g Bx C F R v) (he : ∀ s, s < 8 → R' s = R s) : EXb w g Bx C F R' v := by
  obtain ⟨h1, h2, h3, h4, h5, h6⟩ := h
  refine ⟨h1, h2, h3, fun s hs => ?_, h5, h6⟩
  rw [he s hs]; exact h4 s hs
theorem EXb.row (h : EXb w g Bx C F R v) (s : Nat) (hs : s < 8) : ∃ A m c, F s = .slice A m c ∧ (R s).length = m ∧ v.ownsRow w.heap.size 170 2 (.slice A m c) m (flatEx (R s)) := h.2.2.2.1 s hs
theorem EXb.cell (h : EXb w g Bx C F R v) (s : Nat) (hs : s < 8) : v.cell? ⟨g, s, none⟩ = some (F s) := (h.2.2.1.cell s).trans (arr8_get F hs)
theorem EXb.put (h : EXb w g Bx C F R v) {s : Nat} (hs : s < 8) {A : Option Addr} {m c g8 c8 : Nat} {j t : Int} (hF : F s = .slice A m c) (hl : (R s).length = m) (ho : v'.ownsRow w.heap.size 170 2 (.slice (some ⟨g8, 0, none⟩) (m + 1) c8) (m + 1) (flatEx (R s) ++ [.int .i64 j, .int .i64 t])) (hg : v.grownBy v' (Value.slice A m c).ownBlock) (hat : (Value.slice A m c).ownBlock = some g8 ∨ g8 = v.heap.size) :
    EXb w g Bx C (upd F s (.slice (some ⟨g8, 0, none⟩) (m + 1) c8)) (upd R s (R s ++ [(j, t)])) (v'.setCell ⟨g, s, none⟩ (.slice (some ⟨g8, 0, none⟩) (m + 1) c8)) := by
  obtain ⟨h1, h2, h3, h4, h5, h6⟩ := h
  obtain ⟨A0, m0, c0, e1, e2, e3⟩ := h4 s hs
  have e0 : Value.slice A0 m0 c0 = .slice A m c := by rw [← e1, hF]
  rw [e0] at e3
  have m0m : m0 = m := by injection e0
  rw [m0m] at e3
  have hB1 : Below w.heap.size w v' := h1.grown hg h1.size (fun b e => (e3.lt b e).1)
  have n2 : some Bx ≠ (Value.slice A m c).ownBlock := fun q => own_blk_ne e3 h2 (by decide) q.symm
  have n3 : some g ≠ (Value.slice A m c).ownBlock := fun q => own_blk_ne e3 h3 (by decide) q.symm
  have k2 := h2.grown hg n2
  have k3 := h3.grown hg n3
  have far : ∀ {A1 : Option Addr} {m1 c1 : Nat} {us : List Value}, v'.ownsRow w.heap.size 170 2 (.slice A1 m1 c1) m1 us → (v'.setCell ⟨g, s, none⟩ (.slice (some ⟨g8, 0, none⟩) (m + 1) c8)).ownsRow w.heap.size 170 2 (.slice A1 m1 c1) m1 us := fun {A1 m1 c1 us} hr =>
    hr.kept (row := some g) ⟨rfl, rfl, rfl, by simp [World.setCell], fun j hj hn => Below.heap_setCell v' ⟨g, s, none⟩ _ j (by rintro rfl; exact hn rfl)⟩ (.inr (own_blk_ne hr k3 (by decide)))
  refine ⟨hB1.setCell h6 _, k2.far (Blk.ne_ k2 k3 (by decide)) _, ?_, fun q hq => ?_, fun p q hp hq hpq b e => ?_, h6⟩
  · rw [← arr8_set F _ hs]; exact k3.set_ s _
  · by_cases e : q = s
    · subst e
      rw [upd_same, upd_same]
      exact ⟨_, _, _, rfl, by rw [List.length_append, hl]; rfl, by rw [flatEx_app]; exact far ho⟩
    · rw [upd_ne F _ e, upd_ne R _ e]
      obtain ⟨A2, m2, c2, f1, f2, f3⟩ := h4 q hq
      refine ⟨A2, m2, c2, f1, f2, far (f3.kept hg ?_)⟩
      cases ob : (Value.slice A2 m2 c2).ownBlock with
      | none => exact .inl rfl
      | some b => exact .inr (fun e2 => h5 s q hs hq (fun q2 => e q2.symm) b (by rw [hF]; exact e2.symm) (by rw [f1]; exact ob))
  · have old : ∀ r, r < 8 → ¬ r = s → ∀ b, (F r).ownBlock = some b → ¬ b = g8 := fun r hr hrs b eb e8 => by
      rcases hat with z | z
      · exact h5 s r hs hr (fun q2 => hrs q2.symm) b (by rw [hF, e8]; exact z) eb
      · obtain ⟨A2, m2, c2, f1, f2, f3⟩ := h4 r hr
        rw [f1] at eb
        have := (f3.lt b eb).2
        omega
    by_cases e1 : p = s
    · by_cases e2 : q = s
      · exact absurd (e1.trans e2.symm) hpq
      · rw [e1, upd_same] at e
        have e8 : g8 = b := by simpa [Value.ownBlock] using e
        rw [upd_ne F _ e2]
        exact fun eq => old q hq e2 b eq e8.symm
    · rw [upd_ne F _ e1] at e
      by_cases e2 : q = s
      · rw [e2, upd_same]
        intro eq
        have e8 : g8 = b := by simpa [Value.ownBlock] using eq
        exact old p hp e1 b e e8.symm
      · rw [upd_ne F _ e2]; exact h5 p q hp hq hpq b e
theorem EXb.at_ (h : EXb w g Bx C F R v) (hm : ∀ s, s < 8 → (R s).length ≤ 12) : ExAt v v.heap.size g (fun s => R s.toNat) := by
  refine ⟨h.2.2.1.lt, fun s hs => ?_⟩
  obtain ⟨A, m, c, e1, e2, e3⟩ := h.row s hs
  refine ⟨A, m, c, by rw [h.cell s hs, e1], by rw [← e2]; exact hm s hs, by show (R ((s : Int).toNat)).length = m; rw [Int.toNat_natCast]; exact e2, fun k j t hk => ?_⟩
  have hk : (R ((s : Int).toNat))[k]? = some (j, t) := hk
  rw [Int.toNat_natCast] at hk
  have hkm : k < m := by have := lt_at hk; rw [e2] at this; exact this
  obtain ⟨b, cap, hv, -, hlt⟩ := e3.form (by omega)
  injection hv with hA _ _
  subst hA
  obtain ⟨f0, f1⟩ := flatEx_at (R s) k j t hk
  have hsz := e3.1
  exact ⟨b, rfl, hlt, by rw [e3.cellAt (k * 2) (by omega)]; exact f0, by rw [e3.cellAt (k * 2 + 1) (by omega)]; exact f1⟩
end
theorem two_cell {W : World} {G : Nat} {x y : Value} (h : Blk W G 170 #[x, y]) : ∀ q u, [x, y][q]? = some u → W.cell? ((⟨G, 0, none⟩ : Addr).add q) = some u := fun q u hu => by
  have e : (⟨G, 0, none⟩ : Addr).add q = ⟨G, q, none⟩ := by unfold Addr.add; by_cases hj : q = 0 <;> simp [hj]
  rw [e, h.cell]; simpa using hu
theorem step_ex {ops : Array Oper} {o : Oper} {a : Act} {w : World} {K : Act → World → Prop} {Q : Exit → Act → World → Prop} {E : Prop} (hgd : o.guard = none) (s x : Operand) (ho : o.op = .call { callee := .builtin .append, args := #[s, x], argTypes := #[168, 168] })
    {bs n : Nat} {A : Option Addr} {m0 c0 : Nat} {xs : List Value} {j t : Int} {ad : Addr} (hs : a.eval s = .slice A m0 c0) (hown : w.ownsRow bs 170 2 (.slice A m0 c0) n xs) (hx : a.eval x = .slice (some ad) 1 1) (hnews : ∀ q u, [Value.int .i64 j, .int .i64 t][q]? = some u → w.cell? (ad.add q) = some u) (h6 : n ≤ 1000000) (hb : bs ≤ w.heap.size) (H : Nat) (hH : w.heap.size = H)
    (h : ∀ g cap w', w'.ownsRow bs 170 2 (.slice (some ⟨g, 0, none⟩) (n + 1) cap) (n + 1) (xs ++ [.int .i64 j, .int .i64 t]) → w.grownBy w' (Value.slice A m0 c0).ownBlock → ((Value.slice A m0 c0).ownBlock = some g ∨ g = H) → g < w'.heap.size → K (a.put o.dst (.slice (some ⟨g, 0, none⟩) (n + 1) cap)) w') :
    if Region.wanted o (yielded ops a.tmps) = true then Oper.wp Tryz.prog o a w K Q else E := by
  obtain ⟨i0, hi, hz0, hz1, hz2⟩ := info_parts infoEx
  exact step_append_lies w hgd s x 168 ho bs 170 i0 (.agg #[.int .i64 0, .int .i64 0]) 2 16 Tryz.underlying168 hi hz0 hz1 hz2 rfl (by decide) (.slice A m0 c0) n xs hs hown ad 1 1 [.int .i64 j, .int .i64 t] hx rfl hnews (fun u hu => by simp at hu; rcases hu with rfl | rfl <;> rfl) (by decide) (by unfold maxLen; omega) (by omega) hb H hH h
theorem made8 : madeCells (Value.slice none 0 0).cells (8 * 1) = arr8 (fun _ => .slice none 0 0) := by kernel_rfl
def XPo (ts : List Lg) (bs : List Bool) (w : World) (e : Ending) (w' : World) : Prop :=
  ∃ g, e = .returned (.slice (some ⟨g, 0, none⟩) 8 8) ∧ Below w.heap.size w w' ∧ ExAt w' w'.heap.size g (fun s => exR ts bs ts.length (s.toNat : Int))
set_option maxHeartbeats 16000000 in
set_option maxRecDepth 100000 in
theorem exits_any (A : Option Addr) (n cap : Nat) (ts : List Lg) (bs : List Bool) (C : Array Value) (w : World) (hg : Hid (goodLg ts = true)) (hbs : Hid (bs.length = 12)) (hC : Hid (∀ (k : Nat) (b : Bool), bs[k]? = some b → C[k]? = some (Value.bool b))) (hC12 : C.size = 12) (hts : Hid (LgAt w w.heap.size A n ts)) :
    Calls Tryz.prog 157 #[.slice A n cap, .agg C] w (XPo ts bs w) := by
  have HL := Lib.hid hts.out.1
  have hn12 := len12 HL.out hg.out
  obtain ⟨i0, hi, hz0, hz1, hz2⟩ := info_parts infoExs
  have hmk : ∀ W : World, (Instr.makeSlice 159 (.int .i64 8) (.int .i64 8)).run Tryz.prog W = .ok (.slice (some ⟨W.heap.size, 0, none⟩) 8 8) (W.alloc (.cells (arr8 (fun _ => .slice none 0 0)) 168)) := fun W => by
    have h := run_make_rowN (P := Tryz.prog) 159 168 i0 _ Tryz.underlying159 hi hz0 .i64 .i64 8 8 (Nat.le_refl _) (by rw [hz2]; omega) (by omega) W
    rw [hz1, made8] at h
    exact h
  obtain ⟨T8, HT8⟩ : ∃ T, Hid (arr8 (fun _ => Value.slice none 0 0) = T) := ⟨_, Lib.hid rfl⟩
  have HE := Lib.hid (show EXb w (w.heap.size + 1) w.heap.size C (fun _ => .slice none 0 0) (fun s => exR ts bs 0 (s : Int)) ((w.alloc (.cells C 74)).alloc (.cells T8 168)) by
    have h := Blk.new (w.alloc (.cells C 74)) 168 T8
    rw [show (w.alloc (.cells C 74)).heap.size = w.heap.size + 1 by simp] at h
    refine ⟨((Below.refl _ _).alloc (Nat.le_refl _) _).alloc (by simp) _, (Blk.new w _ _).alloc _, by rw [HT8.out]; exact h, fun s hs => ⟨none, 0, 0, rfl, rfl, rfl, .inl ⟨rfl, rfl⟩⟩, fun s t _ _ _ b e => by simp [Value.ownBlock] at e, by omega⟩)
  simp only [HT8.out] at hmk
  obtain ⟨W0, HW0⟩ : ∃ W, Hid ((w.alloc (.cells C 74)).alloc (.cells T8 168) = W) := ⟨_, Lib.hid rfl⟩
  obtain ⟨g, HG⟩ : ∃ g, Hid (w.heap.size + 1 = g) := ⟨_, Lib.hid rfl⟩
  obtain ⟨Bx, HBX⟩ : ∃ g, Hid (w.heap.size = g) := ⟨_, Lib.hid rfl⟩
  have HE0 := Lib.hid (show EXb w g Bx C (fun _ => .slice none 0 0) (fun s => exR ts bs 0 (s : Int)) W0 by rw [← HW0.out, ← HG.out, ← HBX.out]; exact HE.out)
  clear HE HT8
  go_enter Tryz.func157, Tryz.ntmps157
  go_upto_region 2 with fail
  try rw [HG.out]
  try simp only [HG.out]
  try rw [HBX.out]
  try simp only [HBX.out]
  rw [HW0.out]
  clear HW0 HG HBX hmk
  go_wp2_with fail
  go_loopw [11] (fun i wr => ∃ (k : Nat) (F : Nat → Value), k ≤ n ∧ i = .int .i64 (k : Nat) ∧ EXb w g Bx C F (fun s => exR ts bs k (s : Int)) wr) (fun i _ => n - (intOf i).toNat)
  case atStart => exact ⟨0, _, Nat.zero_le _, rfl, HE0.out⟩
  case round =>
    obtain ⟨k, F, hk, rfl, hE⟩ := hrel
    have HE := Lib.hid hE
    clear hE HE0
    have hk0 : (0 : Int) ≤ (k : Int) := by omega
    by_cases hlt : k < n
    · obtain ⟨x, hx⟩ := at_lt HL.out hlt
      obtain ⟨gL, rfl, hgL, e0, e1, e2, e3, e4⟩ := (hts.out.below HE.out.1).2 k x hx
      have hok := goodLg_at hg.out hx
      obtain ⟨l1, l2, l3, -⟩ := okLg_lim hok
      obtain ⟨fr, to_, tp, cp, sl⟩ := x
      simp only [] at l1 l2 l3 e0 e1 e2 e3 e4
      obtain ⟨a, rfl⟩ : ∃ a : Nat, fr = (a : Int) := ⟨fr.toNat, by omega⟩
      obtain ⟨b, rfl⟩ : ∃ b : Nat, to_ = (b : Int) := ⟨to_.toNat, by omega⟩
      have ha8 : a < 8 := by omega
      have hb8 : b < 8 := by omega
      have hab : ¬ a = b := by omega
      have ha8i : (a : Int) < 8 := by omega
      have hb8i : (b : Int) < 8 := by omega
      have ha0 : (0 : Int) ≤ (a : Int) := by omega
      have hb0 : (0 : Int) ≤ (b : Int) := by omega
      have HX := Lib.hid hx
      have hki : (k : Int) < (n : Int) := by omega
      have hkd : decide (k < n) = true := by simpa using hlt
      have hk12 : k < 12 := by omega
      have hk12i : (k : Int) < 12 := by omega
      obtain ⟨bb, hbb⟩ : ∃ b, bs[k]? = some b := ⟨_, List.getElem?_eq_getElem (by rw [hbs.out]; exact hk12)⟩
      have HBB := Lib.hid hbb
      have HCK := Lib.hid (hC.out k bb hbb)
      have hLN0 := Lib.hid (show ∀ s : Nat, (exR ts bs k (s : Int)).length ≤ 12 from fun s => Nat.le_trans (exR_len ts bs s k) (by omega))
      clear hx hok l1 l2 l3 hbb
      go_upto_region 5 with fail
      obtain ⟨V, HV⟩ : ∃ V, Hid (wr.alloc (.cells #[.int .i64 (a : Int), .int .i64 (b : Int), .int .i64 tp, .int .i64 cp, .int .i64 sl] 87) = V) := ⟨_, Lib.hid rfl⟩
      obtain ⟨X, HXX⟩ : ∃ X, Hid (wr.heap.size = X) := ⟨_, Lib.hid rfl⟩
      have HEV := Lib.hid (show EXb w g Bx C F (fun s => exR ts bs k (s : Int)) V by rw [← HV.out]; exact HE.out.step ((Below.refl _ _).alloc (Nat.le_refl _) _))
      have HXV := Lib.hid (show Blk V X 87 #[.int .i64 (a : Int), .int .i64 (b : Int), .int .i64 tp, .int .i64 cp, .int .i64 sl] by rw [← HV.out, ← HXX.out]; exact Blk.new _ _ _)
      try rw [HXX.out]
      try simp only [HXX.out]
      rw [HV.out]
      clear HV HXX HE e0 e1 e2 e3 e4
      have cb := (HEV.out.2.1.cell k).trans HCK.out
      cases bb
      · have HNX := Lib.hid (fun (s : Nat) => exR_shut (s := (s : Int)) HX.out HBB.out)
        go_wp2_with fail
        go_roundw
        case rel => exact ⟨k + 1, F, by omega, by go_num, HEV.out.congr (fun s _ => HNX.out s)⟩
        case measure => simp [intOf]; omega
      · obtain ⟨R1, HR1⟩ : ∃ R, Hid ((fun s : Nat => exR ts bs k (s : Int)) = R) := ⟨_, Lib.hid rfl⟩
        have HNX := Lib.hid (show ∀ s : Nat, s < 8 → exR ts bs (k + 1) (s : Int) = upd (upd R1 a (R1 a ++ [((k : Int), (b : Int))])) b (upd R1 a (R1 a ++ [((k : Int), (b : Int))]) b ++ [((k : Int), (a : Int))]) s from fun s hs => by
          rw [← HR1.out]
          by_cases e : s = b
          · rw [e, upd_same, upd_ne _ _ (fun q => hab q.symm)]
            exact exR_to HX.out HBB.out (fun q => hab (by have : (a : Int) = (b : Int) := q; omega)) rfl
          · rw [upd_ne _ _ e]
            by_cases e2 : s = a
            · rw [e2, upd_same]
              exact exR_frm HX.out HBB.out rfl
            · rw [upd_ne _ _ e2]
              exact exR_no HX.out HBB.out (fun q => e2 (by have : (a : Int) = (s : Int) := q; omega)) (fun q => e (by have : (b : Int) = (s : Int) := q; omega)))
        have hLN : ∀ s : Nat, (R1 s).length ≤ 24 := fun s => by rw [← HR1.out]; exact Nat.le_trans (hLN0.out s) (by decide)
        have hLNH := Lib.hid hLN
        rw [HR1.out] at HEV
        clear hLN
        go_upto_region 6 with fail
        clear cb
        go_cut [19] (fun _ wx => ∃ F1 : Nat → Value, EXb w g Bx C F1 (upd R1 a (R1 a ++ [((k : Int), (b : Int))])) wx ∧ Blk wx X 87 #[.int .i64 (a : Int), .int .i64 (b : Int), .int .i64 tp, .int .i64 cp, .int .i64 sl])
        case first =>
          rename_i J0 K0 hJ0 hK0
          have hLN := hLNH.out
          have HE0 := Lib.hid (HEV.out.step (Below.refl _ _).drew)
          have HX0 := Lib.hid (HXV.out.below (Below.refl _ _).drew HXV.out.lt)
          obtain ⟨A9, m9, c9, hF9, hl9, hrow⟩ := HE0.out.row a ha8
          have HROW := Lib.hid hrow
          have HL9 := Lib.hid hl9
          have HF9 := Lib.hid hF9
          have hm9 : m9 ≤ 24 := by rw [← hl9]; exact hLN a
          clear hrow hl9 hF9
          obtain ⟨V0, HV0⟩ : ∃ Z, Hid (V.drew = Z) := ⟨_, Lib.hid rfl⟩
          rw [HV0.out] at HE0 HX0 HROW
          refine wp_region_held_drew (S := (fun v => v.cell? ⟨X, 0, none⟩ = some (.int .i64 (a : Int)) ∧ v.cell? ⟨X, 1, none⟩ = some (.int .i64 (b : Int)))) (by kernel_rfl) ?_ (fun hHeld => ?_)
          · rw [HV0.out]; exact ⟨HX0.out.cell 0, HX0.out.cell 1⟩
          rw [HV0.out] at hHeld ⊢
          clear HV0
          refine' wpAnyH_take (i := 0) (v := ?vx14_0) rfl (by kernel_rfl) (by kernel_rfl) (by kernel_rfl) (fun _ _ _ h => h) (Or.inl ⟨by rfl, ?hyx14_0⟩) (by assumption) ?restx14_0
          case hyx14_0 => (intro w hSw; (try dsimp only at hSw); go_simp; try (with_reducible rfl))
          simp only [Act.put, List.getElem_toArray, List.getElem_cons_succ, List.getElem_cons_zero, List.setIfInBounds_toArray, List.set_cons_zero, List.set_cons_succ]
          refine' wpAnyH_take (i := 1) (v := ?vx15_1) rfl (by kernel_rfl) (by kernel_rfl) (by kernel_rfl) (fun _ _ _ h => h) (Or.inl ⟨by rfl, ?hyx15_1⟩) (by assumption) ?restx15_1
          case hyx15_1 => (intro w hSw; (try dsimp only at hSw); go_simp; try (with_reducible rfl))
          simp only [Act.put, List.getElem_toArray, List.getElem_cons_succ, List.getElem_cons_zero, List.setIfInBounds_toArray, List.set_cons_zero, List.set_cons_succ]
          refine' wpAnyH_take (i := 2) (v := ?vx16_2) rfl (by kernel_rfl) (by kernel_rfl) (by kernel_rfl) (fun _ _ _ h => h) (Or.inl ⟨by rfl, ?hyx16_2⟩) (by assumption) ?restx16_2
          case hyx16_2 => (intro w hSw; (try dsimp only at hSw); go_simp; try (with_reducible rfl))
          simp only [Act.put, List.getElem_toArray, List.getElem_cons_succ, List.getElem_cons_zero, List.setIfInBounds_toArray, List.set_cons_zero, List.set_cons_succ]
          refine' wpAnyH_take (i := 3) (v := ?vx17_3) rfl (by kernel_rfl) (by kernel_rfl) (by kernel_rfl) (fun _ _ _ h => h) (Or.inl ⟨by rfl, ?hyx17_3⟩) (by assumption) ?restx17_3
          case hyx17_3 => (intro w hSw; (try dsimp only at hSw); go_simp; try (with_reducible rfl))
          simp only [Act.put, List.getElem_toArray, List.getElem_cons_succ, List.getElem_cons_zero, List.setIfInBounds_toArray, List.set_cons_zero, List.set_cons_succ]
          refine' wpAnyH_take (i := 4) (v := ?vx18_4) rfl (by kernel_rfl) (by kernel_rfl) (by kernel_rfl) (fun _ _ _ h => h) (Or.inl ⟨by rfl, ?hyx18_4⟩) (by assumption) ?restx18_4
          case hyx18_4 => (intro w hSw; (try dsimp only at hSw); go_simp; try (with_reducible rfl))
          simp only [Act.put, List.getElem_toArray, List.getElem_cons_succ, List.getElem_cons_zero, List.setIfInBounds_toArray, List.set_cons_zero, List.set_cons_succ]
          refine' wpAnyH_take (i := 5) (v := ?vx19_5) rfl (by kernel_rfl) (by kernel_rfl) (by kernel_rfl) (fun _ _ _ h => h) (Or.inl ⟨by rfl, ?hyx19_5⟩) (by assumption) ?restx19_5
          case hyx19_5 => (intro w hSw; (try dsimp only at hSw); go_simp; try (with_reducible rfl))
          simp only [Act.put, List.getElem_toArray, List.getElem_cons_succ, List.getElem_cons_zero, List.setIfInBounds_toArray, List.set_cons_zero, List.set_cons_succ]
          refine' wpAnyH_take (i := 6) (v := ?vx20_6) rfl (by kernel_rfl) (by kernel_rfl) (by kernel_rfl) (fun _ _ _ h => h) (Or.inl ⟨by rfl, ?hyx20_6⟩) (by assumption) ?restx20_6
          case hyx20_6 => (intro w hSw; (try dsimp only at hSw); go_simp; try (with_reducible rfl))
          simp only [Act.put, List.getElem_toArray, List.getElem_cons_succ, List.getElem_cons_zero, List.setIfInBounds_toArray, List.set_cons_zero, List.set_cons_succ]
          refine' wpAnyH_take (i := 8) (v := ?vx21_8) rfl (by kernel_rfl) (by kernel_rfl) (by kernel_rfl) (fun _ _ _ h => h) (Or.inl ⟨by rfl, ?hyx21_8⟩) (by assumption) ?restx21_8
          case hyx21_8 => (intro w hSw; (try dsimp only at hSw); go_simp; try (with_reducible rfl))
          simp only [Act.put, List.getElem_toArray, List.getElem_cons_succ, List.getElem_cons_zero, List.setIfInBounds_toArray, List.set_cons_zero, List.set_cons_succ]
          refine' wpAnyH_take (i := 9) (v := ?vx22_9) rfl (by kernel_rfl) (by kernel_rfl) (by kernel_rfl) (fun _ _ _ h => h) (Or.inl ⟨by rfl, ?hyx22_9⟩) (by assumption) ?restx22_9
          case hyx22_9 => (intro w hSw; (try dsimp only at hSw); go_simp; try (with_reducible rfl))
          simp only [Act.put, List.getElem_toArray, List.getElem_cons_succ, List.getElem_cons_zero, List.setIfInBounds_toArray, List.set_cons_zero, List.set_cons_succ]
          refine' wpAnyH_take (i := 10) (v := ?vx23_10) rfl (by kernel_rfl) (by kernel_rfl) (by kernel_rfl) (fun _ _ _ h => h) (Or.inl ⟨by rfl, ?hyx23_10⟩) (by assumption) ?restx23_10
          case hyx23_10 => (intro w hSw; (try dsimp only at hSw); go_simp; try (with_reducible rfl))
          simp only [Act.put, List.getElem_toArray, List.getElem_cons_succ, List.getElem_cons_zero, List.setIfInBounds_toArray, List.set_cons_zero, List.set_cons_succ]
          refine' wpAnyH_take (i := 11) (v := ?vx24_11) rfl (by kernel_rfl) (by kernel_rfl) (by kernel_rfl) (fun _ _ _ h => h) (Or.inl ⟨by rfl, ?hyx24_11⟩) (by assumption) ?restx24_11
          case hyx24_11 => (intro w hSw; (try dsimp only at hSw); go_simp; try (with_reducible rfl))
          simp only [Act.put, List.getElem_toArray, List.getElem_cons_succ, List.getElem_cons_zero, List.setIfInBounds_toArray, List.set_cons_zero, List.set_cons_succ]
          refine wpAnyH_ready (rs := [7, 12]) (by kernel_rfl) (by simp) ?_
          refine AllReadyH.cons rfl (fun K hK => ?_) (AllReadyH.cons rfl (fun K hK => ?_) AllReadyH.nil)
          · have c7 := (HE0.out.cell a ha8).trans (congrArg some HF9.out)
            go_simp
            refine hK.out _ _ hHeld (fun hHeld1 => ?_)
            clear hK K hHeld
            have hHeld := hHeld1
            clear hHeld1
            try simp only [Act.put, List.getElem_toArray, List.getElem_cons_succ, List.getElem_cons_zero, List.setIfInBounds_toArray, List.set_cons_zero, List.set_cons_succ]
            clear c7
            refine wpAnyH_ready (rs := [12]) (by kernel_rfl) (by simp) ?_
            refine AllReadyH.cons rfl (fun K hK => ?_) AllReadyH.nil
            obtain ⟨V1, HV1⟩ : ∃ Z, Hid (V0.alloc (.cells #[.int .i64 (k : Int), .int .i64 (b : Int)] 170) = Z) := ⟨_, Lib.hid rfl⟩
            obtain ⟨G1, HG1⟩ : ∃ Z, Hid (V0.heap.size = Z) := ⟨_, Lib.hid rfl⟩
            have HB1 := Lib.hid (show Below V0.heap.size V0 V1 by rw [← HV1.out]; exact (Below.refl _ _).alloc (Nat.le_refl _) _)
            have HE1 := Lib.hid (HE0.out.step HB1.out)
            have HX1 := Lib.hid (HX0.out.below HB1.out HX0.out.lt)
            have HN1 := Lib.hid (show Blk V1 G1 170 #[.int .i64 (k : Int), .int .i64 (b : Int)] by rw [← HV1.out, ← HG1.out]; exact Blk.new _ _ _)
            have HRO1 := Lib.hid (row_below HROW.out HB1.out)
            have hhb : ((V0.alloc (.cells #[.int .i64 (k : Int), .int .i64 (b : Int)] 170)).cell? ⟨X, 0, none⟩ = some (.int .i64 (a : Int)) ∧ (V0.alloc (.cells #[.int .i64 (k : Int), .int .i64 (b : Int)] 170)).cell? ⟨X, 1, none⟩ = some (.int .i64 (b : Int))) := by rw [HV1.out]; exact ⟨HX1.out.cell 0, HX1.out.cell 1⟩
            go_simp
            refine hK.out _ _ hhb (fun hHeld1 => ?_)
            clear hhb
            clear hK K hHeld
            have hHeld := hHeld1
            clear hHeld1
            try simp only [Act.put, List.getElem_toArray, List.getElem_cons_succ, List.getElem_cons_zero, List.setIfInBounds_toArray, List.set_cons_zero, List.set_cons_succ]
            rw [HV1.out] at hHeld
            try rw [HG1.out]
            try simp only [HG1.out]
            rw [HV1.out]
            clear HV1
            refine wpAnyH_ready (rs := [13]) (by kernel_rfl) (by simp) ?_
            refine AllReadyH.cons rfl (fun K hK => ?_) AllReadyH.nil
            refine step_ex rfl _ _ rfl rfl HRO1.out rfl (two_cell HN1.out) (by omega) HE1.out.1.size _ rfl ?_
            intro g8 c8 V2 ho hgr hat hlt8
            have HO8 := Lib.hid ho
            have HGR := Lib.hid hgr
            have HAT := Lib.hid hat
            have HX2 := Lib.hid (HX1.out.grown hgr (by have := own_blk_ne HRO1.out HX1.out (by decide); exact fun q => this q.symm))
            have HT2 := Lib.hid (HE1.out.2.2.1.grown hgr (by have := own_blk_ne HRO1.out HE1.out.2.2.1 (by decide); exact fun q => this q.symm))
            clear ho hgr hat
            refine hK.out _ _ ⟨HX2.out.cell 0, HX2.out.cell 1⟩ (fun hHeld1 => ?_)
            clear hK K hHeld
            have hHeld := hHeld1
            clear hHeld1
            try simp only [Act.put, List.getElem_toArray, List.getElem_cons_succ, List.getElem_cons_zero, List.setIfInBounds_toArray, List.set_cons_zero, List.set_cons_succ]
            refine' wpAnyH_take (i := 14) (v := ?vx25_14) rfl (by kernel_rfl) (by kernel_rfl) (by kernel_rfl) (fun _ _ _ h => h) (Or.inl ⟨by rfl, ?hyx25_14⟩) (by assumption) ?restx25_14
            case hyx25_14 => (intro w hSw; (try dsimp only at hSw); go_simp; try (with_reducible rfl))
            simp only [Act.put, List.getElem_toArray, List.getElem_cons_succ, List.getElem_cons_zero, List.setIfInBounds_toArray, List.set_cons_zero, List.set_cons_succ]
            have t0 := HT2.out.lt
            have t1 := HT2.out.frozen a
            have t2 := (HT2.out.cell a).trans (arr8_get F ha8)
            refine wpAnyH_ready (rs := [15]) (by kernel_rfl) (by simp) ?_
            refine AllReadyH.cons rfl (fun K hK => ?_) AllReadyH.nil
            go_simp
            have HP := Lib.hid (HE1.out.put ha8 HF9.out HL9.out HO8.out HGR.out HAT.out)
            have HXP := Lib.hid (show Blk (V2.setCell ⟨g, a, none⟩ (.slice (some ⟨g8, 0, none⟩) (m9 + 1) c8)) X 87 #[.int .i64 (a : Int), .int .i64 (b : Int), .int .i64 tp, .int .i64 cp, .int .i64 sl] from HX2.out.far (p := ⟨g, a, none⟩) (Blk.ne_ HX2.out HT2.out (by decide)) _)
            refine hK.out _ _ ⟨HXP.out.cell 0, HXP.out.cell 1⟩ (fun hHeld1 => ?_)
            clear hK K hHeld hHeld1
            try simp only [Act.put, List.getElem_toArray, List.getElem_cons_succ, List.getElem_cons_zero, List.setIfInBounds_toArray, List.set_cons_zero, List.set_cons_succ]
            refine wpAnyH_done (by kernel_rfl) ?_ _
            refine hK0 _ _ (Met.intro (hJ0 _ _ ?_))
            (repeat apply Exists.intro)
            exact ⟨⟨_, HP.out, HXP.out⟩, rfl⟩
          · obtain ⟨V1, HV1⟩ : ∃ Z, Hid (V0.alloc (.cells #[.int .i64 (k : Int), .int .i64 (b : Int)] 170) = Z) := ⟨_, Lib.hid rfl⟩
            obtain ⟨G1, HG1⟩ : ∃ Z, Hid (V0.heap.size = Z) := ⟨_, Lib.hid rfl⟩
            have HB1 := Lib.hid (show Below V0.heap.size V0 V1 by rw [← HV1.out]; exact (Below.refl _ _).alloc (Nat.le_refl _) _)
            have HE1 := Lib.hid (HE0.out.step HB1.out)
            have HX1 := Lib.hid (HX0.out.below HB1.out HX0.out.lt)
            have HN1 := Lib.hid (show Blk V1 G1 170 #[.int .i64 (k : Int), .int .i64 (b : Int)] by rw [← HV1.out, ← HG1.out]; exact Blk.new _ _ _)
            have HRO1 := Lib.hid (row_below HROW.out HB1.out)
            have hhb : ((V0.alloc (.cells #[.int .i64 (k : Int), .int .i64 (b : Int)] 170)).cell? ⟨X, 0, none⟩ = some (.int .i64 (a : Int)) ∧ (V0.alloc (.cells #[.int .i64 (k : Int), .int .i64 (b : Int)] 170)).cell? ⟨X, 1, none⟩ = some (.int .i64 (b : Int))) := by rw [HV1.out]; exact ⟨HX1.out.cell 0, HX1.out.cell 1⟩
            go_simp
            refine hK.out _ _ hhb (fun hHeld1 => ?_)
            clear hhb
            clear hK K hHeld
            have hHeld := hHeld1
            clear hHeld1
            try simp only [Act.put, List.getElem_toArray, List.getElem_cons_succ, List.getElem_cons_zero, List.setIfInBounds_toArray, List.set_cons_zero, List.set_cons_succ]
            rw [HV1.out] at hHeld
            try rw [HG1.out]
            try simp only [HG1.out]
            rw [HV1.out]
            clear HV1
            refine wpAnyH_ready (rs := [7]) (by kernel_rfl) (by simp) ?_
            refine AllReadyH.cons rfl (fun K hK => ?_) AllReadyH.nil
            have c7 := (HE1.out.cell a ha8).trans (congrArg some HF9.out)
            go_simp
            refine hK.out _ _ hHeld (fun hHeld1 => ?_)
            clear hK K hHeld
            have hHeld := hHeld1
            clear hHeld1
            try simp only [Act.put, List.getElem_toArray, List.getElem_cons_succ, List.getElem_cons_zero, List.setIfInBounds_toArray, List.set_cons_zero, List.set_cons_succ]
            clear c7
            refine wpAnyH_ready (rs := [13]) (by kernel_rfl) (by simp) ?_
            refine AllReadyH.cons rfl (fun K hK => ?_) AllReadyH.nil
            refine step_ex rfl _ _ rfl rfl HRO1.out rfl (two_cell HN1.out) (by omega) HE1.out.1.size _ rfl ?_
            intro g8 c8 V2 ho hgr hat hlt8
            have HO8 := Lib.hid ho
            have HGR := Lib.hid hgr
            have HAT := Lib.hid hat
            have HX2 := Lib.hid (HX1.out.grown hgr (by have := own_blk_ne HRO1.out HX1.out (by decide); exact fun q => this q.symm))
            have HT2 := Lib.hid (HE1.out.2.2.1.grown hgr (by have := own_blk_ne HRO1.out HE1.out.2.2.1 (by decide); exact fun q => this q.symm))
            clear ho hgr hat
            refine hK.out _ _ ⟨HX2.out.cell 0, HX2.out.cell 1⟩ (fun hHeld1 => ?_)
            clear hK K hHeld
            have hHeld := hHeld1
            clear hHeld1
            try simp only [Act.put, List.getElem_toArray, List.getElem_cons_succ, List.getElem_cons_zero, List.setIfInBounds_toArray, List.set_cons_zero, List.set_cons_succ]
            refine' wpAnyH_take (i := 14) (v := ?vx26_14) rfl (by kernel_rfl) (by kernel_rfl) (by kernel_rfl) (fun _ _ _ h => h) (Or.inl ⟨by rfl, ?hyx26_14⟩) (by assumption) ?restx26_14
            case hyx26_14 => (intro w hSw; (try dsimp only at hSw); go_simp; try (with_reducible rfl))
            simp only [Act.put, List.getElem_toArray, List.getElem_cons_succ, List.getElem_cons_zero, List.setIfInBounds_toArray, List.set_cons_zero, List.set_cons_succ]
            have t0 := HT2.out.lt
            have t1 := HT2.out.frozen a
            have t2 := (HT2.out.cell a).trans (arr8_get F ha8)
            refine wpAnyH_ready (rs := [15]) (by kernel_rfl) (by simp) ?_
            refine AllReadyH.cons rfl (fun K hK => ?_) AllReadyH.nil
            go_simp
            have HP := Lib.hid (HE1.out.put ha8 HF9.out HL9.out HO8.out HGR.out HAT.out)
            have HXP := Lib.hid (show Blk (V2.setCell ⟨g, a, none⟩ (.slice (some ⟨g8, 0, none⟩) (m9 + 1) c8)) X 87 #[.int .i64 (a : Int), .int .i64 (b : Int), .int .i64 tp, .int .i64 cp, .int .i64 sl] from HX2.out.far (p := ⟨g, a, none⟩) (Blk.ne_ HX2.out HT2.out (by decide)) _)
            refine hK.out _ _ ⟨HXP.out.cell 0, HXP.out.cell 1⟩ (fun hHeld1 => ?_)
            clear hK K hHeld hHeld1
            try simp only [Act.put, List.getElem_toArray, List.getElem_cons_succ, List.getElem_cons_zero, List.setIfInBounds_toArray, List.set_cons_zero, List.set_cons_succ]
            refine wpAnyH_done (by kernel_rfl) ?_ _
            refine hK0 _ _ (Met.intro (hJ0 _ _ ?_))
            (repeat apply Exists.intro)
            exact ⟨⟨_, HP.out, HXP.out⟩, rfl⟩
        case rest =>
          obtain ⟨F1, hE1, hX1⟩ := hcut
          have HEW := Lib.hid hE1
          have HXW := Lib.hid hX1
          obtain ⟨R2, HR2⟩ : ∃ R, Hid (upd R1 a (R1 a ++ [((k : Int), (b : Int))]) = R) := ⟨_, Lib.hid rfl⟩
          have hLN : ∀ s : Nat, (R2 s).length ≤ 25 := fun s => by
            rw [← HR2.out]
            by_cases e : s = a
            · rw [e, upd_same, List.length_append]; have := hLNH.out a; simp; omega
            · rw [upd_ne _ _ e]; have := hLNH.out s; omega
          rw [HR2.out] at HEW HNX
          clear hE1 hX1 HEV HXV
          go_upto_region 7 with fail
          have HE0 := Lib.hid (HEW.out.step (Below.refl _ _).drew)
          have HX0 := Lib.hid (HXW.out.below (Below.refl _ _).drew HXW.out.lt)
          obtain ⟨A9, m9, c9, hF9, hl9, hrow⟩ := HE0.out.row b hb8
          have HROW := Lib.hid hrow
          have HL9 := Lib.hid hl9
          have HF9 := Lib.hid hF9
          have hm9 : m9 ≤ 25 := by rw [← hl9]; exact hLN b
          clear hrow hl9 hF9
          obtain ⟨V0, HV0⟩ : ∃ Z, Hid (wc.drew = Z) := ⟨_, Lib.hid rfl⟩
          rw [HV0.out] at HE0 HX0 HROW
          refine wp_region_held_drew (S := (fun v => v.cell? ⟨X, 0, none⟩ = some (.int .i64 (a : Int)) ∧ v.cell? ⟨X, 1, none⟩ = some (.int .i64 (b : Int)))) (by kernel_rfl) ?_ (fun hHeld => ?_)
          · rw [HV0.out]; exact ⟨HX0.out.cell 0, HX0.out.cell 1⟩
          rw [HV0.out] at hHeld ⊢
          clear HV0
          refine' wpAnyH_take (i := 0) (v := ?vx1_0) rfl (by kernel_rfl) (by kernel_rfl) (by kernel_rfl) (fun _ _ _ h => h) (Or.inl ⟨by rfl, ?hyx1_0⟩) (by assumption) ?restx1_0
          case hyx1_0 => (intro w hSw; (try dsimp only at hSw); go_simp; try (with_reducible rfl))
          simp only [Act.put, List.getElem_toArray, List.getElem_cons_succ, List.getElem_cons_zero, List.setIfInBounds_toArray, List.set_cons_zero, List.set_cons_succ]
          refine' wpAnyH_take (i := 1) (v := ?vx2_1) rfl (by kernel_rfl) (by kernel_rfl) (by kernel_rfl) (fun _ _ _ h => h) (Or.inl ⟨by rfl, ?hyx2_1⟩) (by assumption) ?restx2_1
          case hyx2_1 => (intro w hSw; (try dsimp only at hSw); go_simp; try (with_reducible rfl))
          simp only [Act.put, List.getElem_toArray, List.getElem_cons_succ, List.getElem_cons_zero, List.setIfInBounds_toArray, List.set_cons_zero, List.set_cons_succ]
          refine' wpAnyH_take (i := 2) (v := ?vx3_2) rfl (by kernel_rfl) (by kernel_rfl) (by kernel_rfl) (fun _ _ _ h => h) (Or.inl ⟨by rfl, ?hyx3_2⟩) (by assumption) ?restx3_2
          case hyx3_2 => (intro w hSw; (try dsimp only at hSw); go_simp; try (with_reducible rfl))
          simp only [Act.put, List.getElem_toArray, List.getElem_cons_succ, List.getElem_cons_zero, List.setIfInBounds_toArray, List.set_cons_zero, List.set_cons_succ]
          refine' wpAnyH_take (i := 3) (v := ?vx4_3) rfl (by kernel_rfl) (by kernel_rfl) (by kernel_rfl) (fun _ _ _ h => h) (Or.inl ⟨by rfl, ?hyx4_3⟩) (by assumption) ?restx4_3
          case hyx4_3 => (intro w hSw; (try dsimp only at hSw); go_simp; try (with_reducible rfl))
          simp only [Act.put, List.getElem_toArray, List.getElem_cons_succ, List.getElem_cons_zero, List.setIfInBounds_toArray, List.set_cons_zero, List.set_cons_succ]
          refine' wpAnyH_take (i := 4) (v := ?vx5_4) rfl (by kernel_rfl) (by kernel_rfl) (by kernel_rfl) (fun _ _ _ h => h) (Or.inl ⟨by rfl, ?hyx5_4⟩) (by assumption) ?restx5_4
          case hyx5_4 => (intro w hSw; (try dsimp only at hSw); go_simp; try (with_reducible rfl))
          simp only [Act.put, List.getElem_toArray, List.getElem_cons_succ, List.getElem_cons_zero, List.setIfInBounds_toArray, List.set_cons_zero, List.set_cons_succ]
          refine' wpAnyH_take (i := 5) (v := ?vx6_5) rfl (by kernel_rfl) (by kernel_rfl) (by kernel_rfl) (fun _ _ _ h => h) (Or.inl ⟨by rfl, ?hyx6_5⟩) (by assumption) ?restx6_5
          case hyx6_5 => (intro w hSw; (try dsimp only at hSw); go_simp; try (with_reducible rfl))
          simp only [Act.put, List.getElem_toArray, List.getElem_cons_succ, List.getElem_cons_zero, List.setIfInBounds_toArray, List.set_cons_zero, List.set_cons_succ]
          refine' wpAnyH_take (i := 6) (v := ?vx7_6) rfl (by kernel_rfl) (by kernel_rfl) (by kernel_rfl) (fun _ _ _ h => h) (Or.inl ⟨by rfl, ?hyx7_6⟩) (by assumption) ?restx7_6
          case hyx7_6 => (intro w hSw; (try dsimp only at hSw); go_simp; try (with_reducible rfl))
          simp only [Act.put, List.getElem_toArray, List.getElem_cons_succ, List.getElem_cons_zero, List.setIfInBounds_toArray, List.set_cons_zero, List.set_cons_succ]
          refine' wpAnyH_take (i := 8) (v := ?vx8_8) rfl (by kernel_rfl) (by kernel_rfl) (by kernel_rfl) (fun _ _ _ h => h) (Or.inl ⟨by rfl, ?hyx8_8⟩) (by assumption) ?restx8_8
          case hyx8_8 => (intro w hSw; (try dsimp only at hSw); go_simp; try (with_reducible rfl))
          simp only [Act.put, List.getElem_toArray, List.getElem_cons_succ, List.getElem_cons_zero, List.setIfInBounds_toArray, List.set_cons_zero, List.set_cons_succ]
          refine' wpAnyH_take (i := 9) (v := ?vx9_9) rfl (by kernel_rfl) (by kernel_rfl) (by kernel_rfl) (fun _ _ _ h => h) (Or.inl ⟨by rfl, ?hyx9_9⟩) (by assumption) ?restx9_9
          case hyx9_9 => (intro w hSw; (try dsimp only at hSw); go_simp; try (with_reducible rfl))
          simp only [Act.put, List.getElem_toArray, List.getElem_cons_succ, List.getElem_cons_zero, List.setIfInBounds_toArray, List.set_cons_zero, List.set_cons_succ]
          refine' wpAnyH_take (i := 10) (v := ?vx10_10) rfl (by kernel_rfl) (by kernel_rfl) (by kernel_rfl) (fun _ _ _ h => h) (Or.inl ⟨by rfl, ?hyx10_10⟩) (by assumption) ?restx10_10
          case hyx10_10 => (intro w hSw; (try dsimp only at hSw); go_simp; try (with_reducible rfl))
          simp only [Act.put, List.getElem_toArray, List.getElem_cons_succ, List.getElem_cons_zero, List.setIfInBounds_toArray, List.set_cons_zero, List.set_cons_succ]
          refine' wpAnyH_take (i := 11) (v := ?vx11_11) rfl (by kernel_rfl) (by kernel_rfl) (by kernel_rfl) (fun _ _ _ h => h) (Or.inl ⟨by rfl, ?hyx11_11⟩) (by assumption) ?restx11_11
          case hyx11_11 => (intro w hSw; (try dsimp only at hSw); go_simp; try (with_reducible rfl))
          simp only [Act.put, List.getElem_toArray, List.getElem_cons_succ, List.getElem_cons_zero, List.setIfInBounds_toArray, List.set_cons_zero, List.set_cons_succ]
          refine wpAnyH_ready (rs := [7, 12]) (by kernel_rfl) (by simp) ?_
          refine AllReadyH.cons rfl (fun K hK => ?_) (AllReadyH.cons rfl (fun K hK => ?_) AllReadyH.nil)
          · have c7 := (HE0.out.cell b hb8).trans (congrArg some HF9.out)
            go_simp
            refine hK.out _ _ hHeld (fun hHeld1 => ?_)
            clear hK K hHeld
            have hHeld := hHeld1
            clear hHeld1
            try simp only [Act.put, List.getElem_toArray, List.getElem_cons_succ, List.getElem_cons_zero, List.setIfInBounds_toArray, List.set_cons_zero, List.set_cons_succ]
            clear c7
            refine wpAnyH_ready (rs := [12]) (by kernel_rfl) (by simp) ?_
            refine AllReadyH.cons rfl (fun K hK => ?_) AllReadyH.nil
            obtain ⟨V1, HV1⟩ : ∃ Z, Hid (V0.alloc (.cells #[.int .i64 (k : Int), .int .i64 (a : Int)] 170) = Z) := ⟨_, Lib.hid rfl⟩
            obtain ⟨G1, HG1⟩ : ∃ Z, Hid (V0.heap.size = Z) := ⟨_, Lib.hid rfl⟩
            have HB1 := Lib.hid (show Below V0.heap.size V0 V1 by rw [← HV1.out]; exact (Below.refl _ _).alloc (Nat.le_refl _) _)
            have HE1 := Lib.hid (HE0.out.step HB1.out)
            have HX1 := Lib.hid (HX0.out.below HB1.out HX0.out.lt)
            have HN1 := Lib.hid (show Blk V1 G1 170 #[.int .i64 (k : Int), .int .i64 (a : Int)] by rw [← HV1.out, ← HG1.out]; exact Blk.new _ _ _)
            have HRO1 := Lib.hid (row_below HROW.out HB1.out)
            have hhb : ((V0.alloc (.cells #[.int .i64 (k : Int), .int .i64 (a : Int)] 170)).cell? ⟨X, 0, none⟩ = some (.int .i64 (a : Int)) ∧ (V0.alloc (.cells #[.int .i64 (k : Int), .int .i64 (a : Int)] 170)).cell? ⟨X, 1, none⟩ = some (.int .i64 (b : Int))) := by rw [HV1.out]; exact ⟨HX1.out.cell 0, HX1.out.cell 1⟩
            go_simp
            refine hK.out _ _ hhb (fun hHeld1 => ?_)
            clear hhb
            clear hK K hHeld
            have hHeld := hHeld1
            clear hHeld1
            try simp only [Act.put, List.getElem_toArray, List.getElem_cons_succ, List.getElem_cons_zero, List.setIfInBounds_toArray, List.set_cons_zero, List.set_cons_succ]
            rw [HV1.out] at hHeld
            try rw [HG1.out]
            try simp only [HG1.out]
            rw [HV1.out]
            clear HV1
            refine wpAnyH_ready (rs := [13]) (by kernel_rfl) (by simp) ?_
            refine AllReadyH.cons rfl (fun K hK => ?_) AllReadyH.nil
            refine step_ex rfl _ _ rfl rfl HRO1.out rfl (two_cell HN1.out) (by omega) HE1.out.1.size _ rfl ?_
            intro g8 c8 V2 ho hgr hat hlt8
            have HO8 := Lib.hid ho
            have HGR := Lib.hid hgr
            have HAT := Lib.hid hat
            have HX2 := Lib.hid (HX1.out.grown hgr (by have := own_blk_ne HRO1.out HX1.out (by decide); exact fun q => this q.symm))
            have HT2 := Lib.hid (HE1.out.2.2.1.grown hgr (by have := own_blk_ne HRO1.out HE1.out.2.2.1 (by decide); exact fun q => this q.symm))
            clear ho hgr hat
            refine hK.out _ _ ⟨HX2.out.cell 0, HX2.out.cell 1⟩ (fun hHeld1 => ?_)
            clear hK K hHeld
            have hHeld := hHeld1
            clear hHeld1
            try simp only [Act.put, List.getElem_toArray, List.getElem_cons_succ, List.getElem_cons_zero, List.setIfInBounds_toArray, List.set_cons_zero, List.set_cons_succ]
            refine' wpAnyH_take (i := 14) (v := ?vx12_14) rfl (by kernel_rfl) (by kernel_rfl) (by kernel_rfl) (fun _ _ _ h => h) (Or.inl ⟨by rfl, ?hyx12_14⟩) (by assumption) ?restx12_14
            case hyx12_14 => (intro w hSw; (try dsimp only at hSw); go_simp; try (with_reducible rfl))
            simp only [Act.put, List.getElem_toArray, List.getElem_cons_succ, List.getElem_cons_zero, List.setIfInBounds_toArray, List.set_cons_zero, List.set_cons_succ]
            have t0 := HT2.out.lt
            have t1 := HT2.out.frozen b
            have t2 := (HT2.out.cell b).trans (arr8_get F1 hb8)
            refine wpAnyH_ready (rs := [15]) (by kernel_rfl) (by simp) ?_
            refine AllReadyH.cons rfl (fun K hK => ?_) AllReadyH.nil
            go_simp
            have HP := Lib.hid (HE1.out.put hb8 HF9.out HL9.out HO8.out HGR.out HAT.out)
            have HXP := Lib.hid (show Blk (V2.setCell ⟨g, b, none⟩ (.slice (some ⟨g8, 0, none⟩) (m9 + 1) c8)) X 87 #[.int .i64 (a : Int), .int .i64 (b : Int), .int .i64 tp, .int .i64 cp, .int .i64 sl] from HX2.out.far (p := ⟨g, b, none⟩) (Blk.ne_ HX2.out HT2.out (by decide)) _)
            refine hK.out _ _ ⟨HXP.out.cell 0, HXP.out.cell 1⟩ (fun hHeld1 => ?_)
            clear hK K hHeld hHeld1
            try simp only [Act.put, List.getElem_toArray, List.getElem_cons_succ, List.getElem_cons_zero, List.setIfInBounds_toArray, List.set_cons_zero, List.set_cons_succ]
            refine wpAnyH_done (by kernel_rfl) ?_ _
            clear HE0 HE1 HX0 HX1 HX2 HN1 HROW HRO1 HT2 HO8 HGR HAT t0 t1 t2
            go_wp2_with fail
            go_roundw
            case rel => exact ⟨k + 1, _, by omega, by go_num, HP.out.congr (fun s hs => (HNX.out s hs))⟩
            case measure => simp [intOf]; omega
          · obtain ⟨V1, HV1⟩ : ∃ Z, Hid (V0.alloc (.cells #[.int .i64 (k : Int), .int .i64 (a : Int)] 170) = Z) := ⟨_, Lib.hid rfl⟩
            obtain ⟨G1, HG1⟩ : ∃ Z, Hid (V0.heap.size = Z) := ⟨_, Lib.hid rfl⟩
            have HB1 := Lib.hid (show Below V0.heap.size V0 V1 by rw [← HV1.out]; exact (Below.refl _ _).alloc (Nat.le_refl _) _)
            have HE1 := Lib.hid (HE0.out.step HB1.out)
            have HX1 := Lib.hid (HX0.out.below HB1.out HX0.out.lt)
            have HN1 := Lib.hid (show Blk V1 G1 170 #[.int .i64 (k : Int), .int .i64 (a : Int)] by rw [← HV1.out, ← HG1.out]; exact Blk.new _ _ _)
            have HRO1 := Lib.hid (row_below HROW.out HB1.out)
            have hhb : ((V0.alloc (.cells #[.int .i64 (k : Int), .int .i64 (a : Int)] 170)).cell? ⟨X, 0, none⟩ = some (.int .i64 (a : Int)) ∧ (V0.alloc (.cells #[.int .i64 (k : Int), .int .i64 (a : Int)] 170)).cell? ⟨X, 1, none⟩ = some (.int .i64 (b : Int))) := by rw [HV1.out]; exact ⟨HX1.out.cell 0, HX1.out.cell 1⟩
            go_simp
            refine hK.out _ _ hhb (fun hHeld1 => ?_)
            clear hhb
            clear hK K hHeld
            have hHeld := hHeld1
            clear hHeld1
            try simp only [Act.put, List.getElem_toArray, List.getElem_cons_succ, List.getElem_cons_zero, List.setIfInBounds_toArray, List.set_cons_zero, List.set_cons_succ]
            rw [HV1.out] at hHeld
            try rw [HG1.out]
            try simp only [HG1.out]
            rw [HV1.out]
            clear HV1
            refine wpAnyH_ready (rs := [7]) (by kernel_rfl) (by simp) ?_
            refine AllReadyH.cons rfl (fun K hK => ?_) AllReadyH.nil
            have c7 := (HE1.out.cell b hb8).trans (congrArg some HF9.out)
            go_simp
            refine hK.out _ _ hHeld (fun hHeld1 => ?_)
            clear hK K hHeld
            have hHeld := hHeld1
            clear hHeld1
            try simp only [Act.put, List.getElem_toArray, List.getElem_cons_succ, List.getElem_cons_zero, List.setIfInBounds_toArray, List.set_cons_zero, List.set_cons_succ]
            clear c7
            refine wpAnyH_ready (rs := [13]) (by kernel_rfl) (by simp) ?_
            refine AllReadyH.cons rfl (fun K hK => ?_) AllReadyH.nil
            refine step_ex rfl _ _ rfl rfl HRO1.out rfl (two_cell HN1.out) (by omega) HE1.out.1.size _ rfl ?_
            intro g8 c8 V2 ho hgr hat hlt8
            have HO8 := Lib.hid ho
            have HGR := Lib.hid hgr
            have HAT := Lib.hid hat
            have HX2 := Lib.hid (HX1.out.grown hgr (by have := own_blk_ne HRO1.out HX1.out (by decide); exact fun q => this q.symm))
            have HT2 := Lib.hid (HE1.out.2.2.1.grown hgr (by have := own_blk_ne HRO1.out HE1.out.2.2.1 (by decide); exact fun q => this q.symm))
            clear ho hgr hat
            refine hK.out _ _ ⟨HX2.out.cell 0, HX2.out.cell 1⟩ (fun hHeld1 => ?_)
            clear hK K hHeld
            have hHeld := hHeld1
            clear hHeld1
            try simp only [Act.put, List.getElem_toArray, List.getElem_cons_succ, List.getElem_cons_zero, List.setIfInBounds_toArray, List.set_cons_zero, List.set_cons_succ]
            refine' wpAnyH_take (i := 14) (v := ?vx13_14) rfl (by kernel_rfl) (by kernel_rfl) (by kernel_rfl) (fun _ _ _ h => h) (Or.inl ⟨by rfl, ?hyx13_14⟩) (by assumption) ?restx13_14
            case hyx13_14 => (intro w hSw; (try dsimp only at hSw); go_simp; try (with_reducible rfl))
            simp only [Act.put, List.getElem_toArray, List.getElem_cons_succ, List.getElem_cons_zero, List.setIfInBounds_toArray, List.set_cons_zero, List.set_cons_succ]
            have t0 := HT2.out.lt
            have t1 := HT2.out.frozen b
            have t2 := (HT2.out.cell b).trans (arr8_get F1 hb8)
            refine wpAnyH_ready (rs := [15]) (by kernel_rfl) (by simp) ?_
            refine AllReadyH.cons rfl (fun K hK => ?_) AllReadyH.nil
            go_simp
            have HP := Lib.hid (HE1.out.put hb8 HF9.out HL9.out HO8.out HGR.out HAT.out)
            have HXP := Lib.hid (show Blk (V2.setCell ⟨g, b, none⟩ (.slice (some ⟨g8, 0, none⟩) (m9 + 1) c8)) X 87 #[.int .i64 (a : Int), .int .i64 (b : Int), .int .i64 tp, .int .i64 cp, .int .i64 sl] from HX2.out.far (p := ⟨g, b, none⟩) (Blk.ne_ HX2.out HT2.out (by decide)) _)
            refine hK.out _ _ ⟨HXP.out.cell 0, HXP.out.cell 1⟩ (fun hHeld1 => ?_)
            clear hK K hHeld hHeld1
            try simp only [Act.put, List.getElem_toArray, List.getElem_cons_succ, List.getElem_cons_zero, List.setIfInBounds_toArray, List.set_cons_zero, List.set_cons_succ]
            refine wpAnyH_done (by kernel_rfl) ?_ _
            clear HE0 HE1 HX0 HX1 HX2 HN1 HROW HRO1 HT2 HO8 HGR HAT t0 t1 t2
            go_wp2_with fail
            go_roundw
            case rel => exact ⟨k + 1, _, by omega, by go_num, HP.out.congr (fun s hs => (HNX.out s hs))⟩
            case measure => simp [intOf]; omega
    · have hkd : decide (k < n) = false := by simpa using hlt
      obtain rfl : k = n := by omega
      have HFIN := Lib.hid (show ExAt wr wr.heap.size g (fun s => exR ts bs ts.length (s.toNat : Int)) by
        rw [HL.out]
        exact HE.out.at_ (fun s hs => Nat.le_trans (exR_len ts bs s k) (by omega)))
      clear hlt
      go_wp2_with fail
      go_ret
      exact ⟨g, rfl, HE.out.1, HFIN.out⟩
end Go.Proofs.YtnpghhpcloljeabGreatDoor.lpi
namespace Go.Proofs.YtnpghhpcloljeabGreatDoor.lpi
open Go.RowKit
open reads base ty lg rowi hs nt lp
set_option linter.unusedVariables false
set_option linter.unusedSimpArgs false
theorem sizeB12 : (Tryz.prog.info? 74).map (·.size) = some 12 := by kernel_rfl
def LBo (ts : List Lg) (O : Int → Prop) (x : Lg) (k : Int) (w : World) (en : Ending) (w' : World) : Prop :=
  ∃ a', en = .returned (.pointer a') ∧ Below w.heap.size w w' ∧ ((∃ W g, a' = some ⟨g, 0, none⟩ ∧ WayAt w' w'.heap.size a' W ∧ Wy ts O x.frm k W ∧ hd W = x.to_) ∨ (a' = none ∧ ∀ W, Wy ts O x.frm k W → ¬ hd W = x.to_))
def SL (X Bx : Nat) (x : Lg) (cs : List Value) (v : World) : Prop := (v.cell? ⟨X, 0, none⟩ = some (.int .i64 x.frm) ∧ v.cell? ⟨X, 1, none⟩ = some (.int .i64 x.to_)) ∧ v.rangeAt Bx 0 cs
theorem sl_mk {X Bx : Nat} {x : Lg} {cs : List Value} {C : Array Value} {v : World} (hX : Blk v X 87 #[.int .i64 x.frm, .int .i64 x.to_, .int .i64 x.tape, .int .i64 x.comp, .int .i64 x.slope]) (hC : Blk v Bx 74 C) (hcs : cs.toArray = C) : SL X Bx x cs v :=
  ⟨⟨hX.cell 0, hX.cell 1⟩, fun j u hu => by
    rw [Nat.zero_add, hC.cell, ← hcs]; simpa using hu⟩
theorem lb_fin {ts : List Lg} {O : Int → Prop} {x : Lg} {k : Int} {w w' : World} {a' : Option Addr} (hb : Below w.heap.size w w') (h : (∃ W g, a' = some ⟨g, 0, none⟩ ∧ WayAt w' w'.heap.size a' W ∧ Wy ts O x.frm k W ∧ hd W = x.to_) ∨ (a' = none ∧ NoWay ts O x.frm k x.to_ [(x.frm, k)])) : LBo ts O x k w (.returned (.pointer a')) w' := by
  refine ⟨a', rfl, hb, ?_⟩
  rcases h with h | ⟨h1, h2⟩
  · exact .inl h
  · refine .inr ⟨h1, fun W hW => ?_⟩
    obtain ⟨Q, hQ⟩ := hW.last
    rw [hQ] at hW ⊢
    exact h2 Q hW
set_option maxHeartbeats 16000000 in
set_option maxRecDepth 100000 in
theorem loopBy_any (A : Option Addr) (n cap : Nat) (ts : List Lg) (bs : List Bool) (C : Array Value) (k : Nat) (x : Lg) (w : World) (hg : Hid (goodLg ts = true)) (hbs : Hid (bs.length = 12)) (hC : Hid ((bs.map Value.bool).toArray = C)) (hx : Hid (ts[k]? = some x)) (hts : Hid (LgAt w w.heap.size A n ts)) :
    Calls Tryz.prog 127 #[.slice A n cap, .agg C, .int .i64 (k : Int)] w (LBo ts (Opn bs) x (k : Int) w) := by
  have HL := Lib.hid hts.out.1
  have hn12 := len12 HL.out hg.out
  have hkn : k < n := by have := lt_at hx.out; rw [HL.out] at this; exact this
  have hki : (k : Int) < (n : Int) := by omega
  have hk0 : (0 : Int) ≤ (k : Int) := by omega
  obtain ⟨cs, HCS0⟩ : ∃ cs, Hid (bs.map Value.bool = cs) := ⟨_, Lib.hid rfl⟩
  have HCL := Lib.hid (show cs.length = 12 by rw [← HCS0.out, List.length_map, hbs.out])
  have HCS := Lib.hid (show cs.toArray = C by rw [← HCS0.out]; exact hC.out)
  have hC12 : C.size = 12 := by rw [← HCS.out]; simp [HCL.out]
  have HCI := Lib.hid (Lib.hid (show ∀ (k : Nat) (b : Bool), bs[k]? = some b → C[k]? = some (Value.bool b) from fun k b hb => by rw [← hC.out]; simp [hb]))
  have hok := okLg_lim (goodLg_at hg.out hx.out)
  have HZ := Lib.hid hok.1
  have HRR := Lib.hid (show ∀ (s : Nat) j t, (j, t) ∈ (fun s : Int => exR ts bs ts.length (s.toNat : Int)) (s : Int) ↔ (Opn bs j ∧ Jn ts j (s : Int) t) from fun s j t => by
    show (j, t) ∈ exR ts bs ts.length ((((s : Int)).toNat : Nat) : Int) ↔ _
    rw [Int.toNat_natCast, exR_mem (good_ne hg.out) _ (Nat.le_refl _)]
    constructor
    · rintro ⟨a, -, c⟩; exact ⟨a, c⟩
    · rintro ⟨a, c⟩
      refine ⟨a, ?_, c⟩
      obtain ⟨h0, y, hy, -⟩ := c
      have := lt_at hy
      omega)
  obtain ⟨gL, rfl, hgL, e0, e1, e2, e3, e4⟩ := (hts.out.alloc (.cells C 74)).2 k x hx.out
  clear hok
  go_enter Tryz.func127, Tryz.ntmps127
  go_upto_region 2 with fail
  obtain ⟨V, HV⟩ : ∃ Z, Hid ((w.alloc (.cells C 74)).alloc (.cells #[.int .i64 x.frm, .int .i64 x.to_, .int .i64 x.tape, .int .i64 x.comp, .int .i64 x.slope] 87) = Z) := ⟨_, Lib.hid rfl⟩
  obtain ⟨Bx, HBX⟩ : ∃ Z, Hid (w.heap.size = Z) := ⟨_, Lib.hid rfl⟩
  obtain ⟨X, HXX⟩ : ∃ Z, Hid (w.heap.size + 1 = Z) := ⟨_, Lib.hid rfl⟩
  have HXV := Lib.hid (show Blk V X 87 #[.int .i64 x.frm, .int .i64 x.to_, .int .i64 x.tape, .int .i64 x.comp, .int .i64 x.slope] by rw [← HV.out, ← HXX.out]; have h := Blk.new (w.alloc (.cells C 74)) 87 #[.int .i64 x.frm, .int .i64 x.to_, .int .i64 x.tape, .int .i64 x.comp, .int .i64 x.slope]; simpa using h)
  have HCV := Lib.hid (show Blk V Bx 74 C by rw [← HV.out, ← HBX.out]; exact (Blk.new w _ _).alloc _)
  have HBV := Lib.hid (show Below w.heap.size w V by rw [← HV.out]; exact ((Below.refl _ _).alloc (Nat.le_refl _) _).alloc (by simp) _)
  try rw [HXX.out]
  try simp only [HXX.out]
  try rw [HBX.out]
  try simp only [HBX.out]
  rw [HV.out]
  clear HV HXX e0 e1 e2 e3 e4
  obtain ⟨V0, HV0⟩ : ∃ Z, Hid (V.drew = Z) := ⟨_, Lib.hid rfl⟩
  have HX0 := Lib.hid (show Blk V0 X 87 #[.int .i64 x.frm, .int .i64 x.to_, .int .i64 x.tape, .int .i64 x.comp, .int .i64 x.slope] by rw [← HV0.out]; exact HXV.out.below (Below.refl _ _).drew HXV.out.lt)
  have HC0 := Lib.hid (show Blk V0 Bx 74 C by rw [← HV0.out]; exact HCV.out.below (Below.refl _ _).drew HCV.out.lt)
  have HB0 := Lib.hid (show Below w.heap.size w V0 by rw [← HV0.out]; exact HBV.out.drew)
  refine wp_region_held_drew (S := (fun v => (v.cell? ⟨X, 0, none⟩ = some (.int .i64 x.frm) ∧ v.cell? ⟨X, 1, none⟩ = some (.int .i64 x.to_)) ∧ v.rangeAt Bx 0 cs)) (by kernel_rfl) ?_ (fun hHeld => ?_)
  · rw [HV0.out]; exact sl_mk HX0.out HC0.out HCS.out
  rw [HV0.out] at hHeld ⊢
  clear HV0 HBX HXV HCV HBV
  refine' wpAnyH_take (i := 0) (v := ?vl3_0) rfl (by kernel_rfl) (by kernel_rfl) (by kernel_rfl) (fun _ _ _ h => h) (Or.inl ⟨by rfl, ?hyl3_0⟩) (by assumption) ?restl3_0
  case hyl3_0 => (intro w hSw; (try dsimp only at hSw); go_simp; try (with_reducible rfl))
  simp only [Act.put, List.getElem_toArray, List.getElem_cons_succ, List.getElem_cons_zero, List.setIfInBounds_toArray, List.set_cons_zero, List.set_cons_succ]
  refine' wpAnyH_take (i := 1) (v := ?vl4_1) rfl (by kernel_rfl) (by kernel_rfl) (by kernel_rfl) (fun _ _ _ h => h) (Or.inl ⟨by rfl, ?hyl4_1⟩) (by assumption) ?restl4_1
  case hyl4_1 => (intro w hSw; (try dsimp only at hSw); go_simp; try (with_reducible rfl))
  simp only [Act.put, List.getElem_toArray, List.getElem_cons_succ, List.getElem_cons_zero, List.setIfInBounds_toArray, List.set_cons_zero, List.set_cons_succ]
  refine' wpAnyH_take (i := 2) (v := ?vl5_2) rfl (by kernel_rfl) (by kernel_rfl) (by kernel_rfl) (fun _ _ _ h => h) (Or.inl ⟨by rfl, ?hyl5_2⟩) (by assumption) ?restl5_2
  case hyl5_2 => (intro w hSw; (try dsimp only at hSw); go_simp; try (with_reducible rfl))
  simp only [Act.put, List.getElem_toArray, List.getElem_cons_succ, List.getElem_cons_zero, List.setIfInBounds_toArray, List.set_cons_zero, List.set_cons_succ]
  refine' wpAnyH_take (i := 3) (v := ?vl6_3) rfl (by kernel_rfl) (by kernel_rfl) (by kernel_rfl) (fun _ _ _ h => h) (Or.inl ⟨by rfl, ?hyl6_3⟩) (by assumption) ?restl6_3
  case hyl6_3 => (intro w hSw; (try dsimp only at hSw); go_simp; try (with_reducible rfl))
  simp only [Act.put, List.getElem_toArray, List.getElem_cons_succ, List.getElem_cons_zero, List.setIfInBounds_toArray, List.set_cons_zero, List.set_cons_succ]
  refine' wpAnyH_take (i := 4) (v := ?vl7_4) rfl (by kernel_rfl) (by kernel_rfl) (by kernel_rfl) (fun _ _ _ h => h) (Or.inl ⟨by rfl, ?hyl7_4⟩) (by assumption) ?restl7_4
  case hyl7_4 => (intro w hSw; (try dsimp only at hSw); go_simp; try (with_reducible rfl))
  simp only [Act.put, List.getElem_toArray, List.getElem_cons_succ, List.getElem_cons_zero, List.setIfInBounds_toArray, List.set_cons_zero, List.set_cons_succ]
  refine' wpAnyH_take (i := 5) (v := ?vl8_5) rfl (by kernel_rfl) (by kernel_rfl) (by kernel_rfl) (fun _ _ _ h => h) (Or.inl ⟨by rfl, ?hyl8_5⟩) (by assumption) ?restl8_5
  case hyl8_5 => (intro w hSw; (try dsimp only at hSw); go_simp; try (with_reducible rfl))
  simp only [Act.put, List.getElem_toArray, List.getElem_cons_succ, List.getElem_cons_zero, List.setIfInBounds_toArray, List.set_cons_zero, List.set_cons_succ]
  refine' wpAnyH_take (i := 7) (v := ?vl9_7) rfl (by kernel_rfl) (by kernel_rfl) (by kernel_rfl) (fun _ _ _ h => h) (Or.inl ⟨by rfl, ?hyl9_7⟩) (by assumption) ?restl9_7
  case hyl9_7 => (intro w hSw; (try dsimp only at hSw); go_simp; try (with_reducible rfl))
  simp only [Act.put, List.getElem_toArray, List.getElem_cons_succ, List.getElem_cons_zero, List.setIfInBounds_toArray, List.set_cons_zero, List.set_cons_succ]
  refine wpAnyH_take (i := 8) (v := .agg cs.toArray) rfl (by kernel_rfl) (by kernel_rfl) (by kernel_rfl) (fun _ _ _ h => h) (yieldsIf_load_mid (by rfl) _ _ rfl Bx 0 rfl cs _ (fun v hv => hv.2) Tryz.underlying74 rfl (by rw [sizeB12, HCL.out])) (by assumption) ?_
  simp only [Act.put, List.getElem_toArray, List.getElem_cons_succ, List.getElem_cons_zero, List.setIfInBounds_toArray, List.set_cons_zero, List.set_cons_succ]
  rw [HCS.out]
  refine wpAnyH_ready (rs := [6, 9]) (by kernel_rfl) (by simp) ?_
  refine AllReadyH.cons rfl (fun K hK => ?_) (AllReadyH.cons rfl (fun K hK => ?_) AllReadyH.nil)
  · obtain ⟨V1, HV1⟩ : ∃ Z, Hid (V0.alloc (.cells #[.int .i64 x.frm, .int .i64 (k : Int), .pointer none] 158) = Z) := ⟨_, Lib.hid rfl⟩
    obtain ⟨Y, HY⟩ : ∃ Z, Hid (V0.heap.size = Z) := ⟨_, Lib.hid rfl⟩
    have HBB := Lib.hid (show Below V0.heap.size V0 V1 by rw [← HV1.out]; exact (Below.refl _ _).alloc (Nat.le_refl _) _)
    have HY1 := Lib.hid (show WayAt V1 V1.heap.size (some ⟨Y, 0, none⟩) [(x.frm, (k : Int))] by rw [← HV1.out, ← HY.out]; exact WayAt.cons (W := []) (a := none) rfl x.frm (k : Int))
    have HX1 := Lib.hid (HX0.out.below HBB.out HX0.out.lt)
    have HC1 := Lib.hid (HC0.out.below HBB.out HC0.out.lt)
    have HB1 := Lib.hid (HB0.out.trans (HBB.out.mono HB0.out.size))
    have hhb : SL X Bx x cs (V0.alloc (.cells #[.int .i64 x.frm, .int .i64 (k : Int), .pointer none] 158)) := by rw [HV1.out]; exact sl_mk HX1.out HC1.out HCS.out
    go_simp
    refine hK.out _ _ hhb (fun hHeld1 => ?_)
    clear hhb
    clear hK K hHeld
    have hHeld := hHeld1
    clear hHeld1
    try simp only [Act.put, List.getElem_toArray, List.getElem_cons_succ, List.getElem_cons_zero, List.setIfInBounds_toArray, List.set_cons_zero, List.set_cons_succ]
    rw [HV1.out] at hHeld
    try rw [HY.out]
    try simp only [HY.out]
    rw [HV1.out]
    clear HV1
    refine wpAnyH_ready (rs := [9]) (by kernel_rfl) (by simp) ?_
    refine AllReadyH.cons rfl (fun K hK => ?_) AllReadyH.nil
    go_simp
    refine (exits_any (some ⟨gL, 0, none⟩) n cap ts bs C V1 hg hbs HCI.out hC12 (Lib.hid (hts.out.step HB1.out))).mono ?_
    rintro en V2 ⟨g, rfl, hb, hex⟩
    have HBE := Lib.hid hb
    have HX2 := Lib.hid (HX1.out.below hb HX1.out.lt)
    have HC2 := Lib.hid (HC1.out.below hb HC1.out.lt)
    have HB2 := Lib.hid (HB1.out.trans (hb.mono HB1.out.size))
    have HE2 := Lib.hid hex
    clear hb hex
    have HY2 := Lib.hid (HY1.out.step HBE.out)
    refine hK.out _ _ (sl_mk HX2.out HC2.out HCS.out) (fun hHeld1 => ?_)
    clear hK K hHeld
    have hHeld := hHeld1
    clear hHeld1
    try simp only [Act.put, List.getElem_toArray, List.getElem_cons_succ, List.getElem_cons_zero, List.setIfInBounds_toArray, List.set_cons_zero, List.set_cons_succ]
    refine wpAnyH_ready (rs := [10]) (by kernel_rfl) (by simp) ?_
    refine AllReadyH.cons rfl (fun K hK => ?_) AllReadyH.nil
    go_simp
    refine (wayFrom_any ts (Opn bs) x.frm (k : Int) x.to_ g _ hg HZ HRR 8 [(x.frm, (k : Int))] (some ⟨Y, 0, none⟩) V2 (by simp) (Lib.hid Wy.one) HY2 HE2).mono ?_
    rintro en V5 ⟨a5, rfl, hb, hres⟩
    have HX5 := Lib.hid (HX2.out.below hb HX2.out.lt)
    have HC5 := Lib.hid (HC2.out.below hb HC2.out.lt)
    have HB5 := Lib.hid (HB2.out.trans (hb.mono HB2.out.size))
    have HRES := Lib.hid hres
    clear hb hres
    refine hK.out _ _ (sl_mk HX5.out HC5.out HCS.out) (fun hHeld1 => ?_)
    clear hK K hHeld
    have hHeld := hHeld1
    clear hHeld1
    try simp only [Act.put, List.getElem_toArray, List.getElem_cons_succ, List.getElem_cons_zero, List.setIfInBounds_toArray, List.set_cons_zero, List.set_cons_succ]
    refine' wpAnyH_take (i := 11) (v := ?vl1_11) rfl (by kernel_rfl) (by kernel_rfl) (by kernel_rfl) (fun _ _ _ h => h) (Or.inl ⟨by rfl, ?hyl1_11⟩) (by assumption) ?restl1_11
    case hyl1_11 => (intro w hSw; (try dsimp only at hSw); go_simp; try (with_reducible rfl))
    simp only [Act.put, List.getElem_toArray, List.getElem_cons_succ, List.getElem_cons_zero, List.setIfInBounds_toArray, List.set_cons_zero, List.set_cons_succ]
    refine wpAnyH_done (by kernel_rfl) ?_ _
    clear hHeld
    go_wp2_with fail
    go_ret
    exact lb_fin HB5.out HRES.out
  · go_simp
    refine (exits_any (some ⟨gL, 0, none⟩) n cap ts bs C V0 hg hbs HCI.out hC12 (Lib.hid (hts.out.step HB0.out))).mono ?_
    rintro en V1 ⟨g, rfl, hb, hex⟩
    have HBE := Lib.hid hb
    have HX1 := Lib.hid (HX0.out.below hb HX0.out.lt)
    have HC1 := Lib.hid (HC0.out.below hb HC0.out.lt)
    have HB1 := Lib.hid (HB0.out.trans (hb.mono HB0.out.size))
    have HE1 := Lib.hid hex
    clear hb hex
    refine hK.out _ _ (sl_mk HX1.out HC1.out HCS.out) (fun hHeld1 => ?_)
    clear hK K hHeld
    have hHeld := hHeld1
    clear hHeld1
    try simp only [Act.put, List.getElem_toArray, List.getElem_cons_succ, List.getElem_cons_zero, List.setIfInBounds_toArray, List.set_cons_zero, List.set_cons_succ]
    refine wpAnyH_ready (rs := [6]) (by kernel_rfl) (by simp) ?_
    refine AllReadyH.cons rfl (fun K hK => ?_) AllReadyH.nil
    obtain ⟨V2, HV2⟩ : ∃ Z, Hid (V1.alloc (.cells #[.int .i64 x.frm, .int .i64 (k : Int), .pointer none] 158) = Z) := ⟨_, Lib.hid rfl⟩
    obtain ⟨Y, HY⟩ : ∃ Z, Hid (V1.heap.size = Z) := ⟨_, Lib.hid rfl⟩
    have HBB := Lib.hid (show Below V1.heap.size V1 V2 by rw [← HV2.out]; exact (Below.refl _ _).alloc (Nat.le_refl _) _)
    have HY2 := Lib.hid (show WayAt V2 V2.heap.size (some ⟨Y, 0, none⟩) [(x.frm, (k : Int))] by rw [← HV2.out, ← HY.out]; exact WayAt.cons (W := []) (a := none) rfl x.frm (k : Int))
    have HX2 := Lib.hid (HX1.out.below HBB.out HX1.out.lt)
    have HC2 := Lib.hid (HC1.out.below HBB.out HC1.out.lt)
    have HB2 := Lib.hid (HB1.out.trans (HBB.out.mono HB1.out.size))
    have hhb : SL X Bx x cs (V1.alloc (.cells #[.int .i64 x.frm, .int .i64 (k : Int), .pointer none] 158)) := by rw [HV2.out]; exact sl_mk HX2.out HC2.out HCS.out
    have HE2 := Lib.hid (HE1.out.step HBB.out)
    go_simp
    refine hK.out _ _ hhb (fun hHeld1 => ?_)
    clear hhb
    clear hK K hHeld
    have hHeld := hHeld1
    clear hHeld1
    try simp only [Act.put, List.getElem_toArray, List.getElem_cons_succ, List.getElem_cons_zero, List.setIfInBounds_toArray, List.set_cons_zero, List.set_cons_succ]
    rw [HV2.out] at hHeld
    try rw [HY.out]
    try simp only [HY.out]
    rw [HV2.out]
    clear HV2
    refine wpAnyH_ready (rs := [10]) (by kernel_rfl) (by simp) ?_
    refine AllReadyH.cons rfl (fun K hK => ?_) AllReadyH.nil
    go_simp
    refine (wayFrom_any ts (Opn bs) x.frm (k : Int) x.to_ g _ hg HZ HRR 8 [(x.frm, (k : Int))] (some ⟨Y, 0, none⟩) V2 (by simp) (Lib.hid Wy.one) HY2 HE2).mono ?_
    rintro en V5 ⟨a5, rfl, hb, hres⟩
    have HX5 := Lib.hid (HX2.out.below hb HX2.out.lt)
    have HC5 := Lib.hid (HC2.out.below hb HC2.out.lt)
    have HB5 := Lib.hid (HB2.out.trans (hb.mono HB2.out.size))
    have HRES := Lib.hid hres
    clear hb hres
    refine hK.out _ _ (sl_mk HX5.out HC5.out HCS.out) (fun hHeld1 => ?_)
    clear hK K hHeld
    have hHeld := hHeld1
    clear hHeld1
    try simp only [Act.put, List.getElem_toArray, List.getElem_cons_succ, List.getElem_cons_zero, List.setIfInBounds_toArray, List.set_cons_zero, List.set_cons_succ]
    refine' wpAnyH_take (i := 11) (v := ?vl2_11) rfl (by kernel_rfl) (by kernel_rfl) (by kernel_rfl) (fun _ _ _ h => h) (Or.inl ⟨by rfl, ?hyl2_11⟩) (by assumption) ?restl2_11
    case hyl2_11 => (intro w hSw; (try dsimp only at hSw); go_simp; try (with_reducible rfl))
    simp only [Act.put, List.getElem_toArray, List.getElem_cons_succ, List.getElem_cons_zero, List.setIfInBounds_toArray, List.set_cons_zero, List.set_cons_succ]
    refine wpAnyH_done (by kernel_rfl) ?_ _
    clear hHeld
    go_wp2_with fail
    go_ret
    exact lb_fin HB5.out HRES.out
end Go.Proofs.YtnpghhpcloljeabGreatDoor.lpi
namespace Go.Proofs.YtnpghhpcloljeabGreatDoor.lpi
open Go.RowKit
open reads base ty lg lgi win rowi hs nt nq sn lp
set_option linter.unusedVariables false
set_option linter.unusedSimpArgs false
theorem twelve (l : List Bool) (h : l.length = 12) : ∃ b0 b1 b2 b3 b4 b5 b6 b7 b8 b9 b10 b11, l = [b0, b1, b2, b3, b4, b5, b6, b7, b8, b9, b10, b11] := by
  match l, h with
  | [b0, b1, b2, b3, b4, b5, b6, b7, b8, b9, b10, b11], _ => exact ⟨_, _, _, _, _, _, _, _, _, _, _, _, rfl⟩
def cellsB (bs : List Bool) : Array Value := (bs.map Value.bool).toArray
theorem other_len (n k : Nat) : (otherB n k).length = 12 := by simp [otherB]
theorem other_zero (k : Nat) : cellsB (otherB 0 k) = #[.bool false, .bool false, .bool false, .bool false, .bool false, .bool false, .bool false, .bool false, .bool false, .bool false, .bool false, .bool false] := by
  have e : otherB 0 k = List.replicate 12 false := by
    apply List.ext_getElem?
    intro q
    unfold otherB
    rw [List.getElem?_map, List.getElem?_replicate]
    rcases Nat.lt_or_ge q 12 with h | h
    · rw [List.getElem?_range h, if_pos h]; rfl
    · rw [List.getElem?_eq_none (by simpa using h), if_neg (by omega)]; rfl
  rw [e]; rfl
theorem other_set {i k : Nat} (hi : i < 12) : (cellsB (otherB i k)).setIfInBounds i (.bool (!decide (i = k))) = cellsB (otherB (i + 1) k) := by
  unfold cellsB
  rw [List.setIfInBounds_toArray]
  congr 1
  apply List.ext_getElem?
  intro q
  have hl : ∀ m, (otherB m k)[q]? = if q < 12 then some (decide (q < m) && !decide (q = k)) else none := fun m => by
    unfold otherB
    rw [List.getElem?_map]
    rcases Nat.lt_or_ge q 12 with h | h
    · rw [List.getElem?_range h, if_pos h]; rfl
    · rw [List.getElem?_eq_none (by simpa using h), if_neg (by omega)]; rfl
  by_cases e : q = i
  · subst e
    rw [List.getElem?_set_self (by rw [List.length_map, other_len]; exact hi), List.getElem?_map, hl, if_pos hi]
    simp
  · rw [List.getElem?_set_ne (fun h => e h.symm), List.getElem?_map, List.getElem?_map, hl, hl]
    split
    · have : decide (q < i) = decide (q < i + 1) := by simp; omega
      rw [this]
    · rfl
theorem other_cell {n k : Nat} (C : Array Value) (h : cellsB (otherB n k) = C) {q : Nat} (hq : q < 12) : C[q]? = some (.bool (decide (q < n) && !decide (q = k))) := by
  rw [← h]
  unfold cellsB otherB
  rw [List.getElem?_toArray, List.getElem?_map, List.getElem?_map, List.getElem?_range hq]; rfl
set_option maxHeartbeats 8000000 in
set_option maxRecDepth 100000 in
theorem isNeeded_any (A : Option Addr) (n cap : Nat) (ts : List Lg) (k : Nat) (x : Lg) (t : Bool) (w : World) (hg : Hid (goodLg ts = true)) (hx : Hid (ts[k]? = some x)) (hf : Hid (mem (net ts).ps x.frm = true)) (ht : Hid (brB ts k = t)) (hts : Hid (LgAt w w.heap.size A n ts)) :
    Calls Tryz.prog 76 #[.slice A n cap, .int .i64 (k : Int)] w (BPost t w) := by
  have HL := Lib.hid hts.out.1
  have hn12 := len12 HL.out hg.out
  have HIFF := Lib.hid (need_is hg.out hx.out (mem_iff.1 hf.out))
  rw [HL.out] at HIFF
  obtain ⟨W0, HW0⟩ : ∃ W, Hid (w.alloc (.cells #[.bool false, .bool false, .bool false, .bool false, .bool false, .bool false, .bool false, .bool false, .bool false, .bool false, .bool false, .bool false] 74) = W) := ⟨_, Lib.hid rfl⟩
  obtain ⟨Bo, HBO⟩ : ∃ B, Hid (w.heap.size = B) := ⟨_, Lib.hid rfl⟩
  have HC0 := Lib.hid (show Blk W0 Bo 74 (cellsB (otherB 0 k)) by rw [← HW0.out, ← HBO.out, other_zero]; exact Blk.new _ _ _)
  have HB0 := Lib.hid (show Below w.heap.size w W0 by rw [← HW0.out]; exact (Below.refl _ _).alloc (Nat.le_refl _) _)
  have hwb : w.heap.size ≤ Bo := by rw [← HBO.out]; exact Nat.le_refl _
  go_enter Tryz.func76, Tryz.ntmps76
  go_upto_region 2 with fail
  try rw [HBO.out]
  try simp only [HBO.out]
  rw [HW0.out]
  clear HW0 HBO
  go_wp2_with fail
  go_loopw [10] (fun i wr => ∃ j : Nat, j ≤ n ∧ i = .int .i64 (j : Nat) ∧ Blk wr Bo 74 (cellsB (otherB j k)) ∧ Below w.heap.size w wr) (fun i _ => n - (intOf i).toNat)
  case atStart => exact ⟨0, Nat.zero_le _, rfl, HC0.out, HB0.out⟩
  case round =>
    obtain ⟨j, hj, rfl, hC, hB⟩ := hrel
    have HC := Lib.hid hC
    have HB := Lib.hid hB
    clear hC hB HC0 HB0
    have hj0 : (0 : Int) ≤ (j : Int) := by omega
    by_cases hlt : j < n
    · have hji : (j : Int) < (n : Int) := by omega
      have hjd : decide (j < n) = true := by simpa using hlt
      have hj12 : (j : Int) < 12 := by omega
      have hj12n : j < 12 := by omega
      have c0 := (HC.out.cell j).trans (other_cell _ rfl hj12n)
      have c1 := HC.out.frozen j
      have c2 := HC.out.lt
      obtain ⟨u, hu⟩ : ∃ u : Bool, (!decide (j = k)) = u := ⟨_, rfl⟩
      have hne : ((j : Int) != (k : Int)) = u := by rw [← hu]; by_cases e : j = k <;> simp [e]; omega
      have HNX := Lib.hid (show Blk (wr.setCell ⟨Bo, j, none⟩ (.bool u)) Bo 74 (cellsB (otherB (j + 1) k)) by rw [← other_set hj12n, hu]; exact HC.out.set_ j _)
      have HBX := Lib.hid (HB.out.setCell (p := ⟨Bo, j, none⟩) hwb (.bool u))
      clear hu
      go_wp2_with fail
      go_roundw
      case rel => exact ⟨j + 1, by omega, by go_num, HNX.out, HBX.out⟩
      case measure => simp [intOf]; omega
    · have hjd : decide (j < n) = false := by simpa using hlt
      obtain rfl : j = n := by omega
      obtain ⟨bs, HBS⟩ : ∃ bs, Hid (otherB j k = bs) := ⟨_, Lib.hid rfl⟩
      have HB12 := Lib.hid (show bs.length = 12 by rw [← HBS.out, other_len])
      obtain ⟨b0, b1, b2, b3, b4, b5, b6, b7, b8, b9, b10, b11, hbs12⟩ := twelve bs HB12.out
      have HEQ := Lib.hid hbs12
      rw [HBS.out, hbs12] at HC HIFF
      have q0 := HC.out.cell 0
      have q1 := HC.out.cell 1
      have q2 := HC.out.cell 2
      have q3 := HC.out.cell 3
      have q4 := HC.out.cell 4
      have q5 := HC.out.cell 5
      have q6 := HC.out.cell 6
      have q7 := HC.out.cell 7
      have q8 := HC.out.cell 8
      have q9 := HC.out.cell 9
      have q10 := HC.out.cell 10
      have q11 := HC.out.cell 11
      simp [cellsB] at q0 q1 q2 q3 q4 q5 q6 q7 q8 q9 q10 q11
      clear hbs12 hlt
      go_wp2_with fail
      refine (loopBy_any A _ cap ts [b0, b1, b2, b3, b4, b5, b6, b7, b8, b9, b10, b11] _ k x _ hg (Lib.hid rfl) (Lib.hid rfl) hx (Lib.hid (hts.out.step HB.out))).mono ?_
      rintro en w2 ⟨a2, rfl, hb2, hres⟩
      have HRES := Lib.hid hres
      have HB2 := Lib.hid (HB.out.trans (hb2.mono HB.out.size))
      clear hres hb2 q0 q1 q2 q3 q4 q5 q6 q7 q8 q9 q10 q11
      rcases HRES.out with ⟨W, g, rfl, hw1, hw2, hw3⟩ | ⟨rfl, hno⟩
      · obtain rfl : t = false := by
          cases q : t
          · rfl
          · exact absurd hw3 (HIFF.out.1 (by rw [ht.out, q]) W hw2)
        clear hw1 hw2 hw3
        go_wp2_with fail
        go_ret
        exact ⟨rfl, HB2.out⟩
      · obtain rfl : t = true := by rw [← ht.out]; exact HIFF.out.2 hno
        clear hno
        go_wp2_with fail
        go_ret
        exact ⟨rfl, HB2.out⟩
end Go.Proofs.YtnpghhpcloljeabGreatDoor.lpi
namespace Go.Proofs.YtnpghhpcloljeabGreatDoor.lpi
open Go.RowKit
open reads base ty lg lgi win rowi hs nt nq sn lp
set_option linter.unusedVariables false
set_option linter.unusedSimpArgs false
end Go.Proofs.YtnpghhpcloljeabGreatDoor.lpi
