/-
  Trees of legs and the ways along them (pure mathematics).
  The loop of a closing leg: its legs, its stations, its length, its misclosure; bridges (pure mathematics).
  Legs one after the other: the stations between them, the sum of their shifts, of their lengths (pure mathematics).
  Ways as the program grows them: exits, what a search shows, loops and bridges told by ways (pure mathematics).
  Leaving out a leg that is no bridge (pure mathematics): the placed stations stay, and the strain is no greater; without closing legs there is none.
  A list of ints in memory, from the beginning of a block on.
  The length of a shift, by the model.
  Whether legs place a station, closing legs, by the model.
  The way between two stations by tree legs, and the legs of a loop, by the model.
  The legs of a loop, by the model.
  LoopLegs and LoopOf, by the model.
  The length and the misclosure of a loop, by the model.
  Misclosures, the worst loop, the loops through a leg, their number, by the model.
  Bridges, by the model.
  IsBridge, BridgesOf, LoopsThrough and CountLoops, by the model.
  Conditions: those that each theorem names.
-/
import Derived.Test.YtiimegmaokfpgabGreatDoorNtR
import Derived.Test.YtiimegmaokfpgabGreatDoorNtZ
import Derived.Test.YtiimegmaokfpgabGreatDoorBlA
import Derived.Test.YtiimegmaokfpgabGreatDoorBase
import Derived.Test.YtiimegmaokfpgabGreatDoorIntV
import Derived.Test.YtiimegmaokfpgabGreatDoorLen
import Derived.Test.YtiimegmaokfpgabGreatDoorNtC
import Derived.Deep.RegionHeld3
import Derived.Deep.DeepCutAuto
import Derived.OwnWalk
import Derived.Deep.QuietTactic
import Derived.BigQuiet
import Derived.Deep.RegionWith
namespace Go.Proofs.YtiimegmaokfpgabGreatDoor.lp
open Go.RowKit
open reads base ty lg hs nt
set_option linter.unusedVariables false
section
variable {ts : List Lg} {V E : List Int} {i p c : Int}
end
def hd : List (Int × Int) → Int
  | [] => 0
  | p :: _ => p.1
section
variable {ts : List Lg} {O : Int → Prop} {z e : Int}
end
def farOf (ts : List Lg) (i a : Int) : Int := match ts[i.toNat]? with
  | some x => x.frm + x.to_ - a
  | none => 0
end Go.Proofs.YtiimegmaokfpgabGreatDoor.lp
namespace Go.Proofs.YtiimegmaokfpgabGreatDoor.lp
open Go.RowKit
open reads base ty lg hs nt
set_option linter.unusedVariables false
def wayF (ts : List Lg) (E : List Int) : Nat → Int → Int → Int → Option (List Int)
  | 0, _, _, _ => none
  | f + 1, last, a, b => if a = b then some [] else E.findSome? fun i =>
    if i = last then none else match ts[i.toNat]? with
      | some x => if x.frm = a ∨ x.to_ = a then (wayF ts E f i (x.frm + x.to_ - a) b).map (i :: ·) else none
      | none => none
def legAt (ts : List Lg) (i : Int) : Lg := (ts[i.toNat]?).getD ⟨0, 0, 0, 0, 0⟩
def pathOf (ts : List Lg) (i : Int) : List Int := (wayF ts (net ts).tr 13 (-1) (legAt ts i).to_ (legAt ts i).frm).getD []
def lpOk (ts : List Lg) (i : Int) : Bool := goodLg ts && mem (clIds ts) i
theorem clN_iff {ts : List Lg} {s : Net} : ∀ k, k ≤ ts.length → ∀ i, i ∈ clN ts s k ↔ (0 ≤ i ∧ i < k ∧ ∃ x, ts[i.toNat]? = some x ∧ x.frm ∈ s.ps ∧ i ∉ s.tr)
  | 0, _, i => by simp [clN]; omega
  | k + 1, hk, i => by
    have ih := clN_iff (ts := ts) (s := s) k (by omega) i
    obtain ⟨x, e⟩ : ∃ x, ts[k]? = some x := ⟨_, List.getElem?_eq_getElem (by omega)⟩
    have tob : ∀ {l : List Int} {a : Int}, mem l a = false ↔ a ∉ l := fun {l a} => by
      rw [← mem_iff]; cases mem l a <;> simp
    cases h : (mem s.ps x.frm && !mem s.tr (k : Int))
    · rw [clN_no e h, ih]
      constructor
      · rintro ⟨a, b, c⟩; exact ⟨a, by omega, c⟩
      · rintro ⟨a, b, y, hy, c, d⟩
        refine ⟨a, ?_, y, hy, c, d⟩
        have : i ≠ k := by
          rintro rfl
          rw [Int.toNat_natCast, e] at hy
          obtain rfl := Option.some.inj hy
          rw [mem_iff.2 c, tob.2 d] at h; cases h
        omega
    · rw [Bool.and_eq_true, Bool.not_eq_true'] at h
      rw [clN_yes e h.1 h.2, List.mem_append, ih, List.mem_singleton]
      constructor
      · rintro (⟨a, b, c⟩ | rfl)
        · exact ⟨a, by omega, c⟩
        · exact ⟨by omega, by omega, x, by rw [Int.toNat_natCast]; exact e, mem_iff.1 h.1, tob.1 h.2⟩
      · rintro ⟨a, b, y, hy, c, d⟩
        by_cases q : i = k
        · exact .inr q
        · exact .inl ⟨a, by omega, y, hy, c, d⟩
def lpIds (ts : List Lg) (i : Int) : List Int := if lpOk ts i then pathOf ts i ++ [i] else []
def tapes (ts : List Lg) : List Int → Int
  | [] => 0
  | i :: l => (legAt ts i).tape + tapes ts l
def lenV (ts : List Lg) (i : Int) : Int := tapes ts (lpIds ts i)
def along (ts : List Lg) (i a : Int) : Sf := if (legAt ts i).frm = a then shf (legAt ts i) else sub3 zero3 (shf (legAt ts i))
def sumS (ts : List Lg) : Int → List Int → Sf → Sf
  | _, [], s => s
  | a, i :: l, s => sumS ts (farOf ts i a) l (add3 s (along ts i a))
def misV (ts : List Lg) (i : Int) : Sf := if lpOk ts i then sumS ts (legAt ts i).to_ (lpIds ts i) zero3 else zero3
def less (ts : List Lg) (k : Nat) : List Lg := ts.take k ++ ts.drop (k + 1)
def other (k : Nat) (i : Int) : Prop := i ≠ k
def rt : Nat → Int
  | 0 => 0
  | n + 1 => if ((n + 1 : Nat) : Int) < (rt n + 1) * (rt n + 1) then rt n else rt n + 1
def missV (ts : List Lg) (i : Int) : Int := rt (sq3 (misV ts i)).toNat
def worse (ts : List Lg) (c b : Int) : Bool := decide (missV ts b * lenV ts c < missV ts c * lenV ts b)
end Go.Proofs.YtiimegmaokfpgabGreatDoor.lp
namespace Go.Proofs.YtiimegmaokfpgabGreatDoor.lp
open Go.RowKit
open reads base ty lg hs nt
set_option linter.unusedVariables false
end Go.Proofs.YtiimegmaokfpgabGreatDoor.lp
namespace Go.Proofs.YtiimegmaokfpgabGreatDoor.lp
open Go.RowKit
open reads base ty lg hs nt
set_option linter.unusedVariables false
section
variable {ts : List Lg} {bs : List Bool} {k : Nat} {s : Int} {x : Lg}
end
section
variable {ts : List Lg} {O : Int → Prop} {z e : Int}
end
end Go.Proofs.YtiimegmaokfpgabGreatDoor.lp
namespace Go.Proofs.YtiimegmaokfpgabGreatDoor.bl
open Go.RowKit
open reads base ty lg lgi win hs nt nq rowi sn mt ml dt pg ph lp
set_option linter.unusedVariables false
set_option linter.unusedSimpArgs false
theorem cpI_mul {x y c : Int} (hc : 0 < c) : cpI (x * c) (y * c) = cpI x y := by
  have a : x * c < y * c ↔ x < y := ⟨fun h => Int.lt_of_mul_lt_mul_right h (by omega), fun h => Int.mul_lt_mul_of_pos_right h hc⟩
  have b : y * c < x * c ↔ y < x := ⟨fun h => Int.lt_of_mul_lt_mul_right h (by omega), fun h => Int.mul_lt_mul_of_pos_right h hc⟩
  unfold cpI; simp only [a, b]
theorem cpS_is {ts us : List Lg} (hg : goodLg ts = true) (hu : goodLg us = true) : cpS ts us = cpI (EK ts 3 * TC us) (EK us 3 * TC ts) := by
  have r1 := red_is (EK_bd hg 3 (by omega)).1 (TC_pos hg)
  have r2 := red_is (EK_bd hu 3 (by omega)).1 (TC_pos hu)
  have p1 := TC_pos hg
  have p2 := TC_pos hu
  unfold cpS snV sdV kn kd
  obtain ⟨n, hn⟩ : ∃ n, redN (EK ts 3) (TC ts) = n := ⟨_, rfl⟩
  obtain ⟨d, hd⟩ : ∃ d, redD (EK ts 3) (TC ts) = d := ⟨_, rfl⟩
  obtain ⟨m, hm⟩ : ∃ n, redN (EK us 3) (TC us) = n := ⟨_, rfl⟩
  obtain ⟨f, hf⟩ : ∃ d, redD (EK us 3) (TC us) = d := ⟨_, rfl⟩
  rw [hn, hd] at r1 ⊢
  rw [hm, hf] at r2 ⊢
  obtain ⟨e1, -, -, d0, -⟩ := r1
  obtain ⟨e2, -, -, f0, -⟩ := r2
  rw [← cpI_mul (c := TC ts * TC us) (Int.mul_pos (by omega) (by omega)), ← cpI_mul (x := EK ts 3 * TC us) (c := d * f) (Int.mul_pos (by omega) (by omega))]
  congr 1
  · rw [show n * f * (TC ts * TC us) = n * TC ts * (f * TC us) by grind, e1]; grind
  · rw [show m * d * (TC ts * TC us) = m * TC us * (d * TC ts) by grind, e2]; grind
theorem cpS_trans {a b c : List Lg} (ha : goodLg a = true) (hb : goodLg b = true) (hc : goodLg c = true) (h1 : cpS a b ≤ 0) (h2 : cpS b c ≤ 0) : cpS a c ≤ 0 ∧ (cpS a b < 0 ∨ cpS b c < 0 → cpS a c < 0) := by
  rw [cpS_is ha hb] at h1 ⊢
  rw [cpS_is hb hc] at h2 ⊢
  rw [cpS_is ha hc]
  have le : ∀ x y : Int, cpI x y ≤ 0 ↔ x ≤ y := fun x y => by unfold cpI; split; omega; split <;> omega
  have p1 := TC_pos ha
  have p2 := TC_pos hb
  have p3 := TC_pos hc
  rw [le] at h1 h2
  rw [le, cpI_lt, cpI_lt, cpI_lt]
  obtain ⟨A, hA⟩ : ∃ A, EK a 3 = A := ⟨_, rfl⟩
  obtain ⟨B, hB⟩ : ∃ A, EK b 3 = A := ⟨_, rfl⟩
  obtain ⟨C, hC⟩ : ∃ A, EK c 3 = A := ⟨_, rfl⟩
  obtain ⟨s, hs⟩ : ∃ A, TC a = A := ⟨_, rfl⟩
  obtain ⟨t, ht⟩ : ∃ A, TC b = A := ⟨_, rfl⟩
  obtain ⟨u, hu⟩ : ∃ A, TC c = A := ⟨_, rfl⟩
  simp only [hA, hB, hC, hs, ht, hu] at h1 h2 p1 p2 p3 ⊢
  have m1 := Int.mul_le_mul_of_nonneg_right h1 (show 0 ≤ u by omega)
  have m2 := Int.mul_le_mul_of_nonneg_right h2 (show 0 ≤ s by omega)
  have e : B * s * u = B * u * s := by grind
  refine ⟨Int.le_of_mul_le_mul_right (a := t) ?_ (by omega), fun q => Int.lt_of_mul_lt_mul_right (a := t) ?_ (by omega)⟩
  · have f1 : A * u * t = A * t * u := by grind
    have f2 : C * s * t = C * t * s := by grind
    omega
  · have f1 : A * u * t = A * t * u := by grind
    have f2 : C * s * t = C * t * s := by grind
    rcases q with q | q
    · have := Int.mul_lt_mul_of_pos_right q (show 0 < u by omega)
      omega
    · have := Int.mul_lt_mul_of_pos_right q (show 0 < s by omega)
      omega
end Go.Proofs.YtiimegmaokfpgabGreatDoor.bl
namespace Go.Proofs.YtiimegmaokfpgabGreatDoor.ty
open Go.RowKit
open reads base
set_option linter.unusedVariables false
end Go.Proofs.YtiimegmaokfpgabGreatDoor.ty
namespace Go.Proofs.YtiimegmaokfpgabGreatDoor.nt
open Go.RowKit
open reads base ty lg rowi hs
set_option linter.unusedVariables false
set_option linter.unusedSimpArgs false
end Go.Proofs.YtiimegmaokfpgabGreatDoor.nt
namespace Go.Proofs.YtiimegmaokfpgabGreatDoor.nt
open Go.RowKit
open reads base ty lg rowi hs
set_option linter.unusedVariables false
set_option linter.unusedSimpArgs false
def IPo (xs : List Int) (w : World) (e : Ending) (w' : World) : Prop :=
  ∃ v, e = .returned v ∧ w'.ownsRow w.heap.size 3 1 v xs.length (ints.intsV xs) ∧ Below w.heap.size w w'
set_option maxHeartbeats 8000000 in
set_option maxRecDepth 100000 in
theorem closing_any (A : Option Addr) (n cap : Nat) (ts : List Lg) (N : Net) (HNN : Hid (net ts = N)) (w : World) (hg : Hid (goodLg ts = true)) (hts : Hid (LgAt w w.heap.size A n ts)) :
    Calls Tryz.prog 121 #[.slice A n cap] w (IPo (clN ts N ts.length) w) := by
  obtain ⟨i0, hi, hz0, hz1, hz2⟩ := info_parts infoI
  have HL := Lib.hid hts.out.1
  have hn12 := len12 HL.out hg.out
  have HON := Lib.hid (ok_net hg.out)
  have hp8 := HON.out.ps_len
  have ht12 := HON.out.tr_len
  have HA := Lib.hid (hts.out.alloc (.cells #[] 3))
  have HR0 := Lib.hid (show (w.alloc (.cells #[] 3)).ownsRow w.heap.size 3 1 (.slice (some ⟨w.heap.size, 0, none⟩) 0 0) 0 [] from World.ownsRow_made w #[] 0 (Nat.le_refl _) (by decide) (by simp))
  have HB0 := Lib.hid ((Below.refl w.heap.size w).alloc (Nat.le_refl _) (.cells #[] 3))
  go_enter Tryz.func121, Tryz.ntmps121
  go_wp2_with fail
  refine (place_any A n cap ts _ hg HA).mono ?_
  rintro e w1 ⟨g1, g2, c2, g3, c3, rfl, hN⟩
  rw [HNN.out] at hN hp8 ht12 ⊢
  obtain ⟨m2, HM2⟩ : ∃ m, Hid (N.ps.length = m) := ⟨_, Lib.hid rfl⟩
  obtain ⟨m3, HM3⟩ : ∃ m, Hid (N.tr.length = m) := ⟨_, Lib.hid rfl⟩
  rw [HM2.out] at hN hp8 ⊢
  rw [HM3.out] at hN ht12 ⊢
  have HB1 := Lib.hid (HB0.out.trans (hN.1.mono HB0.out.size))
  have HR1 := Lib.hid (row_below HR0.out hN.1)
  have HP1 := Lib.hid hN.2.2.1
  have HT1 := Lib.hid hN.2.2.2
  have hgs : w.heap.size < (w.alloc (.cells #[] 3)).heap.size := by simp
  have HUP := Lib.hid (show w.heap.size + 1 ≤ g2 ∧ w.heap.size + 1 ≤ g3 by have h1 := (hN.2.2.1.lt g2 rfl).1; have h2 := (hN.2.2.2.lt g3 rfl).1; simp at h1 h2; omega)
  obtain ⟨sb, HSB⟩ : ∃ s, Hid ((w.alloc (.cells #[] 3)).heap.size = s) := ⟨_, Lib.hid rfl⟩
  rw [HSB.out] at HP1 HT1
  have HNE0 := Lib.hid (show ∀ g, (Value.slice (some ⟨w.heap.size, 0, none⟩) 0 0).ownBlock = some g → ¬ g = g2 ∧ ¬ g = g3 from fun g e => by
    have h1 := HUP.out
    have e2 : w.heap.size = g := by simpa [Value.ownBlock] using e
    omega)
  clear hN HB0 HR0 HA hgs
  go_wp2_with fail
  go_loopw [3, 7] (fun v i wr => ∃ (k m c : Nat) (A2 : Option Addr), k ≤ n ∧ i = .int .i64 (k : Nat) ∧ m ≤ k ∧ v = .slice A2 m c ∧ Hid ((clN ts N k).length = m) ∧ (∀ g, (Value.slice A2 m c).ownBlock = some g → ¬ g = g2 ∧ ¬ g = g3) ∧ wr.ownsRow w.heap.size 3 1 (.slice A2 m c) m (ints.intsV (clN ts N k)) ∧ wr.ownsRow sb 3 1 (.slice (some ⟨g2, 0, none⟩) m2 c2) m2 (ints.intsV N.ps) ∧ wr.ownsRow sb 3 1 (.slice (some ⟨g3, 0, none⟩) m3 c3) m3 (ints.intsV N.tr) ∧ Below w.heap.size w wr) (fun _ i _ => n - (intOf i).toNat)
  case atStart => exact ⟨0, 0, 0, _, Nat.zero_le _, rfl, Nat.le_refl _, rfl, Lib.hid rfl, HNE0.out, HR1.out, HP1.out, HT1.out, HB1.out⟩
  case round =>
    obtain ⟨k, m, c, A2, hk, rfl, hmk, rfl, HM, hne, hO, hP, hT, hB⟩ := hrel
    have HO := Lib.hid hO
    have HP := Lib.hid hP
    have HT := Lib.hid hT
    have HB := Lib.hid hB
    have HNE := Lib.hid hne
    have hBs := hB.size
    clear hO hP hT hB hne HR1 HP1 HT1 HB1
    have hk0 : (0 : Int) ≤ (k : Int) := by omega
    by_cases hlt : k < n
    · obtain ⟨x, hx⟩ := at_lt HL.out hlt
      obtain ⟨gL, rfl, hgL, e0, e1, e2, e3, e4⟩ := (hts.out.below HB.out).2 k x hx
      have HX := Lib.hid hx
      clear hx e1 e2 e3 e4
      have hki : (k : Int) < (n : Int) := by omega
      have hkd : decide (k < n) = true := by simpa using hlt
      cases hfa : mem N.ps x.frm
      · have HFA := Lib.hid hfa
        have HC := Lib.hid (clN_no (s := N) HX.out (by rw [hfa]; rfl))
        clear hfa
        go_wp2_with fail
        refine (has_is (some ⟨g2, 0, none⟩) m2 c2 N.ps x.frm false HFA _ (by omega) (Lib.hid (ints.IL.of_own HP.out))).mono ?_
        rintro e w9 ⟨rfl, rfl⟩
        go_wp2_with fail
        go_roundw
        case rel => exact ⟨k + 1, m, c, A2, by omega, by go_num, by omega, rfl, Lib.hid (by rw [HC.out]; exact HM.out), HNE.out, by rw [HC.out]; exact HO.out, HP.out, HT.out, HB.out⟩
        case measure => simp [intOf]; omega
      · have HFA := Lib.hid hfa
        cases hfb : mem N.tr (k : Int)
        · have HFB := Lib.hid hfb
          have HC := Lib.hid (clN_yes (s := N) HX.out hfa hfb)
          clear hfa hfb
          go_wp2_with fail
          refine (has_is (some ⟨g2, 0, none⟩) m2 c2 N.ps x.frm true HFA _ (by omega) (Lib.hid (ints.IL.of_own HP.out))).mono ?_
          rintro e w9 ⟨rfl, rfl⟩
          go_wp2_with fail
          refine (has_is (some ⟨g3, 0, none⟩) m3 c3 N.tr (k : Int) false HFB _ (by omega) (Lib.hid (ints.IL.of_own HT.out))).mono ?_
          rintro e w9 ⟨rfl, rfl⟩
          go_wp2_with (at_builtin; refine wpList_append_lies _ rfl _ _ 27 rfl w.heap.size 3 i0 (.int .i64 0) 1 8 Tryz.underlying27 hi hz0 hz1 hz2 rfl (by decide) _ _ _ rfl (HO.out.alloc _) ⟨wr.heap.size, 0, none⟩ 1 1 [.int .i64 (k : Int)] rfl rfl (cell_one_new _ _ _) (by simp [Value.oneCell']) (by decide) (by unfold maxLen; omega) (by omega) (by simp; omega) _ rfl ?_; intro g9 c9 w3 hown' hgrow hat hlt9)
          have hg2 := (HP.out.lt g2 rfl).2
          have hg3 := (HT.out.lt g3 rfl).2
          have HNE9 := Lib.hid (show ¬ g9 = g2 ∧ ¬ g9 = g3 by
            rcases hat with q | q
            · exact HNE.out g9 q
            · simp at q; omega)
          have HAL := Lib.hid ((Below.refl wr.heap.size wr).alloc (Nat.le_refl _) (.cells #[.int .i64 (k : Int)] 3))
          have HP9 := Lib.hid ((row_below HP.out HAL.out).kept hgrow (.inr (fun e => by have := (HNE.out g2 e.symm).1; exact this rfl)))
          have HT9 := Lib.hid ((row_below HT.out HAL.out).kept hgrow (.inr (fun e => by have := (HNE.out g3 e.symm).2; exact this rfl)))
          have HB9 := Lib.hid ((HB.out.trans (HAL.out.mono hBs)).grown hgrow (by simp; omega) (fun g e => (HO.out.lt g e).1))
          have HO9 := Lib.hid (show w3.ownsRow w.heap.size 3 1 (.slice (some ⟨g9, 0, none⟩) (m + 1) c9) (m + 1) (ints.intsV (clN ts N (k + 1))) by rw [HC.out, intsV_app]; exact hown')
          clear hown' hgrow hat
          go_wp2_with fail
          go_roundw
          case rel => exact ⟨k + 1, m + 1, c9, some ⟨g9, 0, none⟩, by omega, by go_num, by omega, rfl, Lib.hid (by rw [HC.out, List.length_append, HM.out]; rfl), fun g e => by
            have e2 : g9 = g := by simpa [Value.ownBlock] using e
            subst e2; exact HNE9.out, HO9.out, HP9.out, HT9.out, HB9.out⟩
          case measure => simp [intOf]; omega
        · have HFB := Lib.hid hfb
          have HC := Lib.hid (clN_no (s := N) HX.out (by rw [hfa, hfb]; rfl))
          clear hfa hfb
          go_wp2_with fail
          refine (has_is (some ⟨g2, 0, none⟩) m2 c2 N.ps x.frm true HFA _ (by omega) (Lib.hid (ints.IL.of_own HP.out))).mono ?_
          rintro e w9 ⟨rfl, rfl⟩
          go_wp2_with fail
          refine (has_is (some ⟨g3, 0, none⟩) m3 c3 N.tr (k : Int) true HFB _ (by omega) (Lib.hid (ints.IL.of_own HT.out))).mono ?_
          rintro e w9 ⟨rfl, rfl⟩
          go_wp2_with fail
          go_roundw
          case rel => exact ⟨k + 1, m, c, A2, by omega, by go_num, by omega, rfl, Lib.hid (by rw [HC.out]; exact HM.out), HNE.out, by rw [HC.out]; exact HO.out, HP.out, HT.out, HB.out⟩
          case measure => simp [intOf]; omega
    · have hkd : decide (k < n) = false := by simpa using hlt
      obtain rfl : n = k := by omega
      have HFIN := Lib.hid (show wr.ownsRow w.heap.size 3 1 (.slice A2 m c) (clN ts N ts.length).length (ints.intsV (clN ts N ts.length)) by rw [HL.out, HM.out]; exact HO.out)
      clear hlt
      go_wp2_with fail
      go_ret
      exact ⟨_, rfl, HFIN.out, HB.out⟩
end Go.Proofs.YtiimegmaokfpgabGreatDoor.nt
namespace Go.Proofs.YtiimegmaokfpgabGreatDoor.lp
open Go.RowKit
open reads base ty lg rowi hs nt
set_option linter.unusedVariables false
set_option linter.unusedSimpArgs false
end Go.Proofs.YtiimegmaokfpgabGreatDoor.lp
namespace Go.Proofs.YtiimegmaokfpgabGreatDoor.lp
open Go.RowKit
open reads base ty lg rowi hs nt
set_option linter.unusedVariables false
set_option linter.unusedSimpArgs false
end Go.Proofs.YtiimegmaokfpgabGreatDoor.lp
namespace Go.Proofs.YtiimegmaokfpgabGreatDoor.lp
open Go.RowKit
open reads base ty lg rowi hs nt
set_option linter.unusedVariables false
set_option linter.unusedSimpArgs false
end Go.Proofs.YtiimegmaokfpgabGreatDoor.lp
namespace Go.Proofs.YtiimegmaokfpgabGreatDoor.lp
open Go.RowKit
open reads base ty lg rowi hs nt
set_option linter.unusedVariables false
set_option linter.unusedSimpArgs false
section
variable {w v v' : World} {B g m X : Nat} {L : List Int} {s : Sf} {y : Lg}
end
end Go.Proofs.YtiimegmaokfpgabGreatDoor.lp
namespace Go.Proofs.YtiimegmaokfpgabGreatDoor.lp
open Go.RowKit
open reads base ty lg rowi hs nt
set_option linter.unusedVariables false
set_option linter.unusedSimpArgs false
end Go.Proofs.YtiimegmaokfpgabGreatDoor.lp
namespace Go.Proofs.YtiimegmaokfpgabGreatDoor.lp
open Go.RowKit
open reads base ty lg rowi hs nt
set_option linter.unusedVariables false
set_option linter.unusedSimpArgs false
theorem flatLg_append (a b : List Lg) : flatLg (a ++ b) = flatLg a ++ flatLg b := by simp [flatLg]
theorem flat_one (ts : List Lg) : ∀ u ∈ flatLg ts, u.oneCell' = true := by
  intro u hu
  unfold flatLg at hu
  obtain ⟨t, -, h⟩ := List.mem_flatMap.1 hu
  simp at h
  rcases h with rfl | rfl | rfl | rfl | rfl <;> rfl
theorem flat_cell {w : World} {B g n : Nat} {ts : List Lg} (h : LgAt w B (some ⟨g, 0, none⟩) n ts) : ∀ (q : Nat) u, (flatLg ts)[q]? = some u → w.cell? ⟨g, q, none⟩ = some u := by
  intro q u hu
  have hq : q < n * 5 := by have := lt_at hu; rw [flatLg_len, h.1] at this; exact this
  obtain ⟨t, ht⟩ := at_lt h.1 (show q / 5 < n by omega)
  obtain ⟨f0, f1, f2, f3, f4⟩ := flatLg_at ts (q / 5) t ht
  obtain ⟨g', e, -, c0, c1, c2, c3, c4⟩ := h.2 (q / 5) t ht
  obtain rfl : g = g' := by injection e with e; injection e
  have hr : q % 5 = 0 ∨ q % 5 = 1 ∨ q % 5 = 2 ∨ q % 5 = 3 ∨ q % 5 = 4 := by omega
  rcases hr with r | r | r | r | r
  · rw [show q / 5 * 5 = q by omega] at f0 c0; rw [c0, ← f0, hu]
  · rw [show q / 5 * 5 + 1 = q by omega] at f1 c1; rw [c1, ← f1, hu]
  · rw [show q / 5 * 5 + 2 = q by omega] at f2 c2; rw [c2, ← f2, hu]
  · rw [show q / 5 * 5 + 3 = q by omega] at f3 c3; rw [c3, ← f3, hu]
  · rw [show q / 5 * 5 + 4 = q by omega] at f4 c4; rw [c4, ← f4, hu]
theorem flat_take {w : World} {B g n : Nat} {ts : List Lg} (h : LgAt w B (some ⟨g, 0, none⟩) n ts) (k : Nat) : ∀ (q : Nat) u, (flatLg (ts.take k))[q]? = some u → w.cell? ((⟨g, 0, none⟩ : Addr).add q) = some u := by
  intro q u hu
  have e : (⟨g, 0, none⟩ : Addr).add q = ⟨g, q, none⟩ := by unfold Addr.add; by_cases hj : q = 0 <;> simp [hj]
  rw [e]
  refine flat_cell h q u ?_
  have := lt_at hu
  rw [← List.take_append_drop k ts, flatLg_append, List.getElem?_append_left this]
  exact hu
theorem flat_drop {w : World} {B g n : Nat} {ts : List Lg} (h : LgAt w B (some ⟨g, 0, none⟩) n ts) (k : Nat) (hk : k ≤ n) : ∀ (q : Nat) u, (flatLg (ts.drop k))[q]? = some u → w.cell? ((⟨g, k * 5, none⟩ : Addr).add q) = some u := by
  intro q u hu
  have e : (⟨g, k * 5, none⟩ : Addr).add q = ⟨g, k * 5 + q, none⟩ := by unfold Addr.add; by_cases hj : q = 0 <;> simp [hj]
  rw [e]
  refine flat_cell h (k * 5 + q) u ?_
  have hl : (flatLg (ts.take k)).length = k * 5 := by rw [flatLg_len, List.length_take, h.1]; congr 1; omega
  rw [← List.take_append_drop k ts, flatLg_append, List.getElem?_append_right (by omega), hl, Nat.add_sub_cancel_left]
  exact hu
theorem step_legs {ops : Array Oper} {o : Oper} {a : Act} {w : World} {K : Act → World → Prop} {Q : Exit → Act → World → Prop} {E : Prop} (hgd : o.guard = none) (s x : Operand) (ho : o.op = .call { callee := .builtin .append, args := #[s, x], argTypes := #[24, 24] })
    {bs n m c : Nat} {v : Value} {xs news : List Value} {ad : Addr} (hs : a.eval s = v) (hown : w.ownsRow bs 87 5 v n xs) (hx : a.eval x = .slice (some ad) m c) (hl : news.length = m * 5) (hnews : ∀ j u, news[j]? = some u → w.cell? (ad.add j) = some u) (h1 : ∀ u ∈ news, u.oneCell' = true) (h6 : n + m ≤ 1000000) (hb : bs ≤ w.heap.size)
    (h : ∀ v' w', w'.ownsRow bs 87 5 v' (n + m) (xs ++ news) → w.grownBy w' v.ownBlock → K (a.put o.dst v') w') :
    if Region.wanted o (yielded ops a.tmps) = true then Oper.wp Tryz.prog o a w K Q else E := by
  obtain ⟨i0, hi, hz0, hz1, hz2⟩ := info_parts infoLg
  rw [if_pos (show Region.wanted o (yielded ops a.tmps) = true by simp [Region.wanted, hgd])]
  exact wp_append_own w s x _ ho bs 87 i0 (.agg #[.int .i64 0, .int .i64 0, .int .i64 0, .int .i64 0, .int .i64 0]) 5 40 Tryz.underlying24 hi hz0 hz1 hz2 rfl (by decide) v n xs hs hown ad m c news hx hl hnews h1 (by unfold maxLen; omega) (by omega) hb (fun v' w' h1 h2 _ => h v' w' h1 h2)
end Go.Proofs.YtiimegmaokfpgabGreatDoor.lp
namespace Go.Proofs.YtiimegmaokfpgabGreatDoor.lp
open Go.RowKit
open reads base inn ty lg rowi hs nt
set_option linter.unusedVariables false
set_option linter.unusedSimpArgs false
end Go.Proofs.YtiimegmaokfpgabGreatDoor.lp
