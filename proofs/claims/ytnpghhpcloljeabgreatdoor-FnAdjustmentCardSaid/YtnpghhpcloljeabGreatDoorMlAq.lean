/-
  The model: where a station stands in a list, fractions in lowest terms, the placed legs, measures, the unknown stations.
  The model: the placed legs, the unknown stations, measures and residuals of a leg.
  The legs of a network as the equations of its stations (pure mathematics): what one leg adds to a matrix.
  The network of legs as a balanced one (pure mathematics): its stations, its legs, its determinants.
  The model: the residual of a leg, times a denominator.
  The model's matrix of a network: what lies in memory while it is made.
  Conditions: those that each theorem names.
-/
import Derived.Test.YtnpghhpcloljeabGreatDoorMtA
import Derived.Test.YtnpghhpcloljeabGreatDoorNtCq
import Derived.Test.YtnpghhpcloljeabGreatDoorMostq
import Derived.StillTailTactics
import Derived.Test.YtnpghhpcloljeabGreatDoorLgD
import Derived.Deep.RegionHeld3
import Derived.Test.YtnpghhpcloljeabGreatDoorMdM
import Derived.Deep.RegionWith
import Derived.BigRegion
namespace Go.Proofs.YtnpghhpcloljeabGreatDoor.ml
open Go.RowKit
open reads base ty lg rowi hs nt mt
set_option linter.unusedVariables false
set_option linter.unusedSimpArgs false

/-- a list of ints in memory, from an offset on -/
def IO (w : World) (B : Nat) (A : Option Addr) (n : Nat) (xs : List Int) : Prop := xs.length = n ∧ ∀ k x, xs[k]? = some x → ∃ g o, A = some ⟨g, o, none⟩ ∧ g < B ∧ w.cell? ⟨g, o + k, none⟩ = some (.int .i64 x)
theorem IO.below {w w' : World} {B n : Nat} {A : Option Addr} {xs : List Int} (h : IO w B A n xs) (hb : Below B w w') : IO w' B A n xs :=
  ⟨h.1, fun k x hx => by
    obtain ⟨g, o, e, hg, hc⟩ := h.2 k x hx
    exact ⟨g, o, e, hg, (hb.cell (p := ⟨g, o + k, none⟩) hg).trans hc⟩⟩
theorem IO.more {w : World} {B B' n : Nat} {A : Option Addr} {xs : List Int} (h : IO w B A n xs) (hB : B ≤ B') : IO w B' A n xs :=
  ⟨h.1, fun k x hx => by
    obtain ⟨g, o, e, hg, hc⟩ := h.2 k x hx
    exact ⟨g, o, e, by omega, hc⟩⟩
theorem IO.step {w w' : World} {n : Nat} {A : Option Addr} {xs : List Int} (h : IO w w.heap.size A n xs) (hb : Below w.heap.size w w') : IO w' w'.heap.size A n xs := (h.below hb).more hb.size
theorem IO.of_own {w : World} {base n : Nat} {e : TypeId} {A : Option Addr} {c : Nat} {xs : List Int} (h : w.ownsRow base e 1 (.slice A n c) n (ints.intsV xs)) : IO w w.heap.size A n xs := by
  have i := ints.IL.of_own h
  refine ⟨i.1, fun k x hx => ?_⟩
  obtain ⟨g, e, hc⟩ := i.2 k x hx
  exact ⟨g, 0, e, lt_of_cell hc, by rw [Nat.zero_add]; exact hc⟩
/-- where a station stands in a list -/
def Fnd (xs : List Int) (s r : Int) : Prop := (r = -1 ∧ s ∉ xs) ∨ ∃ k : Nat, r = k ∧ xs[k]? = some s
set_option maxHeartbeats 4000000 in
theorem find_any (A : Option Addr) (n cap : Nat) (xs : List Int) (a r : Int) (w : World) (hn : n ≤ 2000000) (B : Nat) (hx : Hid (IO w B A n xs)) (hr : Hid (Fnd xs a r)) (hd : Hid xs.Nodup) :
    Calls Tryz.prog 152 #[.slice A n cap, .int .i64 a] w fun e w' => e = .returned (.int .i64 r) ∧ w' = w := by
  have hL : Hid (xs.length = n) := Lib.hid hx.out.1
  go_enter Tryz.func152, Tryz.ntmps152
  go_wp2_with fail
  go_loop [5] (fun i => ∃ k : Nat, k ≤ n ∧ i = .int .i64 k ∧ Hid ((xs.take k).all (fun x => !(x == a)) = true)) (fun i => n - (intOf i).toNat)
  case atStart => exact ⟨0, Nat.zero_le _, rfl, Lib.hid (by simp)⟩
  case round =>
    obtain ⟨k, hk, rfl, HI⟩ := hrel
    have hk0 : 0 ≤ (k : Int) := by omega
    by_cases h1 : k < n
    · have hki : (k : Int) < (n : Int) := by omega
      have hkd : decide (k < n) = true := by simpa using h1
      obtain ⟨x, hxk⟩ := at_lt hL.out h1
      obtain ⟨g, o, rfl, -, e0⟩ := hx.out.2 k x hxk
      have HK := Lib.hid hxk
      clear hxk
      by_cases he : x = a
      · have HF := Lib.hid (show r = (k : Int) by
          rcases hr.out with ⟨-, q⟩ | ⟨j, q, hj⟩
          · exact absurd (by rw [← he]; exact List.mem_of_getElem? HK.out) q
          · rw [q]
            have h2 := HK.out
            rw [he] at h2
            have := (List.getElem?_inj (lt_at hj) hd.out).1 (by rw [hj, h2] : xs[j]? = xs[k]?)
            rw [this])
        have hd2 : (x == a) = true := by simpa using he
        subst he
        go_wp2_with fail
        go_ret
        exact ⟨by rw [HF.out]; rfl, rfl⟩
      · have HN := Lib.hid (all_take (p := fun x => !(x == a)) HK.out HI.out (by simpa using he))
        have hd2 : (x == a) = false := by simpa using he
        have hd3 : decide (x = a) = false := by simpa using he
        clear he
        go_wp2_with fail
        go_round
        case rel => exact ⟨k + 1, by omega, by go_num, HN⟩
        case measure => simp [intOf]; omega
    · have hkd : decide (k < n) = false := by simpa using h1
      obtain rfl : k = n := by omega
      have HF := Lib.hid (show r = -1 by
        rcases hr.out with ⟨q, -⟩ | ⟨j, q, hj⟩
        · exact q
        · have := mem_no (xs := xs) (a := a) (by rw [hL.out]; exact HI.out)
          have h2 := mem_iff.2 (List.mem_of_getElem? hj)
          rw [this] at h2; cases h2)
      clear h1
      go_wp2_with fail
      go_ret
      exact ⟨by rw [HF.out]; rfl, rfl⟩

/-! fractions -/
/-- what the greatest common divisor's loop keeps: a and b have the divisors that u and v have -/
def Gc (u v : Nat) (a b : Nat) : Prop := Nat.gcd a b = Nat.gcd u v
theorem gc_start (u v : Nat) : Gc u v u v := rfl
theorem gc_step {u v a b : Nat} (h : Gc u v a b) : Gc u v b (a % b) := by
  unfold Gc at h ⊢
  rw [← h, Nat.gcd_comm b (a % b), ← Nat.gcd_rec, Nat.gcd_comm]
/-- a fraction in lowest terms -/
def redN (num den : Int) : Int := num.tdiv (Nat.gcd num.natAbs den.natAbs)
def redD (num den : Int) : Int := den.tdiv (Nat.gcd num.natAbs den.natAbs)
def lim62 (x : Int) : Prop := -4611686018427387904 ≤ x ∧ x ≤ 4611686018427387904
theorem tdiv_lim {x : Int} (y : Int) (h : lim62 x) : lim62 (x.tdiv y) := by
  have h2 : (x.tdiv y).natAbs ≤ x.natAbs := by rw [Int.natAbs_tdiv]; exact Nat.div_le_self _ _
  unfold lim62 at h ⊢; omega
set_option maxHeartbeats 4000000 in
theorem reduce_any (num den n d : Int) (w : World) (h1 : lim62 num) (h2 : lim62 den) (h3 : 1 ≤ den) (hn : Hid (redN num den = n)) (hd : Hid (redD num den = d)) :
    Calls Tryz.prog 81 #[.int .i64 num, .int .i64 den] w (APost (.tuple #[.int .i64 n, .int .i64 d]) w) := by
  obtain ⟨v, rfl⟩ : ∃ v : Nat, den = (v : Int) := ⟨den.toNat, by omega⟩
  obtain ⟨u, HU⟩ : ∃ u : Nat, Hid (num.natAbs = u) := ⟨_, Lib.hid rfl⟩
  have HM := Lib.hid (show mst.mx num (-num) = (u : Int) by rw [← HU.out]; unfold mst.mx; split <;> omega)
  have HG := Lib.hid (show 0 < Nat.gcd u v from Nat.gcd_pos_of_pos_right _ (by omega))
  have HN := Lib.hid (show num.tdiv (Nat.gcd u v : Nat) = n by have := hn.out; unfold redN at this; rw [HU.out, Int.natAbs_natCast] at this; exact this)
  have HD := Lib.hid (show (v : Int).tdiv (Nat.gcd u v : Nat) = d by have := hd.out; unfold redD at this; rw [HU.out, Int.natAbs_natCast] at this; exact this)
  have HLN := Lib.hid (show lim62 n by rw [← HN.out]; exact tdiv_lim _ h1)
  have HLD := Lib.hid (show lim62 d by rw [← HD.out]; exact tdiv_lim _ h2)
  have l1 := h1
  have l2 := h2
  unfold lim62 at l1 l2
  have hul : u ≤ 4611686018427387904 := by rw [← HU.out]; omega
  have hvl : v ≤ 4611686018427387904 := by omega
  have xn : IntKind.i64.wrap (-num) = -num := IntWalk.i64_in _ (by omega)
  clear h1 h2 hn hd
  go_enter Tryz.func81, Tryz.ntmps81
  go_wp2_with fail
  refine (mst.most_is num (-num) (u : Int) HM _).mono ?_
  rintro e w1 ⟨rfl, rfl⟩
  go_wp2_with fail
  go_loop [6, 7] (fun x y => ∃ a b : Nat, a ≤ 4611686018427387904 ∧ b ≤ 4611686018427387904 ∧ x = .int .i64 (a : Nat) ∧ y = .int .i64 (b : Nat) ∧ Hid (Gc u v a b)) (fun _ y => (intOf y).toNat)
  case atStart => exact ⟨u, v, hul, hvl, rfl, rfl, Lib.hid rfl⟩
  case round =>
    obtain ⟨a, b, ha, hb, rfl, rfl, HI⟩ := hrel
    by_cases hz : b = 0
    · subst hz
      obtain ⟨q, hq⟩ : ∃ q, q = Nat.gcd u v := ⟨_, rfl⟩
      obtain rfl : a = q := by have := HI.out; unfold Gc at this; rw [Nat.gcd_zero_right] at this; rw [hq]; exact this
      have hq1 : 0 < a := by rw [hq]; exact HG.out
      have a0 : ¬ (a : Int) = 0 := by omega
      have a1 : ((a : Int) == 0) = false := by simp; omega
      have a2 : ¬ a = 0 := by omega
      have k1 : num.tdiv (a : Int) = n := by rw [hq]; exact HN.out
      have k2 : (v : Int).tdiv (a : Int) = d := by rw [hq]; exact HD.out
      have y1 : IntKind.i64.wrap n = n := IntWalk.i64_in _ (by have := HLN.out; unfold lim62 at this; omega)
      have y2 : IntKind.i64.wrap d = d := IntWalk.i64_in _ (by have := HLD.out; unfold lim62 at this; omega)
      clear hq HI xn
      go_upto_region 6 with fail
      go_region
      go_wp2_with fail
      go_ret2
      exact ⟨rfl, (Below.refl _ _).drew⟩
    · have b0 : ¬ (b : Int) = 0 := by omega
      have b1 : ((b : Int) == 0) = false := by simp; omega
      have b2 : ((b : Int) != 0) = true := by simp; omega
      have hml := Nat.mod_lt a (Nat.pos_of_ne_zero hz)
      have k1 : (a : Int).tmod (b : Int) = ((a % b : Nat) : Int) := rfl
      have HS := Lib.hid (gc_step HI.out)
      have k2 : IntKind.i64.wrap ((a % b : Nat) : Int) = ((a % b : Nat) : Int) := IntWalk.i64_in _ (by omega)
      obtain ⟨r, hr⟩ : ∃ r, r = a % b := ⟨_, rfl⟩
      rw [← hr] at k1 k2 HS hml
      clear hr xn
      go_wp2_with fail
      go_round
      case rel => exact ⟨b, r, by omega, by omega, rfl, rfl, HS⟩
      case measure => simp [intOf]; omega
end Go.Proofs.YtnpghhpcloljeabGreatDoor.ml

namespace Go.Proofs.YtnpghhpcloljeabGreatDoor.ml
open Go.RowKit
open reads base ty lg rowi hs nt mt
set_option linter.unusedVariables false
set_option linter.unusedSimpArgs false

theorem own_cap {w : World} {base size n c : Nat} {e : TypeId} {A : Option Addr} {xs : List Value} (h : w.ownsRow base e size (.slice A n c) n xs) : n ≤ c := by
  rcases h.2 with ⟨h1, h2⟩ | ⟨g, cap, cur, h1, -, -, h2, -⟩
  · omega
  · injection h1 with _ _ h3; omega
/-- the placed legs below k -/
def plN (ts : List Lg) (k : Nat) : List Int := idxs (fun x => mem (net ts).ps x.frm) ts k
def plIds (ts : List Lg) : List Int := plN ts ts.length
/-- a list of ints that the call has made -/
def JPo (xs : List Int) (w : World) (e : Ending) (w' : World) : Prop :=
  ∃ v, e = .returned v ∧ w'.ownsRow w.heap.size 3 1 v xs.length (ints.intsV xs) ∧ Below w.heap.size w w'
set_option maxHeartbeats 8000000 in
set_option maxRecDepth 100000 in
theorem legs9_any (A : Option Addr) (n cap : Nat) (ts : List Lg) (w : World) (hg : Hid (goodLg ts = true)) (hts : Hid (LgAt w w.heap.size A n ts)) :
    Calls Tryz.prog 80 #[.slice A n cap] w (JPo (plIds ts) w) := by
  obtain ⟨i0, hi, hz0, hz1, hz2⟩ := info_parts infoI
  have HL := Lib.hid hts.out.1
  have hn12 := len12 HL.out hg.out
  have HP := Lib.hid (show plIds ts = plN ts n by unfold plIds; rw [HL.out])
  obtain ⟨m2, HM2⟩ : ∃ m, Hid ((net ts).ps.length = m) := ⟨_, Lib.hid rfl⟩
  go_enter Tryz.func80, Tryz.ntmps80
  go_wp2_with fail
  refine (place_any A n cap ts _ hg hts).mono ?_
  rintro e w1 ⟨g1, g2, c2, g3, c3, rfl, hN⟩
  rw [HM2.out] at hN ⊢
  have hm2 : m2 ≤ 8 := by rw [← HM2.out]; exact (ok_net hg.out).ps_len
  have HIL := Lib.hid (ints.IL.of_own hN.2.2.1)
  have HB1 := Lib.hid hN.1
  have HPS := Lib.hid hN.2.2.1
  clear hN
  have HR1 := Lib.hid (show (w1.alloc (.cells #[] 3)).ownsRow w.heap.size 3 1 (.slice (some ⟨w1.heap.size, 0, none⟩) 0 0) 0 [] from World.ownsRow_made w1 #[] 0 HB1.out.size (by decide) (by simp))
  have HBA := Lib.hid (HB1.out.alloc HB1.out.size (.cells #[] 3))
  have HPA := Lib.hid (HPS.out.alloc (.cells #[] 3))
  have hg2 := (HPS.out.lt g2 rfl)
  have hg2n : g2 ≠ w1.heap.size := by omega
  have HNE0 := Lib.hid (show ∀ g, (Value.slice (some ⟨w1.heap.size, 0, none⟩) 0 0).ownBlock = some g → g2 ≠ g from fun g e h => by
    have e2 : w1.heap.size = g := by simpa [Value.ownBlock] using e
    omega)
  clear hg2 hg2n HIL HB1 HPS
  go_wp2_with fail
  go_loopw [6, 7] (fun v i wr => ∃ (k m c : Nat) (A2 : Option Addr), k ≤ n ∧ i = .int .i64 (k : Nat) ∧ m ≤ k ∧ v = .slice A2 m c ∧ Hid ((plN ts k).length = m) ∧ (∀ g, (Value.slice A2 m c).ownBlock = some g → g2 ≠ g) ∧ wr.ownsRow w.heap.size 3 1 (.slice A2 m c) m (ints.intsV (plN ts k)) ∧ wr.ownsRow w.heap.size 3 1 (.slice (some ⟨g2, 0, none⟩) m2 c2) m2 (ints.intsV (net ts).ps) ∧ Below w.heap.size w wr) (fun _ i _ => n - (intOf i).toNat)
  case atStart => exact ⟨0, 0, 0, _, Nat.zero_le _, rfl, Nat.le_refl _, rfl, Lib.hid rfl, HNE0.out, HR1.out, HPA.out, HBA.out⟩
  case round =>
    obtain ⟨k, m, c, A2, hk, rfl, hmk, rfl, HM, hne, hO, hPP, hB⟩ := hrel
    have HO := Lib.hid hO
    have HPP := Lib.hid hPP
    have HB := Lib.hid hB
    have HNE := Lib.hid hne
    have hBs := hB.size
    clear hO hPP hB hne HR1 HPA HBA HNE0
    have hk0 : (0 : Int) ≤ (k : Int) := by omega
    by_cases hlt : k < n
    · obtain ⟨x, hx⟩ := at_lt HL.out hlt
      obtain ⟨gL, rfl, hgL, e0, e1, e2, e3, e4⟩ := (hts.out.below HB.out).2 k x hx
      have HX := Lib.hid hx
      have hki : (k : Int) < (n : Int) := by omega
      have hkd : decide (k < n) = true := by simpa using hlt
      clear hx e1 e2 e3 e4
      cases hfa : mem (net ts).ps x.frm
      · have HH := Lib.hid hfa
        have HC := Lib.hid (show plN ts (k + 1) = plN ts k from idxs_no HX.out hfa)
        clear hfa
        go_wp2_with fail
        refine (has_is _ m2 c2 (net ts).ps x.frm false HH _ (by omega) (Lib.hid (ints.IL.of_own HPP.out))).mono ?_
        rintro e w5 ⟨rfl, rfl⟩
        clear e0
        go_wp2_with fail
        go_roundw
        case rel => exact ⟨k + 1, m, c, A2, by omega, by go_num, by omega, rfl, Lib.hid (by rw [HC.out]; exact HM.out), HNE.out, by rw [HC.out]; exact HO.out, HPP.out, HB.out⟩
        case measure => simp [intOf]; omega
      · have HH := Lib.hid hfa
        have HC := Lib.hid (show plN ts (k + 1) = plN ts k ++ [(k : Int)] from idxs_yes HX.out hfa)
        clear hfa
        go_wp2_with fail
        refine (has_is _ m2 c2 (net ts).ps x.frm true HH _ (by omega) (Lib.hid (ints.IL.of_own HPP.out))).mono ?_
        rintro e w5 ⟨rfl, rfl⟩
        clear e0
        go_wp2_with (at_builtin; refine wpList_append_lies _ rfl _ _ 27 rfl w.heap.size 3 i0 (.int .i64 0) 1 8 Tryz.underlying27 hi hz0 hz1 hz2 rfl (by decide) _ _ _ rfl (HO.out.alloc _) ⟨wr.heap.size, 0, none⟩ 1 1 [.int .i64 (k : Int)] rfl rfl (cell_one_new _ _ _) (by simp [Value.oneCell']) (by decide) (by unfold maxLen; omega) (by omega) (by simp; omega) _ rfl ?_; intro g9 c9 w3 hown' hgrow hat hlt9)
        have hg2l := (HPP.out.lt g2 rfl).2
        have HNE9 := Lib.hid (show ∀ g, (Value.slice (some ⟨g9, 0, none⟩) (m + 1) c9).ownBlock = some g → g2 ≠ g from fun g e h => by
          have e1 : g9 = g := by simpa [Value.ownBlock] using e
          rcases hat with z | z
          · exact HNE.out g9 z (by omega)
          · have z2 : g9 = wr.heap.size + 1 := by simpa using z
            omega)
        have HAL := Lib.hid ((Below.refl wr.heap.size wr).alloc (Nat.le_refl _) (.cells #[.int .i64 (k : Int)] 3))
        have HP9 := Lib.hid ((row_below HPP.out HAL.out).kept hgrow (.inr (fun e => HNE.out g2 e.symm rfl)))
        have HB9 := Lib.hid ((HB.out.trans (HAL.out.mono hBs)).grown hgrow (by simp; omega) (fun g e => (HO.out.lt g e).1))
        have HO9 := Lib.hid (show w3.ownsRow w.heap.size 3 1 (.slice (some ⟨g9, 0, none⟩) (m + 1) c9) (m + 1) (ints.intsV (plN ts (k + 1))) by rw [HC.out, intsV_app]; exact hown')
        clear hown' hgrow hat
        go_wp2_with fail
        go_roundw
        case rel => exact ⟨k + 1, m + 1, c9, some ⟨g9, 0, none⟩, by omega, by go_num, by omega, rfl, Lib.hid (by rw [HC.out, List.length_append, HM.out]; rfl), HNE9.out, HO9.out, HP9.out, HB9.out⟩
        case measure => simp [intOf]; omega
    · have hkd : decide (k < n) = false := by simpa using hlt
      obtain rfl : k = n := by omega
      have HFIN := Lib.hid (show wr.ownsRow w.heap.size 3 1 (.slice A2 m c) (plIds ts).length (ints.intsV (plIds ts)) by rw [HP.out, HM.out]; exact HO.out)
      clear hlt
      go_wp2_with fail
      go_ret
      exact ⟨_, rfl, HFIN.out, HB.out⟩
/-- the unknown stations -/
def unk (ts : List Lg) : List Int := (net ts).ps.tail
def UPo (xs : List Int) (w : World) (e : Ending) (w' : World) : Prop :=
  ∃ A m c, e = .returned (.slice A m c) ∧ xs.length = m ∧ IO w' w'.heap.size A m xs ∧ Below w.heap.size w w'
set_option maxHeartbeats 8000000 in
set_option maxRecDepth 100000 in
theorem unk_any (A : Option Addr) (n cap : Nat) (ts : List Lg) (w : World) (hg : Hid (goodLg ts = true)) (hts : Hid (LgAt w w.heap.size A n ts)) :
    Calls Tryz.prog 122 #[.slice A n cap] w (UPo (unk ts) w) := by
  have HL := Lib.hid hts.out.1
  obtain ⟨ps, HPS⟩ : ∃ p, Hid ((net ts).ps = p) := ⟨_, Lib.hid rfl⟩
  have HU := Lib.hid (show unk ts = ps.tail by unfold unk; rw [HPS.out])
  have hm1 : 0 < ps.length := by rw [← HPS.out]; exact List.length_pos_of_mem (ok_net hg.out).2.2.2.2.2.1
  have hm2 : ps.length ≤ 8 := by rw [← HPS.out]; exact (ok_net hg.out).ps_len
  obtain ⟨m2, HM2⟩ : ∃ m, Hid (ps.length = m) := ⟨_, Lib.hid rfl⟩
  rw [HM2.out] at hm1 hm2
  go_enter Tryz.func122, Tryz.ntmps122
  go_wp2_with fail
  refine (place_any A n cap ts _ hg hts).mono ?_
  rintro e w1 ⟨g1, g2, c2, g3, c3, rfl, hN⟩
  rw [HPS.out, HM2.out] at hN ⊢
  have HB1 := Lib.hid hN.1
  have HR := Lib.hid hN.2.2.1
  have hc2 : m2 ≤ c2 := own_cap hN.2.2.1
  clear hN
  have hm0 : 1 ≤ m2 := hm1
  have HLT := Lib.hid (show (unk ts).length = m2 - 1 by rw [HU.out, List.length_tail, HM2.out])
  have HIO := Lib.hid (show ∀ k x, (unk ts)[k]? = some x → w1.cell? ⟨g2, 1 + k, none⟩ = some (.int .i64 x) from fun k x hx => by
    rw [HU.out, List.getElem?_tail] at hx
    obtain ⟨g, e, hc⟩ := (ints.IL.of_own HR.out).2 (k + 1) x (by rw [HPS.out]; exact hx)
    obtain rfl : g2 = g := by injection e with e; injection e
    rw [Nat.add_comm 1 k]; exact hc)
  have hlt2 := (HR.out.lt g2 rfl).2
  by_cases hc1 : c2 = 1
  · obtain rfl : m2 = 1 := by omega
    subst hc1
    go_wp2_with fail
    go_ret
    refine ⟨_, _, _, rfl, HLT.out, ⟨HLT.out, fun k x hx => ?_⟩, HB1.out⟩
    have h1 := lt_at hx
    rw [HLT.out] at h1; omega
  · have hm3 : m2 - 1 ≤ c2 - 1 := by omega
    go_wp2_with fail
    go_ret
    exact ⟨_, _, _, rfl, HLT.out, ⟨HLT.out, fun k x hx => ⟨g2, 1, rfl, hlt2, HIO.out k x hx⟩⟩, HB1.out⟩
/-- the measure of a leg on an axis -/
def msA (x : Lg) (ax : Int) : Int := if ax = 0 then (shf x).east else if ax = 1 then (shf x).north else (shf x).up
theorem msA_bd {x : Lg} (h : okLg x = true) (ax : Int) : -500 ≤ msA x ax ∧ msA x ax ≤ 500 := by
  have := shf_bd h
  unfold msA; split
  · omega
  · split <;> omega
set_option maxHeartbeats 8000000 in
set_option maxRecDepth 100000 in
theorem measure_any (x : Lg) (ax r : Int) (w : World) (hx : Hid (okLg x = true)) (h0 : 0 ≤ ax) (h2 : ax ≤ 2) (hr : Hid (msA x ax = r)) :
    Calls Tryz.prog 131 #[.agg #[.int .i64 x.frm, .int .i64 x.to_, .int .i64 x.tape, .int .i64 x.comp, .int .i64 x.slope], .int .i64 ax] w (APost (.int .i64 r) w) := by
  have HB0 := Lib.hid ((Below.refl w.heap.size w).alloc (Nat.le_refl _) (.cells #[.int .i64 x.frm, .int .i64 x.to_, .int .i64 x.tape, .int .i64 x.comp, .int .i64 x.slope] 87))
  have hax : ax = 0 ∨ ax = 1 ∨ ax = 2 := by omega
  obtain ⟨s, HS⟩ : ∃ s, Hid (shf x = s) := ⟨_, Lib.hid rfl⟩
  rcases hax with rfl | rfl | rfl
  · obtain rfl : r = s.east := by rw [← hr.out, ← HS.out]; rfl
    go_enter Tryz.func131, Tryz.ntmps131
    go_wp2_with fail
    refine (shift_any x _ hx).mono ?_
    rintro e w1 ⟨rfl, b1⟩
    rw [HS.out]
    have HB1 := Lib.hid (HB0.out.trans (b1.mono HB0.out.size))
    clear b1
    go_wp2_with fail
    go_ret
    exact ⟨rfl, (HB1.out.alloc HB1.out.size _).alloc (by have := HB1.out.size; simp; omega) _⟩
  · obtain rfl : r = s.north := by rw [← hr.out, ← HS.out]; rfl
    go_enter Tryz.func131, Tryz.ntmps131
    go_wp2_with fail
    refine (shift_any x _ hx).mono ?_
    rintro e w1 ⟨rfl, b1⟩
    rw [HS.out]
    have HB1 := Lib.hid (HB0.out.trans (b1.mono HB0.out.size))
    clear b1
    go_wp2_with fail
    go_ret
    exact ⟨rfl, (HB1.out.alloc HB1.out.size _).alloc (by have := HB1.out.size; simp; omega) _⟩
  · obtain rfl : r = s.up := by rw [← hr.out, ← HS.out]; rfl
    go_enter Tryz.func131, Tryz.ntmps131
    go_wp2_with fail
    refine (shift_any x _ hx).mono ?_
    rintro e w1 ⟨rfl, b1⟩
    rw [HS.out]
    have HB1 := Lib.hid (HB0.out.trans (b1.mono HB0.out.size))
    clear b1
    go_wp2_with fail
    go_ret
    exact ⟨rfl, (HB1.out.alloc HB1.out.size _).alloc (by have := HB1.out.size; simp; omega) _⟩
end Go.Proofs.YtnpghhpcloljeabGreatDoor.ml

namespace Go.Proofs.YtnpghhpcloljeabGreatDoor.dt
open Go.RowKit
open reads base ty lg hs nt ml mt
set_option linter.unusedVariables false

def lgAt (ts : List Lg) (i : Int) : Lg := (ts[i.toNat]?).getD ⟨0, 0, 0, 0, 0⟩
theorem lgAt_is {ts : List Lg} {k : Nat} {x : Lg} (h : ts[k]? = some x) : lgAt ts (k : Int) = x := by unfold lgAt; rw [Int.toNat_natCast, h]; rfl
def edOf (ax : Int) (x : Lg) : Ed := ⟨x.frm.toNat, x.to_.toNat, msA x ax⟩
def eds (ts : List Lg) (ax : Int) (U : List Int) : List Ed := U.map (fun i => edOf ax (lgAt ts i))
theorem edOf_ok {x : Lg} (h : okLg x = true) (ax : Int) : EdOk (edOf ax x) := by
  obtain ⟨⟨a0, a1⟩, ⟨b0, b1⟩, c, -⟩ := okLg_lim h
  have := msA_bd h ax
  refine ⟨?_, ?_, ?_, this.1, this.2⟩ <;> (simp only [edOf]; omega)
/-- the placed legs are legs -/
theorem plN_mem {ts : List Lg} : ∀ {k : Nat} {i : Int}, i ∈ plN ts k → ∃ j : Nat, i = j ∧ j < k ∧ ∃ x, ts[j]? = some x ∧ mem (net ts).ps x.frm = true
  | 0, i, h => by simp [plN, rowi.idxs] at h
  | k + 1, i, h => by
    cases e : ts[k]? with
    | none =>
      have e1 : plN ts (k + 1) = plN ts k := by unfold plN; rw [rowi.idxs, e]
      rw [e1] at h
      obtain ⟨j, h1, h2, h3⟩ := plN_mem h
      exact ⟨j, h1, by omega, h3⟩
    | some x =>
      cases q : mem (net ts).ps x.frm
      · have e1 : plN ts (k + 1) = plN ts k := rowi.idxs_no e q
        rw [e1] at h
        obtain ⟨j, h1, h2, h3⟩ := plN_mem h
        exact ⟨j, h1, by omega, h3⟩
      · have e1 : plN ts (k + 1) = plN ts k ++ [(k : Int)] := rowi.idxs_yes e q
        rw [e1] at h
        rcases List.mem_append.1 h with z | z
        · obtain ⟨j, h1, h2, h3⟩ := plN_mem z
          exact ⟨j, h1, by omega, h3⟩
        · exact ⟨k, by simpa using z, by omega, x, e, q⟩
theorem plIds_at {ts : List Lg} {i : Int} (h : i ∈ plIds ts) : ∃ j : Nat, i = j ∧ ∃ x, ts[j]? = some x ∧ mem (net ts).ps x.frm = true := by
  obtain ⟨j, h1, -, h3⟩ := plN_mem h
  exact ⟨j, h1, h3⟩
theorem plIds_len' (ts : List Lg) : (plIds ts).length ≤ ts.length := rowi.idxs_len _ _ _
theorem eds_ok {ts : List Lg} (hg : goodLg ts = true) (ax : Int) {U : List Int} (hU : ∀ i ∈ U, i ∈ plIds ts) : ∀ x ∈ eds ts ax U, EdOk x := by
  intro x hx
  obtain ⟨i, hi, e⟩ := List.mem_map.1 hx
  obtain ⟨j, e1, y, hy, -⟩ := plIds_at (hU i hi)
  rw [← e, e1, lgAt_is hy]
  exact edOf_ok (goodLg_at hg hy) ax
theorem eds_take {ts : List Lg} {ax : Int} {U : List Int} {k : Nat} {i : Int} (h : U[k]? = some i) : eds ts ax (U.take (k + 1)) = eds ts ax (U.take k) ++ [edOf ax (lgAt ts i)] := by
  unfold eds; rw [take_snoc h, List.map_append]; rfl
theorem ent_le {x : Ed} (h : EdOk x) (s c : Nat) : -500 ≤ ent x s c ∧ ent x s c ≤ 500 := by
  obtain ⟨h1, h2, h3, h4, h5⟩ := h
  have q : -500 ≤ dl c x.t - dl c x.f + x.mu * dl c 8 ∧ dl c x.t - dl c x.f + x.mu * dl c 8 ≤ 500 := by
    have a := dl_range c x.t
    have b := dl_range c x.f
    by_cases e : c = 8
    · rw [e, dl_self, dl_ne (a := 8) (b := x.t) (by omega), dl_ne (a := 8) (b := x.f) (by omega)]; omega
    · rw [dl_ne e]; omega
  obtain ⟨y, hy⟩ : ∃ y, y = dl c x.t - dl c x.f + x.mu * dl c 8 := ⟨_, rfl⟩
  have a := dl_range s x.t
  have b := dl_range s x.f
  unfold ent
  rw [← hy] at q ⊢
  have p : dl s x.t - dl s x.f = 0 ∨ dl s x.t - dl s x.f = 1 ∨ dl s x.t - dl s x.f = -1 := by omega
  rcases p with p | p | p <;> rw [p] <;> omega
theorem AA_le {us : List Ed} (hu : ∀ x ∈ us, EdOk x) (s c : Nat) : -(500 * (us.length : Int)) ≤ AA us s c ∧ AA us s c ≤ 500 * us.length := by
  induction us with
  | nil => simp [AA]
  | cons x us ih =>
    have a := ih (fun y hy => hu y (List.mem_cons_of_mem _ hy))
    have b := ent_le (hu x (List.mem_cons_self ..)) s c
    simp only [AA, List.length_cons]; omega

/-! what one leg adds -/
def sAt (st : List Int) (a : Nat) : Nat := ((st[a]?).getD 0).toNat
theorem sAt_is {st : List Int} {a : Nat} {s : Int} (h : st[a]? = some s) : sAt st a = s.toNat := by unfold sAt; rw [h]; rfl
def StOk (st : List Int) : Prop := st.Nodup ∧ ∀ s ∈ st, 1 ≤ s ∧ s ≤ 7
theorem sAt_inj {st : List Int} (h : StOk st) {i j : Nat} (hi : i < st.length) (hj : j < st.length) (e : sAt st i = sAt st j) : i = j := by
  have e1 := List.getElem?_eq_getElem hi
  have e2 := List.getElem?_eq_getElem hj
  rw [sAt_is e1, sAt_is e2] at e
  have a := h.2 _ (List.getElem_mem hi)
  have b := h.2 _ (List.getElem_mem hj)
  have : st[i] = st[j] := by omega
  exact (List.getElem?_inj hi h.1).1 (by rw [e1, e2, this])
theorem sAt_ne {st : List Int} (h : StOk st) {s : Int} (hs : s ∉ st) (h0 : 0 ≤ s) {i : Nat} (hi : i < st.length) : sAt st i ≠ s.toNat := fun e => by
  have e1 := List.getElem?_eq_getElem hi
  rw [sAt_is e1] at e
  have a := h.2 _ (List.getElem_mem hi)
  exact hs (by rw [show s = st[i] by omega]; exact List.getElem_mem hi)
theorem sAt_8 {st : List Int} (h : StOk st) {i : Nat} (hi : i < st.length) : sAt st i < 8 := by
  have e1 := List.getElem?_eq_getElem hi
  rw [sAt_is e1]
  have a := h.2 _ (List.getElem_mem hi)
  omega
section
variable {st : List Int} {x : Ed} {M : Nat → Nat → Int} {r : Nat → Int} {a b : Nat}
/-- both ends are unknown -/
theorem add_both (h : StOk st) (hx : x.f ≠ x.t) (ha : a < st.length) (hb : b < st.length) (ea : sAt st a = x.f) (eb : sAt st b = x.t) {i j : Nat} (hi : i < st.length) (hj : j < st.length) :
    upd2 (upd2 (upd2 (upd2 M a a (M a a + 1)) b b (M b b + 1)) a b (M a b - 1)) b a (M b a - 1) i j = M i j + ent x (sAt st i) (sAt st j) := by
  have hab : a ≠ b := fun e => hx (by rw [← ea, ← eb, e])
  have h8 := sAt_8 h hj
  simp only [upd2_at]
  unfold ent
  rw [← ea, ← eb, dl_ne (a := sAt st j) (b := 8) (by omega)]
  have d : ∀ p q : Nat, p < st.length → q < st.length → dl (sAt st p) (sAt st q) = if p = q then 1 else 0 := fun p q hp hq => by
    by_cases e : p = q
    · rw [if_pos e, e, dl_self]
    · rw [if_neg e, dl_ne (fun z => e (sAt_inj h hp hq z))]
  rw [d i b hi hb, d i a hi ha, d j b hj hb, d j a hj ha]
  by_cases i1 : i = a <;> by_cases i2 : i = b <;> by_cases j1 : j = a <;> by_cases j2 : j = b <;> simp_all <;> omega
theorem add_from (h : StOk st) (ha : a < st.length) (ea : sAt st a = x.f) (ht : ∀ i, i < st.length → sAt st i ≠ x.t) {i j : Nat} (hi : i < st.length) (hj : j < st.length) :
    upd2 M a a (M a a + 1) i j = M i j + ent x (sAt st i) (sAt st j) := by
  have h8 := sAt_8 h hj
  simp only [upd2_at]
  unfold ent
  rw [← ea, dl_ne (ht i hi), dl_ne (ht j hj), dl_ne (a := sAt st j) (b := 8) (by omega)]
  have d : ∀ p q : Nat, p < st.length → q < st.length → dl (sAt st p) (sAt st q) = if p = q then 1 else 0 := fun p q hp hq => by
    by_cases e : p = q
    · rw [if_pos e, e, dl_self]
    · rw [if_neg e, dl_ne (fun z => e (sAt_inj h hp hq z))]
  rw [d i a hi ha, d j a hj ha]
  by_cases i1 : i = a <;> by_cases j1 : j = a <;> simp_all
theorem add_to (h : StOk st) (hb : b < st.length) (eb : sAt st b = x.t) (hf : ∀ i, i < st.length → sAt st i ≠ x.f) {i j : Nat} (hi : i < st.length) (hj : j < st.length) :
    upd2 M b b (M b b + 1) i j = M i j + ent x (sAt st i) (sAt st j) := by
  have h8 := sAt_8 h hj
  simp only [upd2_at]
  unfold ent
  rw [← eb, dl_ne (hf i hi), dl_ne (hf j hj), dl_ne (a := sAt st j) (b := 8) (by omega)]
  have d : ∀ p q : Nat, p < st.length → q < st.length → dl (sAt st p) (sAt st q) = if p = q then 1 else 0 := fun p q hp hq => by
    by_cases e : p = q
    · rw [if_pos e, e, dl_self]
    · rw [if_neg e, dl_ne (fun z => e (sAt_inj h hp hq z))]
  rw [d i b hi hb, d j b hj hb]
  by_cases i1 : i = b <;> by_cases j1 : j = b <;> simp_all
theorem ent8 (hx : EdOk x) (s : Nat) : ent x s 8 = (dl s x.t - dl s x.f) * x.mu := by
  obtain ⟨h1, h2, -⟩ := hx
  unfold ent; rw [dl_ne (a := 8) (b := x.t) (by omega), dl_ne (a := 8) (b := x.f) (by omega), dl_self]; grind
theorem rt_both (h : StOk st) (hx : EdOk x) (ha : a < st.length) (hb : b < st.length) (ea : sAt st a = x.f) (eb : sAt st b = x.t) {i : Nat} (hi : i < st.length) :
    upd (upd r a (r a - x.mu)) b (r b + x.mu) i = r i + ent x (sAt st i) 8 := by
  have hab : a ≠ b := fun e => hx.2.2.1 (by rw [← ea, ← eb, e])
  rw [ent8 hx, ← ea, ← eb]
  have d : ∀ p q : Nat, p < st.length → q < st.length → dl (sAt st p) (sAt st q) = if p = q then 1 else 0 := fun p q hp hq => by
    by_cases e : p = q
    · rw [if_pos e, e, dl_self]
    · rw [if_neg e, dl_ne (fun z => e (sAt_inj h hp hq z))]
  rw [d i b hi hb, d i a hi ha]
  unfold upd
  by_cases i1 : i = a <;> by_cases i2 : i = b <;> simp_all <;> omega
theorem rt_from (h : StOk st) (hx : EdOk x) (ha : a < st.length) (ea : sAt st a = x.f) (ht : ∀ i, i < st.length → sAt st i ≠ x.t) {i : Nat} (hi : i < st.length) :
    upd r a (r a - x.mu) i = r i + ent x (sAt st i) 8 := by
  rw [ent8 hx, ← ea, dl_ne (ht i hi)]
  unfold upd
  by_cases i1 : i = a
  · subst i1; rw [if_pos rfl, dl_self]; omega
  · rw [if_neg i1, dl_ne (fun z => i1 (sAt_inj h hi ha z))]; omega
theorem rt_to (h : StOk st) (hx : EdOk x) (hb : b < st.length) (eb : sAt st b = x.t) (hf : ∀ i, i < st.length → sAt st i ≠ x.f) {i : Nat} (hi : i < st.length) :
    upd r b (r b + x.mu) i = r i + ent x (sAt st i) 8 := by
  rw [ent8 hx, ← eb, dl_ne (hf i hi)]
  unfold upd
  by_cases i1 : i = b
  · subst i1; rw [if_pos rfl, dl_self]; omega
  · rw [if_neg i1, dl_ne (fun z => i1 (sAt_inj h hi hb z))]; omega
end
end Go.Proofs.YtnpghhpcloljeabGreatDoor.dt

namespace Go.Proofs.YtnpghhpcloljeabGreatDoor.dt
open Go.RowKit
open reads base ty lg hs nt ml mt
set_option linter.unusedVariables false

/-! whatever is the same at both ends of the legs is the same at all placed stations -/
def Cn (ts : List Lg) (s : Net) : Prop := ∀ y : Int → Int, (∀ (i : Nat) (x : Lg), ts[i]? = some x → x.frm ∈ s.ps → x.to_ ∈ s.ps → y x.frm = y x.to_) → ∀ c ∈ s.ps, y c = y 0
theorem cn_leg {ts : List Lg} {s : Net} {k : Nat} {x : Lg} (h : Cn ts s) (hx : ts[k]? = some x) : Cn ts (leg1 x k s) := by
  unfold leg1
  by_cases h1 : x.frm ∈ s.ps ∧ x.to_ ∉ s.ps
  · rw [if_pos h1]
    intro y hy c hc
    have old := h y (fun i z hz a b => hy i z hz (mem_put.2 (.inr a)) (mem_put.2 (.inr b)))
    rcases mem_put.1 hc with e | e
    · rw [e, ← hy k x hx (mem_put.2 (.inr h1.1)) (mem_put.2 (.inl rfl))]; exact old _ h1.1
    · exact old c e
  · rw [if_neg h1]
    by_cases h2 : x.to_ ∈ s.ps ∧ x.frm ∉ s.ps
    · rw [if_pos h2]
      intro y hy c hc
      have old := h y (fun i z hz a b => hy i z hz (mem_put.2 (.inr a)) (mem_put.2 (.inr b)))
      rcases mem_put.1 hc with e | e
      · rw [e, hy k x hx (mem_put.2 (.inl rfl)) (mem_put.2 (.inr h2.1))]; exact old _ h2.1
      · exact old c e
    · rw [if_neg h2]; exact h
theorem cn_legsN {ts : List Lg} {s : Net} (h : Cn ts s) : ∀ k, Cn ts (legsN ts s k)
  | 0 => h
  | k + 1 => by
    cases e : ts[k]? with
    | none => rw [show legsN ts s (k + 1) = legsN ts s k by rw [legsN, e]]; exact cn_legsN h k
    | some x => rw [legsN_succ e]; exact cn_leg (cn_legsN h k) e
theorem cn_passes {ts : List Lg} : ∀ k, Cn ts (passes ts k)
  | 0 => fun y _ c hc => by
    have : c = 0 := by simpa using (show c ∈ [(0 : Int)] from hc)
    rw [this]
  | k + 1 => cn_legsN (cn_passes k) _
theorem cn_net (ts : List Lg) : Cn ts (net ts) := cn_passes 9

/-! the unknown stations -/
theorem ps_split {ts : List Lg} (hg : goodLg ts = true) : (net ts).ps = 0 :: unk ts ∧ StOk (unk ts) := by
  have ho := ok_net hg
  have h0 := ho.2.2.2.2.2.1
  have ha := ho.2.1
  have hb := ho.2.2.1
  unfold unk
  obtain ⟨ps, hp⟩ : ∃ p, (net ts).ps = p := ⟨_, rfl⟩
  rw [hp] at h0 ha hb ⊢
  cases ps with
  | nil => cases h0
  | cons a t =>
    have hc := List.pairwise_cons.1 ha
    have a0 : a = 0 := by
      rcases List.mem_cons.1 h0 with e | e
      · exact e.symm
      · have := hc.1 0 e
        have := (hb a (List.mem_cons_self ..)).1; omega
    subst a0
    refine ⟨rfl, ?_, fun s hs => ?_⟩
    · exact hc.2.imp (fun h => by omega)
    · have := hc.1 s hs
      have := (hb s (List.mem_cons_of_mem _ hs)).2; omega
theorem unk_len {ts : List Lg} (hg : goodLg ts = true) : (unk ts).length ≤ 7 := by
  have := (ok_net hg).ps_len
  rw [(ps_split hg).1, List.length_cons] at this; omega
theorem pl_ends {ts : List Lg} (hg : goodLg ts = true) {i : Int} (hi : i ∈ plIds ts) : ((lgAt ts i).frm ∈ unk ts ∨ (lgAt ts i).frm = 0) ∧ ((lgAt ts i).to_ ∈ unk ts ∨ (lgAt ts i).to_ = 0) := by
  obtain ⟨j, e, x, hx, hm⟩ := plIds_at hi
  rw [e, lgAt_is hx]
  have h2 := net_ends hg hx
  rw [hm] at h2
  have a := mem_iff.1 hm
  have b := mem_iff.1 h2.symm
  rw [(ps_split hg).1] at a b
  exact ⟨(List.mem_cons.1 a).symm, (List.mem_cons.1 b).symm⟩
def stN (ts : List Lg) : List Nat := (unk ts).map Int.toNat
theorem mem_stN {ts : List Lg} (hg : goodLg ts = true) {s : Int} (h0 : 0 ≤ s) : s.toNat ∈ stN ts ↔ s ∈ unk ts := by
  unfold stN
  rw [List.mem_map]
  constructor
  · rintro ⟨a, ha, e⟩
    have := (ps_split hg).2.2 a ha
    rw [show s = a by omega]; exact ha
  · exact fun h => ⟨s, h, rfl⟩
theorem pl_all {ts : List Lg} {k : Nat} {x : Lg} (hx : ts[k]? = some x) (h : mem (net ts).ps x.frm = true) : (k : Int) ∈ plIds ts := by
  have key : ∀ n, k < n → (k : Int) ∈ plN ts n := by
    intro n hn
    induction n with
    | zero => omega
    | succ n ih =>
      cases e : ts[n]? with
      | none =>
        rw [show plN ts (n + 1) = plN ts n by unfold plN; rw [rowi.idxs, e]]
        refine ih ?_
        have : k ≠ n := fun q => by rw [q, e] at hx; cases hx
        omega
      | some z =>
        by_cases q : k = n
        · subst q
          rw [hx] at e
          obtain rfl := Option.some.inj e
          rw [show plN ts (k + 1) = plN ts k ++ [(k : Int)] from rowi.idxs_yes hx h]
          simp
        · have := ih (by omega)
          cases hm : mem (net ts).ps z.frm
          · rw [show plN ts (n + 1) = plN ts n from rowi.idxs_no e hm]; exact this
          · rw [show plN ts (n + 1) = plN ts n ++ [(n : Int)] from rowi.idxs_yes e hm]; exact List.mem_append_left _ this
  exact key _ (lt_at hx)
/-- the placed legs of a network and its placed stations but 0 -/
def US (ts : List Lg) (ax : Int) : List Ed := eds ts ax (plIds ts)
theorem nw_net {ts : List Lg} (hg : goodLg ts = true) (ax : Int) : Nw (US ts ax) (stN ts) where
  hn := by
    unfold stN
    have h := (ps_split hg).2
    rw [List.Nodup, List.pairwise_map]
    exact List.Pairwise.imp_of_mem (fun {a b} ha hb q e => q (by have := h.2 a ha; have := h.2 b hb; omega)) h.1
  h0 := fun h => by
    obtain ⟨a, ha, e⟩ := List.mem_map.1 h
    have := (ps_split hg).2.2 a ha; omega
  h8 := fun s h => by
    obtain ⟨a, ha, e⟩ := List.mem_map.1 h
    have := (ps_split hg).2.2 a ha; omega
  hu := eds_ok hg ax (fun i hi => hi)
  hin := fun x hx => by
    obtain ⟨i, hi, e⟩ := List.mem_map.1 hx
    obtain ⟨a, b⟩ := pl_ends hg hi
    rw [← e]
    refine ⟨?_, ?_⟩
    · rcases b with q | q
      · exact .inr (List.mem_map.2 ⟨_, q, rfl⟩)
      · exact .inl (by show (lgAt ts i).to_.toNat = 0; rw [q]; rfl)
    · rcases a with q | q
      · exact .inr (List.mem_map.2 ⟨_, q, rfl⟩)
      · exact .inl (by show (lgAt ts i).frm.toNat = 0; rw [q]; rfl)
  hr := fun y h0 hy s => by
    by_cases hs : s ∈ stN ts
    · have h := cn_net ts (fun c => y c.toNat) (fun i x hx a b => by
        have hm := pl_all hx (mem_iff.2 a)
        exact (hy (edOf ax x) (List.mem_map.2 ⟨(i : Int), hm, by rw [lgAt_is hx]⟩)).symm)
      obtain ⟨a, ha, e⟩ := List.mem_map.1 hs
      have := h a (by rw [(ps_split hg).1]; exact List.mem_cons_of_mem _ ha)
      rw [e] at this
      rw [this]
      refine h0 _ (fun q => ?_)
      obtain ⟨b, hb, e2⟩ := List.mem_map.1 q
      have := (ps_split hg).2.2 b hb
      have e3 : b.toNat = (0 : Int).toNat := e2
      omega
    · exact h0 s hs

/-! the model's matrices -/
theorem rv_sAt (st : List Int) : (rv st.length).map (sAt st) = (st.map Int.toNat).reverse := by
  unfold rv
  rw [List.map_reverse]
  congr 1
  apply List.ext_getElem?
  intro i
  rw [List.getElem?_map, List.getElem?_map]
  by_cases h : i < st.length
  · rw [List.getElem?_range h, List.getElem?_eq_getElem h]
    simp only [Option.map_some]
    rw [sAt_is (List.getElem?_eq_getElem h)]
  · rw [List.getElem?_eq_none (by simpa using h), List.getElem?_eq_none (by omega)]; rfl
theorem dt_at (us : List Ed) (st : List Int) (g : Nat → Nat) (is cs : List Nat) : dt (is.map (fun i j => AA us (sAt st i) (g j))) cs = dt ((is.map (sAt st)).map (AA us)) (cs.map g) := by
  rw [← dt_ren, List.map_map, List.map_map]; rfl
theorem det_DD (us : List Ed) (st : List Int) : dt ((rv st.length).map (fun i j => AA us (sAt st i) (sAt st j))) (rv st.length) = DD us (st.map Int.toNat) := by
  rw [dt_at, rv_sAt]
  show DD us (st.map Int.toNat).reverse = _
  exact DD_perm (List.reverse_perm _)
theorem det_XX (us : List Ed) {st : List Int} (h : StOk st) {col : Nat} (hc : col < st.length) : dt ((rv st.length).map (fun i j => AA us (sAt st i) (if j = col then 8 else sAt st j))) (rv st.length) = XX us (st.map Int.toNat) (sAt st col) := by
  rw [dt_at us st (fun j => if j = col then 8 else sAt st j)]
  have e : (rv st.length).map (fun j => if j = col then 8 else sAt st j) = ((rv st.length).map (sAt st)).map (pl 8 (sAt st col)) := by
    rw [List.map_map]
    refine List.map_congr_left (fun j hj => ?_)
    have hj := mem_rv.1 hj
    show _ = pl 8 (sAt st col) (sAt st j)
    unfold pl
    by_cases q : j = col
    · rw [if_pos q, q, if_pos rfl]
    · rw [if_neg q, if_neg (fun z => q (sAt_inj h hj hc z))]
  rw [e, rv_sAt]
  have m : sAt st col ∈ st.map Int.toNat := by
    rw [sAt_is (List.getElem?_eq_getElem hc)]; exact List.mem_map_of_mem (List.getElem_mem hc)
  rw [← XX_perm (List.reverse_perm (st.map Int.toNat)) (sAt st col)]
  unfold XX
  rw [if_pos (List.mem_reverse.2 m)]
theorem bdd_at {us : List Ed} (hu : ∀ x ∈ us, EdOk x) (hl : us.length ≤ 12) {st : List Int} (h : StOk st) (h7 : st.length ≤ 7) (g : Nat → Nat) (hi : ∀ i j, i < st.length → j < st.length → g i = g j → i = j) : Bdd st.length (fun i j => AA us (sAt st i) (g j)) BB := by
  intro is cs n1 n2 l1 l2
  rw [dt_at]
  refine (AA_bound hu hl ?_ ?_ ?_).1
  · rw [List.Nodup, List.pairwise_map]
    exact List.Pairwise.imp_of_mem (fun {a b} ha hb q e => q (sAt_inj h (l1 a ha) (l1 b hb) e)) n1
  · rw [List.length_map]
    have h2 : ((List.range st.length).filter (fun x => decide (x ∈ is))).Perm is := by
      rw [List.perm_ext_iff_of_nodup (List.nodup_range.filter _) n1]
      intro a
      rw [List.mem_filter, List.mem_range, decide_eq_true_eq]
      exact ⟨fun q => q.2, fun q => ⟨l1 a q, q⟩⟩
    have h3 := h2.length_eq
    have h4 := List.length_filter_le (fun x => decide (x ∈ is)) (List.range st.length)
    rw [List.length_range] at h4; omega
  · rw [List.Nodup, List.pairwise_map]
    exact List.Pairwise.imp_of_mem (fun {a b} ha hb q e => q (hi a b (l2 a ha) (l2 b hb) e)) n2
/-- the number of trees -/
def TC (ts : List Lg) : Int := DD (US ts 0) (stN ts)
theorem DD_ax {ts : List Lg} (hg : goodLg ts = true) (ax : Int) : DD (US ts ax) (stN ts) = TC ts := by
  unfold TC DD
  refine dt_rows (fun i _ c hc => ?_)
  have h8 : c ≠ 8 := by have := (nw_net hg 0).h8 c hc; omega
  unfold US
  obtain ⟨U, hU⟩ : ∃ U, plIds ts = U := ⟨_, rfl⟩
  rw [hU]
  clear hU hc
  induction U with
  | nil => rfl
  | cons a U ih =>
    show AA (edOf ax (lgAt ts a) :: eds ts ax U) i c = AA (edOf 0 (lgAt ts a) :: eds ts 0 U) i c
    simp only [AA]
    rw [ih]
    congr 1
    unfold ent
    rw [dl_ne h8]; simp only [edOf]; simp
def XC (ts : List Lg) (ax : Int) (s : Nat) : Int := XX (US ts ax) (stN ts) s
theorem US_len {ts : List Lg} (hg : goodLg ts = true) (ax : Int) : (US ts ax).length ≤ 12 := by
  unfold US eds; rw [List.length_map]
  have := plIds_len' ts
  have := goodLg_len hg; omega
theorem TC_pos {ts : List Lg} (hg : goodLg ts = true) : 1 ≤ TC ts := (nw_net hg 0).pos
theorem XC_out {ts : List Lg} {ax : Int} {s : Nat} (h : s ∉ stN ts) : XC ts ax s = 0 := XX_out h
theorem TC_le {ts : List Lg} (hg : goodLg ts = true) : TC ts ≤ 663552 := by
  have h := nw_net hg 0
  have := (AA_bound (L := stN ts) (C := stN ts) h.hu (US_len hg 0) h.hn (by unfold stN; rw [List.length_map]; exact unk_len hg) h.hn).2 h.n8
  exact this.2
theorem XC_le {ts : List Lg} (hg : goodLg ts = true) (ax : Int) (s : Nat) : -1161216000 ≤ XC ts ax s ∧ XC ts ax s ≤ 1161216000 := by
  have h := nw_net hg ax
  unfold XC XX
  by_cases q : s ∈ stN ts
  · rw [if_pos q]
    refine (AA_bound (L := stN ts) h.hu (US_len hg ax) h.hn (by unfold stN; rw [List.length_map]; exact unk_len hg) ?_).1
    rw [List.Nodup, List.pairwise_map]
    refine List.Pairwise.imp_of_mem (fun {a b} ha hb z e => z ?_) h.hn
    have ha8 := h.h8 a ha
    have hb8 := h.h8 b hb
    unfold pl at e
    split at e <;> split at e <;> omega
  · rw [if_neg q]; omega
end Go.Proofs.YtnpghhpcloljeabGreatDoor.dt

namespace Go.Proofs.YtnpghhpcloljeabGreatDoor.ml
open Go.RowKit
open reads base ty lg rowi hs nt mt
set_option linter.unusedVariables false
set_option linter.unusedSimpArgs false

/-- the coordinate of a station -/
def cat (cs : List Int) (s : Int) : Int := (cs[s.toNat]?).getD 0
theorem cat_at {cs : List Int} {k : Nat} (h : k < cs.length) : cs[k]? = some (cat cs (k : Int)) := by
  unfold cat; rw [Int.toNat_natCast, List.getElem?_eq_getElem h]; rfl
/-- coordinates within limits -/
def CBd (cs : List Int) : Prop := cs.length = 8 ∧ ∀ c ∈ cs, -2000000000 ≤ c ∧ c ≤ 2000000000
theorem CBd.at_ {cs : List Int} (h : CBd cs) (s : Int) : -2000000000 ≤ cat cs s ∧ cat cs s ≤ 2000000000 := by
  unfold cat
  cases e : cs[s.toNat]? with
  | none => simp
  | some c => exact h.2 c (List.mem_of_getElem? e)
def rsV (x : Lg) (ax : Int) (cs : List Int) (den : Int) : Int := msA x ax * den - cat cs x.to_ + cat cs x.frm
theorem md_bd {m d : Int} (h : -500 ≤ m ∧ m ≤ 500) (k : -1000000 ≤ d ∧ d ≤ 1000000) : -500000000 ≤ m * d ∧ m * d ≤ 500000000 := by
  have h1 := Int.mul_le_mul (show (m.natAbs : Int) ≤ 500 by omega) (show (d.natAbs : Int) ≤ 1000000 by omega) (by omega) (by omega)
  have e : ((m * d).natAbs : Int) = (m.natAbs : Int) * (d.natAbs : Int) := by rw [Int.natAbs_mul]; simp
  omega
theorem rsV_bd {x : Lg} {ax den : Int} {cs : List Int} (hx : okLg x = true) (hc : CBd cs) (hd : -1000000 ≤ den ∧ den ≤ 1000000) : -4500000000 ≤ rsV x ax cs den ∧ rsV x ax cs den ≤ 4500000000 := by
  have a := md_bd (msA_bd hx ax) hd
  have b := hc.at_ x.to_
  have c := hc.at_ x.frm
  unfold rsV; omega
set_option maxHeartbeats 8000000 in
set_option maxRecDepth 100000 in
theorem rest_any (x : Lg) (ax den r : Int) (A : Option Addr) (c : Nat) (cs : List Int) (w : World) (hx : Hid (okLg x = true)) (h0 : 0 ≤ ax) (h2 : ax ≤ 2) (hd : -1000000 ≤ den ∧ den ≤ 1000000) (hc : Hid (CBd cs)) (hA : Hid (IO w w.heap.size A 8 cs)) (hr : Hid (rsV x ax cs den = r)) :
    Calls Tryz.prog 82 #[.agg #[.int .i64 x.frm, .int .i64 x.to_, .int .i64 x.tape, .int .i64 x.comp, .int .i64 x.slope], .int .i64 ax, .slice A 8 c, .int .i64 den] w (APost (.int .i64 r) w) := by
  obtain ⟨fr, tt, tp, cm, sl⟩ := x
  obtain ⟨⟨f0, f1⟩, ⟨t0, t1⟩, -⟩ := okLg_lim hx.out
  simp only [] at f0 f1 t0 t1
  obtain ⟨f, rfl⟩ : ∃ f : Nat, fr = f := ⟨fr.toNat, by omega⟩
  obtain ⟨t, rfl⟩ : ∃ t : Nat, tt = t := ⟨tt.toNat, by omega⟩
  have hl := hA.out.1
  obtain ⟨m, HMV⟩ : ∃ m, Hid (msA ⟨(f : Int), (t : Int), tp, cm, sl⟩ ax = m) := ⟨_, Lib.hid rfl⟩
  obtain ⟨cf, HCF⟩ : ∃ m, Hid (cat cs (f : Int) = m) := ⟨_, Lib.hid rfl⟩
  obtain ⟨ct, HCT⟩ : ∃ m, Hid (cat cs (t : Int) = m) := ⟨_, Lib.hid rfl⟩
  have HRV := Lib.hid (show m * den - ct + cf = r by rw [← hr.out, ← HMV.out, ← HCF.out, ← HCT.out]; rfl)
  have bm := msA_bd hx.out ax
  rw [HMV.out] at bm
  have bp := md_bd bm hd
  have bf := hc.out.at_ (f : Int)
  have bt := hc.out.at_ (t : Int)
  rw [HCF.out] at bf
  rw [HCT.out] at bt
  have HA1 := Lib.hid (hA.out.step ((Below.refl w.heap.size w).alloc (Nat.le_refl _) (.cells #[.int .i64 (f : Int), .int .i64 (t : Int), .int .i64 tp, .int .i64 cm, .int .i64 sl] 87)))
  have HB0 := Lib.hid ((Below.refl w.heap.size w).alloc (Nat.le_refl _) (.cells #[.int .i64 (f : Int), .int .i64 (t : Int), .int .i64 tp, .int .i64 cm, .int .i64 sl] 87))
  have HK := Lib.hid (Blk.new w 87 #[.int .i64 (f : Int), .int .i64 (t : Int), .int .i64 tp, .int .i64 cm, .int .i64 sl])
  go_enter Tryz.func82, Tryz.ntmps82
  obtain ⟨W0, HW0⟩ : ∃ W, Hid (w.alloc (.cells #[.int .i64 (f : Int), .int .i64 (t : Int), .int .i64 tp, .int .i64 cm, .int .i64 sl] 87) = W) := ⟨_, Lib.hid rfl⟩
  go_upto_region 1 with fail
  rw [HW0.out] at HA1 HB0 HK ⊢
  have hs : w.heap.size < W0.heap.size := HK.out.lt
  obtain ⟨L, HLL⟩ : ∃ L, Hid (w.heap.size = L) := ⟨_, Lib.hid rfl⟩
  rw [HLL.out] at HK hs HB0
  try simp only [HLL.out]
  obtain ⟨g, o, rfl, hg, ef⟩ := HA1.out.2 f _ (cat_at (by omega))
  obtain ⟨g', o', eg, -, et⟩ := HA1.out.2 t _ (cat_at (by omega))
  obtain ⟨rfl, rfl⟩ : g = g' ∧ o = o' := by injection eg with eg; injection eg with e1 e2; exact ⟨e1, e2⟩
  rw [HCF.out] at ef
  rw [HCT.out] at et
  have y0 := HK.out.cell 0
  have y1 := HK.out.cell 1
  have y2 := HK.out.cell 2
  have y3 := HK.out.cell 3
  have y4 := HK.out.cell 4
  simp at y0 y1 y2 y3 y4
  have hf8 : (f : Int) < 8 := by omega
  have ht8 : (t : Int) < 8 := by omega
  have x1 : IntKind.i64.wrap (m * den) = m * den := IntWalk.i64_in _ (by omega)
  have x2 : IntKind.i64.wrap (m * den - ct) = m * den - ct := IntWalk.i64_in _ (by omega)
  have x3 : IntKind.i64.wrap (m * den - ct + cf) = m * den - ct + cf := IntWalk.i64_in _ (by omega)
  clear eg bm bf bt bp
  obtain ⟨B, HBB⟩ : ∃ B, Hid (W0.heap.size = B) := ⟨_, Lib.hid rfl⟩
  rw [HBB.out] at hs hg
  have HWB := Lib.hid (show B ≤ W0.heap.size by rw [HBB.out]; exact Nat.le_refl _)
  clear HW0
  refine wp_region_held_drew (S := (fun v => (∀ b o, b < B → v.cell? ⟨b, o, none⟩ = W0.cell? ⟨b, o, none⟩) ∧ Below B W0 v)) (by kernel_rfl) ?_ (fun hHeld => ?_)
  · exact sb_start (Below.refl _ _)
  refine' wpAnyH_take (i := 0) (v := ?vr1_0) rfl (by kernel_rfl) (by kernel_rfl) (by kernel_rfl) (fun _ _ _ h => h) (Or.inl ⟨by rfl, ?hyr1_0⟩) (by assumption) ?restr1_0
  case hyr1_0 => (intro w hSw; (try dsimp only at hSw); go_simp; try (with_reducible rfl))
  simp only [Act.put, List.getElem_toArray, List.getElem_cons_succ, List.getElem_cons_zero, List.setIfInBounds_toArray, List.set_cons_zero, List.set_cons_succ]
  refine' wpAnyH_take (i := 1) (v := ?vr1_1) rfl (by kernel_rfl) (by kernel_rfl) (by kernel_rfl) (fun _ _ _ h => h) (Or.inl ⟨by rfl, ?hyr1_1⟩) (by assumption) ?restr1_1
  case hyr1_1 => (intro w hSw; (try dsimp only at hSw); go_simp; try (with_reducible rfl))
  simp only [Act.put, List.getElem_toArray, List.getElem_cons_succ, List.getElem_cons_zero, List.setIfInBounds_toArray, List.set_cons_zero, List.set_cons_succ]
  refine' wpAnyH_take (i := 3) (v := ?vr1_3) rfl (by kernel_rfl) (by kernel_rfl) (by kernel_rfl) (fun _ _ _ h => h) (Or.inl ⟨by rfl, ?hyr1_3⟩) (by assumption) ?restr1_3
  case hyr1_3 => (intro w hSw; (try dsimp only at hSw); go_simp; try (with_reducible rfl))
  simp only [Act.put, List.getElem_toArray, List.getElem_cons_succ, List.getElem_cons_zero, List.setIfInBounds_toArray, List.set_cons_zero, List.set_cons_succ]
  refine' wpAnyH_take (i := 5) (v := ?vr1_5) rfl (by kernel_rfl) (by kernel_rfl) (by kernel_rfl) (fun _ _ _ h => h) (Or.inl ⟨by rfl, ?hyr1_5⟩) (by assumption) ?restr1_5
  case hyr1_5 => (intro w hSw; (try dsimp only at hSw); go_simp; try (with_reducible rfl))
  simp only [Act.put, List.getElem_toArray, List.getElem_cons_succ, List.getElem_cons_zero, List.setIfInBounds_toArray, List.set_cons_zero, List.set_cons_succ]
  refine' wpAnyH_take (i := 6) (v := ?vr1_6) rfl (by kernel_rfl) (by kernel_rfl) (by kernel_rfl) (fun _ _ _ h => h) (Or.inl ⟨by rfl, ?hyr1_6⟩) (by assumption) ?restr1_6
  case hyr1_6 => (intro w hSw; (try dsimp only at hSw); go_simp; try (with_reducible rfl))
  simp only [Act.put, List.getElem_toArray, List.getElem_cons_succ, List.getElem_cons_zero, List.setIfInBounds_toArray, List.set_cons_zero, List.set_cons_succ]
  refine' wpAnyH_take (i := 7) (v := ?vr1_7) rfl (by kernel_rfl) (by kernel_rfl) (by kernel_rfl) (fun _ _ _ h => h) (Or.inl ⟨by rfl, ?hyr1_7⟩) (by assumption) ?restr1_7
  case hyr1_7 => (intro w hSw; (try dsimp only at hSw); go_simp; try (with_reducible rfl))
  simp only [Act.put, List.getElem_toArray, List.getElem_cons_succ, List.getElem_cons_zero, List.setIfInBounds_toArray, List.set_cons_zero, List.set_cons_succ]
  refine' wpAnyH_take (i := 8) (v := ?vr1_8) rfl (by kernel_rfl) (by kernel_rfl) (by kernel_rfl) (fun _ _ _ h => h) (Or.inl ⟨by rfl, ?hyr1_8⟩) (by assumption) ?restr1_8
  case hyr1_8 => (intro w hSw; (try dsimp only at hSw); go_simp; try (with_reducible rfl))
  simp only [Act.put, List.getElem_toArray, List.getElem_cons_succ, List.getElem_cons_zero, List.setIfInBounds_toArray, List.set_cons_zero, List.set_cons_succ]
  refine' wpAnyH_take (i := 9) (v := ?vr1_9) rfl (by kernel_rfl) (by kernel_rfl) (by kernel_rfl) (fun _ _ _ h => h) (Or.inl ⟨by rfl, ?hyr1_9⟩) (by assumption) ?restr1_9
  case hyr1_9 => (intro w hSw; (try dsimp only at hSw); go_simp; try (with_reducible rfl))
  simp only [Act.put, List.getElem_toArray, List.getElem_cons_succ, List.getElem_cons_zero, List.setIfInBounds_toArray, List.set_cons_zero, List.set_cons_succ]
  refine' wpAnyH_take (i := 11) (v := ?vr1_11) rfl (by kernel_rfl) (by kernel_rfl) (by kernel_rfl) (fun _ _ _ h => h) (Or.inl ⟨by rfl, ?hyr1_11⟩) (by assumption) ?restr1_11
  case hyr1_11 => (intro w hSw; (try dsimp only at hSw); go_simp; try (with_reducible rfl))
  simp only [Act.put, List.getElem_toArray, List.getElem_cons_succ, List.getElem_cons_zero, List.setIfInBounds_toArray, List.set_cons_zero, List.set_cons_succ]
  refine' wpAnyH_take (i := 12) (v := ?vr1_12) rfl (by kernel_rfl) (by kernel_rfl) (by kernel_rfl) (fun _ _ _ h => h) (Or.inl ⟨by rfl, ?hyr1_12⟩) (by assumption) ?restr1_12
  case hyr1_12 => (intro w hSw; (try dsimp only at hSw); go_simp; try (with_reducible rfl))
  simp only [Act.put, List.getElem_toArray, List.getElem_cons_succ, List.getElem_cons_zero, List.setIfInBounds_toArray, List.set_cons_zero, List.set_cons_succ]
  refine' wpAnyH_take (i := 13) (v := ?vr1_13) rfl (by kernel_rfl) (by kernel_rfl) (by kernel_rfl) (fun _ _ _ h => h) (Or.inl ⟨by rfl, ?hyr1_13⟩) (by assumption) ?restr1_13
  case hyr1_13 => (intro w hSw; (try dsimp only at hSw); go_simp; try (with_reducible rfl))
  simp only [Act.put, List.getElem_toArray, List.getElem_cons_succ, List.getElem_cons_zero, List.setIfInBounds_toArray, List.set_cons_zero, List.set_cons_succ]
  refine' wpAnyH_take (i := 14) (v := ?vr1_14) rfl (by kernel_rfl) (by kernel_rfl) (by kernel_rfl) (fun _ _ _ h => h) (Or.inl ⟨by rfl, ?hyr1_14⟩) (by assumption) ?restr1_14
  case hyr1_14 => (intro w hSw; (try dsimp only at hSw); go_simp; try (with_reducible rfl))
  simp only [Act.put, List.getElem_toArray, List.getElem_cons_succ, List.getElem_cons_zero, List.setIfInBounds_toArray, List.set_cons_zero, List.set_cons_succ]
  refine' wpAnyH_take (i := 15) (v := ?vr1_15) rfl (by kernel_rfl) (by kernel_rfl) (by kernel_rfl) (fun _ _ _ h => h) (Or.inl ⟨by rfl, ?hyr1_15⟩) (by assumption) ?restr1_15
  case hyr1_15 => (intro w hSw; (try dsimp only at hSw); go_simp; try (with_reducible rfl))
  simp only [Act.put, List.getElem_toArray, List.getElem_cons_succ, List.getElem_cons_zero, List.setIfInBounds_toArray, List.set_cons_zero, List.set_cons_succ]
  refine wpAnyH_ready (rs := [2]) (by kernel_rfl) (by simp) ?_
  refine AllReadyH.cons rfl (fun K hK => ?_) AllReadyH.nil
  go_simp
  refine (measure_any ⟨(f : Int), (t : Int), tp, cm, sl⟩ ax m _ hx h0 h2 HMV).mono ?_
  rintro e w1 ⟨rfl, b1⟩
  refine hK.out _ _ (sb_step hHeld HWB.out b1) (fun hHeld1 => ?_)
  clear hK K hHeld
  have hHeld := hHeld1
  clear hHeld1
  try simp only [Act.put, List.getElem_toArray, List.getElem_cons_succ, List.getElem_cons_zero, List.setIfInBounds_toArray, List.set_cons_zero, List.set_cons_succ]
  refine' wpAnyH_take (i := 4) (v := ?vr1_4) rfl (by kernel_rfl) (by kernel_rfl) (by kernel_rfl) (fun _ _ _ h => h) (Or.inl ⟨by rfl, ?hyr1_4⟩) (by assumption) ?restr1_4
  case hyr1_4 => (intro w hSw; (try dsimp only at hSw); go_simp; try (with_reducible rfl))
  simp only [Act.put, List.getElem_toArray, List.getElem_cons_succ, List.getElem_cons_zero, List.setIfInBounds_toArray, List.set_cons_zero, List.set_cons_succ]
  refine' wpAnyH_take (i := 10) (v := ?vr1_10) rfl (by kernel_rfl) (by kernel_rfl) (by kernel_rfl) (fun _ _ _ h => h) (Or.inl ⟨by rfl, ?hyr1_10⟩) (by assumption) ?restr1_10
  case hyr1_10 => (intro w hSw; (try dsimp only at hSw); go_simp; try (with_reducible rfl))
  simp only [Act.put, List.getElem_toArray, List.getElem_cons_succ, List.getElem_cons_zero, List.setIfInBounds_toArray, List.set_cons_zero, List.set_cons_succ]
  refine' wpAnyH_take (i := 16) (v := ?vr1_16) rfl (by kernel_rfl) (by kernel_rfl) (by kernel_rfl) (fun _ _ _ h => h) (Or.inl ⟨by rfl, ?hyr1_16⟩) (by assumption) ?restr1_16
  case hyr1_16 => (intro w hSw; (try dsimp only at hSw); go_simp; try (with_reducible rfl))
  simp only [Act.put, List.getElem_toArray, List.getElem_cons_succ, List.getElem_cons_zero, List.setIfInBounds_toArray, List.set_cons_zero, List.set_cons_succ]
  refine' wpAnyH_take (i := 17) (v := ?vr1_17) rfl (by kernel_rfl) (by kernel_rfl) (by kernel_rfl) (fun _ _ _ h => h) (Or.inl ⟨by rfl, ?hyr1_17⟩) (by assumption) ?restr1_17
  case hyr1_17 => (intro w hSw; (try dsimp only at hSw); go_simp; try (with_reducible rfl))
  simp only [Act.put, List.getElem_toArray, List.getElem_cons_succ, List.getElem_cons_zero, List.setIfInBounds_toArray, List.set_cons_zero, List.set_cons_succ]
  refine wpAnyH_done (by kernel_rfl) ?_ _
  go_wp2_with fail
  go_ret
  exact ⟨by rw [HRV.out]; rfl, by rw [HLL.out]; exact HB0.out.trans (hHeld.2.mono (by omega))⟩
end Go.Proofs.YtnpghhpcloljeabGreatDoor.ml

namespace Go.Proofs.YtnpghhpcloljeabGreatDoor.ml
open Go.RowKit
open reads base ty lg rowi hs nt mt dt
set_option linter.unusedVariables false
set_option linter.unusedSimpArgs false

/-- a list of ints that lies between two blocks -/
def UL (v : World) (A : Option Addr) (n : Nat) (U : List Int) (h1 R : Nat) : Prop := ints.IL v A n U ∧ ∀ g, A = some ⟨g, 0, none⟩ → h1 ≤ g ∧ g < R
/-- the matrix, the right side, the used legs -/
def MS (w : World) (A : Option Addr) (m c : Nat) (P : Nat → Nat) (R : Nat) (U : List Int) (AU : Option Addr) (nu h1 : Nat) (M : Nat → Nat → Int) (r : Nat → Int) (v : World) : Prop :=
  MxB v w.heap.size A m c m P M ∧ RwB v R m r ∧ UL v AU nu U h1 R ∧ Below w.heap.size w v ∧ (∀ i, i < m → P i < h1) ∧ h1 ≤ R ∧ w.heap.size ≤ h1
section
variable {w v v' : World} {A AU : Option Addr} {m c R nu h1 : Nat} {P : Nat → Nat} {U : List Int} {M : Nat → Nat → Int} {r : Nat → Int}
theorem MS.step (h : MS w A m c P R U AU nu h1 M r v) (hb : Below v.heap.size v v') : MS w A m c P R U AU nu h1 M r v' := by
  obtain ⟨a, b, d, e, f⟩ := h
  refine ⟨a.step hb, b.below hb b.lt, ⟨?_, d.2⟩, e.trans (hb.mono e.size), f⟩
  refine d.1.keep (fun g o q => ?_)
  have h2 := (d.2 g q).2
  have h3 := b.lt
  exact hb.cell (p := ⟨g, o, none⟩) (by show g < _; omega)
theorem MS.congr {N : Nat → Nat → Int} {s : Nat → Int} (h : MS w A m c P R U AU nu h1 M r v) (e : ∀ i, i < m → ∀ j, j < m → M i j = N i j) (e2 : ∀ i, i < m → r i = s i) : MS w A m c P R U AU nu h1 N s v :=
  ⟨h.1.congr e, h.2.1.congr e2, h.2.2⟩
theorem MS.setM (h : MS w A m c P R U AU nu h1 M r v) {i j : Nat} (hi : i < m) (hj : j < m) (x : Int) : MS w A m c P R U AU nu h1 (upd2 M i j x) r (v.setCell ⟨P i, j, none⟩ (.int .i64 x)) := by
  obtain ⟨a, b, d, e, f, g, hh⟩ := h
  have hp := f i hi
  refine ⟨a.set hi hj x, Blk.far b (by show R ≠ P i; omega) _, ⟨?_, d.2⟩, e.setCell (p := ⟨P i, j, none⟩) (a.2.1 i hi).2 _, f, g, hh⟩
  refine d.1.keep (fun k o q => ?_)
  have h2 := (d.2 k q).1
  exact World.cell?_setCell_other v _ _ _ (fun z => by injection z with z1 _; omega)
theorem MS.setR (h : MS w A m c P R U AU nu h1 M r v) {i : Nat} (hi : i < m) (x : Int) : MS w A m c P R U AU nu h1 M (upd r i x) (v.setCell ⟨R, i, none⟩ (.int .i64 x)) := by
  obtain ⟨a, b, d, e, f, g, hh⟩ := h
  refine ⟨⟨?_, fun k hk => ⟨Blk.far (a.2.1 k hk).1 (by have := f k hk; show P k ≠ R; omega) _, (a.2.1 k hk).2⟩, a.2.2⟩, b.set hi x, ⟨?_, d.2⟩, e.setCell (p := ⟨R, i, none⟩) (by show w.heap.size ≤ R; omega) _, f, g, hh⟩
  · exact own_far' R a.1 (own_blk_ne a.1 b (by decide)) i _
  · refine d.1.keep (fun k o q => ?_)
    have h2 := (d.2 k q).2
    exact World.cell?_setCell_other v _ _ _ (fun z => by injection z with z1 _; omega)
theorem MS.row (h : MS w A m c P R U AU nu h1 M r v) {i : Nat} (hi : i < m) : (∀ j, j < m → v.cell? ⟨P i, j, none⟩ = some (.int .i64 (M i j))) ∧ (∀ j, v.frozen? ⟨P i, j, none⟩ = false) ∧ P i < v.heap.size :=
  ⟨(h.1.row hi).1, (h.1.row hi).2.1, (h.1.row hi).2.2.2⟩
theorem MS.rt (h : MS w A m c P R U AU nu h1 M r v) : (∀ j, j < m → v.cell? ⟨R, j, none⟩ = some (.int .i64 (r j))) ∧ (∀ j, v.frozen? ⟨R, j, none⟩ = false) ∧ R < v.heap.size :=
  ⟨fun j hj => h.2.1.at_ hj, fun j => h.2.1.fro j, h.2.1.lt⟩
end
theorem infoR : (Tryz.prog.info? 27).map (fun i => (i.zero, i.size, i.bytes)) = some (some (.slice none 0 0), 1, 24) := by kernel_rfl
/-- the matrix of a network -/
def MPo (m : Nat) (M : Nat → Nat → Int) (w : World) (e : Ending) (w' : World) : Prop :=
  ∃ A c P, e = .returned (.slice A m c) ∧ MxB w' w.heap.size A m c m P M ∧ Below w.heap.size w w'
/-- no row yet, and one row more -/
theorem MxB.none_ {w : World} {b c m : Nat} {A : Option Addr} (h : w.ownsRow b 27 1 (.slice A 0 c) 0 []) : MxB w b A 0 c m (fun _ => 0) (fun _ _ => 0) :=
  ⟨h, fun i hi => by omega, fun i j hi => by omega⟩
theorem rp_snoc (k m : Nat) (P : Nat → Nat) (X : Nat) : rp k m P ++ [.slice (some ⟨X, 0, none⟩) m m] = rp (k + 1) m (fun i => if i = k then X else P i) := by
  unfold rp
  rw [List.range_succ, List.map_append]
  congr 1
  · refine List.map_congr_left (fun i hi => ?_)
    have := List.mem_range.1 hi
    show _ = Value.slice (some ⟨if i = k then X else P i, 0, none⟩) m m
    rw [if_neg (by omega)]
  · simp
end Go.Proofs.YtnpghhpcloljeabGreatDoor.ml
