/-
  Ways in memory; whether one begins a step at a station, its legs, its length, by the program.
  Conditions: the way lies in blocks of its own.
-/
import Derived.Test.YtkeepfkjhcmhlaaDoorKuD
import Derived.Test.YtkeepfkjhcmhlaaDoorInA
import Derived.OwnWalk
import Derived.LoopTactic
import Derived.Deep.LoopGhost
import Derived.Deep.RegionHeld3
namespace Go.Proofs.YtkeepfkjhcmhlaaDoor.lpi
open Go.RowKit
open reads base ty lg rowi hs nt lp
set_option linter.unusedVariables false
set_option linter.unusedSimpArgs false

/-- a way in memory, each step in a block of its own -/
def WayAt (w : World) (B : Nat) : Option Addr → List (Int × Int) → Prop
  | a, [] => a = none
  | a, (s, i) :: W => ∃ g u, a = some ⟨g, 0, none⟩ ∧ g < B ∧ Blk w g 61 #[.int .i64 s, .int .i64 i, .pointer u] ∧ WayAt w B u W
theorem WayAt.below {w w' : World} {B : Nat} (hb : Below B w w') : ∀ {W : List (Int × Int)} {a : Option Addr}, WayAt w B a W → WayAt w' B a W
  | [], _, h => h
  | (s, i) :: W, a, h => by
    obtain ⟨g, u, e, hg, hk, h2⟩ := h
    exact ⟨g, u, e, hg, hk.below hb hg, WayAt.below hb h2⟩
theorem WayAt.more {w : World} {B B' : Nat} (hB : B ≤ B') : ∀ {W : List (Int × Int)} {a : Option Addr}, WayAt w B a W → WayAt w B' a W
  | [], _, h => h
  | (s, i) :: W, a, h => by
    obtain ⟨g, u, e, hg, hk, h2⟩ := h
    exact ⟨g, u, e, by omega, hk, WayAt.more hB h2⟩
theorem WayAt.step {w w' : World} {W : List (Int × Int)} {a : Option Addr} (h : WayAt w w.heap.size a W) (hb : Below w.heap.size w w') : WayAt w' w'.heap.size a W := (h.below hb).more hb.size
theorem WayAt.alloc {w : World} {W : List (Int × Int)} {a : Option Addr} (h : WayAt w w.heap.size a W) (o : Obj) : WayAt (w.alloc o) (w.alloc o).heap.size a W := h.step ((Below.refl _ _).alloc (Nat.le_refl _) o)
/-- a step put ahead -/
theorem WayAt.cons {w : World} {W : List (Int × Int)} {a : Option Addr} (h : WayAt w w.heap.size a W) (s i : Int) : WayAt (w.alloc (.cells #[.int .i64 s, .int .i64 i, .pointer a] 61)) (w.alloc (.cells #[.int .i64 s, .int .i64 i, .pointer a] 61)).heap.size (some ⟨w.heap.size, 0, none⟩) ((s, i) :: W) :=
  ⟨w.heap.size, a, rfl, by simp, Blk.new _ _ _, h.alloc _⟩
/-- a list of its own -/
def IPw (xs : List Int) (w : World) (e : Ending) (w' : World) : Prop :=
  ∃ v, e = .returned v ∧ w'.ownsRow w.heap.size 3 1 v xs.length (ints.intsV xs) ∧ Below w.heap.size w w'
/-- whether a step of a way begins at a station -/
def beg (W : List (Int × Int)) (s : Int) : Bool := (W.map Prod.fst).any fun x => x == s
theorem beg_iff {W : List (Int × Int)} {s : Int} : beg W s = true ↔ s ∈ W.map Prod.fst := by
  unfold beg
  rw [List.any_eq_true]
  constructor
  · rintro ⟨x, hx, e⟩
    have : x = s := by simpa using e
    rw [← this]; exact hx
  · intro h; exact ⟨s, h, by simp⟩
set_option maxHeartbeats 4000000 in
set_option maxRecDepth 100000 in
theorem begins_any (s : Int) (B : Nat) (w : World) : ∀ (W : List (Int × Int)) (a : Option Addr) (t : Bool), Hid (beg W s = t) → Hid (WayAt w B a W) →
    Calls Tryd.prog 128 #[.pointer a, .int .i64 s] w fun e w' => e = .returned (.bool t) ∧ w = w' := by
  intro W
  induction W with
  | nil =>
    intro a t ht hW
    obtain rfl : a = none := hW.out
    obtain rfl : t = false := by rw [← ht.out]; rfl
    go_enter Tryd.func128, Tryd.ntmps128
    go_wp2_with fail
    go_ret
    exact ⟨rfl, rfl⟩
  | cons p W ih =>
    intro a t ht hW
    have IH := Lib.hid ih
    clear ih
    obtain ⟨c, i⟩ := p
    obtain ⟨g, u, rfl, hg, hk, h2⟩ := hW.out
    have HK := Lib.hid hk
    have H2 := Lib.hid h2
    have e0 := hk.cell 0
    have e2 := hk.cell 2
    clear hk h2
    cases hc : (c == s)
    · have HT := Lib.hid (show beg W s = t by rw [← ht.out]; show _ = ((c == s) || (W.map Prod.fst).any _); rw [hc]; rfl)
      have hn : (c != s) = true := by simp [bne, hc]
      simp at e0 e2
      go_enter Tryd.func128, Tryd.ntmps128
      go_wp2_with fail
      refine (IH.out u t HT H2).mono ?_
      rintro e w9 ⟨rfl, rfl⟩
      go_wp2_with fail
      go_ret
      exact ⟨rfl, rfl⟩
    · obtain rfl : t = true := by rw [← ht.out]; show ((c == s) || (W.map Prod.fst).any _) = true; rw [hc]; rfl
      simp at e0 e2
      go_enter Tryd.func128, Tryd.ntmps128
      go_wp2_with fail
      go_ret
      exact ⟨rfl, rfl⟩
set_option maxHeartbeats 8000000 in
set_option maxRecDepth 100000 in
theorem legsAlong_any (W : List (Int × Int)) (a : Option Addr) (w : World) (hl : W.length ≤ 1000) (hW : Hid (WayAt w w.heap.size a W)) :
    Calls Tryd.prog 56 #[.pointer a] w (IPw (W.map Prod.snd) w) := by
  obtain ⟨i0, hi, hz0, hz1, hz2⟩ := info_parts infoI
  have HR0 := Lib.hid (show (w.alloc (.cells #[] 3)).ownsRow w.heap.size 3 1 (.slice (some ⟨w.heap.size, 0, none⟩) 0 0) 0 [] from World.ownsRow_made w #[] 0 (Nat.le_refl _) (by decide) (by simp))
  have HB0 := Lib.hid ((Below.refl w.heap.size w).alloc (Nat.le_refl _) (.cells #[] 3))
  go_enter Tryd.func56, Tryd.ntmps56
  go_wp2_with fail
  go_loopg [3, 4] W.length (fun k v p wr => ∃ (D R : List (Int × Int)) (m c : Nat) (A2 u : Option Addr), Hid (W = D ++ R) ∧ R.length = k ∧ v = .slice A2 m c ∧ p = .pointer u ∧ Hid (D.length = m) ∧ Hid (WayAt wr w.heap.size u R) ∧ wr.ownsRow w.heap.size 3 1 (.slice A2 m c) m (ints.intsV (D.map Prod.snd)) ∧ Below w.heap.size w wr)
  case atStart => exact ⟨[], W, 0, 0, _, a, Lib.hid rfl, rfl, rfl, rfl, Lib.hid rfl, Lib.hid (hW.out.below HB0.out), HR0.out, HB0.out⟩
  case round =>
    obtain ⟨D, R, m, c, A2, u, HWD, hk, rfl, rfl, HM, HR, hO, hB⟩ := hrel
    have HO := Lib.hid hO
    have HB := Lib.hid hB
    have hBs := hB.size
    have hm : m ≤ 1000 := by have := congrArg List.length HWD.out; rw [List.length_append, HM.out] at this; omega
    clear hO hB HR0 HB0
    cases R with
    | nil =>
      obtain rfl : u = none := HR.out
      have HFIN := Lib.hid (show wr.ownsRow w.heap.size 3 1 (.slice A2 m c) (W.map Prod.snd).length (ints.intsV (W.map Prod.snd)) by
        rw [HWD.out, List.append_nil, List.length_map, HM.out]; exact HO.out)
      go_wp2_with fail
      go_ret
      exact ⟨_, rfl, HFIN.out, HB.out⟩
    | cons p R =>
      obtain ⟨s, i⟩ := p
      obtain ⟨g, q, rfl, hg, hk9, h2⟩ := HR.out
      have HK9 := Lib.hid hk9
      have H2 := Lib.hid h2
      have e1 := hk9.cell 1
      have hgl := hk9.lt
      simp at e1
      clear hk9 h2
      go_wp2_with (at_builtin; refine wpList_append_lies _ rfl _ _ 24 rfl w.heap.size 3 i0 (.int .i64 0) 1 8 Tryd.underlying24 hi hz0 hz1 hz2 rfl (by decide) _ _ _ rfl (HO.out.alloc _) ⟨wr.heap.size, 0, none⟩ 1 1 [.int .i64 i] rfl rfl (cell_one_new _ _ _) (by simp [Value.oneCell']) (by decide) (by unfold maxLen; omega) (by omega) (by simp; omega) _ rfl ?_; intro g9 c9 w3 hown' hgrow hat hlt9; have HBW := Lib.hid (show Below w.heap.size wr w3 from ((Below.refl w.heap.size wr).alloc hBs (.cells #[.int .i64 i] 3)).grown hgrow (by simp; omega) (fun g e => (HO.out.lt g e).1)); have e2 := (HK9.out.below HBW.out hg).cell 2; simp at e2)
      have HAL := Lib.hid ((Below.refl wr.heap.size wr).alloc (Nat.le_refl _) (.cells #[.int .i64 i] 3))
      have HB9 := Lib.hid ((HB.out.trans (HAL.out.mono hBs)).grown hgrow (by simp; omega) (fun g e => (HO.out.lt g e).1))
      have HO9 := Lib.hid (show w3.ownsRow w.heap.size 3 1 (.slice (some ⟨g9, 0, none⟩) (m + 1) c9) (m + 1) (ints.intsV ((D ++ [(s, i)]).map Prod.snd)) by rw [List.map_append, List.map_cons, List.map_nil, intsV_app]; exact hown')
      have HW9 := Lib.hid (H2.out.below HBW.out)
      clear hown' hgrow hat e1
      go_wp2_with fail
      go_roundg R.length
      case measure => simp at hk; omega
      case rel => exact ⟨D ++ [(s, i)], R, m + 1, c9, some ⟨g9, 0, none⟩, q, Lib.hid (by rw [HWD.out]; simp), rfl, rfl, rfl, Lib.hid (by rw [List.length_append, HM.out]; rfl), HW9, HO9.out, HB9.out⟩
set_option maxHeartbeats 8000000 in
set_option maxRecDepth 100000 in
theorem lengthAlong_any (A : Option Addr) (n cap : Nat) (ts : List Lg) (W : List (Int × Int)) (a : Option Addr) (r : Int) (w : World) (hr : Hid (tapes ts (W.map Prod.snd) = r)) (hg : Hid (goodLg ts = true)) (hl : W.length ≤ 1000) (hlegs : Hid (∀ j ∈ W.map Prod.snd, 0 ≤ j ∧ ∃ x, ts[j.toNat]? = some x)) (hW : Hid (WayAt w w.heap.size a W)) (hts : Hid (LgAt w w.heap.size A n ts)) :
    Calls Tryd.prog 60 #[.slice A n cap, .pointer a] w (APost (.int .i64 r) w) := by
  have HL := Lib.hid hts.out.1
  go_enter Tryd.func60, Tryd.ntmps60
  go_wp2_with fail
  go_loopg [5, 6] W.length (fun k v p wr => w = wr ∧ ∃ (D R : List (Int × Int)) (z : Int) (u : Option Addr), Hid (W = D ++ R) ∧ R.length = k ∧ v = .int .i64 z ∧ p = .pointer u ∧ Hid (tapes ts (D.map Prod.snd) = z) ∧ Hid (WayAt w w.heap.size u R))
  case atStart => exact ⟨rfl, [], W, 0, a, Lib.hid rfl, rfl, rfl, rfl, Lib.hid rfl, hW⟩
  case round =>
    obtain ⟨rfl, D, R, z, u, HWD, hk, rfl, rfl, HZ, HR⟩ := hrel
    cases R with
    | nil =>
      obtain rfl : u = none := HR.out
      have HFIN := Lib.hid (show z = r by rw [← hr.out, ← HZ.out, HWD.out, List.append_nil])
      go_wp2_with fail
      go_ret
      exact ⟨by rw [HFIN.out]; rfl, Below.refl _ _⟩
    | cons p R =>
      obtain ⟨s, i⟩ := p
      obtain ⟨g, q, rfl, hg9, hk9, h2⟩ := HR.out
      have H2 := Lib.hid h2
      obtain ⟨i0, y, hy⟩ := hlegs.out i (by rw [HWD.out]; simp)
      obtain ⟨j, rfl⟩ := Int.eq_ofNat_of_zero_le i0
      rw [Int.toNat_natCast] at hy
      have hjn : j < n := by have := lt_at hy; rw [HL.out] at this; exact this
      obtain ⟨gL, rfl, hgL, -, -, t2, -, -⟩ := hts.out.2 j y hy
      have hyt := (okLg_lim (goodLg_at hg.out hy)).2.2.2.1
      have hzb := tapes_bd hg.out (D.map Prod.snd)
      rw [HZ.out, List.length_map] at hzb
      have hdl : D.length ≤ 1000 := by have := congrArg List.length HWD.out; rw [List.length_append] at this; omega
      have HZ2 := Lib.hid (show tapes ts ((D ++ [(s, (j : Int))]).map Prod.snd) = z + y.tape by rw [List.map_append, tapes_app, HZ.out]; show z + ((legAt ts (j : Int)).tape + 0) = _; rw [legAt_is (by rw [Int.toNat_natCast]; exact hy)]; omega)
      have hz2 : 0 ≤ z ∧ z ≤ 500000 := by omega
      have e1 := hk9.cell 1
      have e2 := hk9.cell 2
      simp at e1 e2
      have hji : (j : Int) < (n : Int) := by omega
      have hj0 : (0 : Int) ≤ (j : Int) := by omega
      clear hk9 h2 hy hzb
      go_wp2_with fail
      go_roundg R.length
      case measure => simp at hk; omega
      case rel => exact ⟨rfl, D ++ [(s, (j : Int))], R, z + y.tape, q, Lib.hid (by rw [HWD.out]; simp), rfl, rfl, rfl, HZ2, H2⟩
#print axioms begins_any
#print axioms legsAlong_any
#print axioms lengthAlong_any
end Go.Proofs.YtkeepfkjhcmhlaaDoor.lpi
