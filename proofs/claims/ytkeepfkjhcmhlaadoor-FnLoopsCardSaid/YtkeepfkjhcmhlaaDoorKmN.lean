/-
  The way between two stations by tree legs, and the legs of a loop, by the model.
  The legs of a loop, by the model.
  LoopLegs and LoopOf, by the model.
  The length and the misclosure of a loop, by the model.
  Misclosures, the worst loop, the loops through a leg, their number, by the model.
  Bridges, by the model.
  IsBridge, BridgesOf, LoopsThrough and CountLoops, by the model.
  Conditions: those that each theorem names.
-/
import Derived.Test.YtkeepfkjhcmhlaaDoorKuM
import Derived.Test.YtkeepfkjhcmhlaaDoorNtD0
import Derived.Test.YtkeepfkjhcmhlaaDoorInA
import Derived.Deep.RegionHeld3
import Derived.Deep.DeepCutAuto
import Derived.OwnWalk
import Derived.Test.YtkeepfkjhcmhlaaDoorNtL
import Derived.Deep.QuietTactic
import Derived.BigQuiet
import Derived.Deep.RegionWith
namespace Go.Proofs.YtkeepfkjhcmhlaaDoor.lp
open Go.RowKit
open reads base ty lg rowi hs nt
set_option linter.unusedVariables false
set_option linter.unusedSimpArgs false

/-- a way by tree legs that does not turn back, if there is one -/
def WPo (ts : List Lg) (last a b : Int) (w : World) (e : Ending) (w' : World) : Prop :=
  ∃ (r : List Int) (ok : Bool) (g c m : Nat), e = .returned (.tuple #[.slice (some ⟨g, 0, none⟩) m c, .bool ok]) ∧ r.length = m ∧ m ≤ 12 ∧ w'.ownsRow w.heap.size 3 1 (.slice (some ⟨g, 0, none⟩) m c) m (ints.intsV r) ∧ Below w.heap.size w w' ∧ (if ok = true then NB ts (net ts).tr last a r b else ∀ l, ¬ NB ts (net ts).tr last a l b)
theorem jo_test {x : Lg} {a : Int} (h : (x.frm == a) = true ∨ (x.to_ == a) = true) : Jo x a (x.frm + x.to_ - a) := by
  unfold Jo
  rcases h with h | h
  · have : x.frm = a := by simpa using h
    omega
  · have : x.to_ = a := by simpa using h
    omega
theorem ints_one (xs : List Int) : ∀ u ∈ ints.intsV xs, u.oneCell' = true := by
  intro u hu
  obtain ⟨y, -, rfl⟩ := List.mem_map.1 hu
  rfl
theorem row_some {w : World} {base size n : Nat} {e : TypeId} {v : Value} {xs : List Value} (h : w.ownsRow base e size v n xs) (hn : 0 < n) : ∃ g c, v = .slice (some ⟨g, 0, none⟩) n c := by
  obtain ⟨g, cap, hv, -, -⟩ := h.form hn
  exact ⟨g, cap, hv⟩
/-- what the search has shown: no way begins with one of the first k legs -/
def Tried (ts : List Lg) (T : List Int) (last a b : Int) (k : Nat) : Prop := ∀ i l, i ∈ T.take k → ¬ NB ts (net ts).tr last a (i :: l) b
theorem tried_next {ts : List Lg} {T : List Int} {last a b : Int} {k : Nat} {i : Int} (h : Tried ts T last a b k) (hi : T[k]? = some i) (hn : ∀ l, ¬ NB ts (net ts).tr last a (i :: l) b) : Tried ts T last a b (k + 1) := fun j l hj => by
  rw [take_snoc hi] at hj
  rcases List.mem_append.1 hj with q | q
  · exact h j l q
  · rw [List.mem_singleton.1 q]; exact hn l
theorem tried_all {ts : List Lg} {last a b : Int} {m : Nat} (hm : (net ts).tr.length = m) (h : Tried ts (net ts).tr last a b m) (hab : ¬ a = b) : ∀ l, ¬ NB ts (net ts).tr last a l b := fun l hl => by
  cases l with
  | nil => exact hab hl
  | cons i l => exact h i l (by rw [← hm, List.take_length]; exact hl.1) hl
set_option maxHeartbeats 8000000 in
set_option maxRecDepth 100000 in
theorem way_any (ts : List Lg) (hg : Hid (goodLg ts = true)) : ∀ (f : Nat) (last a b : Int) (A : Option Addr) (n cap : Nat) (At : Option Addr) (m ct : Nat) (w : World), Hid (∀ l b', NB ts (net ts).tr last a l b' → l.length < f) → Hid (LgAt w w.heap.size A n ts) → Hid (InAt w w.heap.size At m (net ts).tr) →
    Calls Tryd.prog 83 #[.slice A n cap, .slice At m ct, .int .i64 a, .int .i64 b, .int .i64 last] w (WPo ts last a b w) := by
  intro f
  induction f with
  | zero => intro last a b A n cap At m ct w hf _ _; exact absurd (hf.out [] a rfl) (by simp)
  | succ f ih =>
  have IH := Lib.hid ih
  clear ih
  intro last a b A n cap At m ct w HF hts htr
  obtain ⟨i0, hi, hz0, hz1, hz2⟩ := info_parts infoI
  have HL := Lib.hid hts.out.1
  have HM := Lib.hid htr.out.1
  have hn12 := len12 HL.out hg.out
  have hm12 : m ≤ 12 := by rw [← HM.out]; exact (ok_net hg.out).tr_len
  by_cases hab : a = b
  · have HN := Lib.hid (show NB ts (net ts).tr last a [] b from hab)
    have hd : (a == b) = true := by simpa using hab
    have hd2 : decide (a = b) = true := by simpa using hab
    clear hab
    go_enter Tryd.func83, Tryd.ntmps83
    go_wp2_with fail
    go_ret2
    exact ⟨[], true, _, _, 0, rfl, rfl, by omega, World.ownsRow_made w #[] 0 (Nat.le_refl _) (by decide) (by simp), (Below.refl _ _).alloc (Nat.le_refl _) _, HN.out⟩
  · have HAB := Lib.hid hab
    have hd : (a == b) = false := by simpa using hab
    have hd2 : decide (a = b) = false := by simpa using hab
    clear hab
    go_enter Tryd.func83, Tryd.ntmps83
    go_wp2_with fail
    go_loopw [12] (fun i wr => ∃ (k : Nat), k ≤ m ∧ i = .int .i64 (k : Nat) ∧ Hid (Tried ts (net ts).tr last a b k) ∧ Below w.heap.size w wr) (fun i _ => m - (intOf i).toNat)
    case atStart => exact ⟨0, Nat.zero_le _, rfl, Lib.hid (fun i l hi => by simp at hi), Below.refl _ _⟩
    case round =>
      obtain ⟨k, hk, rfl, HT, hB⟩ := hrel
      have HB := Lib.hid hB
      have hBs := hB.size
      clear hB
      have hk0 : (0 : Int) ≤ (k : Int) := by omega
      by_cases hlt : k < m
      · obtain ⟨i, hi9⟩ := at_lt HM.out hlt
        have him := List.mem_of_getElem? hi9
        obtain ⟨hi0, x, hx⟩ := tr_pos him
        obtain ⟨j, rfl⟩ := Int.eq_ofNat_of_zero_le hi0
        rw [Int.toNat_natCast] at hx
        have hjn : j < n := by have := lt_at hx; rw [HL.out] at this; exact this
        obtain ⟨gT, rfl, hgT, eT⟩ := (htr.out.below HB.out).2 k _ hi9
        obtain ⟨gL, rfl, hgL, e0, e1, e2, e3, e4⟩ := (hts.out.below HB.out).2 j x hx
        have HI := Lib.hid hi9
        have HX := Lib.hid hx
        have HIM := Lib.hid him
        have HOK := Lib.hid (okLg_lim (goodLg_at hg.out hx))
        have hf1 := HOK.out.1
        have hf2 := HOK.out.2.1
        clear hx him hi0 hi9 e2 e3 e4
        have hki : (k : Int) < (m : Int) := by omega
        have hkd : decide (k < m) = true := by simpa using hlt
        have hji : (j : Int) < (n : Int) := by omega
        have hj0 : (0 : Int) ≤ (j : Int) := by omega
        have hjd : decide (j < n) = true := by simpa using hjn
        by_cases hla : (j : Int) = last
        · have HT2 := Lib.hid (tried_next HT.out HI.out (fun l h => h.2.1 hla))
          have hd3 : ((j : Int) == last) = true := by simpa using hla
          have hd4 : decide ((j : Int) = last) = true := by simpa using hla
          clear hla
          go_wp2_with fail
          go_roundw
          case rel => exact ⟨k + 1, by omega, by go_num, HT2, HB.out⟩
          case measure => simp [intOf]; omega
        · have HLA := Lib.hid hla
          have hd3 : ((j : Int) == last) = false := by simpa using hla
          have hd4 : decide ((j : Int) = last) = false := by simpa using hla
          clear hla
          have hcase : (x.frm == a) = true ∨ (x.frm == a) = false ∧ ((x.to_ == a) = true ∨ (x.to_ == a) = false) := by cases (x.frm == a) <;> cases (x.to_ == a) <;> simp
          have none_ : (x.frm == a) = false → (x.to_ == a) = false → Tried ts (net ts).tr last a b (k + 1) := fun q1 q2 => tried_next HT.out HI.out (fun l h => by
            obtain ⟨-, -, o, ⟨-, y, hy, hj⟩, -⟩ := h
            rw [Int.toNat_natCast, HX.out] at hy
            obtain rfl := Option.some.inj hy
            have q1 : ¬ x.frm = a := by simpa using q1
            have q2 : ¬ x.to_ = a := by simpa using q2
            unfold Jo at hj; omega)
          have HNO := Lib.hid none_
          clear none_
          have go : Jo x a (x.frm + x.to_ - a) → ∀ (o : Int), x.frm + x.to_ - a = o → (Jn ts (j : Int) a o) ∧ (∀ l b', NB ts (net ts).tr (j : Int) o l b' → l.length < f) := fun hj o ho => by
            rw [ho] at hj
            have hJ : Jn ts (j : Int) a o := ⟨by omega, x, by rw [Int.toNat_natCast]; exact HX.out, hj⟩
            refine ⟨hJ, fun l b' hl => ?_⟩
            have := HF.out ((j : Int) :: l) b' ⟨HIM.out, HLA.out, o, hJ, hl⟩
            simp at this; omega
          have HGO := Lib.hid go
          clear go
          obtain ⟨o, ho⟩ : ∃ o, x.frm + x.to_ - a = o := ⟨_, rfl⟩
          have HO := Lib.hid ho
          clear ho
          rcases hcase with q | ⟨q, q2 | q2⟩
          · have q3 : (x.frm != a) = false := by simpa using q
            have hJo := jo_test (x := x) (a := a) (.inl q)
            have ha7 : 0 ≤ a ∧ a ≤ 7 := by unfold Jo at hJo; omega
            obtain ⟨HJ, HFO⟩ := HGO.out hJo o HO.out
            have HJn := Lib.hid HJ
            have HFo := Lib.hid HFO
            have hox := HO.out
            clear hJo HJ HFO
            go_wp2_with fail
            go_quiet (fail)
            try rw [hox]
            obtain ⟨W1, HW1⟩ : ∃ W, Hid (wr.drewN nq = W) := ⟨_, Lib.hid rfl⟩
            try rw [HW1.out]
            have HBD := Lib.hid (show Below wr.heap.size wr W1 by rw [← HW1.out]; exact drewN_below _ _)
            have HB1 := Lib.hid (HB.out.trans (HBD.out.mono hBs))
            clear HW1 e0 e1 eT
            go_wp2_with fail
            refine (IH.out (j : Int) o b _ n cap _ m ct _ HFo (Lib.hid (hts.out.step HB1.out)) (Lib.hid (htr.out.step HB1.out))).mono ?_
            rintro e w2 ⟨r, ok, g9, c9, m9, rfl, hr, hm9, hown, hb2, hok⟩
            have HR := Lib.hid hr
            have HOW := Lib.hid hown
            have HOK2 := Lib.hid hok
            have HB2 := Lib.hid (HB1.out.trans (hb2.mono HB1.out.size))
            have hg9 := (hown.lt g9 rfl).2
            have hb2s := hb2.size
            clear hr hown hb2 hok
            cases ok
            · have HNX := Lib.hid (tried_next HT.out HI.out (fun l h => by
                obtain ⟨-, -, o', ho', h2⟩ := h
                have e9 : o' = o := ho'.uniq HJn.out
                rw [e9] at h2
                have q := HOK2.out
                rw [if_neg (by simp)] at q
                exact q l h2))
              go_wp2_with fail
              go_roundw
              case rel => exact ⟨k + 1, by omega, by go_num, HNX, HB2.out⟩
              case measure => simp [intOf]; omega
            · have HNB := Lib.hid (show NB ts (net ts).tr last a ((j : Int) :: r) b from ⟨HIM.out, HLA.out, o, HJn.out, by have q := HOK2.out; rw [if_pos rfl] at q; exact q⟩)
              have hm99 : m9 + 1 ≤ 12 := by
                have q := (nb_once HNB.out).2
                have q2 := (ok_net hg.out).tr_len
                simp only [List.length_cons, HR.out] at q; omega
              have HS := Lib.hid (show (w2.alloc (.cells #[.int .i64 (j : Int)] 3)).ownsRow w.heap.size 3 1 (.slice (some ⟨w2.heap.size, 0, none⟩) 1 1) 1 [.int .i64 (j : Int)] from row_blk (n := 1) (size := 1) (Blk.new w2 3 #[.int .i64 (j : Int)]) HB2.out.size (by decide) rfl)
              have HNE := Lib.hid (row_below HOW.out ((Below.refl w2.heap.size w2).alloc (Nat.le_refl _) (.cells #[.int .i64 (j : Int)] 3)))
              have HB3 := Lib.hid (HB2.out.alloc HB2.out.size (.cells #[.int .i64 (j : Int)] 3))
              have hsz := HB2.out.size
              go_wp2_with (at_builtin; refine wpList_append_own _ rfl _ _ 24 rfl w.heap.size 3 i0 (.int .i64 0) 1 8 Tryd.underlying24 hi hz0 hz1 hz2 rfl (by decide) _ _ _ rfl HS.out ⟨g9, 0, none⟩ m9 c9 (ints.intsV r) rfl (by rw [ints.intsV_len, HR.out]; omega) (HNE.out.cells (g := g9) rfl) (ints_one r) (by unfold maxLen; omega) (by omega) (by simp; omega) ?_; intro v' w3 hown' hgrow _)
              have HB4 := Lib.hid (HB3.out.grown hgrow (by simp; omega) (fun g e => (HS.out.lt g e).1))
              obtain ⟨g8, c8, rfl⟩ := row_some hown' (by omega)
              have HO8 := Lib.hid hown'
              clear hown' hgrow
              go_wp2_with fail
              go_ret2
              refine ⟨(j : Int) :: r, true, g8, c8, 1 + m9, rfl, by rw [List.length_cons, HR.out]; omega, by omega, ?_, HB4.out, HNB.out⟩
              rw [show ints.intsV ((j : Int) :: r) = [.int .i64 (j : Int)] ++ ints.intsV r from rfl]; exact HO8.out
          · have q3 : (x.frm != a) = true := by simpa using q
            have q4 : (x.to_ != a) = false := by simpa using q2
            have hJo := jo_test (x := x) (a := a) (.inr q2)
            have ha7 : 0 ≤ a ∧ a ≤ 7 := by unfold Jo at hJo; omega
            obtain ⟨HJ, HFO⟩ := HGO.out hJo o HO.out
            have HJn := Lib.hid HJ
            have HFo := Lib.hid HFO
            have hox := HO.out
            clear hJo HJ HFO
            go_wp2_with fail
            go_quiet (fail)
            try rw [hox]
            obtain ⟨W1, HW1⟩ : ∃ W, Hid (wr.drewN nq = W) := ⟨_, Lib.hid rfl⟩
            try rw [HW1.out]
            have HBD := Lib.hid (show Below wr.heap.size wr W1 by rw [← HW1.out]; exact drewN_below _ _)
            have HB1 := Lib.hid (HB.out.trans (HBD.out.mono hBs))
            clear HW1 e0 e1 eT
            go_wp2_with fail
            refine (IH.out (j : Int) o b _ n cap _ m ct _ HFo (Lib.hid (hts.out.step HB1.out)) (Lib.hid (htr.out.step HB1.out))).mono ?_
            rintro e w2 ⟨r, ok, g9, c9, m9, rfl, hr, hm9, hown, hb2, hok⟩
            have HR := Lib.hid hr
            have HOW := Lib.hid hown
            have HOK2 := Lib.hid hok
            have HB2 := Lib.hid (HB1.out.trans (hb2.mono HB1.out.size))
            have hg9 := (hown.lt g9 rfl).2
            have hb2s := hb2.size
            clear hr hown hb2 hok
            cases ok
            · have HNX := Lib.hid (tried_next HT.out HI.out (fun l h => by
                obtain ⟨-, -, o', ho', h2⟩ := h
                have e9 : o' = o := ho'.uniq HJn.out
                rw [e9] at h2
                have q := HOK2.out
                rw [if_neg (by simp)] at q
                exact q l h2))
              go_wp2_with fail
              go_roundw
              case rel => exact ⟨k + 1, by omega, by go_num, HNX, HB2.out⟩
              case measure => simp [intOf]; omega
            · have HNB := Lib.hid (show NB ts (net ts).tr last a ((j : Int) :: r) b from ⟨HIM.out, HLA.out, o, HJn.out, by have q := HOK2.out; rw [if_pos rfl] at q; exact q⟩)
              have hm99 : m9 + 1 ≤ 12 := by
                have q := (nb_once HNB.out).2
                have q2 := (ok_net hg.out).tr_len
                simp only [List.length_cons, HR.out] at q; omega
              have HS := Lib.hid (show (w2.alloc (.cells #[.int .i64 (j : Int)] 3)).ownsRow w.heap.size 3 1 (.slice (some ⟨w2.heap.size, 0, none⟩) 1 1) 1 [.int .i64 (j : Int)] from row_blk (n := 1) (size := 1) (Blk.new w2 3 #[.int .i64 (j : Int)]) HB2.out.size (by decide) rfl)
              have HNE := Lib.hid (row_below HOW.out ((Below.refl w2.heap.size w2).alloc (Nat.le_refl _) (.cells #[.int .i64 (j : Int)] 3)))
              have HB3 := Lib.hid (HB2.out.alloc HB2.out.size (.cells #[.int .i64 (j : Int)] 3))
              have hsz := HB2.out.size
              go_wp2_with (at_builtin; refine wpList_append_own _ rfl _ _ 24 rfl w.heap.size 3 i0 (.int .i64 0) 1 8 Tryd.underlying24 hi hz0 hz1 hz2 rfl (by decide) _ _ _ rfl HS.out ⟨g9, 0, none⟩ m9 c9 (ints.intsV r) rfl (by rw [ints.intsV_len, HR.out]; omega) (HNE.out.cells (g := g9) rfl) (ints_one r) (by unfold maxLen; omega) (by omega) (by simp; omega) ?_; intro v' w3 hown' hgrow _)
              have HB4 := Lib.hid (HB3.out.grown hgrow (by simp; omega) (fun g e => (HS.out.lt g e).1))
              obtain ⟨g8, c8, rfl⟩ := row_some hown' (by omega)
              have HO8 := Lib.hid hown'
              clear hown' hgrow
              go_wp2_with fail
              go_ret2
              refine ⟨(j : Int) :: r, true, g8, c8, 1 + m9, rfl, by rw [List.length_cons, HR.out]; omega, by omega, ?_, HB4.out, HNB.out⟩
              rw [show ints.intsV ((j : Int) :: r) = [.int .i64 (j : Int)] ++ ints.intsV r from rfl]; exact HO8.out
          · have q3 : (x.frm != a) = true := by simpa using q
            have q4 : (x.to_ != a) = true := by simpa using q2
            have HT2 := Lib.hid (HNO.out q q2)
            clear HO
            go_wp2_with fail
            go_roundw
            case rel => exact ⟨k + 1, by omega, by go_num, HT2, HB.out⟩
            case measure => simp [intOf]; omega
      · have hkd : decide (k < m) = false := by simpa using hlt
        obtain rfl : m = k := by omega
        clear hlt
        have HFIN := Lib.hid (tried_all HM.out HT.out HAB.out)
        go_wp2_with fail
        go_ret2
        exact ⟨[], false, _, _, 0, rfl, rfl, by omega, World.ownsRow_made wr #[] 0 hBs (by decide) (by simp), HB.out.alloc hBs _, HFIN.out⟩
end Go.Proofs.YtkeepfkjhcmhlaaDoor.lp

namespace Go.Proofs.YtkeepfkjhcmhlaaDoor.lp
open Go.RowKit
open reads base ty lg rowi hs nt
set_option linter.unusedVariables false
set_option linter.unusedSimpArgs false

set_option maxHeartbeats 4000000 in
set_option maxRecDepth 100000 in
theorem closing8_any (A : Option Addr) (n cap : Nat) (ts : List Lg) (i : Int) (t : Bool) (w : World) (ht : Hid (lpOk ts i = t)) (hn : n ≤ 2000000) (hts : Hid (LgAt w w.heap.size A n ts)) :
    Calls Tryd.prog 51 #[.slice A n cap, .int .i64 i] w (BPost t w) := by
  cases hg : goodLg ts
  · have HG := Lib.hid hg
    obtain rfl : t = false := by rw [← ht.out]; unfold lpOk; rw [hg]; rfl
    clear hg
    go_enter Tryd.func51, Tryd.ntmps51
    go_wp2_with fail
    refine (legs_is A n cap ts false _ hn hts HG).mono ?_
    rintro e w1 ⟨rfl, b1⟩
    have HB := Lib.hid b1
    clear b1
    go_wp2_with fail
    go_ret
    exact ⟨rfl, HB.out⟩
  · have HG := Lib.hid hg
    have HM := Lib.hid (show mem (clN ts (net ts) ts.length) i = t by rw [← ht.out]; unfold lpOk clIds; rw [hg]; rfl)
    have hcl := Nat.le_trans (clN_len ts (net ts) ts.length) (goodLg_len hg)
    obtain ⟨C, HC⟩ : ∃ C, Hid (clN ts (net ts) ts.length = C) := ⟨_, Lib.hid rfl⟩
    rw [HC.out] at HM hcl
    clear hg
    go_enter Tryd.func51, Tryd.ntmps51
    go_wp2_with fail
    refine (legs_is A n cap ts true _ hn hts HG).mono ?_
    rintro e w1 ⟨rfl, b1⟩
    have HB := Lib.hid b1
    clear b1
    go_wp2_with fail
    refine (closing_any A n cap ts (net ts) (Lib.hid rfl) _ HG (Lib.hid (hts.out.step HB.out))).mono ?_
    rintro e w2 ⟨v, rfl, ho, b⟩
    rw [HC.out] at ho
    obtain ⟨m, HMM⟩ : ∃ m, Hid (C.length = m) := ⟨_, Lib.hid rfl⟩
    rw [HMM.out] at ho hcl
    obtain ⟨A2, c2, rfl⟩ := row_slice ho
    have HO := Lib.hid ho
    have HB2 := Lib.hid (HB.out.trans (b.mono HB.out.size))
    clear ho b
    go_wp2_with fail
    refine (has_is A2 m c2 C i t HM _ (by omega) (Lib.hid (ints.IL.of_own HO.out))).mono ?_
    rintro e w9 ⟨rfl, rfl⟩
    go_wp2_with fail
    go_ret
    exact ⟨rfl, HB2.out⟩
set_option maxHeartbeats 8000000 in
set_option maxRecDepth 100000 in
theorem legs8_any (A : Option Addr) (n cap : Nat) (ts : List Lg) (i : Int) (w : World) (ht : Hid (lpOk ts i = true)) (hts : Hid (LgAt w w.heap.size A n ts)) :
    Calls Tryd.prog 52 #[.slice A n cap, .int .i64 i] w (IPo (lpIds ts i) w) := by
  obtain ⟨hg0, h0, h1, x, hx, hl, hok, hf, hto, hnt⟩ := lp_leg ht.out
  have hg := Lib.hid hg0
  have HL := Lib.hid hts.out.1
  obtain ⟨j, rfl⟩ := Int.eq_ofNat_of_zero_le h0
  rw [Int.toNat_natCast] at hx
  have hjn : j < n := by have := lt_at hx; rw [HL.out] at this; exact this
  have HX := Lib.hid hx
  have HLA := Lib.hid hl
  have ho3 := (ok_net hg0).tr_len
  have HON := Lib.hid (ok_net hg0)
  have HF13 := Lib.hid (show ∀ l b', NB ts (net ts).tr (-1) x.to_ l b' → l.length < 13 from fun l b' h => by have := (nb_once h).2; omega)
  obtain ⟨N, HNN⟩ : ∃ N, Hid (net ts = N) := ⟨_, Lib.hid rfl⟩
  obtain ⟨i0, hi, hz0, hz1, hz2⟩ := info_parts infoI
  have hji : (j : Int) < (n : Int) := by omega
  have hj0 : (0 : Int) ≤ (j : Int) := by omega
  have hn12 := len12 HL.out hg0
  clear hg0 h0 h1 hl hok hf hto hnt
  go_enter Tryd.func52, Tryd.ntmps52
  go_wp2_with fail
  refine (place_any A n cap ts _ hg hts).mono ?_
  rintro e w1 ⟨g1, g2, c2, g3, c3, rfl, hN⟩
  obtain ⟨m3, HM3⟩ : ∃ m, Hid ((net ts).tr.length = m) := ⟨_, Lib.hid rfl⟩
  obtain ⟨m2, HM2⟩ : ∃ m, Hid ((net ts).ps.length = m) := ⟨_, Lib.hid rfl⟩
  rw [HM2.out, HM3.out] at hN
  rw [HM3.out] at ho3
  rw [HM2.out, HM3.out]
  have HB1 := Lib.hid hN.1
  have HT1 := Lib.hid (own_In HM3.out hN.2.2.2)
  obtain ⟨gL, rfl, hgL, e0, e1, -, -, -⟩ := (hts.out.below hN.1).2 j x hx
  clear hN hx
  have HGL : ∀ v, Below w1.heap.size w1 v → gL < v.heap.size := fun v hv => by have := hv.size; have := HB1.out.size; omega
  go_upto_region 2 with fail
  refine wp_region_held_drew (S := fun v => v.cell? ⟨gL, j * 5, none⟩ = some (.int .i64 x.frm) ∧ v.cell? ⟨gL, j * 5 + 1, none⟩ = some (.int .i64 x.to_) ∧ Below w1.heap.size w1 v) (by kernel_rfl) ?_ (fun hHeld => ?_)
  · exact ⟨e0, e1, (Below.refl _ _).drew⟩
  refine' wpAnyH_take (i := 0) (v := ?vr1_0) rfl (by kernel_rfl) (by kernel_rfl) (by kernel_rfl) (fun _ _ _ h => h) (Or.inl ⟨by rfl, ?hyr1_0⟩) (by assumption) ?restr1_0
  case hyr1_0 => (intro w hSw; (try dsimp only at hSw); go_simp; try (with_reducible rfl))
  simp only [Act.put, List.getElem_toArray, List.getElem_cons_succ, List.getElem_cons_zero, List.setIfInBounds_toArray, List.set_cons_zero, List.set_cons_succ]
  refine' wpAnyH_take (i := 1) (v := ?vr1_1) rfl (by kernel_rfl) (by kernel_rfl) (by kernel_rfl) (fun _ _ _ h => h) (Or.inl ⟨by rfl, ?hyr1_1⟩) (by assumption) ?restr1_1
  case hyr1_1 => (intro w hSw; (try dsimp only at hSw); go_simp; try (with_reducible rfl))
  simp only [Act.put, List.getElem_toArray, List.getElem_cons_succ, List.getElem_cons_zero, List.setIfInBounds_toArray, List.set_cons_zero, List.set_cons_succ]
  refine' wpAnyH_take (i := 2) (v := ?vr1_2) rfl (by kernel_rfl) (by kernel_rfl) (by kernel_rfl) (fun _ _ _ h => h) (Or.inl ⟨by rfl, ?hyr1_2⟩) (by assumption) ?restr1_2
  case hyr1_2 => (intro w hSw; (try dsimp only at hSw); go_simp; try (with_reducible rfl))
  simp only [Act.put, List.getElem_toArray, List.getElem_cons_succ, List.getElem_cons_zero, List.setIfInBounds_toArray, List.set_cons_zero, List.set_cons_succ]
  refine' wpAnyH_take (i := 3) (v := ?vr1_3) rfl (by kernel_rfl) (by kernel_rfl) (by kernel_rfl) (fun _ _ _ h => h) (Or.inl ⟨by rfl, ?hyr1_3⟩) (by assumption) ?restr1_3
  case hyr1_3 => (intro w hSw; (try dsimp only at hSw); go_simp; try (with_reducible rfl))
  simp only [Act.put, List.getElem_toArray, List.getElem_cons_succ, List.getElem_cons_zero, List.setIfInBounds_toArray, List.set_cons_zero, List.set_cons_succ]
  refine' wpAnyH_take (i := 4) (v := ?vr1_4) rfl (by kernel_rfl) (by kernel_rfl) (by kernel_rfl) (fun _ _ _ h => h) (Or.inl ⟨by rfl, ?hyr1_4⟩) (by assumption) ?restr1_4
  case hyr1_4 => (intro w hSw; (try dsimp only at hSw); go_simp; try (with_reducible rfl))
  simp only [Act.put, List.getElem_toArray, List.getElem_cons_succ, List.getElem_cons_zero, List.setIfInBounds_toArray, List.set_cons_zero, List.set_cons_succ]
  refine' wpAnyH_take (i := 5) (v := ?vr1_5) rfl (by kernel_rfl) (by kernel_rfl) (by kernel_rfl) (fun _ _ _ h => h) (Or.inl ⟨by rfl, ?hyr1_5⟩) (by assumption) ?restr1_5
  case hyr1_5 => (intro w hSw; (try dsimp only at hSw); go_simp; try (with_reducible rfl))
  simp only [Act.put, List.getElem_toArray, List.getElem_cons_succ, List.getElem_cons_zero, List.setIfInBounds_toArray, List.set_cons_zero, List.set_cons_succ]
  refine' wpAnyH_take (i := 6) (v := ?vr1_6) rfl (by kernel_rfl) (by kernel_rfl) (by kernel_rfl) (fun _ _ _ h => h) (Or.inl ⟨by rfl, ?hyr1_6⟩) (by assumption) ?restr1_6
  case hyr1_6 => (intro w hSw; (try dsimp only at hSw); go_simp; try (with_reducible rfl))
  simp only [Act.put, List.getElem_toArray, List.getElem_cons_succ, List.getElem_cons_zero, List.setIfInBounds_toArray, List.set_cons_zero, List.set_cons_succ]
  refine' wpAnyH_take (i := 7) (v := ?vr1_7) rfl (by kernel_rfl) (by kernel_rfl) (by kernel_rfl) (fun _ _ _ h => h) (Or.inl ⟨by rfl, ?hyr1_7⟩) (by assumption) ?restr1_7
  case hyr1_7 => (intro w hSw; (try dsimp only at hSw); go_simp; try (with_reducible rfl))
  simp only [Act.put, List.getElem_toArray, List.getElem_cons_succ, List.getElem_cons_zero, List.setIfInBounds_toArray, List.set_cons_zero, List.set_cons_succ]
  refine' wpAnyH_take (i := 8) (v := ?vr1_8) rfl (by kernel_rfl) (by kernel_rfl) (by kernel_rfl) (fun _ _ _ h => h) (Or.inl ⟨by rfl, ?hyr1_8⟩) (by assumption) ?restr1_8
  case hyr1_8 => (intro w hSw; (try dsimp only at hSw); go_simp; try (with_reducible rfl))
  simp only [Act.put, List.getElem_toArray, List.getElem_cons_succ, List.getElem_cons_zero, List.setIfInBounds_toArray, List.set_cons_zero, List.set_cons_succ]
  refine' wpAnyH_take (i := 9) (v := ?vr1_9) rfl (by kernel_rfl) (by kernel_rfl) (by kernel_rfl) (fun _ _ _ h => h) (Or.inl ⟨by rfl, ?hyr1_9⟩) (by assumption) ?restr1_9
  case hyr1_9 => (intro w hSw; (try dsimp only at hSw); go_simp; try (with_reducible rfl))
  simp only [Act.put, List.getElem_toArray, List.getElem_cons_succ, List.getElem_cons_zero, List.setIfInBounds_toArray, List.set_cons_zero, List.set_cons_succ]
  refine' wpAnyH_take (i := 10) (v := ?vr1_10) rfl (by kernel_rfl) (by kernel_rfl) (by kernel_rfl) (fun _ _ _ h => h) (Or.inl ⟨by rfl, ?hyr1_10⟩) (by assumption) ?restr1_10
  case hyr1_10 => (intro w hSw; (try dsimp only at hSw); go_simp; try (with_reducible rfl))
  simp only [Act.put, List.getElem_toArray, List.getElem_cons_succ, List.getElem_cons_zero, List.setIfInBounds_toArray, List.set_cons_zero, List.set_cons_succ]
  refine' wpAnyH_take (i := 11) (v := ?vr1_11) rfl (by kernel_rfl) (by kernel_rfl) (by kernel_rfl) (fun _ _ _ h => h) (Or.inl ⟨by rfl, ?hyr1_11⟩) (by assumption) ?restr1_11
  case hyr1_11 => (intro w hSw; (try dsimp only at hSw); go_simp; try (with_reducible rfl))
  simp only [Act.put, List.getElem_toArray, List.getElem_cons_succ, List.getElem_cons_zero, List.setIfInBounds_toArray, List.set_cons_zero, List.set_cons_succ]
  refine wpAnyH_ready (rs := [12]) (by kernel_rfl) (by simp) ?_
  refine AllReadyH.cons rfl (fun K hK => ?_) AllReadyH.nil
  go_simp
  refine (way_any ts hg 13 (-1) x.to_ x.frm _ n cap _ m3 c3 _ HF13 (Lib.hid (hts.out.step (HB1.out.trans (hHeld.2.2.mono HB1.out.size)))) (Lib.hid (HT1.out.step hHeld.2.2))).mono ?_
  rintro _ w2 ⟨r, ok, g9, c9, m9, rfl, hr, hm9, hown, hb2, hok⟩
  have HOW := Lib.hid (nt.own_mono hown (Nat.le_trans HB1.out.size hHeld.2.2.size))
  have HR := Lib.hid hr
  have HOK2 := Lib.hid hok
  clear hown hr hok
  refine hK.out _ _ (⟨(hb2.cell (p := ⟨gL, j * 5, none⟩) (HGL _ hHeld.2.2)).trans hHeld.1, (hb2.cell (p := ⟨gL, j * 5 + 1, none⟩) (HGL _ hHeld.2.2)).trans hHeld.2.1, hHeld.2.2.trans (hb2.mono hHeld.2.2.size)⟩) (fun hHeld1 => ?_)
  clear hK K hHeld
  have hHeld := hHeld1
  clear hHeld1
  try simp only [Act.put, List.getElem_toArray, List.getElem_cons_succ, List.getElem_cons_zero, List.setIfInBounds_toArray, List.set_cons_zero, List.set_cons_succ]
  refine' wpAnyH_take (i := 13) (v := ?vr1_13) rfl (by kernel_rfl) (by kernel_rfl) (by kernel_rfl) (fun _ _ _ h => h) (Or.inl ⟨by rfl, ?hyr1_13⟩) (by assumption) ?restr1_13
  case hyr1_13 => (intro w hSw; (try dsimp only at hSw); go_simp; try (with_reducible rfl))
  simp only [Act.put, List.getElem_toArray, List.getElem_cons_succ, List.getElem_cons_zero, List.setIfInBounds_toArray, List.set_cons_zero, List.set_cons_succ]
  refine' wpAnyH_take (i := 14) (v := ?vr1_14) rfl (by kernel_rfl) (by kernel_rfl) (by kernel_rfl) (fun _ _ _ h => h) (Or.inl ⟨by rfl, ?hyr1_14⟩) (by assumption) ?restr1_14
  case hyr1_14 => (intro w hSw; (try dsimp only at hSw); go_simp; try (with_reducible rfl))
  simp only [Act.put, List.getElem_toArray, List.getElem_cons_succ, List.getElem_cons_zero, List.setIfInBounds_toArray, List.set_cons_zero, List.set_cons_succ]
  refine' wpAnyH_take (i := 15) (v := ?vr1_15) rfl (by kernel_rfl) (by kernel_rfl) (by kernel_rfl) (fun _ _ _ h => h) (Or.inl ⟨by rfl, ?hyr1_15⟩) (by assumption) ?restr1_15
  case hyr1_15 => (intro w hSw; (try dsimp only at hSw); go_simp; try (with_reducible rfl))
  simp only [Act.put, List.getElem_toArray, List.getElem_cons_succ, List.getElem_cons_zero, List.setIfInBounds_toArray, List.set_cons_zero, List.set_cons_succ]
  refine' wpAnyH_take (i := 16) (v := ?vr1_16) rfl (by kernel_rfl) (by kernel_rfl) (by kernel_rfl) (fun _ _ _ h => h) (Or.inl ⟨by rfl, ?hyr1_16⟩) (by assumption) ?restr1_16
  case hyr1_16 => (intro w hSw; (try dsimp only at hSw); go_simp; try (with_reducible rfl))
  simp only [Act.put, List.getElem_toArray, List.getElem_cons_succ, List.getElem_cons_zero, List.setIfInBounds_toArray, List.set_cons_zero, List.set_cons_succ]
  refine' wpAnyH_take (i := 17) (v := ?vr1_17) rfl (by kernel_rfl) (by kernel_rfl) (by kernel_rfl) (fun _ _ _ h => h) (Or.inl ⟨by rfl, ?hyr1_17⟩) (by assumption) ?restr1_17
  case hyr1_17 => (intro w hSw; (try dsimp only at hSw); go_simp; try (with_reducible rfl))
  simp only [Act.put, List.getElem_toArray, List.getElem_cons_succ, List.getElem_cons_zero, List.setIfInBounds_toArray, List.set_cons_zero, List.set_cons_succ]
  refine wpAnyH_done (by kernel_rfl) ?_ _
  have HB2 := Lib.hid (HB1.out.trans (hHeld.2.2.mono HB1.out.size))
  have hw2 := HB2.out.size
  clear hHeld e0 e1 HGL
  have HNB := Lib.hid (show r = pathOf ts (j : Int) by
    have q := HOK2.out
    refine path_is ht.out ?_
    rw [HLA.out]
    cases ok
    · rw [if_neg (by simp)] at q
      have q2 := path_nb ht.out
      rw [HLA.out] at q2
      exact absurd q2 (q _)
    · rw [if_pos rfl] at q; exact q)
  have HIS := Lib.hid (lpIds_is ht.out)
  go_wp2_with (at_builtin; refine wpList_append_lies _ rfl _ _ 24 rfl w.heap.size 3 i0 (.int .i64 0) 1 8 Tryd.underlying24 hi hz0 hz1 hz2 rfl (by decide) _ _ _ rfl (HOW.out.alloc _) ⟨w2.heap.size, 0, none⟩ 1 1 [.int .i64 (j : Int)] rfl rfl (cell_one_new _ _ _) (by simp [Value.oneCell']) (by decide) (by unfold maxLen; omega) (by omega) (by simp; omega) _ rfl ?_; intro g8 c8 w3 hown' hgrow hat hlt9)
  have HB3 := Lib.hid ((HB2.out.alloc hw2 (.cells #[.int .i64 (j : Int)] 3)).grown hgrow (by simp; omega) (fun g e => (HOW.out.lt g e).1))
  have HO8 := Lib.hid (show w3.ownsRow w.heap.size 3 1 (.slice (some ⟨g8, 0, none⟩) (m9 + 1) c8) (m9 + 1) (ints.intsV (lpIds ts (j : Int))) by rw [HIS.out, ← HNB.out, intsV_app]; exact hown')
  have HLN := Lib.hid (show (lpIds ts (j : Int)).length = m9 + 1 by rw [HIS.out, ← HNB.out, List.length_append, HR.out]; rfl)
  clear hown' hgrow hat
  go_wp2_with fail
  go_ret
  exact ⟨_, rfl, by rw [HLN.out]; exact HO8.out, HB3.out⟩
end Go.Proofs.YtkeepfkjhcmhlaaDoor.lp

namespace Go.Proofs.YtkeepfkjhcmhlaaDoor.lp
open Go.RowKit
open reads base ty lg rowi hs nt
set_option linter.unusedVariables false
set_option linter.unusedSimpArgs false

set_option maxHeartbeats 4000000 in
set_option maxRecDepth 100000 in
theorem loopLegs_model (A : Option Addr) (n cap : Nat) (ts : List Lg) (i : Int) (w : World) (hn : n ≤ 2000000) (hts : Hid (LgAt w w.heap.size A n ts)) :
    Calls Tryd.prog 23 #[.slice A n cap, .int .i64 i] w (LPost (lpIds ts i) (lpOk ts i) w) := by
  cases ho : lpOk ts i
  · have HOK := Lib.hid ho
    have HF := Lib.hid (show lpIds ts i = [] by unfold lpIds; rw [ho]; rfl)
    clear ho
    go_enter Tryd.func23, Tryd.ntmps23
    go_wp2_with fail
    refine (closing8_any A n cap ts i false _ HOK hn hts).mono ?_
    rintro e w1 ⟨rfl, b1⟩
    have HB := Lib.hid b1
    have hBs := b1.size
    clear b1
    go_wp2_with fail
    go_ret2
    exact ⟨_, rfl, by rw [HF.out]; exact World.ownsRow_made w1 #[] 0 hBs (by decide) (by simp), HB.out.alloc hBs _⟩
  · have HOK := Lib.hid ho
    clear ho
    go_enter Tryd.func23, Tryd.ntmps23
    go_wp2_with fail
    refine (closing8_any A n cap ts i true _ HOK hn hts).mono ?_
    rintro e w1 ⟨rfl, b1⟩
    have HB := Lib.hid b1
    clear b1
    go_wp2_with fail
    refine (legs8_any A n cap ts i _ HOK (Lib.hid (hts.out.step HB.out))).mono ?_
    rintro e w2 ⟨v, rfl, hown, b2⟩
    have HO := Lib.hid (nt.own_mono hown HB.out.size)
    have HB2 := Lib.hid (HB.out.trans (b2.mono HB.out.size))
    clear hown b2
    go_wp2_with fail
    go_ret2
    exact ⟨v, rfl, HO.out, HB2.out⟩
set_option maxHeartbeats 8000000 in
set_option maxRecDepth 100000 in
theorem loopOf_model (A : Option Addr) (n cap : Nat) (ts : List Lg) (i : Int) (w : World) (hn : n ≤ 2000000) (hts : Hid (LgAt w w.heap.size A n ts)) :
    Calls Tryd.prog 15 #[.slice A n cap, .int .i64 i] w (LPost (lpSt ts i) (lpOk ts i) w) := by
  cases ho : lpOk ts i
  · have HOK := Lib.hid ho
    have HF := Lib.hid (show lpSt ts i = [] by unfold lpSt; rw [ho]; rfl)
    clear ho
    go_enter Tryd.func15, Tryd.ntmps15
    go_wp2_with fail
    refine (closing8_any A n cap ts i false _ HOK hn hts).mono ?_
    rintro e w1 ⟨rfl, b1⟩
    have HB := Lib.hid b1
    have hBs := b1.size
    clear b1
    go_wp2_with fail
    go_ret2
    exact ⟨_, rfl, by rw [HF.out]; exact World.ownsRow_made w1 #[] 0 hBs (by decide) (by simp), HB.out.alloc hBs _⟩
  · have HOK := Lib.hid ho
    obtain ⟨hg0, h0, h1, x0, hx0, hl0, hok0, -⟩ := lp_leg ho
    obtain ⟨i0, hi, hz0, hz1, hz2⟩ := info_parts infoI
    have HG := Lib.hid hg0
    obtain ⟨j0, rfl⟩ := Int.eq_ofNat_of_zero_le h0
    rw [Int.toNat_natCast] at hx0
    have HL := Lib.hid hts.out.1
    have hjn0 : j0 < n := by have := lt_at hx0; rw [HL.out] at this; exact this
    have HX0 := Lib.hid hx0
    obtain ⟨P, HP⟩ : ∃ P, Hid (pathOf ts (j0 : Int) = P) := ⟨_, Lib.hid rfl⟩
    obtain ⟨p, HPL⟩ : ∃ p, Hid (P.length = p) := ⟨_, Lib.hid rfl⟩
    have hp12 : p ≤ 12 := by rw [← HPL.out, ← HP.out]; exact path_len ho
    obtain ⟨ST, HST⟩ : ∃ S, Hid (stops ts x0.to_ P = S) := ⟨_, Lib.hid rfl⟩
    have HCH := Lib.hid (show Chn ts x0.to_ P x0.frm by rw [← HP.out, ← hl0]; exact (path_nb ho).chn)
    have HSL := Lib.hid (show ST.length = p + 1 by rw [← HST.out, stops_len, HPL.out])
    have HF := Lib.hid (show lpSt ts (j0 : Int) = ST by rw [lpSt_is ho, hl0, HP.out, HST.out])
    have HALL := Lib.hid (show lpIds ts (j0 : Int) = P ++ [(j0 : Int)] by rw [lpIds_is ho, HP.out])
    have hb0 := (okLg_lim hok0).2.1
    have hji0 : (j0 : Int) < (n : Int) := by omega
    have hj00 : (0 : Int) ≤ (j0 : Int) := by omega
    clear ho hg0 h0 h1 hx0 hl0 hok0
    go_enter Tryd.func15, Tryd.ntmps15
    go_wp2_with fail
    refine (closing8_any A n cap ts (j0 : Int) true _ HOK hn hts).mono ?_
    rintro e w1 ⟨rfl, b1⟩
    have HB := Lib.hid b1
    clear b1
    go_wp2_with fail
    refine (legs8_any A n cap ts (j0 : Int) _ HOK (Lib.hid (hts.out.step HB.out))).mono ?_
    rintro e w2 ⟨v, rfl, hown, b2⟩
    rw [HALL.out, List.length_append, HPL.out] at hown
    obtain ⟨gA, cA, rfl⟩ := row_some hown (by simp)
    have HA := Lib.hid (own_In (show (P ++ [(j0 : Int)]).length = p + 1 by rw [List.length_append, HPL.out]; rfl) hown)
    have HB2 := Lib.hid (HB.out.trans (b2.mono HB.out.size))
    clear hown b2
    obtain ⟨gL, rfl, hgL, -, e1, -, -, -⟩ := (hts.out.below HB2.out).2 j0 x0 HX0.out
    have HR0 := Lib.hid (show (w2.alloc (.cells #[.int .i64 x0.to_] 3)).ownsRow w.heap.size 3 1 (.slice (some ⟨w2.heap.size, 0, none⟩) 1 1) 1 (ints.intsV (ST.take 1)) by
      have h := row_blk (n := 1) (size := 1) (Blk.new w2 3 #[.int .i64 x0.to_]) HB2.out.size (by decide) rfl
      have e : ST.take 1 = [x0.to_] := by rw [take_snoc (show ST[0]? = some x0.to_ by rw [← HST.out]; exact stops_zero _ _ _)]; rfl
      rw [e]; exact h)
    have HA0 := Lib.hid (HA.out.alloc (.cells #[.int .i64 x0.to_] 3))
    have HB0 := Lib.hid (HB2.out.alloc HB2.out.size (.cells #[.int .i64 x0.to_] 3))
    have HS0 := Lib.hid (show ST[0]? = some x0.to_ by rw [← HST.out]; exact stops_zero _ _ _)
    go_wp2_with fail
    go_loopw [7, 8, 9] (fun a v i wr => ∃ (k g9 c9 : Nat) (s : Int), k ≤ p ∧ a = .int .i64 s ∧ v = .slice (some ⟨g9, 0, none⟩) (k + 1) c9 ∧ i = .int .i64 (k : Nat) ∧ Hid (ST[k]? = some s) ∧ (0 ≤ s ∧ s ≤ 7) ∧ wr.ownsRow w.heap.size 3 1 (.slice (some ⟨g9, 0, none⟩) (k + 1) c9) (k + 1) (ints.intsV (ST.take (k + 1))) ∧ InAt wr w2.heap.size (some ⟨gA, 0, none⟩) (p + 1) (P ++ [(j0 : Int)]) ∧ w2.heap.size ≤ g9 ∧ Below w2.heap.size w2 wr) (fun _ _ i _ => p - (intOf i).toNat)
    case atStart => exact ⟨0, _, 1, x0.to_, Nat.zero_le _, rfl, rfl, rfl, HS0.out, hb0, HR0.out, HA.out.below ((Below.refl _ _).alloc (Nat.le_refl _) _), Nat.le_refl _, (Below.refl _ _).alloc (Nat.le_refl _) _⟩
    case round =>
      obtain ⟨k, g9, c9, s, hk, rfl, rfl, rfl, HS, hs, hO, hA, hg9, hB⟩ := hrel
      have HO := Lib.hid hO
      have HAk := Lib.hid hA
      have HBk := Lib.hid hB
      have hBs := hB.size
      have hB2s := HB2.out.size
      clear hO hA hB HR0 HA0 HB0 HS0
      have hk0 : (0 : Int) ≤ (k : Int) := by omega
      by_cases hlt : k < p
      · obtain ⟨jj, hjj⟩ := at_lt HPL.out hlt
        obtain ⟨s1, t1, hs1, ht1, hJ⟩ := chn_at k HCH.out hjj
        rw [HST.out, HS.out] at hs1
        obtain rfl := Option.some.inj hs1
        rw [HST.out] at ht1
        obtain ⟨q, y, rfl, hy, hly, hJo⟩ := hJ.leg
        have hbd := (hJ.bd HG.out).2
        have hyb := okLg_lim (goodLg_at HG.out hy)
        have hyf := hyb.1
        have hyt := hyb.2.1
        have hfar := hJo.far
        have hqn : q < n := by have := lt_at hy; rw [HL.out] at this; exact this
        obtain ⟨gA', eA, hgA, eT⟩ := HAk.out.2 k (q : Int) (by rw [List.getElem?_append_left (by rw [HPL.out]; exact hlt)]; exact hjj)
        obtain rfl : gA = gA' := by injection eA with eA; injection eA
        obtain ⟨gL', eL, hgL', e0, e1', -, -, -⟩ := (hts.out.below (HB2.out.trans (HBk.out.mono HB2.out.size))).2 q y hy
        obtain rfl : gL = gL' := by injection eL with eL; injection eL
        have HT1 := Lib.hid ht1
        have HFAR := Lib.hid hfar
        clear hjj hy hly hJo hyb hJ ht1 hfar eA eL
        have hki : ((k : Int) + 1 < ((p : Int) + 1)) := by omega
        have hkp : (k : Int) < (p : Int) := by omega
        have hkd : decide (k < p) = true := by simpa using hlt
        have hqi : (q : Int) < (n : Int) := by omega
        have hq0 : (0 : Int) ≤ (q : Int) := by omega
        go_wp2_with fail
        go_quiet (fail)
        have hfr := HFAR.out
        try rw [← hfr]
        try simp only [← hfr]
        obtain ⟨W1, HW1⟩ : ∃ W, Hid (wr.drewN nq = W) := ⟨_, Lib.hid rfl⟩
        try rw [HW1.out]
        have HBD := Lib.hid (show Below wr.heap.size wr W1 by rw [← HW1.out]; exact drewN_below _ _)
        have HBk1 := Lib.hid (HBk.out.trans (HBD.out.mono hBs))
        have HO1 := Lib.hid (row_below HO.out HBD.out)
        have HA1 := Lib.hid (HAk.out.below (HBD.out.mono hBs))
        have hB1s := HBk1.out.size
        clear HW1 eT e0 e1' HO HAk HBk HBD hfr HFAR
        go_wp2_with (at_builtin; refine wpList_append_lies _ rfl _ _ 24 rfl w.heap.size 3 i0 (.int .i64 0) 1 8 Tryd.underlying24 hi hz0 hz1 hz2 rfl (by decide) _ _ _ rfl (HO1.out.alloc _) ⟨W1.heap.size, 0, none⟩ 1 1 [.int .i64 t1] rfl rfl (cell_one_new _ _ _) (by simp [Value.oneCell']) (by decide) (by unfold maxLen; omega) (by omega) (by simp; omega) _ rfl ?_; intro g8 c8 w3 hown' hgrow hat hlt9)
        have HX3 := Lib.hid (show w2.heap.size ≤ g8 by
          rcases hat with q | q
          · have e2 : g9 = g8 := own_eq (n := k + 1) (c := c9) q
            omega
          · simp at q; omega)
        have HB3 := Lib.hid ((HBk1.out.alloc hB1s (.cells #[.int .i64 t1] 3)).grown hgrow (by simp; omega) (fun g e => by
          have e2 : g9 = g := own_eq (n := k + 1) (c := c9) e
          omega))
        have HA3 := Lib.hid (show InAt w3 w2.heap.size (some ⟨gA, 0, none⟩) (p + 1) (P ++ [(j0 : Int)]) from HA.out.below HB3.out)
        have HO3 := Lib.hid (show w3.ownsRow w.heap.size 3 1 (.slice (some ⟨g8, 0, none⟩) (k + 1 + 1) c8) (k + 1 + 1) (ints.intsV (ST.take (k + 1 + 1))) by rw [take_snoc HT1.out, intsV_app]; exact hown')
        clear hown' hgrow hat
        go_wp2_with fail
        go_roundw
        case rel => exact ⟨k + 1, g8, c8, t1, by omega, rfl, rfl, by go_num, HT1, hbd, HO3.out, HA3.out, HX3.out, HB3.out⟩
        case measure => simp [intOf]; omega
      · have hkd : decide (k < p) = false := by simpa using hlt
        obtain rfl : k = p := by omega
        have HFIN := Lib.hid (show wr.ownsRow w.heap.size 3 1 (.slice (some ⟨g9, 0, none⟩) (k + 1) c9) (lpSt ts (j0 : Int)).length (ints.intsV (lpSt ts (j0 : Int))) by
          rw [HF.out, HSL.out]
          have h := HO.out
          rw [show k + 1 = ST.length from HSL.out.symm, List.take_length, HSL.out] at h
          exact h)
        have HBF := Lib.hid (HB2.out.trans (HBk.out.mono hB2s))
        clear hlt
        go_wp2_with fail
        go_ret2
        exact ⟨_, rfl, HFIN.out, HBF.out⟩
end Go.Proofs.YtkeepfkjhcmhlaaDoor.lp

namespace Go.Proofs.YtkeepfkjhcmhlaaDoor.lp
open Go.RowKit
open reads base ty lg rowi hs nt
set_option linter.unusedVariables false
set_option linter.unusedSimpArgs false

/-- the answer and the sum in their boxes -/
def CB3 (w : World) (s : Sf) (v : World) : Prop := Blk v w.heap.size 35 #[.int .i64 0, .int .i64 0, .int .i64 0] ∧ Blk v (w.heap.size + 1) 35 #[.int .i64 s.east, .int .i64 s.north, .int .i64 s.up] ∧ Below w.heap.size w v
theorem CB3.start (w : World) : CB3 w zero3 ((w.alloc (.cells #[.int .i64 0, .int .i64 0, .int .i64 0] 35)).alloc (.cells #[.int .i64 0, .int .i64 0, .int .i64 0] 35)) := by
  refine ⟨(Blk.new w _ _).alloc _, ?_, ((Below.refl _ _).alloc (Nat.le_refl _) _).alloc (by simp) _⟩
  have h := Blk.new (w.alloc (.cells #[.int .i64 0, .int .i64 0, .int .i64 0] 35)) 35 #[.int .i64 0, .int .i64 0, .int .i64 0]
  simpa [zero3] using h
theorem CB3.step {w v v' : World} {s : Sf} (h : CB3 w s v) (hb : Below v.heap.size v v') : CB3 w s v' := ⟨h.1.below hb h.1.lt, h.2.1.below hb h.2.1.lt, h.2.2.trans (hb.mono h.2.2.size)⟩
theorem CB3.drew {w v : World} {s : Sf} (h : CB3 w s v) : CB3 w s v.drew := ⟨h.1.drew, h.2.1.drew, h.2.2.drew⟩
theorem CB3.cs {w v : World} {s : Sf} (h : CB3 w s v) : v.cell? ⟨w.heap.size + 1, 0, none⟩ = some (.int .i64 s.east) ∧ v.cell? ⟨w.heap.size + 1, 1, none⟩ = some (.int .i64 s.north) ∧ v.cell? ⟨w.heap.size + 1, 2, none⟩ = some (.int .i64 s.up) := ⟨h.2.1.cell 0, h.2.1.cell 1, h.2.1.cell 2⟩
theorem CB3.zs {w v : World} {s : Sf} (h : CB3 w s v) : v.cell? ⟨w.heap.size, 0, none⟩ = some (.int .i64 0) ∧ v.cell? ⟨w.heap.size, 1, none⟩ = some (.int .i64 0) ∧ v.cell? ⟨w.heap.size, 2, none⟩ = some (.int .i64 0) := ⟨h.1.cell 0, h.1.cell 1, h.1.cell 2⟩
theorem CB3.fs {w v : World} {s : Sf} (h : CB3 w s v) : v.frozen? ⟨w.heap.size + 1, 0, none⟩ = false ∧ v.frozen? ⟨w.heap.size + 1, 1, none⟩ = false ∧ v.frozen? ⟨w.heap.size + 1, 2, none⟩ = false ∧ w.heap.size + 1 < v.heap.size := ⟨h.2.1.frozen 0, h.2.1.frozen 1, h.2.1.frozen 2, h.2.1.lt⟩
theorem CB3.gs {w v : World} {s : Sf} (h : CB3 w s v) : v.frozen? ⟨w.heap.size, 0, none⟩ = false ∧ v.frozen? ⟨w.heap.size, 1, none⟩ = false ∧ v.frozen? ⟨w.heap.size, 2, none⟩ = false ∧ w.heap.size < v.heap.size := ⟨h.1.frozen 0, h.1.frozen 1, h.1.frozen 2, h.1.lt⟩
theorem CB3.put {w v : World} {s : Sf} (h : CB3 w s v) (y : Sf) : CB3 w y (((v.setCell ⟨w.heap.size + 1, 0, none⟩ (.int .i64 y.east)).setCell ⟨w.heap.size + 1, 1, none⟩ (.int .i64 y.north)).setCell ⟨w.heap.size + 1, 2, none⟩ (.int .i64 y.up)) := by
  obtain ⟨h1, h2, h3⟩ := h
  refine ⟨((h1.far (by show _ ≠ _; simp) _).far (by show _ ≠ _; simp) _).far (by show _ ≠ _; simp) _, ?_, ((h3.setCell (by simp) _).setCell (by simp) _).setCell (by simp) _⟩
  have k := ((h2.set_ 0 (.int .i64 y.east)).set_ 1 (.int .i64 y.north)).set_ 2 (.int .i64 y.up)
  simpa using k
/-- a list of ints in a block of its own stays while the sum is written -/
theorem in_put {w v : World} {B m g : Nat} {xs : List Int} {y : Sf} (h : InAt v B (some ⟨g, 0, none⟩) m xs) (hg : w.heap.size + 1 < g) : InAt (((v.setCell ⟨w.heap.size + 1, 0, none⟩ (.int .i64 y.east)).setCell ⟨w.heap.size + 1, 1, none⟩ (.int .i64 y.north)).setCell ⟨w.heap.size + 1, 2, none⟩ (.int .i64 y.up)) B (some ⟨g, 0, none⟩) m xs :=
  ⟨h.1, fun k x hx => by
    obtain ⟨g', e, hb, hc⟩ := h.2 k x hx
    obtain rfl : g = g' := by injection e with e; injection e
    refine ⟨g, rfl, hb, ?_⟩
    have ne : ∀ o, (⟨w.heap.size + 1, o, none⟩ : Addr) ≠ ⟨g, k, none⟩ := fun o q => by injection q with q; omega
    rw [World.cell?_setCell_other _ _ _ _ (ne 2), World.cell?_setCell_other _ _ _ _ (ne 1), World.cell?_setCell_other _ _ _ _ (ne 0)]
    exact hc⟩
theorem bdN_s {k : Nat} {s : Sf} (h : BdN k s) (hk : k ≤ 20) : BdS s := by unfold BdN at h; unfold BdS; omega
set_option maxHeartbeats 8000000 in
set_option maxRecDepth 100000 in
theorem length8_any (A : Option Addr) (n cap : Nat) (ts : List Lg) (i r : Int) (w : World) (ht : Hid (lpOk ts i = true)) (hr : Hid (lenV ts i = r)) (hts : Hid (LgAt w w.heap.size A n ts)) :
    Calls Tryd.prog 59 #[.slice A n cap, .int .i64 i] w (APost (.int .i64 r) w) := by
  have HG := Lib.hid (lp_leg ht.out).1
  have HL := Lib.hid hts.out.1
  have HLEGS := Lib.hid (lp_legs ht.out)
  obtain ⟨L, HLL⟩ : ∃ L, Hid (lpIds ts i = L) := ⟨_, Lib.hid rfl⟩
  obtain ⟨m, HM⟩ : ∃ m, Hid (L.length = m) := ⟨_, Lib.hid rfl⟩
  have hm13 : m ≤ 13 := by rw [← HM.out, ← HLL.out]; exact lpIds_len
  rw [HLL.out] at HLEGS
  go_enter Tryd.func59, Tryd.ntmps59
  go_wp2_with fail
  refine (legs8_any A n cap ts i _ ht hts).mono ?_
  rintro e w2 ⟨v, rfl, hown, b2⟩
  rw [HLL.out, HM.out] at hown
  obtain ⟨A2, cA, rfl⟩ := row_slice hown
  have HA := Lib.hid (own_In HM.out hown)
  have HB2 := Lib.hid b2
  clear hown b2
  go_wp2_with fail
  go_loopw [5, 7] (fun s i wr => ∃ (k : Nat) (z : Int), k ≤ m ∧ s = .int .i64 z ∧ i = .int .i64 (k : Nat) ∧ Hid (tapes ts (L.take k) = z) ∧ wr = w2) (fun _ i _ => m - (intOf i).toNat)
  case atStart => exact ⟨0, 0, Nat.zero_le _, rfl, rfl, Lib.hid rfl, rfl⟩
  case round =>
    obtain ⟨k, z, hk, rfl, rfl, HZ, rfl⟩ := hrel
    have hk0 : (0 : Int) ≤ (k : Int) := by omega
    by_cases hlt : k < m
    · obtain ⟨jj, hjj⟩ := at_lt HM.out hlt
      obtain ⟨q0, y, hy⟩ := HLEGS.out jj (List.mem_of_getElem? hjj)
      obtain ⟨q, rfl⟩ := Int.eq_ofNat_of_zero_le q0
      rw [Int.toNat_natCast] at hy
      have hqn : q < n := by have := lt_at hy; rw [HL.out] at this; exact this
      obtain ⟨gA, rfl, hgA, eT⟩ := HA.out.2 k (q : Int) hjj
      obtain ⟨gL, rfl, hgL, -, -, e2, -, -⟩ := (hts.out.below HB2.out).2 q y hy
      have hyt := (okLg_lim (goodLg_at HG.out hy)).2.2.2.1
      have hzb := tapes_bd HG.out (L.take k)
      rw [HZ.out] at hzb
      have hzl : (L.take k).length ≤ 13 := by rw [List.length_take]; omega
      have HZ2 := Lib.hid (show tapes ts (L.take (k + 1)) = z + y.tape by rw [tapes_at hjj, HZ.out, legAt_is (by rw [Int.toNat_natCast]; exact hy)])
      have hz2 : 0 ≤ z ∧ z ≤ 6500 := by omega
      clear hjj hy hzb hzl
      have hki : (k : Int) < (m : Int) := by omega
      have hkd : decide (k < m) = true := by simpa using hlt
      have hqi : (q : Int) < (n : Int) := by omega
      have hqz : (0 : Int) ≤ (q : Int) := by omega
      go_wp2_with fail
      go_roundw
      case rel => exact ⟨k + 1, z + y.tape, by omega, rfl, by go_num, HZ2, trivial⟩
      case measure => simp [intOf]; omega
    · have hkd : decide (k < m) = false := by simpa using hlt
      obtain rfl : k = m := by omega
      have HFIN := Lib.hid (show z = r by rw [← hr.out, ← HZ.out, show k = L.length from HM.out.symm, List.take_length, ← HLL.out]; rfl)
      clear hlt
      go_wp2_with fail
      go_ret
      exact ⟨by rw [HFIN.out]; rfl, HB2.out⟩
/-- LoopLength's answer -/
def ansLe (ts : List Lg) (i : Int) : Value := if lpOk ts i then .tuple #[.int .i64 (lenV ts i), .bool true] else .tuple #[.int .i64 0, .bool false]
set_option maxHeartbeats 4000000 in
set_option maxRecDepth 100000 in
theorem loopLength_model (A : Option Addr) (n cap : Nat) (ts : List Lg) (i : Int) (w : World) (hn : n ≤ 2000000) (hts : Hid (LgAt w w.heap.size A n ts)) :
    Calls Tryd.prog 28 #[.slice A n cap, .int .i64 i] w (APost (ansLe ts i) w) := by
  cases ho : lpOk ts i
  · have HOK := Lib.hid ho
    have HF := Lib.hid (show ansLe ts i = .tuple #[.int .i64 0, .bool false] by unfold ansLe; rw [ho]; rfl)
    clear ho
    go_enter Tryd.func28, Tryd.ntmps28
    go_wp2_with fail
    refine (closing8_any A n cap ts i false _ HOK hn hts).mono ?_
    rintro e w1 ⟨rfl, b1⟩
    have HB := Lib.hid b1
    clear b1
    go_wp2_with fail
    go_ret2
    exact ⟨by rw [HF.out]; rfl, HB.out⟩
  · have HOK := Lib.hid ho
    obtain ⟨r, HR⟩ : ∃ r, Hid (lenV ts i = r) := ⟨_, Lib.hid rfl⟩
    have HF := Lib.hid (show ansLe ts i = .tuple #[.int .i64 r, .bool true] by unfold ansLe; rw [ho, HR.out]; rfl)
    clear ho
    go_enter Tryd.func28, Tryd.ntmps28
    go_wp2_with fail
    refine (closing8_any A n cap ts i true _ HOK hn hts).mono ?_
    rintro e w1 ⟨rfl, b1⟩
    have HB := Lib.hid b1
    clear b1
    go_wp2_with fail
    refine (length8_any A n cap ts i r _ HOK HR (Lib.hid (hts.out.step HB.out))).mono ?_
    rintro e w2 ⟨rfl, b2⟩
    have HB2 := Lib.hid (HB.out.trans (b2.mono HB.out.size))
    clear b2
    go_wp2_with fail
    go_ret2
    exact ⟨by rw [HF.out]; rfl, HB2.out⟩
theorem leg5 {v : World} {X : Nat} {T : TypeId} {y : Lg} (h : Blk v X T #[.int .i64 y.frm, .int .i64 y.to_, .int .i64 y.tape, .int .i64 y.comp, .int .i64 y.slope]) : v.cell? ⟨X, 0, none⟩ = some (.int .i64 y.frm) ∧ v.cell? ⟨X, 1, none⟩ = some (.int .i64 y.to_) ∧ v.cell? ⟨X, 2, none⟩ = some (.int .i64 y.tape) ∧ v.cell? ⟨X, 3, none⟩ = some (.int .i64 y.comp) ∧ v.cell? ⟨X, 4, none⟩ = some (.int .i64 y.slope) := ⟨h.cell 0, h.cell 1, h.cell 2, h.cell 3, h.cell 4⟩
/-- what is live in the loop: the boxes of the answer and the sum, the loop's legs -/
def MB (w : World) (B g m : Nat) (L : List Int) (s : Sf) (v : World) : Prop := CB3 w s v ∧ InAt v B (some ⟨g, 0, none⟩) m L ∧ B ≤ v.heap.size ∧ w.heap.size + 1 < g
/-- the same, and the leg at hand -/
def MX (w : World) (B g m : Nat) (L : List Int) (s : Sf) (X : Nat) (y : Lg) (v : World) : Prop := MB w B g m L s v ∧ Blk v X 51 #[.int .i64 y.frm, .int .i64 y.to_, .int .i64 y.tape, .int .i64 y.comp, .int .i64 y.slope] ∧ w.heap.size + 1 < X
section
variable {w v v' : World} {B g m X : Nat} {L : List Int} {s : Sf} {y : Lg}
theorem MB.step (h : MB w B g m L s v) (hb : Below v.heap.size v v') : MB w B g m L s v' := ⟨h.1.step hb, h.2.1.below (hb.mono h.2.2.1), Nat.le_trans h.2.2.1 hb.size, h.2.2.2⟩
theorem MB.put (h : MB w B g m L s v) (z : Sf) : MB w B g m L z (((v.setCell ⟨w.heap.size + 1, 0, none⟩ (.int .i64 z.east)).setCell ⟨w.heap.size + 1, 1, none⟩ (.int .i64 z.north)).setCell ⟨w.heap.size + 1, 2, none⟩ (.int .i64 z.up)) :=
  ⟨h.1.put z, in_put h.2.1 h.2.2.2, by simpa [World.setCell] using h.2.2.1, h.2.2.2⟩
theorem MX.step (h : MX w B g m L s X y v) (hb : Below v.heap.size v v') : MX w B g m L s X y v' := ⟨h.1.step hb, h.2.1.below hb h.2.1.lt, h.2.2⟩
theorem MX.put (h : MX w B g m L s X y v) (z : Sf) : MX w B g m L z X y (((v.setCell ⟨w.heap.size + 1, 0, none⟩ (.int .i64 z.east)).setCell ⟨w.heap.size + 1, 1, none⟩ (.int .i64 z.north)).setCell ⟨w.heap.size + 1, 2, none⟩ (.int .i64 z.up)) := by
  have ne : ∀ o, X ≠ (⟨w.heap.size + 1, o, none⟩ : Addr).block := fun o => by have := h.2.2; show X ≠ w.heap.size + 1; omega
  exact ⟨h.1.put z, ((h.2.1.far (ne 0) _).far (ne 1) _).far (ne 2) _, h.2.2⟩
theorem MX.cs (h : MX w B g m L s X y v) : (v.cell? ⟨w.heap.size + 1, 0, none⟩ = some (.int .i64 s.east) ∧ v.cell? ⟨w.heap.size + 1, 1, none⟩ = some (.int .i64 s.north) ∧ v.cell? ⟨w.heap.size + 1, 2, none⟩ = some (.int .i64 s.up)) ∧ (v.cell? ⟨X, 0, none⟩ = some (.int .i64 y.frm) ∧ v.cell? ⟨X, 1, none⟩ = some (.int .i64 y.to_) ∧ v.cell? ⟨X, 2, none⟩ = some (.int .i64 y.tape) ∧ v.cell? ⟨X, 3, none⟩ = some (.int .i64 y.comp) ∧ v.cell? ⟨X, 4, none⟩ = some (.int .i64 y.slope)) ∧ X < v.heap.size ∧ (v.frozen? ⟨w.heap.size + 1, 0, none⟩ = false ∧ v.frozen? ⟨w.heap.size + 1, 1, none⟩ = false ∧ v.frozen? ⟨w.heap.size + 1, 2, none⟩ = false ∧ w.heap.size + 1 < v.heap.size) := ⟨h.1.1.cs, leg5 h.2.1, h.2.1.lt, h.1.1.fs⟩
end
set_option maxHeartbeats 16000000 in
set_option maxRecDepth 100000 in
theorem mis8_any (A : Option Addr) (n cap : Nat) (ts : List Lg) (i : Int) (r : Sf) (w : World) (ht : Hid (lpOk ts i = true)) (hr : Hid (misV ts i = r)) (hts : Hid (LgAt w w.heap.size A n ts)) :
    Calls Tryd.prog 57 #[.slice A n cap, .int .i64 i] w (APost (.agg #[.int .i64 r.east, .int .i64 r.north, .int .i64 r.up]) w) := by
  obtain ⟨hg0, h0, h1, x0, hx0, hl0, hok0, -⟩ := lp_leg ht.out
  have HG := Lib.hid hg0
  have HL := Lib.hid hts.out.1
  obtain ⟨j0, rfl⟩ := Int.eq_ofNat_of_zero_le h0
  rw [Int.toNat_natCast] at hx0
  have hjn0 : j0 < n := by have := lt_at hx0; rw [HL.out] at this; exact this
  have HX0 := Lib.hid hx0
  obtain ⟨L, HLL⟩ : ∃ L, Hid (lpIds ts (j0 : Int) = L) := ⟨_, Lib.hid rfl⟩
  obtain ⟨m, HM⟩ : ∃ m, Hid (L.length = m) := ⟨_, Lib.hid rfl⟩
  have hm13 : m ≤ 13 := by rw [← HM.out, ← HLL.out]; exact lpIds_len
  have hm1 : 0 < m := by rw [← HM.out, ← HLL.out, lpIds_is ht.out, List.length_append]; simp
  have HCH := Lib.hid (show Chn ts x0.to_ L x0.to_ by rw [← HLL.out, ← hl0]; exact lp_chn ht.out)
  have HR := Lib.hid (show sumS ts x0.to_ L zero3 = r by rw [← hr.out]; unfold misV; rw [if_pos ht.out, hl0, HLL.out])
  obtain ⟨ST, HST⟩ : ∃ S, Hid (stops ts x0.to_ L = S) := ⟨_, Lib.hid rfl⟩
  have HS0 := Lib.hid (show ST[0]? = some x0.to_ by rw [← HST.out]; exact stops_zero _ _ _)
  have hb0 := (okLg_lim hok0).2.1
  have hji0 : (j0 : Int) < (n : Int) := by omega
  have hj00 : (0 : Int) ≤ (j0 : Int) := by omega
  have HC0 := Lib.hid (CB3.start w)
  have HT0 := Lib.hid ((hts.out.alloc (.cells #[.int .i64 0, .int .i64 0, .int .i64 0] 35)).alloc (.cells #[.int .i64 0, .int .i64 0, .int .i64 0] 35))
  clear hg0 h0 h1 hx0 hl0 hok0
  go_enter Tryd.func57, Tryd.ntmps57
  go_wp2_with fail
  refine (legs8_any A n cap ts (j0 : Int) _ ht HT0).mono ?_
  rintro e w2 ⟨v, rfl, hown, b2⟩
  rw [HLL.out, HM.out] at hown
  obtain ⟨gA, cA, rfl⟩ := row_some hown hm1
  have hgA0 := (hown.lt gA rfl).1
  have HB0 := Lib.hid (show MB w w2.heap.size gA m L zero3 w2 from ⟨HC0.out.step b2, own_In HM.out hown, Nat.le_refl _, by simp at hgA0; omega⟩)
  clear hown b2 hgA0
  obtain ⟨gL, rfl, hgL, -, e1, -, -, -⟩ := (hts.out.below HB0.out.1.2.2).2 j0 x0 HX0.out
  go_wp2_with fail
  clear e1
  obtain ⟨B2, HB2N⟩ : ∃ b, Hid (w2.heap.size = b) := ⟨_, Lib.hid rfl⟩
  rw [HB2N.out] at HB0
  go_loopw [7, 8] (fun a i wr => ∃ (k : Nat) (c : Int) (s : Sf), k ≤ m ∧ a = .int .i64 c ∧ i = .int .i64 (k : Nat) ∧ Hid (ST[k]? = some c) ∧ (0 ≤ c ∧ c ≤ 7) ∧ Hid (sumS ts x0.to_ (L.take k) zero3 = s) ∧ Hid (BdN k s) ∧ MB w B2 gA m L s wr) (fun _ i _ => m - (intOf i).toNat)
  case atStart => exact ⟨0, x0.to_, zero3, Nat.zero_le _, rfl, rfl, HS0, hb0, Lib.hid rfl, Lib.hid bdN_zero, HB0.out⟩
  case round =>
    obtain ⟨k, c, s, hk, rfl, rfl, HC, hc, HSM, HBD, hM⟩ := hrel
    have HMB := Lib.hid hM
    clear hM HB0
    have hk0 : (0 : Int) ≤ (k : Int) := by omega
    by_cases hlt : k < m
    · obtain ⟨jj, hjj⟩ := at_lt HM.out hlt
      obtain ⟨c1, c2, hc1, hc2, hJ⟩ := chn_at k HCH.out hjj
      rw [HST.out, HC.out] at hc1
      obtain rfl := Option.some.inj hc1
      have hsu := sumS_at zero3 k HCH.out hjj (by rw [HST.out]; exact HC.out)
      rw [HSM.out] at hsu
      rw [HST.out] at hc2
      obtain ⟨q, y, rfl, hy, hly, hJo⟩ := hJ.leg
      have hbd := (hJ.bd HG.out).2
      have HOY := Lib.hid (goodLg_at HG.out hy)
      have hyb := okLg_lim HOY.out
      have hyf := hyb.1
      have hyt := hyb.2.1
      have HFAR := Lib.hid hJo.far
      have hqn : q < n := by have := lt_at hy; rw [HL.out] at this; exact this
      obtain ⟨gA', eA, hgA, eT⟩ := HMB.out.2.1.2 k (q : Int) hjj
      obtain rfl : gA = gA' := by injection eA with eA; injection eA
      obtain ⟨gL', eL, hgL', y0, y1, y2, y3, y4⟩ := (hts.out.below HMB.out.1.2.2).2 q y hy
      obtain rfl : gL = gL' := by injection eL with eL; injection eL
      have HC2 := Lib.hid hc2
      have HSU := Lib.hid hsu
      have HLY := Lib.hid hly
      have HBN := Lib.hid (bdN_step HG.out HBD.out (q : Int) c)
      have HSB := Lib.hid (bdN_s HBD.out (by omega))
      obtain ⟨sh, HSH⟩ : ∃ sh, Hid (shf y = sh) := ⟨_, Lib.hid rfl⟩
      have HTB := Lib.hid (show BdS sh by rw [← HSH.out]; exact bd_shf HOY.out)
      have hcase : (y.frm == c) = true ∨ (y.frm == c) = false := by cases (y.frm == c) <;> simp
      clear hjj hc1 hc2 hsu hy hly hJo hJ hyb eA eL
      have hki : (k : Int) < (m : Int) := by omega
      have hkd : decide (k < m) = true := by simpa using hlt
      have hqi : (q : Int) < (n : Int) := by omega
      have hqz : (0 : Int) ≤ (q : Int) := by omega
      go_upto_region 8 with fail
      obtain ⟨W, HW⟩ : ∃ W, Hid (wr.alloc (.cells #[.int .i64 y.frm, .int .i64 y.to_, .int .i64 y.tape, .int .i64 y.comp, .int .i64 y.slope] 51) = W) := ⟨_, Lib.hid rfl⟩
      obtain ⟨X, HX⟩ : ∃ X, Hid (wr.heap.size = X) := ⟨_, Lib.hid rfl⟩
      have HMX := Lib.hid (show MX w B2 gA m L s X y W by rw [← HW.out, ← HX.out]; exact ⟨HMB.out.step ((Below.refl _ _).alloc (Nat.le_refl _) _), Blk.new _ _ _, HMB.out.1.fs.2.2.2⟩)
      try rw [HX.out]
      try simp only [HX.out]
      rw [HW.out]
      clear HW HX HMB eT y0 y1 y2 y3 y4
      rcases hcase with hq9 | hq9
      · obtain ⟨nx, HN⟩ : ∃ nx, Hid (add3 s sh = nx) := ⟨_, Lib.hid rfl⟩
        have HNX := Lib.hid (show sumS ts x0.to_ (L.take (k + 1)) zero3 = nx by rw [HSU.out, along_yes HLY.out hq9, HSH.out]; exact HN.out)
        have HBX := Lib.hid (show BdN (k + 1) nx by have h := HBN.out; rw [← HSU.out, HNX.out] at h; exact h)
        obtain ⟨-, ⟨x0c, x1c, x2c, x3c, x4c⟩, hXs, -⟩ := HMX.out.cs
        go_wp2_with fail
        obtain ⟨⟨s0, s1, s2⟩, -, -, hs9⟩ := HMX.out.cs
        go_region_with (first | (go_at_call 85; refine (shift_l y sh HSH _ HOY).mono ?_; rintro e w8 ⟨rfl, b⟩; have HM8 := Lib.hid ((HMX.out.step (Below.refl _ _).drew).step b); clear b s0 s1 s2 x0c x1c x2c x3c x4c hXs hs9; obtain ⟨⟨s0, s1, s2⟩, ⟨x0c, x1c, x2c, x3c, x4c⟩, hXs, -⟩ := HM8.out.cs) | (go_at_call 84; refine (plus_p s sh nx HN _ HSB HTB).mono ?_; rintro e w9 ⟨rfl, b⟩; have HM9 := Lib.hid (HM8.out.step b); clear b s0 s1 s2 x0c x1c x2c x3c x4c hXs; obtain ⟨⟨s0, s1, s2⟩, -, hXs, f0, f1, f2, f3⟩ := HM9.out.cs))
        all_goals
          obtain ⟨W9, HW9⟩ : ∃ W, Hid (((w9.setCell ⟨w.heap.size + 1, 0, none⟩ (.int .i64 nx.east)).setCell ⟨w.heap.size + 1, 1, none⟩ (.int .i64 nx.north)).setCell ⟨w.heap.size + 1, 2, none⟩ (.int .i64 nx.up) = W) := ⟨_, Lib.hid rfl⟩
          have HMF := Lib.hid (show MX w B2 gA m L nx X y W9 by rw [← HW9.out]; exact HM9.out.put nx)
          rw [HW9.out]
          clear HW9 s0 s1 s2 f0 f1 f2 f3 hXs HM8 HM9
          obtain ⟨-, ⟨x0c, x1c, x2c, x3c, x4c⟩, hXs, -⟩ := HMF.out.cs
          have hfr := HFAR.out
          go_wp2_with fail
          go_roundw
          case rel => exact ⟨k + 1, c2, nx, by omega, by rw [hfr], by go_num, HC2, hbd, HNX, HBX, HMF.out.1⟩
          case measure => simp [intOf]; omega
      · obtain ⟨nx, HN⟩ : ∃ nx, Hid (sub3 s sh = nx) := ⟨_, Lib.hid rfl⟩
        have HNX := Lib.hid (show sumS ts x0.to_ (L.take (k + 1)) zero3 = nx by rw [HSU.out, along_no HLY.out hq9, HSH.out]; exact HN.out)
        have HBX := Lib.hid (show BdN (k + 1) nx by have h := HBN.out; rw [← HSU.out, HNX.out] at h; exact h)
        obtain ⟨-, ⟨x0c, x1c, x2c, x3c, x4c⟩, hXs, -⟩ := HMX.out.cs
        go_wp2_with fail
        obtain ⟨⟨s0, s1, s2⟩, -, -, hs9⟩ := HMX.out.cs
        go_region_with (first | (go_at_call 85; refine (shift_l y sh HSH _ HOY).mono ?_; rintro e w8 ⟨rfl, b⟩; have HM8 := Lib.hid ((HMX.out.step (Below.refl _ _).drew).step b); clear b s0 s1 s2 x0c x1c x2c x3c x4c hXs hs9; obtain ⟨⟨s0, s1, s2⟩, ⟨x0c, x1c, x2c, x3c, x4c⟩, hXs, -⟩ := HM8.out.cs) | (go_at_call 84; refine (plus_m s sh nx HN _ HSB HTB).mono ?_; rintro e w9 ⟨rfl, b⟩; have HM9 := Lib.hid (HM8.out.step b); clear b s0 s1 s2 x0c x1c x2c x3c x4c hXs; obtain ⟨⟨s0, s1, s2⟩, -, hXs, f0, f1, f2, f3⟩ := HM9.out.cs))
        all_goals
          obtain ⟨W9, HW9⟩ : ∃ W, Hid (((w9.setCell ⟨w.heap.size + 1, 0, none⟩ (.int .i64 nx.east)).setCell ⟨w.heap.size + 1, 1, none⟩ (.int .i64 nx.north)).setCell ⟨w.heap.size + 1, 2, none⟩ (.int .i64 nx.up) = W) := ⟨_, Lib.hid rfl⟩
          have HMF := Lib.hid (show MX w B2 gA m L nx X y W9 by rw [← HW9.out]; exact HM9.out.put nx)
          rw [HW9.out]
          clear HW9 s0 s1 s2 f0 f1 f2 f3 hXs HM8 HM9
          obtain ⟨-, ⟨x0c, x1c, x2c, x3c, x4c⟩, hXs, -⟩ := HMF.out.cs
          have hfr := HFAR.out
          go_wp2_with fail
          go_roundw
          case rel => exact ⟨k + 1, c2, nx, by omega, by rw [hfr], by go_num, HC2, hbd, HNX, HBX, HMF.out.1⟩
          case measure => simp [intOf]; omega
    · have hkd : decide (k < m) = false := by simpa using hlt
      obtain rfl : k = m := by omega
      have HFIN := Lib.hid (show s = r by rw [← HR.out, ← HSM.out, show k = L.length from HM.out.symm, List.take_length])
      clear hlt
      obtain ⟨s0, s1, s2⟩ := HMB.out.1.cs
      obtain ⟨z0, z1, z2⟩ := HMB.out.1.zs
      obtain ⟨f0, f1, f2, f3⟩ := HMB.out.1.gs
      go_wp2_with fail
      refine bodyPost_ret (v := .agg #[.int .i64 s.east, .int .i64 s.north, .int .i64 s.up]) (by simp [results, Tryd.results57, go_sem, *]) rfl ⟨by rw [HFIN.out], ?_⟩
      exact ((HMB.out.1.2.2.setCell (by simp) _).setCell (by simp) _).setCell (by simp) _
/-- MisclosureOf's answer -/
def ansMi (ts : List Lg) (i : Int) : Value := if lpOk ts i then .tuple #[.agg #[.int .i64 (misV ts i).east, .int .i64 (misV ts i).north, .int .i64 (misV ts i).up], .bool true] else .tuple #[.agg #[.int .i64 0, .int .i64 0, .int .i64 0], .bool false]
end Go.Proofs.YtkeepfkjhcmhlaaDoor.lp

namespace Go.Proofs.YtkeepfkjhcmhlaaDoor.lp
open Go.RowKit
open reads base ty lg rowi hs nt
set_option linter.unusedVariables false
set_option linter.unusedSimpArgs false

set_option maxHeartbeats 4000000 in
set_option maxRecDepth 100000 in
theorem misclosureOf_model (A : Option Addr) (n cap : Nat) (ts : List Lg) (i : Int) (w : World) (hn : n ≤ 2000000) (hts : Hid (LgAt w w.heap.size A n ts)) :
    Calls Tryd.prog 25 #[.slice A n cap, .int .i64 i] w (APost (ansMi ts i) w) := by
  have HA := Lib.hid (hts.out.alloc (.cells #[.int .i64 0, .int .i64 0, .int .i64 0] 35))
  have HB0 := Lib.hid ((Below.refl w.heap.size w).alloc (Nat.le_refl _) (.cells #[.int .i64 0, .int .i64 0, .int .i64 0] 35))
  have HZ0 := Lib.hid (Blk.new w 35 #[.int .i64 0, .int .i64 0, .int .i64 0])
  cases ho : lpOk ts i
  · have HOK := Lib.hid ho
    have HF := Lib.hid (show ansMi ts i = .tuple #[.agg #[.int .i64 0, .int .i64 0, .int .i64 0], .bool false] by unfold ansMi; rw [ho]; rfl)
    clear ho
    go_enter Tryd.func25, Tryd.ntmps25
    go_wp2_with fail
    refine (closing8_any A n cap ts i false _ HOK hn HA).mono ?_
    rintro e w1 ⟨rfl, b1⟩
    have HB1 := Lib.hid (HB0.out.trans (b1.mono HB0.out.size))
    have HZ1 := Lib.hid (HZ0.out.below b1 HZ0.out.lt)
    clear b1 HB0 HZ0 HA
    have z0 := HZ1.out.cell 0
    have z1 := HZ1.out.cell 1
    have z2 := HZ1.out.cell 2
    have f0 := HZ1.out.frozen 0
    have f1 := HZ1.out.frozen 1
    have f2 := HZ1.out.frozen 2
    have hl := HZ1.out.lt
    simp at z0 z1 z2
    go_wp2_with fail
    refine bodyPost_ret (v := .tuple #[.agg #[.int .i64 0, .int .i64 0, .int .i64 0], .bool false]) (by simp [results, Tryd.results25, go_sem, *]) rfl ⟨by rw [HF.out], ?_⟩
    exact ((HB1.out.setCell (by simp) _).setCell (by simp) _).setCell (by simp) _
  · have HOK := Lib.hid ho
    obtain ⟨p, HPP⟩ : ∃ p, Hid (misV ts i = p) := ⟨_, Lib.hid rfl⟩
    have HF := Lib.hid (show ansMi ts i = .tuple #[.agg #[.int .i64 p.east, .int .i64 p.north, .int .i64 p.up], .bool true] by unfold ansMi; rw [ho, HPP.out]; rfl)
    clear ho
    go_enter Tryd.func25, Tryd.ntmps25
    go_wp2_with fail
    refine (closing8_any A n cap ts i true _ HOK hn HA).mono ?_
    rintro e w1 ⟨rfl, b1⟩
    have HB1 := Lib.hid (HB0.out.trans (b1.mono HB0.out.size))
    have HZ1 := Lib.hid (HZ0.out.below b1 HZ0.out.lt)
    have HA1 := Lib.hid (HA.out.step b1)
    clear b1 HB0 HZ0 HA
    go_wp2_with fail
    refine (mis8_any A n cap ts i p _ HOK HPP HA1).mono ?_
    rintro e w2 ⟨rfl, b2⟩
    have HB2 := Lib.hid (HB1.out.trans (b2.mono HB1.out.size))
    have HZ2 := Lib.hid (HZ1.out.below b2 HZ1.out.lt)
    clear b2 HB1 HZ1 HA1
    have z0 := HZ2.out.cell 0
    have z1 := HZ2.out.cell 1
    have z2 := HZ2.out.cell 2
    have f0 := HZ2.out.frozen 0
    have f1 := HZ2.out.frozen 1
    have f2 := HZ2.out.frozen 2
    have hl := HZ2.out.lt
    simp at z0 z1 z2
    go_wp2_with fail
    refine bodyPost_ret (v := .tuple #[.agg #[.int .i64 p.east, .int .i64 p.north, .int .i64 p.up], .bool true]) (by simp [results, Tryd.results25, go_sem, *]) rfl ⟨by rw [HF.out], ?_⟩
    exact ((HB2.out.setCell (by simp) _).setCell (by simp) _).setCell (by simp) _
set_option maxHeartbeats 4000000 in
set_option maxRecDepth 100000 in
theorem size8_any (A : Option Addr) (n cap : Nat) (ts : List Lg) (i r : Int) (w : World) (ht : Hid (lpOk ts i = true)) (hr : Hid (missV ts i = r)) (hts : Hid (LgAt w w.heap.size A n ts)) :
    Calls Tryd.prog 63 #[.slice A n cap, .int .i64 i] w (APost (.int .i64 r) w) := by
  obtain ⟨p, HPP⟩ : ∃ p, Hid (misV ts i = p) := ⟨_, Lib.hid rfl⟩
  have HRT := Lib.hid (show len.IsRoot (sq3 p) r by rw [← HPP.out, ← hr.out]; exact missV_root ts i)
  have HLIM := Lib.hid (show (-100000 ≤ p.east ∧ p.east ≤ 100000) ∧ (-100000 ≤ p.north ∧ p.north ≤ 100000) ∧ (-100000 ≤ p.up ∧ p.up ≤ 100000) by
    have h : BdN 13 (misV ts i) := misV_bd
    rw [HPP.out] at h
    unfold BdN at h; omega)
  go_enter Tryd.func63, Tryd.ntmps63
  go_wp2_with fail
  refine (mis8_any A n cap ts i p _ ht HPP hts).mono ?_
  rintro e w1 ⟨rfl, b1⟩
  have HB1 := Lib.hid b1
  clear b1
  go_wp2_with fail
  refine (len_is p r HLIM HRT _).mono ?_
  rintro e w2 ⟨rfl, b2⟩
  have HB2 := Lib.hid ((HB1.out.alloc HB1.out.size (.cells #[.int .i64 p.east, .int .i64 p.north, .int .i64 p.up] 35)).trans (b2.mono (by have := HB1.out.size; simp; omega)))
  clear b2
  go_wp2_with fail
  go_ret
  exact ⟨rfl, HB2.out⟩
/-- WorstLoop's answer -/
def ansWo (ts : List Lg) : Value := if wrOk ts then .tuple #[.int .i64 (wrV ts), .bool true] else .tuple #[.int .i64 0, .bool false]
set_option maxHeartbeats 16000000 in
set_option maxRecDepth 100000 in
theorem worst_model (A : Option Addr) (n cap : Nat) (ts : List Lg) (w : World) (hn : n ≤ 2000000) (hts : Hid (LgAt w w.heap.size A n ts)) :
    Calls Tryd.prog 30 #[.slice A n cap] w (APost (ansWo ts) w) := by
  cases hg : goodLg ts
  · have HG := Lib.hid hg
    have HF := Lib.hid (show ansWo ts = .tuple #[.int .i64 0, .bool false] by unfold ansWo wrOk; rw [hg]; rfl)
    clear hg
    go_enter Tryd.func30, Tryd.ntmps30
    go_wp2_with fail
    refine (legs_is A n cap ts false _ hn hts HG).mono ?_
    rintro e w1 ⟨rfl, b1⟩
    have HB := Lib.hid b1
    clear b1
    go_wp2_with fail
    go_ret2
    exact ⟨by rw [HF.out]; rfl, HB.out⟩
  · have HG := Lib.hid hg
    obtain ⟨CL, HCL⟩ : ∃ C, Hid (clIds ts = C) := ⟨_, Lib.hid rfl⟩
    have HCN := Lib.hid (show clN ts (net ts) ts.length = CL by rw [← HCL.out]; unfold clIds; rw [hg]; rfl)
    obtain ⟨m, HM⟩ : ∃ m, Hid (CL.length = m) := ⟨_, Lib.hid rfl⟩
    have hm12 : m ≤ 12 := by rw [← HM.out, ← HCN.out]; exact Nat.le_trans (clN_len ts (net ts) ts.length) (goodLg_len hg)
    have HOKS := Lib.hid (show ∀ c ∈ CL, lpOk ts c = true from fun c hc => by unfold lpOk; rw [hg, HCL.out, mem_iff.2 hc]; rfl)
    have HFT := Lib.hid (show 0 < m → ansWo ts = .tuple #[.int .i64 (wrK ts CL m), .bool true] from fun h => by unfold ansWo wrV wrOk; rw [hg, HCL.out, HM.out, decide_eq_true h]; rfl)
    have HFF := Lib.hid (show ¬ 0 < m → ansWo ts = .tuple #[.int .i64 0, .bool false] from fun h => by unfold ansWo wrOk; rw [hg, HCL.out, HM.out, decide_eq_false h]; rfl)
    clear hg
    go_enter Tryd.func30, Tryd.ntmps30
    go_wp2_with fail
    refine (legs_is A n cap ts true _ hn hts HG).mono ?_
    rintro e w0 ⟨rfl, b0⟩
    have HB0 := Lib.hid b0
    clear b0
    go_wp2_with fail
    refine (closing_any A n cap ts (net ts) (Lib.hid rfl) _ HG (Lib.hid (hts.out.step HB0.out))).mono ?_
    rintro e w1 ⟨v, rfl, ho, b⟩
    rw [HCN.out, HM.out] at ho
    obtain ⟨A1, c1, rfl⟩ := row_slice ho
    have HB1 := Lib.hid (HB0.out.trans (b.mono HB0.out.size))
    clear ho b
    by_cases hm : 0 < m
    · have HF := Lib.hid (HFT.out hm)
      have hm0 : ((m : Int) == 0) = false := by simp; omega
      have hm0' : decide ((m : Int) = 0) = false := by simp; omega
      go_wp2_with fail
      refine (closing_any A n cap ts (net ts) (Lib.hid rfl) _ HG (Lib.hid (hts.out.step HB1.out))).mono ?_
      rintro e w2 ⟨v, rfl, ho, b⟩
      rw [HCN.out, HM.out] at ho
      obtain ⟨gC, cC, rfl⟩ := row_some ho hm
      have HA := Lib.hid (own_In HM.out ho)
      have HBB := Lib.hid (HB1.out.trans (b.mono HB1.out.size))
      clear ho b
      obtain ⟨c0, hc0⟩ := at_lt HM.out hm
      obtain ⟨gC', eC, hgC, e0⟩ := HA.out.2 0 c0 hc0
      obtain rfl : gC = gC' := by injection eC with eC; injection eC
      have HW1 := Lib.hid (wrK_one (ts := ts) hc0)
      have hm1 : (0 : Int) < (m : Int) := by omega
      clear eC hc0
      go_wp2_with fail
      clear e0
      go_loopw [5, 6] (fun b i wr => ∃ (k : Nat) (bb : Int), 1 ≤ k ∧ k ≤ m ∧ b = .int .i64 bb ∧ i = .int .i64 (k : Int) ∧ Hid (wrK ts CL k = bb) ∧ Below w2.heap.size w2 wr) (fun _ i _ => m - (intOf i).toNat)
      case atStart => exact ⟨1, c0, Nat.le_refl _, hm, rfl, rfl, HW1, Below.refl _ _⟩
      case round =>
        obtain ⟨k, bb, h1k, hk, rfl, rfl, HWK, hB⟩ := hrel
        have HBk := Lib.hid hB
        clear hB
        have hk0 : (0 : Int) ≤ (k : Int) := by omega
        have HOKB := Lib.hid (show lpOk ts bb = true by
          obtain ⟨j, rfl⟩ : ∃ j, k = j + 1 := ⟨k - 1, by omega⟩
          rw [← HWK.out]; exact HOKS.out _ (wrK_mem j (by rw [HM.out]; omega)))
        by_cases hlt : k < m
        · obtain ⟨cc, hcc⟩ := at_lt HM.out hlt
          obtain ⟨gC', eC, hgC, eK⟩ := (HA.out.below HBk.out).2 k cc hcc
          obtain rfl : gC = gC' := by injection eC with eC; injection eC
          have HGC := Lib.hid hgC
          have HOKC := Lib.hid (HOKS.out cc (List.mem_of_getElem? hcc))
          obtain ⟨mc, HMC⟩ : ∃ r, Hid (missV ts cc = r) := ⟨_, Lib.hid rfl⟩
          obtain ⟨mb, HMB⟩ : ∃ r, Hid (missV ts bb = r) := ⟨_, Lib.hid rfl⟩
          obtain ⟨lc, HLC⟩ : ∃ r, Hid (lenV ts cc = r) := ⟨_, Lib.hid rfl⟩
          obtain ⟨lb, HLB⟩ : ∃ r, Hid (lenV ts bb = r) := ⟨_, Lib.hid rfl⟩
          have q1 := missV_bd ts cc
          have q2 := missV_bd ts bb
          have q3 := lenV_bd ts cc
          have q4 := lenV_bd ts bb
          rw [HMC.out] at q1
          rw [HMB.out] at q2
          rw [HLC.out] at q3
          rw [HLB.out] at q4
          have p1 := prod_lim q1.1 q1.2 q4.1 q4.2
          have p2 := prod_lim q2.1 q2.2 q3.1 q3.2
          have x1 : IntKind.i64.wrap (mc * lb) = mc * lb := IntWalk.i64_in _ (by omega)
          have x2 : IntKind.i64.wrap (mb * lc) = mb * lc := IntWalk.i64_in _ (by omega)
          obtain ⟨wo, HWO⟩ : ∃ b, Hid (decide (mb * lc < mc * lb) = b) := ⟨_, Lib.hid rfl⟩
          have HNX := Lib.hid (show wrK ts CL (k + 1) = if wo = true then cc else bb by
            obtain ⟨j, rfl⟩ : ∃ j, k = j + 1 := ⟨k - 1, by omega⟩
            rw [wrK_succ hcc, HWK.out, ← HWO.out]; unfold worse; rw [HMC.out, HMB.out, HLC.out, HLB.out])
          have hki : (k : Int) < (m : Int) := by omega
          have hkd : decide (k < m) = true := by simpa using hlt
          clear hcc eC hgC q1 q2 q3 q4 p1 p2
          go_upto_region 8 with fail
          refine wp_region_held_drew (S := fun v => v.cell? ⟨gC, k, none⟩ = some (.int .i64 cc) ∧ Below w2.heap.size w2 v) (by kernel_rfl) ?_ (fun hHeld => ?_)
          · exact ⟨eK, HBk.out.drew⟩
          refine' wpAnyH_take (i := 0) (v := ?vr1_0) rfl (by kernel_rfl) (by kernel_rfl) (by kernel_rfl) (fun _ _ _ h => h) (Or.inl ⟨by rfl, ?hyr1_0⟩) (by assumption) ?restr1_0
          case hyr1_0 => (intro w hSw; (try dsimp only at hSw); go_simp; try (with_reducible rfl))
          simp only [Act.put, List.getElem_toArray, List.getElem_cons_succ, List.getElem_cons_zero, List.setIfInBounds_toArray, List.set_cons_zero, List.set_cons_succ]
          refine' wpAnyH_take (i := 1) (v := ?vr1_1) rfl (by kernel_rfl) (by kernel_rfl) (by kernel_rfl) (fun _ _ _ h => h) (Or.inl ⟨by rfl, ?hyr1_1⟩) (by assumption) ?restr1_1
          case hyr1_1 => (intro w hSw; (try dsimp only at hSw); go_simp; try (with_reducible rfl))
          simp only [Act.put, List.getElem_toArray, List.getElem_cons_succ, List.getElem_cons_zero, List.setIfInBounds_toArray, List.set_cons_zero, List.set_cons_succ]
          refine' wpAnyH_take (i := 2) (v := ?vr1_2) rfl (by kernel_rfl) (by kernel_rfl) (by kernel_rfl) (fun _ _ _ h => h) (Or.inl ⟨by rfl, ?hyr1_2⟩) (by assumption) ?restr1_2
          case hyr1_2 => (intro w hSw; (try dsimp only at hSw); go_simp; try (with_reducible rfl))
          simp only [Act.put, List.getElem_toArray, List.getElem_cons_succ, List.getElem_cons_zero, List.setIfInBounds_toArray, List.set_cons_zero, List.set_cons_succ]
          refine' wpAnyH_take (i := 3) (v := ?vr1_3) rfl (by kernel_rfl) (by kernel_rfl) (by kernel_rfl) (fun _ _ _ h => h) (Or.inl ⟨by rfl, ?hyr1_3⟩) (by assumption) ?restr1_3
          case hyr1_3 => (intro w hSw; (try dsimp only at hSw); go_simp; try (with_reducible rfl))
          simp only [Act.put, List.getElem_toArray, List.getElem_cons_succ, List.getElem_cons_zero, List.setIfInBounds_toArray, List.set_cons_zero, List.set_cons_succ]
          refine' wpAnyH_take (i := 4) (v := ?vr1_4) rfl (by kernel_rfl) (by kernel_rfl) (by kernel_rfl) (fun _ _ _ h => h) (Or.inl ⟨by rfl, ?hyr1_4⟩) (by assumption) ?restr1_4
          case hyr1_4 => (intro w hSw; (try dsimp only at hSw); go_simp; try (with_reducible rfl))
          simp only [Act.put, List.getElem_toArray, List.getElem_cons_succ, List.getElem_cons_zero, List.setIfInBounds_toArray, List.set_cons_zero, List.set_cons_succ]
          refine' wpAnyH_take (i := 6) (v := ?vr1_6) rfl (by kernel_rfl) (by kernel_rfl) (by kernel_rfl) (fun _ _ _ h => h) (Or.inl ⟨by rfl, ?hyr1_6⟩) (by assumption) ?restr1_6
          case hyr1_6 => (intro w hSw; (try dsimp only at hSw); go_simp; try (with_reducible rfl))
          simp only [Act.put, List.getElem_toArray, List.getElem_cons_succ, List.getElem_cons_zero, List.setIfInBounds_toArray, List.set_cons_zero, List.set_cons_succ]
          refine' wpAnyH_take (i := 7) (v := ?vr1_7) rfl (by kernel_rfl) (by kernel_rfl) (by kernel_rfl) (fun _ _ _ h => h) (Or.inl ⟨by rfl, ?hyr1_7⟩) (by assumption) ?restr1_7
          case hyr1_7 => (intro w hSw; (try dsimp only at hSw); go_simp; try (with_reducible rfl))
          simp only [Act.put, List.getElem_toArray, List.getElem_cons_succ, List.getElem_cons_zero, List.setIfInBounds_toArray, List.set_cons_zero, List.set_cons_succ]
          refine' wpAnyH_take (i := 10) (v := ?vr1_10) rfl (by kernel_rfl) (by kernel_rfl) (by kernel_rfl) (fun _ _ _ h => h) (Or.inl ⟨by rfl, ?hyr1_10⟩) (by assumption) ?restr1_10
          case hyr1_10 => (intro w hSw; (try dsimp only at hSw); go_simp; try (with_reducible rfl))
          simp only [Act.put, List.getElem_toArray, List.getElem_cons_succ, List.getElem_cons_zero, List.setIfInBounds_toArray, List.set_cons_zero, List.set_cons_succ]
          refine' wpAnyH_take (i := 11) (v := ?vr1_11) rfl (by kernel_rfl) (by kernel_rfl) (by kernel_rfl) (fun _ _ _ h => h) (Or.inl ⟨by rfl, ?hyr1_11⟩) (by assumption) ?restr1_11
          case hyr1_11 => (intro w hSw; (try dsimp only at hSw); go_simp; try (with_reducible rfl))
          simp only [Act.put, List.getElem_toArray, List.getElem_cons_succ, List.getElem_cons_zero, List.setIfInBounds_toArray, List.set_cons_zero, List.set_cons_succ]
          refine' wpAnyH_take (i := 13) (v := ?vr1_13) rfl (by kernel_rfl) (by kernel_rfl) (by kernel_rfl) (fun _ _ _ h => h) (Or.inl ⟨by rfl, ?hyr1_13⟩) (by assumption) ?restr1_13
          case hyr1_13 => (intro w hSw; (try dsimp only at hSw); go_simp; try (with_reducible rfl))
          simp only [Act.put, List.getElem_toArray, List.getElem_cons_succ, List.getElem_cons_zero, List.setIfInBounds_toArray, List.set_cons_zero, List.set_cons_succ]
          refine' wpAnyH_take (i := 14) (v := ?vr1_14) rfl (by kernel_rfl) (by kernel_rfl) (by kernel_rfl) (fun _ _ _ h => h) (Or.inl ⟨by rfl, ?hyr1_14⟩) (by assumption) ?restr1_14
          case hyr1_14 => (intro w hSw; (try dsimp only at hSw); go_simp; try (with_reducible rfl))
          simp only [Act.put, List.getElem_toArray, List.getElem_cons_succ, List.getElem_cons_zero, List.setIfInBounds_toArray, List.set_cons_zero, List.set_cons_succ]
          refine' wpAnyH_take (i := 15) (v := ?vr1_15) rfl (by kernel_rfl) (by kernel_rfl) (by kernel_rfl) (fun _ _ _ h => h) (Or.inl ⟨by rfl, ?hyr1_15⟩) (by assumption) ?restr1_15
          case hyr1_15 => (intro w hSw; (try dsimp only at hSw); go_simp; try (with_reducible rfl))
          simp only [Act.put, List.getElem_toArray, List.getElem_cons_succ, List.getElem_cons_zero, List.setIfInBounds_toArray, List.set_cons_zero, List.set_cons_succ]
          refine' wpAnyH_take (i := 16) (v := ?vr1_16) rfl (by kernel_rfl) (by kernel_rfl) (by kernel_rfl) (fun _ _ _ h => h) (Or.inl ⟨by rfl, ?hyr1_16⟩) (by assumption) ?restr1_16
          case hyr1_16 => (intro w hSw; (try dsimp only at hSw); go_simp; try (with_reducible rfl))
          simp only [Act.put, List.getElem_toArray, List.getElem_cons_succ, List.getElem_cons_zero, List.setIfInBounds_toArray, List.set_cons_zero, List.set_cons_succ]
          refine' wpAnyH_take (i := 17) (v := ?vr1_17) rfl (by kernel_rfl) (by kernel_rfl) (by kernel_rfl) (fun _ _ _ h => h) (Or.inl ⟨by rfl, ?hyr1_17⟩) (by assumption) ?restr1_17
          case hyr1_17 => (intro w hSw; (try dsimp only at hSw); go_simp; try (with_reducible rfl))
          simp only [Act.put, List.getElem_toArray, List.getElem_cons_succ, List.getElem_cons_zero, List.setIfInBounds_toArray, List.set_cons_zero, List.set_cons_succ]
          refine wpAnyH_ready (rs := [5]) (by kernel_rfl) (by simp) ?_
          refine AllReadyH.cons rfl (fun K hK => ?_) AllReadyH.nil
          go_simp
          refine (size8_any A n cap ts cc mc _ HOKC HMC (Lib.hid (hts.out.step (HBB.out.trans (hHeld.2.mono HBB.out.size))))).mono ?_
          rintro _ w5 ⟨rfl, b⟩
          refine hK.out _ _ (⟨(b.cell (p := ⟨gC, k, none⟩) (Nat.lt_of_lt_of_le HGC.out hHeld.2.size)).trans hHeld.1, hHeld.2.trans (b.mono hHeld.2.size)⟩) (fun hHeld1 => ?_)
          clear hK K hHeld
          have hHeld := hHeld1
          clear hHeld1
          try simp only [Act.put, List.getElem_toArray, List.getElem_cons_succ, List.getElem_cons_zero, List.setIfInBounds_toArray, List.set_cons_zero, List.set_cons_succ]
          refine wpAnyH_ready (rs := [8]) (by kernel_rfl) (by simp) ?_
          refine AllReadyH.cons rfl (fun K hK => ?_) AllReadyH.nil
          go_simp
          refine (length8_any A n cap ts bb lb _ HOKB HLB (Lib.hid (hts.out.step (HBB.out.trans (hHeld.2.mono HBB.out.size))))).mono ?_
          rintro _ w6 ⟨rfl, b⟩
          refine hK.out _ _ (⟨(b.cell (p := ⟨gC, k, none⟩) (Nat.lt_of_lt_of_le HGC.out hHeld.2.size)).trans hHeld.1, hHeld.2.trans (b.mono hHeld.2.size)⟩) (fun hHeld1 => ?_)
          clear hK K hHeld
          have hHeld := hHeld1
          clear hHeld1
          try simp only [Act.put, List.getElem_toArray, List.getElem_cons_succ, List.getElem_cons_zero, List.setIfInBounds_toArray, List.set_cons_zero, List.set_cons_succ]
          refine' wpAnyH_take (i := 9) (v := ?vr1_9) rfl (by kernel_rfl) (by kernel_rfl) (by kernel_rfl) (fun _ _ _ h => h) (Or.inl ⟨by rfl, ?hyr1_9⟩) (by assumption) ?restr1_9
          case hyr1_9 => (intro w hSw; (try dsimp only at hSw); go_simp; try (with_reducible rfl))
          simp only [Act.put, List.getElem_toArray, List.getElem_cons_succ, List.getElem_cons_zero, List.setIfInBounds_toArray, List.set_cons_zero, List.set_cons_succ]
          refine wpAnyH_ready (rs := [12]) (by kernel_rfl) (by simp) ?_
          refine AllReadyH.cons rfl (fun K hK => ?_) AllReadyH.nil
          go_simp
          refine (size8_any A n cap ts bb mb _ HOKB HMB (Lib.hid (hts.out.step (HBB.out.trans (hHeld.2.mono HBB.out.size))))).mono ?_
          rintro _ w7 ⟨rfl, b⟩
          refine hK.out _ _ (⟨(b.cell (p := ⟨gC, k, none⟩) (Nat.lt_of_lt_of_le HGC.out hHeld.2.size)).trans hHeld.1, hHeld.2.trans (b.mono hHeld.2.size)⟩) (fun hHeld1 => ?_)
          clear hK K hHeld
          have hHeld := hHeld1
          clear hHeld1
          try simp only [Act.put, List.getElem_toArray, List.getElem_cons_succ, List.getElem_cons_zero, List.setIfInBounds_toArray, List.set_cons_zero, List.set_cons_succ]
          refine wpAnyH_ready (rs := [18]) (by kernel_rfl) (by simp) ?_
          refine AllReadyH.cons rfl (fun K hK => ?_) AllReadyH.nil
          go_simp
          refine (length8_any A n cap ts cc lc _ HOKC HLC (Lib.hid (hts.out.step (HBB.out.trans (hHeld.2.mono HBB.out.size))))).mono ?_
          rintro _ w8 ⟨rfl, b⟩
          refine hK.out _ _ (⟨(b.cell (p := ⟨gC, k, none⟩) (Nat.lt_of_lt_of_le HGC.out hHeld.2.size)).trans hHeld.1, hHeld.2.trans (b.mono hHeld.2.size)⟩) (fun hHeld1 => ?_)
          clear hK K hHeld
          have hHeld := hHeld1
          clear hHeld1
          try simp only [Act.put, List.getElem_toArray, List.getElem_cons_succ, List.getElem_cons_zero, List.setIfInBounds_toArray, List.set_cons_zero, List.set_cons_succ]
          refine' wpAnyH_take (i := 19) (v := ?vr1_19) rfl (by kernel_rfl) (by kernel_rfl) (by kernel_rfl) (fun _ _ _ h => h) (Or.inl ⟨by rfl, ?hyr1_19⟩) (by assumption) ?restr1_19
          case hyr1_19 => (intro w hSw; (try dsimp only at hSw); go_simp; try (with_reducible rfl))
          simp only [Act.put, List.getElem_toArray, List.getElem_cons_succ, List.getElem_cons_zero, List.setIfInBounds_toArray, List.set_cons_zero, List.set_cons_succ]
          refine' wpAnyH_take (i := 20) (v := ?vr1_20) rfl (by kernel_rfl) (by kernel_rfl) (by kernel_rfl) (fun _ _ _ h => h) (Or.inl ⟨by rfl, ?hyr1_20⟩) (by assumption) ?restr1_20
          case hyr1_20 => (intro w hSw; (try dsimp only at hSw); go_simp; try (with_reducible rfl))
          simp only [Act.put, List.getElem_toArray, List.getElem_cons_succ, List.getElem_cons_zero, List.setIfInBounds_toArray, List.set_cons_zero, List.set_cons_succ]
          refine wpAnyH_done (by kernel_rfl) ?_ _
          obtain ⟨eK2, hB8⟩ := hHeld
          have HB8 := Lib.hid hB8
          have hwo := HWO.out
          clear hB8 eK
          cases wo
          · have HN2 := Lib.hid (show wrK ts CL (k + 1) = bb by rw [HNX.out]; rfl)
            have h9 : ¬ mb * lc < mc * lb := by simpa using hwo
            go_wp2_with fail
            go_roundw
            case rel => exact ⟨k + 1, bb, by omega, by omega, rfl, by go_num, HN2, HB8.out⟩
            case measure => simp [intOf]; omega
          · have HN2 := Lib.hid (show wrK ts CL (k + 1) = cc by rw [HNX.out]; rfl)
            have h9 : mb * lc < mc * lb := by simpa using hwo
            go_wp2_with fail
            go_roundw
            case rel => exact ⟨k + 1, cc, by omega, by omega, rfl, by go_num, HN2, HB8.out⟩
            case measure => simp [intOf]; omega
        · have hkd : decide (k < m) = false := by simpa using hlt
          obtain rfl : k = m := by omega
          clear hlt
          go_wp2_with fail
          go_ret2
          exact ⟨by rw [HF.out, HWK.out]; rfl, HBB.out.trans (HBk.out.mono HBB.out.size)⟩
    · have HF := Lib.hid (HFF.out hm)
      obtain rfl : m = 0 := by omega
      go_wp2_with fail
      go_ret2
      exact ⟨by rw [HF.out]; rfl, HB1.out⟩
end Go.Proofs.YtkeepfkjhcmhlaaDoor.lp

namespace Go.Proofs.YtkeepfkjhcmhlaaDoor.lp
open Go.RowKit
open reads base ty lg rowi hs nt
set_option linter.unusedVariables false
set_option linter.unusedSimpArgs false

theorem flatLg_append (a b : List Lg) : flatLg (a ++ b) = flatLg a ++ flatLg b := by simp [flatLg]
theorem flat_one (ts : List Lg) : ∀ u ∈ flatLg ts, u.oneCell' = true := by
  intro u hu
  unfold flatLg at hu
  obtain ⟨t, -, h⟩ := List.mem_flatMap.1 hu
  simp at h
  rcases h with rfl | rfl | rfl | rfl | rfl <;> rfl
theorem flat_cell {w : World} {B g n : Nat} {ts : List Lg} (h : LgAt w B (some ⟨g, 0, none⟩) n ts) : ∀ (q : Nat) u, (flatLg ts)[q]? = some u → w.cell? ⟨g, q, none⟩ = some u := by
  intro q u hu
  have hq : q < n * 5 := by have := lt_at hu; rw [flatLg_len, h.1] at this; exact this
  obtain ⟨t, ht⟩ := at_lt h.1 (show q / 5 < n by omega)
  obtain ⟨f0, f1, f2, f3, f4⟩ := flatLg_at ts (q / 5) t ht
  obtain ⟨g', e, -, c0, c1, c2, c3, c4⟩ := h.2 (q / 5) t ht
  obtain rfl : g = g' := by injection e with e; injection e
  have hr : q % 5 = 0 ∨ q % 5 = 1 ∨ q % 5 = 2 ∨ q % 5 = 3 ∨ q % 5 = 4 := by omega
  rcases hr with r | r | r | r | r
  · rw [show q / 5 * 5 = q by omega] at f0 c0; rw [c0, ← f0, hu]
  · rw [show q / 5 * 5 + 1 = q by omega] at f1 c1; rw [c1, ← f1, hu]
  · rw [show q / 5 * 5 + 2 = q by omega] at f2 c2; rw [c2, ← f2, hu]
  · rw [show q / 5 * 5 + 3 = q by omega] at f3 c3; rw [c3, ← f3, hu]
  · rw [show q / 5 * 5 + 4 = q by omega] at f4 c4; rw [c4, ← f4, hu]
theorem flat_take {w : World} {B g n : Nat} {ts : List Lg} (h : LgAt w B (some ⟨g, 0, none⟩) n ts) (k : Nat) : ∀ (q : Nat) u, (flatLg (ts.take k))[q]? = some u → w.cell? ((⟨g, 0, none⟩ : Addr).add q) = some u := by
  intro q u hu
  have e : (⟨g, 0, none⟩ : Addr).add q = ⟨g, q, none⟩ := by unfold Addr.add; by_cases hj : q = 0 <;> simp [hj]
  rw [e]
  refine flat_cell h q u ?_
  have := lt_at hu
  rw [← List.take_append_drop k ts, flatLg_append, List.getElem?_append_left this]
  exact hu
theorem flat_drop {w : World} {B g n : Nat} {ts : List Lg} (h : LgAt w B (some ⟨g, 0, none⟩) n ts) (k : Nat) (hk : k ≤ n) : ∀ (q : Nat) u, (flatLg (ts.drop k))[q]? = some u → w.cell? ((⟨g, k * 5, none⟩ : Addr).add q) = some u := by
  intro q u hu
  have e : (⟨g, k * 5, none⟩ : Addr).add q = ⟨g, k * 5 + q, none⟩ := by unfold Addr.add; by_cases hj : q = 0 <;> simp [hj]
  rw [e]
  refine flat_cell h (k * 5 + q) u ?_
  have hl : (flatLg (ts.take k)).length = k * 5 := by rw [flatLg_len, List.length_take, h.1]; congr 1; omega
  rw [← List.take_append_drop k ts, flatLg_append, List.getElem?_append_right (by omega), hl, Nat.add_sub_cancel_left]
  exact hu
theorem step_legs {ops : Array Oper} {o : Oper} {a : Act} {w : World} {K : Act → World → Prop} {Q : Exit → Act → World → Prop} {E : Prop} (hgd : o.guard = none) (s x : Operand) (ho : o.op = .call { callee := .builtin .append, args := #[s, x], argTypes := #[27, 27] })
    {bs n m c : Nat} {v : Value} {xs news : List Value} {ad : Addr} (hs : a.eval s = v) (hown : w.ownsRow bs 51 5 v n xs) (hx : a.eval x = .slice (some ad) m c) (hl : news.length = m * 5) (hnews : ∀ j u, news[j]? = some u → w.cell? (ad.add j) = some u) (h1 : ∀ u ∈ news, u.oneCell' = true) (h6 : n + m ≤ 1000000) (hb : bs ≤ w.heap.size)
    (h : ∀ v' w', w'.ownsRow bs 51 5 v' (n + m) (xs ++ news) → w.grownBy w' v.ownBlock → K (a.put o.dst v') w') :
    if Region.wanted o (yielded ops a.tmps) = true then Oper.wp Tryd.prog o a w K Q else E := by
  obtain ⟨i0, hi, hz0, hz1, hz2⟩ := info_parts infoLg
  rw [if_pos (show Region.wanted o (yielded ops a.tmps) = true by simp [Region.wanted, hgd])]
  exact wp_append_own w s x _ ho bs 51 i0 (.agg #[.int .i64 0, .int .i64 0, .int .i64 0, .int .i64 0, .int .i64 0]) 5 40 Tryd.underlying27 hi hz0 hz1 hz2 rfl (by decide) v n xs hs hown ad m c news hx hl hnews h1 (by unfold maxLen; omega) (by omega) hb (fun v' w' h1 h2 _ => h v' w' h1 h2)
set_option maxHeartbeats 16000000 in
set_option maxRecDepth 100000 in
theorem bridge8_any (gL n cap : Nat) (ts : List Lg) (j : Nat) (x : Lg) (t : Bool) (w : World) (hg : Hid (goodLg ts = true)) (hx : Hid (ts[j]? = some x)) (ht : Hid (brB ts j = t)) (hcap : n ≤ cap) (hts : Hid (LgAt w w.heap.size (some ⟨gL, 0, none⟩) n ts)) :
    Calls Tryd.prog 70 #[.slice (some ⟨gL, 0, none⟩) n cap, .int .i64 (j : Int)] w (BPost t w) := by
  have HL := Lib.hid hts.out.1
  have HX := hx
  have hjn : j < n := by have := lt_at hx.out; rw [HL.out] at this; exact this
  have hn12 := len12 HL.out hg.out
  have HLA := Lib.hid (show legAt ts (j : Int) = x from legAt_is (by rw [Int.toNat_natCast]; exact hx.out))
  have HGL := Lib.hid (less_good hg.out j)
  have HTK := Lib.hid (fun (v : World) (hv : Below w.heap.size w v) => flat_take (hts.out.below hv) j)
  have HDK := Lib.hid (fun (v : World) (hv : Below w.heap.size w v) => flat_drop (hts.out.below hv) (j + 1) (by omega))
  have hji : (j : Int) < (n : Int) := by omega
  have hj0 : (0 : Int) ≤ (j : Int) := by omega
  have hjc : (j : Int) ≤ (cap : Int) := by omega
  have hjc' : j ≤ cap := by omega
  have hj1n : (j : Int) + 1 ≤ (n : Int) := by omega
  have hj1 : (0 : Int) ≤ (j : Int) + 1 := by omega
  have hjt : ((j : Int) + 1).toNat = j + 1 := by omega
  have hncap : (n : Int) ≤ (cap : Int) := by omega
  have hj1w : IntKind.i64.wrap ((j : Int) + 1) = (j : Int) + 1 := IntWalk.i64_in _ (by omega)
  by_cases hcj : cap = j + 1
  · obtain rfl : n = j + 1 := by omega
    obtain rfl : cap = j + 1 := by omega
    have hjj : (j : Int) ≤ (j : Int) + 1 := by omega
    go_enter Tryd.func70, Tryd.ntmps70
    go_upto_region 1 with fail
    refine wp_region_held_drew (S := (fun _ => True)) (by kernel_rfl) trivial (fun hHeld => ?_)
    obtain ⟨V0, HV0⟩ : ∃ V, Hid (w.drew = V) := ⟨_, Lib.hid rfl⟩
    have HB0 := Lib.hid (show Below w.heap.size w V0 by rw [← HV0.out]; exact (Below.refl _ _).drew)
    rw [HV0.out]
    clear HV0
    refine' wpAnyH_take (i := 1) (v := ?vb1_1) rfl (by kernel_rfl) (by kernel_rfl) (by kernel_rfl) (fun _ _ _ h => h) (Or.inl ⟨by rfl, ?hyb1_1⟩) (by assumption) ?restb1_1
    case hyb1_1 => (intro w hSw; (try dsimp only at hSw); go_simp; try (with_reducible rfl))
    simp only [Act.put, List.getElem_toArray, List.getElem_cons_succ, List.getElem_cons_zero, List.setIfInBounds_toArray, List.set_cons_zero, List.set_cons_succ]
    refine' wpAnyH_take (i := 2) (v := ?vb2_2) rfl (by kernel_rfl) (by kernel_rfl) (by kernel_rfl) (fun _ _ _ h => h) (Or.inl ⟨by rfl, ?hyb2_2⟩) (by assumption) ?restb2_2
    case hyb2_2 => (intro w hSw; (try dsimp only at hSw); go_simp; try (with_reducible rfl))
    simp only [Act.put, List.getElem_toArray, List.getElem_cons_succ, List.getElem_cons_zero, List.setIfInBounds_toArray, List.set_cons_zero, List.set_cons_succ]
    refine' wpAnyH_take (i := 3) (v := ?vb3_3) rfl (by kernel_rfl) (by kernel_rfl) (by kernel_rfl) (fun _ _ _ h => h) (Or.inl ⟨by rfl, ?hyb3_3⟩) (by assumption) ?restb3_3
    case hyb3_3 => (intro w hSw; (try dsimp only at hSw); go_simp; try (with_reducible rfl))
    simp only [Act.put, List.getElem_toArray, List.getElem_cons_succ, List.getElem_cons_zero, List.setIfInBounds_toArray, List.set_cons_zero, List.set_cons_succ]
    refine' wpAnyH_take (i := 5) (v := ?vb4_5) rfl (by kernel_rfl) (by kernel_rfl) (by kernel_rfl) (fun _ _ _ h => h) (Or.inl ⟨by rfl, ?hyb4_5⟩) (by assumption) ?restb4_5
    case hyb4_5 => (intro w hSw; (try dsimp only at hSw); go_simp; try (with_reducible rfl))
    simp only [Act.put, List.getElem_toArray, List.getElem_cons_succ, List.getElem_cons_zero, List.setIfInBounds_toArray, List.set_cons_zero, List.set_cons_succ]
    refine' wpAnyH_take (i := 6) (v := ?vb5_6) rfl (by kernel_rfl) (by kernel_rfl) (by kernel_rfl) (fun _ _ _ h => h) (Or.inl ⟨by rfl, ?hyb5_6⟩) (by assumption) ?restb5_6
    case hyb5_6 => (intro w hSw; (try dsimp only at hSw); go_simp; try (with_reducible rfl))
    simp only [Act.put, List.getElem_toArray, List.getElem_cons_succ, List.getElem_cons_zero, List.setIfInBounds_toArray, List.set_cons_zero, List.set_cons_succ]
    refine' wpAnyH_take (i := 7) (v := ?vb6_7) rfl (by kernel_rfl) (by kernel_rfl) (by kernel_rfl) (fun _ _ _ h => h) (Or.inl ⟨by rfl, ?hyb6_7⟩) (by assumption) ?restb6_7
    case hyb6_7 => (intro w hSw; (try dsimp only at hSw); go_simp; try (with_reducible rfl))
    simp only [Act.put, List.getElem_toArray, List.getElem_cons_succ, List.getElem_cons_zero, List.setIfInBounds_toArray, List.set_cons_zero, List.set_cons_succ]
    refine' wpAnyH_take (i := 8) (v := ?vb7_8) rfl (by kernel_rfl) (by kernel_rfl) (by kernel_rfl) (fun _ _ _ h => h) (Or.inl ⟨by rfl, ?hyb7_8⟩) (by assumption) ?restb7_8
    case hyb7_8 => (intro w hSw; (try dsimp only at hSw); go_simp; try (with_reducible rfl))
    simp only [Act.put, List.getElem_toArray, List.getElem_cons_succ, List.getElem_cons_zero, List.setIfInBounds_toArray, List.set_cons_zero, List.set_cons_succ]
    refine wpAnyH_ready (rs := [0]) (by kernel_rfl) (by simp) ?_
    refine AllReadyH.cons rfl (fun K hK => ?_) AllReadyH.nil
    go_simp
    refine hK.out _ _ trivial (fun hHeld1 => ?_)
    clear hK K hHeld
    have hHeld := hHeld1
    clear hHeld1
    try simp only [Act.put, List.getElem_toArray, List.getElem_cons_succ, List.getElem_cons_zero, List.setIfInBounds_toArray, List.set_cons_zero, List.set_cons_succ]
    obtain ⟨G0, HG0⟩ : ∃ G, Hid (V0.heap.size = G) := ⟨_, Lib.hid rfl⟩
    obtain ⟨V1, HW⟩ : ∃ Wx, Hid (V0.alloc (.cells #[] 51) = Wx) := ⟨_, Lib.hid rfl⟩
    have HB1 := Lib.hid (show Below w.heap.size w V1 by rw [← HW.out]; exact HB0.out.alloc HB0.out.size _)
    have HO1 := Lib.hid (show V1.ownsRow w.heap.size 51 5 (.slice (some ⟨G0, 0, none⟩) 0 0) 0 (flatLg []) by rw [← HW.out, ← HG0.out]; exact World.ownsRow_made V0 #[] 0 HB0.out.size (by decide) (by simp))
    rw [HW.out]
    try rw [HG0.out]
    clear HW
    refine wpAnyH_ready (rs := [4]) (by kernel_rfl) (by simp) ?_
    refine AllReadyH.cons rfl (fun K hK => ?_) AllReadyH.nil
    refine step_legs (news := flatLg (ts.take j)) (m := j) rfl _ _ rfl rfl HO1.out rfl (by rw [flatLg_len, List.length_take, HL.out]; omega) (HTK.out V1 HB1.out) (flat_one _) (by omega) HB1.out.size ?_
    intro v2 V2 ho hg
    have HB2 := Lib.hid (HB1.out.grown hg HB1.out.size (fun g e => (HO1.out.lt g e).1))
    have HO2 := Lib.hid (show V2.ownsRow w.heap.size 51 5 v2 (0 + j) (flatLg [] ++ flatLg (ts.take j)) from ho)
    refine hK.out _ _ trivial (fun hHeld1 => ?_)
    clear ho hg
    clear hK K hHeld
    have hHeld := hHeld1
    clear hHeld1
    try simp only [Act.put, List.getElem_toArray, List.getElem_cons_succ, List.getElem_cons_zero, List.setIfInBounds_toArray, List.set_cons_zero, List.set_cons_succ]
    refine wpAnyH_ready (rs := [9]) (by kernel_rfl) (by simp) ?_
    refine AllReadyH.cons rfl (fun K hK => ?_) AllReadyH.nil
    refine step_legs (news := []) (m := 0) rfl _ _ rfl rfl HO2.out rfl rfl (fun q u h => by simp at h) (fun u h => by simp at h) (by omega) HB2.out.size ?_
    intro v3 V3 ho hg
    have HB3 := Lib.hid (HB2.out.grown hg HB2.out.size (fun g e => (HO2.out.lt g e).1))
    have HO3 := Lib.hid (show V3.ownsRow w.heap.size 51 5 v3 (j + 1 - 1) (flatLg (less ts j)) by
      have h : V3.ownsRow w.heap.size 51 5 v3 (0 + j + 0) (flatLg [] ++ flatLg (ts.take j) ++ []) := ho
      rw [show 0 + j + 0 = j + 1 - 1 by omega] at h
      have e : flatLg (less ts j) = flatLg [] ++ flatLg (ts.take j) ++ [] := by unfold less; rw [flatLg_append, List.drop_of_length_le (by rw [HL.out]; omega)]; rfl
      rw [e]; exact h)
    refine hK.out _ _ trivial (fun hHeld1 => ?_)
    clear ho hg
    clear hK K hHeld
    have hHeld := hHeld1
    clear hHeld1
    try simp only [Act.put, List.getElem_toArray, List.getElem_cons_succ, List.getElem_cons_zero, List.setIfInBounds_toArray, List.set_cons_zero, List.set_cons_succ]
    refine' wpAnyH_take (i := 10) (v := ?vb8_10) rfl (by kernel_rfl) (by kernel_rfl) (by kernel_rfl) (fun _ _ _ h => h) (Or.inl ⟨by rfl, ?hyb8_10⟩) (by assumption) ?restb8_10
    case hyb8_10 => (intro w hSw; (try dsimp only at hSw); go_simp; try (with_reducible rfl))
    simp only [Act.put, List.getElem_toArray, List.getElem_cons_succ, List.getElem_cons_zero, List.setIfInBounds_toArray, List.set_cons_zero, List.set_cons_succ]
    refine wpAnyH_done (by kernel_rfl) ?_ _
    clear hHeld HB1 HB2 HO1 HO2 HB0
    obtain ⟨A3, c3, rfl⟩ := row_slice HO3.out
    have HS := Lib.hid (own_Lg (show (less ts j).length = j + 1 - 1 by unfold less; rw [List.length_append, List.length_take, List.length_drop, HL.out]; omega) HO3.out)
    go_wp2_with fail
    refine (place_any A3 (j + 1 - 1) c3 (less ts j) _ HGL HS).mono ?_
    rintro e w4 ⟨g1, g2, c2, g3, c4, rfl, hN⟩
    obtain ⟨N, HNN⟩ : ∃ N, Hid (net (less ts j) = N) := ⟨_, Lib.hid rfl⟩
    rw [HNN.out] at hN ⊢
    obtain ⟨m2, HM2⟩ : ∃ m, Hid (N.ps.length = m) := ⟨_, Lib.hid rfl⟩
    obtain ⟨m3, HM3⟩ : ∃ m, Hid (N.tr.length = m) := ⟨_, Lib.hid rfl⟩
    have hp8 : m2 ≤ 8 := by rw [← HM2.out, ← HNN.out]; exact (ok_net HGL.out).ps_len
    rw [HM2.out, HM3.out] at hN ⊢
    have HP := Lib.hid (ints.IL.of_own hN.2.2.1)
    have HB4 := Lib.hid (HB3.out.trans (hN.1.mono HB3.out.size))
    clear hN
    obtain ⟨gX, eX, hgX, e0, e1, -, -, -⟩ := (hts.out.below HB4.out).2 j x HX.out
    obtain rfl : gL = gX := by injection eX with eX; injection eX
    clear eX
    have HT := Lib.hid (show (!mem N.ps x.frm || !mem N.ps x.to_) = t by rw [← ht.out]; unfold brB; rw [HLA.out, HNN.out])
    cases hfa : mem N.ps x.frm
    · obtain rfl : t = true := by rw [← HT.out, hfa]; rfl
      have HFA := Lib.hid hfa
      clear hfa
      go_wp2_with fail
      refine (has_is (some ⟨g2, 0, none⟩) m2 c2 N.ps x.frm false HFA _ (by omega) HP).mono ?_
      rintro e w9 ⟨rfl, rfl⟩
      go_wp2_with fail
      go_ret
      exact ⟨rfl, HB4.out⟩
    · obtain ⟨tt, HTT⟩ : ∃ b, Hid (mem N.ps x.to_ = b) := ⟨_, Lib.hid rfl⟩
      have HFA := Lib.hid hfa
      have htv : (!tt) = t := by rw [← HT.out, hfa, HTT.out]; rfl
      clear hfa HT ht
      subst htv
      go_wp2_with fail
      refine (has_is (some ⟨g2, 0, none⟩) m2 c2 N.ps x.frm true HFA _ (by omega) HP).mono ?_
      rintro e w9 ⟨rfl, rfl⟩
      go_wp2_with fail
      refine (has_is (some ⟨g2, 0, none⟩) m2 c2 N.ps x.to_ tt HTT _ (by omega) HP).mono ?_
      rintro e w9 ⟨rfl, rfl⟩
      go_wp2_with fail
      go_ret
      exact ⟨rfl, HB4.out⟩
  · have hcj' : ¬ ((cap : Int) = (j : Int) + 1) := by omega
    go_enter Tryd.func70, Tryd.ntmps70
    go_upto_region 1 with fail
    refine wp_region_held_drew (S := (fun _ => True)) (by kernel_rfl) trivial (fun hHeld => ?_)
    obtain ⟨V0, HV0⟩ : ∃ V, Hid (w.drew = V) := ⟨_, Lib.hid rfl⟩
    have HB0 := Lib.hid (show Below w.heap.size w V0 by rw [← HV0.out]; exact (Below.refl _ _).drew)
    rw [HV0.out]
    clear HV0
    refine' wpAnyH_take (i := 1) (v := ?vb9_1) rfl (by kernel_rfl) (by kernel_rfl) (by kernel_rfl) (fun _ _ _ h => h) (Or.inl ⟨by rfl, ?hyb9_1⟩) (by assumption) ?restb9_1
    case hyb9_1 => (intro w hSw; (try dsimp only at hSw); go_simp; try (with_reducible rfl))
    simp only [Act.put, List.getElem_toArray, List.getElem_cons_succ, List.getElem_cons_zero, List.setIfInBounds_toArray, List.set_cons_zero, List.set_cons_succ]
    refine' wpAnyH_take (i := 2) (v := ?vb10_2) rfl (by kernel_rfl) (by kernel_rfl) (by kernel_rfl) (fun _ _ _ h => h) (Or.inl ⟨by rfl, ?hyb10_2⟩) (by assumption) ?restb10_2
    case hyb10_2 => (intro w hSw; (try dsimp only at hSw); go_simp; try (with_reducible rfl))
    simp only [Act.put, List.getElem_toArray, List.getElem_cons_succ, List.getElem_cons_zero, List.setIfInBounds_toArray, List.set_cons_zero, List.set_cons_succ]
    refine' wpAnyH_take (i := 3) (v := ?vb11_3) rfl (by kernel_rfl) (by kernel_rfl) (by kernel_rfl) (fun _ _ _ h => h) (Or.inl ⟨by rfl, ?hyb11_3⟩) (by assumption) ?restb11_3
    case hyb11_3 => (intro w hSw; (try dsimp only at hSw); go_simp; try (with_reducible rfl))
    simp only [Act.put, List.getElem_toArray, List.getElem_cons_succ, List.getElem_cons_zero, List.setIfInBounds_toArray, List.set_cons_zero, List.set_cons_succ]
    refine' wpAnyH_take (i := 5) (v := ?vb12_5) rfl (by kernel_rfl) (by kernel_rfl) (by kernel_rfl) (fun _ _ _ h => h) (Or.inl ⟨by rfl, ?hyb12_5⟩) (by assumption) ?restb12_5
    case hyb12_5 => (intro w hSw; (try dsimp only at hSw); go_simp; try (with_reducible rfl))
    simp only [Act.put, List.getElem_toArray, List.getElem_cons_succ, List.getElem_cons_zero, List.setIfInBounds_toArray, List.set_cons_zero, List.set_cons_succ]
    refine' wpAnyH_take (i := 6) (v := ?vb13_6) rfl (by kernel_rfl) (by kernel_rfl) (by kernel_rfl) (fun _ _ _ h => h) (Or.inl ⟨by rfl, ?hyb13_6⟩) (by assumption) ?restb13_6
    case hyb13_6 => (intro w hSw; (try dsimp only at hSw); go_simp; try (with_reducible rfl))
    simp only [Act.put, List.getElem_toArray, List.getElem_cons_succ, List.getElem_cons_zero, List.setIfInBounds_toArray, List.set_cons_zero, List.set_cons_succ]
    refine' wpAnyH_take (i := 7) (v := ?vb14_7) rfl (by kernel_rfl) (by kernel_rfl) (by kernel_rfl) (fun _ _ _ h => h) (Or.inl ⟨by rfl, ?hyb14_7⟩) (by assumption) ?restb14_7
    case hyb14_7 => (intro w hSw; (try dsimp only at hSw); go_simp; try (with_reducible rfl))
    simp only [Act.put, List.getElem_toArray, List.getElem_cons_succ, List.getElem_cons_zero, List.setIfInBounds_toArray, List.set_cons_zero, List.set_cons_succ]
    refine' wpAnyH_take (i := 8) (v := ?vb15_8) rfl (by kernel_rfl) (by kernel_rfl) (by kernel_rfl) (fun _ _ _ h => h) (Or.inl ⟨by rfl, ?hyb15_8⟩) (by assumption) ?restb15_8
    case hyb15_8 => (intro w hSw; (try dsimp only at hSw); go_simp; try (with_reducible rfl))
    simp only [Act.put, List.getElem_toArray, List.getElem_cons_succ, List.getElem_cons_zero, List.setIfInBounds_toArray, List.set_cons_zero, List.set_cons_succ]
    refine wpAnyH_ready (rs := [0]) (by kernel_rfl) (by simp) ?_
    refine AllReadyH.cons rfl (fun K hK => ?_) AllReadyH.nil
    go_simp
    refine hK.out _ _ trivial (fun hHeld1 => ?_)
    clear hK K hHeld
    have hHeld := hHeld1
    clear hHeld1
    try simp only [Act.put, List.getElem_toArray, List.getElem_cons_succ, List.getElem_cons_zero, List.setIfInBounds_toArray, List.set_cons_zero, List.set_cons_succ]
    obtain ⟨G0, HG0⟩ : ∃ G, Hid (V0.heap.size = G) := ⟨_, Lib.hid rfl⟩
    obtain ⟨V1, HW⟩ : ∃ Wx, Hid (V0.alloc (.cells #[] 51) = Wx) := ⟨_, Lib.hid rfl⟩
    have HB1 := Lib.hid (show Below w.heap.size w V1 by rw [← HW.out]; exact HB0.out.alloc HB0.out.size _)
    have HO1 := Lib.hid (show V1.ownsRow w.heap.size 51 5 (.slice (some ⟨G0, 0, none⟩) 0 0) 0 (flatLg []) by rw [← HW.out, ← HG0.out]; exact World.ownsRow_made V0 #[] 0 HB0.out.size (by decide) (by simp))
    rw [HW.out]
    try rw [HG0.out]
    clear HW
    refine wpAnyH_ready (rs := [4]) (by kernel_rfl) (by simp) ?_
    refine AllReadyH.cons rfl (fun K hK => ?_) AllReadyH.nil
    refine step_legs (news := flatLg (ts.take j)) (m := j) rfl _ _ rfl rfl HO1.out rfl (by rw [flatLg_len, List.length_take, HL.out]; omega) (HTK.out V1 HB1.out) (flat_one _) (by omega) HB1.out.size ?_
    intro v2 V2 ho hg
    have HB2 := Lib.hid (HB1.out.grown hg HB1.out.size (fun g e => (HO1.out.lt g e).1))
    have HO2 := Lib.hid (show V2.ownsRow w.heap.size 51 5 v2 (0 + j) (flatLg [] ++ flatLg (ts.take j)) from ho)
    refine hK.out _ _ trivial (fun hHeld1 => ?_)
    clear ho hg
    clear hK K hHeld
    have hHeld := hHeld1
    clear hHeld1
    try simp only [Act.put, List.getElem_toArray, List.getElem_cons_succ, List.getElem_cons_zero, List.setIfInBounds_toArray, List.set_cons_zero, List.set_cons_succ]
    refine wpAnyH_ready (rs := [9]) (by kernel_rfl) (by simp) ?_
    refine AllReadyH.cons rfl (fun K hK => ?_) AllReadyH.nil
    refine step_legs (news := flatLg (ts.drop (j + 1))) (m := (n - (j + 1))) rfl _ _ rfl rfl HO2.out rfl (by rw [flatLg_len, List.length_drop, HL.out]) (HDK.out V2 HB2.out) (flat_one _) (by omega) HB2.out.size ?_
    intro v3 V3 ho hg
    have HB3 := Lib.hid (HB2.out.grown hg HB2.out.size (fun g e => (HO2.out.lt g e).1))
    have HO3 := Lib.hid (show V3.ownsRow w.heap.size 51 5 v3 (n - 1) (flatLg (less ts j)) by
      have h : V3.ownsRow w.heap.size 51 5 v3 (0 + j + (n - (j + 1))) (flatLg [] ++ flatLg (ts.take j) ++ flatLg (ts.drop (j + 1))) := ho
      rw [show 0 + j + (n - (j + 1)) = n - 1 by omega] at h
      have e : flatLg (less ts j) = flatLg [] ++ flatLg (ts.take j) ++ flatLg (ts.drop (j + 1)) := by unfold less; rw [flatLg_append]; rfl
      rw [e]; exact h)
    refine hK.out _ _ trivial (fun hHeld1 => ?_)
    clear ho hg
    clear hK K hHeld
    have hHeld := hHeld1
    clear hHeld1
    try simp only [Act.put, List.getElem_toArray, List.getElem_cons_succ, List.getElem_cons_zero, List.setIfInBounds_toArray, List.set_cons_zero, List.set_cons_succ]
    refine' wpAnyH_take (i := 10) (v := ?vb16_10) rfl (by kernel_rfl) (by kernel_rfl) (by kernel_rfl) (fun _ _ _ h => h) (Or.inl ⟨by rfl, ?hyb16_10⟩) (by assumption) ?restb16_10
    case hyb16_10 => (intro w hSw; (try dsimp only at hSw); go_simp; try (with_reducible rfl))
    simp only [Act.put, List.getElem_toArray, List.getElem_cons_succ, List.getElem_cons_zero, List.setIfInBounds_toArray, List.set_cons_zero, List.set_cons_succ]
    refine wpAnyH_done (by kernel_rfl) ?_ _
    clear hHeld HB1 HB2 HO1 HO2 HB0
    obtain ⟨A3, c3, rfl⟩ := row_slice HO3.out
    have HS := Lib.hid (own_Lg (show (less ts j).length = n - 1 by unfold less; rw [List.length_append, List.length_take, List.length_drop, HL.out]; omega) HO3.out)
    go_wp2_with fail
    refine (place_any A3 (n - 1) c3 (less ts j) _ HGL HS).mono ?_
    rintro e w4 ⟨g1, g2, c2, g3, c4, rfl, hN⟩
    obtain ⟨N, HNN⟩ : ∃ N, Hid (net (less ts j) = N) := ⟨_, Lib.hid rfl⟩
    rw [HNN.out] at hN ⊢
    obtain ⟨m2, HM2⟩ : ∃ m, Hid (N.ps.length = m) := ⟨_, Lib.hid rfl⟩
    obtain ⟨m3, HM3⟩ : ∃ m, Hid (N.tr.length = m) := ⟨_, Lib.hid rfl⟩
    have hp8 : m2 ≤ 8 := by rw [← HM2.out, ← HNN.out]; exact (ok_net HGL.out).ps_len
    rw [HM2.out, HM3.out] at hN ⊢
    have HP := Lib.hid (ints.IL.of_own hN.2.2.1)
    have HB4 := Lib.hid (HB3.out.trans (hN.1.mono HB3.out.size))
    clear hN
    obtain ⟨gX, eX, hgX, e0, e1, -, -, -⟩ := (hts.out.below HB4.out).2 j x HX.out
    obtain rfl : gL = gX := by injection eX with eX; injection eX
    clear eX
    have HT := Lib.hid (show (!mem N.ps x.frm || !mem N.ps x.to_) = t by rw [← ht.out]; unfold brB; rw [HLA.out, HNN.out])
    cases hfa : mem N.ps x.frm
    · obtain rfl : t = true := by rw [← HT.out, hfa]; rfl
      have HFA := Lib.hid hfa
      clear hfa
      go_wp2_with fail
      refine (has_is (some ⟨g2, 0, none⟩) m2 c2 N.ps x.frm false HFA _ (by omega) HP).mono ?_
      rintro e w9 ⟨rfl, rfl⟩
      go_wp2_with fail
      go_ret
      exact ⟨rfl, HB4.out⟩
    · obtain ⟨tt, HTT⟩ : ∃ b, Hid (mem N.ps x.to_ = b) := ⟨_, Lib.hid rfl⟩
      have HFA := Lib.hid hfa
      have htv : (!tt) = t := by rw [← HT.out, hfa, HTT.out]; rfl
      clear hfa HT ht
      subst htv
      go_wp2_with fail
      refine (has_is (some ⟨g2, 0, none⟩) m2 c2 N.ps x.frm true HFA _ (by omega) HP).mono ?_
      rintro e w9 ⟨rfl, rfl⟩
      go_wp2_with fail
      refine (has_is (some ⟨g2, 0, none⟩) m2 c2 N.ps x.to_ tt HTT _ (by omega) HP).mono ?_
      rintro e w9 ⟨rfl, rfl⟩
      go_wp2_with fail
      go_ret
      exact ⟨rfl, HB4.out⟩
end Go.Proofs.YtkeepfkjhcmhlaaDoor.lp

namespace Go.Proofs.YtkeepfkjhcmhlaaDoor.lp
open Go.RowKit
open reads base inn ty lg rowi hs nt
set_option linter.unusedVariables false
set_option linter.unusedSimpArgs false

/-- IsBridge's answer -/
def ansBr (ts : List Lg) (i : Int) : Value := if brOk ts i then .tuple #[.bool (brB ts i.toNat), .bool true] else .tuple #[.bool false, .bool false]
set_option maxHeartbeats 8000000 in
set_option maxRecDepth 100000 in
theorem isBridge_model (A : Option Addr) (n cap : Nat) (ts : List Lg) (q : Int) (w : World) (hn : n ≤ 2000000) (hcap : n ≤ cap) (hts : Hid (LgAt w w.heap.size A n ts)) :
    Calls Tryd.prog 32 #[.slice A n cap, .int .i64 q] w (APost (ansBr ts q) w) := by
  have HL := Lib.hid hts.out.1
  cases hg : goodLg ts
  · have HG := Lib.hid hg
    have HF := Lib.hid (show ansBr ts q = .tuple #[.bool false, .bool false] by unfold ansBr brOk; rw [hg]; rfl)
    clear hg
    go_enter Tryd.func32, Tryd.ntmps32
    go_wp2_with fail
    refine (legs_is A n cap ts false _ hn hts HG).mono ?_
    rintro e w1 ⟨rfl, b1⟩
    have HB := Lib.hid b1
    clear b1
    go_wp2_with fail
    go_ret2
    exact ⟨by rw [HF.out]; rfl, HB.out⟩
  cases hq : btw 0 q ((ts.length : Int) - 1)
  · have HG := Lib.hid hg
    have HQ := Lib.hid (show btw 0 q ((n : Int) - 1) = false by rw [← HL.out]; exact hq)
    have HF := Lib.hid (show ansBr ts q = .tuple #[.bool false, .bool false] by unfold ansBr brOk; rw [hg, hq]; rfl)
    clear hg hq
    go_enter Tryd.func32, Tryd.ntmps32
    go_wp2_with fail
    refine (legs_is A n cap ts true _ hn hts HG).mono ?_
    rintro e w1 ⟨rfl, b1⟩
    have HB := Lib.hid b1
    clear b1
    go_wp2_with fail
    refine (in_is q 0 ((n : Int) - 1) false HQ _).mono ?_
    rintro e w9 ⟨rfl, rfl⟩
    go_wp2_with fail
    go_ret2
    exact ⟨by rw [HF.out]; rfl, HB.out⟩
  obtain ⟨q1, q2⟩ := btw_yes hq
  obtain ⟨j, rfl⟩ : ∃ j : Nat, q = (j : Int) := ⟨q.toNat, by omega⟩
  have hjn : j < n := by rw [← HL.out]; omega
  obtain ⟨x, hx⟩ := at_lt HL.out hjn
  have HX := Lib.hid hx
  have HQ := Lib.hid (show btw 0 (j : Int) ((n : Int) - 1) = true by rw [← HL.out]; exact hq)
  have HG := Lib.hid hg
  have hji : (j : Int) < (n : Int) := by omega
  have hj0 : (0 : Int) ≤ (j : Int) := by omega
  have hea : brAt ts (j : Int) = mem (net ts).ps x.frm := by unfold brAt; rw [Int.toNat_natCast, hx]
  cases hm : mem (net ts).ps x.frm
  · have HF := Lib.hid (show ansBr ts (j : Int) = .tuple #[.bool false, .bool false] by unfold ansBr brOk; rw [hg, hq, hea, hm]; rfl)
    have HH := Lib.hid (show has6 ts x.frm = false by unfold has6; rw [hg, hm]; rfl)
    clear hg hq hm hea hx q1 q2
    go_enter Tryd.func32, Tryd.ntmps32
    go_wp2_with fail
    refine (legs_is A n cap ts true _ hn hts HG).mono ?_
    rintro e w1 ⟨rfl, b1⟩
    go_wp2_with fail
    refine (in_is (j : Int) 0 ((n : Int) - 1) true HQ _).mono ?_
    rintro e w9 ⟨rfl, rfl⟩
    have HB9 := Lib.hid b1
    obtain ⟨gL, rfl, hgL, e0, e1, e2, e3, e4⟩ := (hts.out.step b1).2 j x HX.out
    clear b1 e1 e2 e3 e4
    go_wp2_with fail
    refine (has6_any _ n cap ts x.frm false _ HH hn (Lib.hid (hts.out.step HB9.out))).mono ?_
    rintro e w5 ⟨rfl, b5⟩
    have HB := Lib.hid (HB9.out.trans (b5.mono HB9.out.size))
    clear b5 HB9 e0 hgL
    go_wp2_with fail
    go_ret2
    exact ⟨by rw [HF.out]; rfl, HB.out⟩
  · obtain ⟨b, HBB⟩ : ∃ b, Hid (brB ts j = b) := ⟨_, Lib.hid rfl⟩
    have HF := Lib.hid (show ansBr ts (j : Int) = .tuple #[.bool b, .bool true] by unfold ansBr brOk; rw [hg, hq, hea, hm, Int.toNat_natCast, HBB.out]; rfl)
    have HH := Lib.hid (show has6 ts x.frm = true by unfold has6; rw [hg, hm]; rfl)
    clear hg hq hm hea hx q1 q2
    go_enter Tryd.func32, Tryd.ntmps32
    go_wp2_with fail
    refine (legs_is A n cap ts true _ hn hts HG).mono ?_
    rintro e w1 ⟨rfl, b1⟩
    go_wp2_with fail
    refine (in_is (j : Int) 0 ((n : Int) - 1) true HQ _).mono ?_
    rintro e w9 ⟨rfl, rfl⟩
    have HB9 := Lib.hid b1
    obtain ⟨gL, rfl, hgL, e0, e1, e2, e3, e4⟩ := (hts.out.step b1).2 j x HX.out
    clear b1 e1 e2 e3 e4
    go_wp2_with fail
    refine (has6_any _ n cap ts x.frm true _ HH hn (Lib.hid (hts.out.step HB9.out))).mono ?_
    rintro e w5 ⟨rfl, b5⟩
    have HB := Lib.hid (HB9.out.trans (b5.mono HB9.out.size))
    clear b5 HB9 e0 hgL
    go_wp2_with fail
    refine (bridge8_any gL n cap ts j x b _ HG HX HBB hcap (Lib.hid (hts.out.step HB.out))).mono ?_
    rintro e w6 ⟨rfl, b6⟩
    have HB6 := Lib.hid (HB.out.trans (b6.mono HB.out.size))
    clear b6 HB
    go_wp2_with fail
    go_ret2
    exact ⟨by rw [HF.out]; rfl, HB6.out⟩
set_option maxHeartbeats 8000000 in
set_option maxRecDepth 100000 in
theorem bridgesOf_model (A : Option Addr) (n cap : Nat) (ts : List Lg) (w : World) (hn : n ≤ 2000000) (hcap : n ≤ cap) (hts : Hid (LgAt w w.heap.size A n ts)) :
    Calls Tryd.prog 34 #[.slice A n cap] w (LPost (brIds ts) (goodLg ts) w) := by
  obtain ⟨i0, hi, hz0, hz1, hz2⟩ := info_parts infoI
  have HL := Lib.hid hts.out.1
  have HR0 := Lib.hid (show (w.alloc (.cells #[] 3)).ownsRow w.heap.size 3 1 (.slice (some ⟨w.heap.size, 0, none⟩) 0 0) 0 [] from World.ownsRow_made w #[] 0 (Nat.le_refl _) (by decide) (by simp))
  have HB0 := Lib.hid ((Below.refl w.heap.size w).alloc (Nat.le_refl _) (.cells #[] 3))
  have HA0 := Lib.hid (hts.out.alloc (.cells #[] 3))
  cases hg : goodLg ts
  · have HG := Lib.hid hg
    have HF := Lib.hid (show brIds ts = [] by unfold brIds; rw [hg]; rfl)
    clear hg
    go_enter Tryd.func34, Tryd.ntmps34
    go_wp2_with fail
    refine (legs_is A n cap ts false _ hn HA0 HG).mono ?_
    rintro e w1 ⟨rfl, b1⟩
    have HB := Lib.hid (HB0.out.trans (b1.mono HB0.out.size))
    have HR := Lib.hid (row_below HR0.out b1)
    clear b1
    go_wp2_with fail
    go_ret2
    exact ⟨_, rfl, by rw [HF.out]; exact HR.out, HB.out⟩
  · have HG := Lib.hid hg
    have hn12 := len12 HL.out hg
    have HF := Lib.hid (show brIds ts = brN ts n by unfold brIds; rw [hg, HL.out]; rfl)
    clear hg
    go_enter Tryd.func34, Tryd.ntmps34
    go_wp2_with fail
    refine (legs_is A n cap ts true _ hn HA0 HG).mono ?_
    rintro e w1 ⟨rfl, b1⟩
    have HB1 := Lib.hid (HB0.out.trans (b1.mono HB0.out.size))
    have HR1 := Lib.hid (row_below HR0.out b1)
    clear b1 HB0 HR0 HA0
    go_wp2_with fail
    go_loopw [4, 5] (fun v i wr => ∃ (k m c : Nat) (A2 : Option Addr), k ≤ n ∧ i = .int .i64 (k : Nat) ∧ m ≤ k ∧ v = .slice A2 m c ∧ Hid ((brN ts k).length = m) ∧ wr.ownsRow w.heap.size 3 1 (.slice A2 m c) m (ints.intsV (brN ts k)) ∧ Below w.heap.size w wr) (fun _ i _ => n - (intOf i).toNat)
    case atStart => exact ⟨0, 0, 0, _, Nat.zero_le _, rfl, Nat.le_refl _, rfl, Lib.hid rfl, HR1.out, HB1.out⟩
    case round =>
      obtain ⟨k, m, c, A2, hk, rfl, hmk, rfl, HM, hO, hB⟩ := hrel
      have HO := Lib.hid hO
      have HB := Lib.hid hB
      have hBs := hB.size
      clear hO hB HR1 HB1
      have hk0 : (0 : Int) ≤ (k : Int) := by omega
      by_cases hlt : k < n
      · obtain ⟨x, hx⟩ := at_lt HL.out hlt
        obtain ⟨gL, rfl, hgL, e0, e1, e2, e3, e4⟩ := (hts.out.below HB.out).2 k x hx
        have HX := Lib.hid hx
        have hki : (k : Int) < (n : Int) := by omega
        have hkd : decide (k < n) = true := by simpa using hlt
        have HEA := Lib.hid (show brAt ts (k : Int) = mem (net ts).ps x.frm by unfold brAt; rw [Int.toNat_natCast, hx])
        clear hx e1 e2 e3 e4
        cases hfa : mem (net ts).ps x.frm
        · have HH := Lib.hid (show has6 ts x.frm = false by unfold has6; rw [HG.out, hfa]; rfl)
          have HC := Lib.hid (show brN ts (k + 1) = brN ts k from brN_no (by rw [HEA.out, hfa]; rfl))
          clear hfa
          go_wp2_with fail
          refine (has6_any _ n cap ts x.frm false _ HH hn (Lib.hid (hts.out.step HB.out))).mono ?_
          rintro e w5 ⟨rfl, b5⟩
          have HB5 := Lib.hid (HB.out.trans (b5.mono hBs))
          have HO5 := Lib.hid (row_below HO.out b5)
          clear b5 e0 hgL
          go_wp2_with fail
          go_roundw
          case rel => exact ⟨k + 1, m, c, A2, by omega, by go_num, by omega, rfl, Lib.hid (by rw [HC.out]; exact HM.out), by rw [HC.out]; exact HO5.out, HB5.out⟩
          case measure => simp [intOf]; omega
        · have HH := Lib.hid (show has6 ts x.frm = true by unfold has6; rw [HG.out, hfa]; rfl)
          cases hbb : brB ts k
          · have HBB := Lib.hid hbb
            have HC := Lib.hid (show brN ts (k + 1) = brN ts k from brN_no (by rw [HEA.out, hfa, hbb]; rfl))
            clear hfa hbb
            go_wp2_with fail
            refine (has6_any _ n cap ts x.frm true _ HH hn (Lib.hid (hts.out.step HB.out))).mono ?_
            rintro e w5 ⟨rfl, b5⟩
            have HB5 := Lib.hid (HB.out.trans (b5.mono hBs))
            have HO5 := Lib.hid (row_below HO.out b5)
            clear b5 e0 hgL
            go_wp2_with fail
            refine (bridge8_any gL n cap ts k x false _ HG HX HBB hcap (Lib.hid (hts.out.step HB5.out))).mono ?_
            rintro e w6 ⟨rfl, b6⟩
            have HB6 := Lib.hid (HB5.out.trans (b6.mono HB5.out.size))
            have HO6 := Lib.hid (row_below HO5.out b6)
            clear b6 HB5 HO5
            go_wp2_with fail
            go_roundw
            case rel => exact ⟨k + 1, m, c, A2, by omega, by go_num, by omega, rfl, Lib.hid (by rw [HC.out]; exact HM.out), by rw [HC.out]; exact HO6.out, HB6.out⟩
            case measure => simp [intOf]; omega
          · have HBB := Lib.hid hbb
            have HC := Lib.hid (show brN ts (k + 1) = brN ts k ++ [(k : Int)] from brN_yes (by rw [HEA.out, hfa]) hbb)
            clear hfa hbb
            go_wp2_with fail
            refine (has6_any _ n cap ts x.frm true _ HH hn (Lib.hid (hts.out.step HB.out))).mono ?_
            rintro e w5 ⟨rfl, b5⟩
            have HB5 := Lib.hid (HB.out.trans (b5.mono hBs))
            have HO5 := Lib.hid (row_below HO.out b5)
            clear b5 e0 hgL
            go_wp2_with fail
            refine (bridge8_any gL n cap ts k x true _ HG HX HBB hcap (Lib.hid (hts.out.step HB5.out))).mono ?_
            rintro e w6 ⟨rfl, b6⟩
            have HB6 := Lib.hid (HB5.out.trans (b6.mono HB5.out.size))
            have HO6 := Lib.hid (row_below HO5.out b6)
            have hB6s := HB6.out.size
            clear b6 HB5 HO5 HO HB
            go_wp2_with (at_builtin; refine wpList_append_lies _ rfl _ _ 24 rfl w.heap.size 3 i0 (.int .i64 0) 1 8 Tryd.underlying24 hi hz0 hz1 hz2 rfl (by decide) _ _ _ rfl (HO6.out.alloc _) ⟨w6.heap.size, 0, none⟩ 1 1 [.int .i64 (k : Int)] rfl rfl (cell_one_new _ _ _) (by simp [Value.oneCell']) (by decide) (by unfold maxLen; omega) (by omega) (by simp; omega) _ rfl ?_; intro g9 c9 w3 hown' hgrow hat hlt9)
            have HAL := Lib.hid ((Below.refl w6.heap.size w6).alloc (Nat.le_refl _) (.cells #[.int .i64 (k : Int)] 3))
            have HB9 := Lib.hid ((HB6.out.trans (HAL.out.mono hB6s)).grown hgrow (by simp; omega) (fun g e => (HO6.out.lt g e).1))
            have HO9 := Lib.hid (show w3.ownsRow w.heap.size 3 1 (.slice (some ⟨g9, 0, none⟩) (m + 1) c9) (m + 1) (ints.intsV (brN ts (k + 1))) by rw [HC.out, intsV_app]; exact hown')
            clear hown' hgrow hat
            go_wp2_with fail
            go_roundw
            case rel => exact ⟨k + 1, m + 1, c9, some ⟨g9, 0, none⟩, by omega, by go_num, by omega, rfl, Lib.hid (by rw [HC.out, List.length_append, HM.out]; rfl), HO9.out, HB9.out⟩
            case measure => simp [intOf]; omega
      · have hkd : decide (k < n) = false := by simpa using hlt
        obtain rfl : k = n := by omega
        have HFIN := Lib.hid (show wr.ownsRow w.heap.size 3 1 (.slice A2 m c) (brIds ts).length (ints.intsV (brIds ts)) by rw [HF.out, HM.out]; exact HO.out)
        clear hlt
        go_wp2_with fail
        go_ret2
        exact ⟨_, rfl, HFIN.out, HB.out⟩
set_option maxHeartbeats 8000000 in
set_option maxRecDepth 100000 in
theorem through_model (A : Option Addr) (n cap : Nat) (ts : List Lg) (q : Int) (w : World) (hn : n ≤ 2000000) (hts : Hid (LgAt w w.heap.size A n ts)) :
    Calls Tryd.prog 36 #[.slice A n cap, .int .i64 q] w (LPost (thrIds ts q) (thrOk ts q) w) := by
  obtain ⟨i0, hi, hz0, hz1, hz2⟩ := info_parts infoI
  have HL := Lib.hid hts.out.1
  have HR0 := Lib.hid (show (w.alloc (.cells #[] 3)).ownsRow w.heap.size 3 1 (.slice (some ⟨w.heap.size, 0, none⟩) 0 0) 0 [] from World.ownsRow_made w #[] 0 (Nat.le_refl _) (by decide) (by simp))
  have HB0 := Lib.hid ((Below.refl w.heap.size w).alloc (Nat.le_refl _) (.cells #[] 3))
  have HA0 := Lib.hid (hts.out.alloc (.cells #[] 3))
  cases hg : goodLg ts
  · have HG := Lib.hid hg
    have HF := Lib.hid (show thrIds ts q = [] ∧ thrOk ts q = false by unfold thrIds thrOk; rw [hg]; exact ⟨rfl, rfl⟩)
    clear hg
    go_enter Tryd.func36, Tryd.ntmps36
    go_wp2_with fail
    refine (legs_is A n cap ts false _ hn HA0 HG).mono ?_
    rintro e w1 ⟨rfl, b1⟩
    have HB := Lib.hid (HB0.out.trans (b1.mono HB0.out.size))
    have HR := Lib.hid (row_below HR0.out b1)
    clear b1
    go_wp2_with fail
    go_ret2
    refine ⟨_, ?_, by rw [HF.out.1]; exact HR.out, HB.out⟩
    rw [HF.out.2]; rfl
  cases hq : btw 0 q ((ts.length : Int) - 1)
  · have HG := Lib.hid hg
    have HQ := Lib.hid (show btw 0 q ((n : Int) - 1) = false by rw [← HL.out]; exact hq)
    have HF := Lib.hid (show thrIds ts q = [] ∧ thrOk ts q = false by unfold thrIds thrOk; rw [hg, hq]; exact ⟨rfl, rfl⟩)
    clear hg hq
    go_enter Tryd.func36, Tryd.ntmps36
    go_wp2_with fail
    refine (legs_is A n cap ts true _ hn HA0 HG).mono ?_
    rintro e w1 ⟨rfl, b1⟩
    have HB := Lib.hid (HB0.out.trans (b1.mono HB0.out.size))
    have HR := Lib.hid (row_below HR0.out b1)
    clear b1
    go_wp2_with fail
    refine (in_is q 0 ((n : Int) - 1) false HQ _).mono ?_
    rintro e w9 ⟨rfl, rfl⟩
    go_wp2_with fail
    go_ret2
    refine ⟨_, ?_, by rw [HF.out.1]; exact HR.out, HB.out⟩
    rw [HF.out.2]; rfl
  have HG := Lib.hid hg
  have HQ := Lib.hid (show btw 0 q ((n : Int) - 1) = true by rw [← HL.out]; exact hq)
  have hn12 := len12 HL.out hg
  obtain ⟨CL, HCL⟩ : ∃ C, Hid (clIds ts = C) := ⟨_, Lib.hid rfl⟩
  have HCN := Lib.hid (show clN ts (net ts) ts.length = CL by rw [← HCL.out]; unfold clIds; rw [hg]; rfl)
  obtain ⟨m0, HM0⟩ : ∃ m, Hid (CL.length = m) := ⟨_, Lib.hid rfl⟩
  have hm12 : m0 ≤ 12 := by rw [← HM0.out, ← HCN.out]; exact Nat.le_trans (clN_len ts (net ts) ts.length) (goodLg_len hg)
  have HOKS := Lib.hid (show ∀ c ∈ CL, lpOk ts c = true from fun c hc => by unfold lpOk; rw [hg, HCL.out, mem_iff.2 hc]; rfl)
  have HF := Lib.hid (show thrIds ts q = thrL ts q CL ∧ thrOk ts q = true by unfold thrIds thrOk; rw [hg, hq, HCL.out]; exact ⟨rfl, rfl⟩)
  clear hg hq
  go_enter Tryd.func36, Tryd.ntmps36
  go_wp2_with fail
  refine (legs_is A n cap ts true _ hn HA0 HG).mono ?_
  rintro e w0 ⟨rfl, b0⟩
  have HB00 := Lib.hid (HB0.out.trans (b0.mono HB0.out.size))
  have HR00 := Lib.hid (row_below HR0.out b0)
  have HA00 := Lib.hid (HA0.out.step b0)
  clear b0 HB0 HR0 HA0
  go_wp2_with fail
  refine (in_is q 0 ((n : Int) - 1) true HQ _).mono ?_
  rintro e w9 ⟨rfl, rfl⟩
  go_wp2_with fail
  refine (closing_any A n cap ts (net ts) (Lib.hid rfl) _ HG HA00).mono ?_
  rintro e w1 ⟨v, rfl, ho, b⟩
  rw [HCN.out, HM0.out] at ho
  obtain ⟨A1, c1, rfl⟩ := row_slice ho
  have HB1 := Lib.hid (HB00.out.trans (b.mono HB00.out.size))
  have HR1 := Lib.hid (row_below HR00.out b)
  obtain ⟨sb, HSB⟩ : ∃ s, Hid (w0.heap.size = s) := ⟨_, Lib.hid rfl⟩
  have hsb : w.heap.size < sb := by rw [← HSB.out]; exact (HR00.out.lt w.heap.size rfl).2
  rw [HSB.out] at ho
  have HP1 := Lib.hid ho
  have HNE0 := Lib.hid (show ∀ g, (Value.slice (some ⟨w.heap.size, 0, none⟩) 0 0).ownBlock = some g → ¬ (Value.slice A1 m0 c1).ownBlock = some g from fun g e h => by
    have e2 : w.heap.size = g := own_eq (n := 0) (c := 0) e
    have := (ho.lt g h).1
    omega)
  clear ho b HB00 HR00 HA00
  go_wp2_with fail
  go_loopw [6, 8] (fun v i wr => ∃ (k m c : Nat) (A2 : Option Addr), k ≤ m0 ∧ i = .int .i64 (k : Nat) ∧ m ≤ k ∧ v = .slice A2 m c ∧ Hid ((thrL ts q (CL.take k)).length = m) ∧ (∀ g, (Value.slice A2 m c).ownBlock = some g → ¬ (Value.slice A1 m0 c1).ownBlock = some g) ∧ wr.ownsRow w.heap.size 3 1 (.slice A2 m c) m (ints.intsV (thrL ts q (CL.take k))) ∧ wr.ownsRow sb 3 1 (.slice A1 m0 c1) m0 (ints.intsV CL) ∧ Below w.heap.size w wr) (fun _ i _ => m0 - (intOf i).toNat)
  case atStart => exact ⟨0, 0, 0, _, Nat.zero_le _, rfl, Nat.le_refl _, rfl, Lib.hid rfl, HNE0.out, HR1.out, HP1.out, HB1.out⟩
  case round =>
    obtain ⟨k, m, c, A2, hk, rfl, hmk, rfl, HM, hne, hO, hP, hB⟩ := hrel
    have HO := Lib.hid hO
    have HP := Lib.hid hP
    have HB := Lib.hid hB
    have HNE := Lib.hid hne
    have hBs := hB.size
    clear hO hP hB hne HR1 HP1 HB1
    have hk0 : (0 : Int) ≤ (k : Int) := by omega
    by_cases hlt : k < m0
    · obtain ⟨cc, hcc⟩ := at_lt HM0.out hlt
      have HOKC := Lib.hid (HOKS.out cc (List.mem_of_getElem? hcc))
      obtain ⟨gC, rfl, eC⟩ := (ints.IL.of_own HP.out).2 k cc hcc
      have HTS := Lib.hid (thr_step (ts := ts) (i := q) hcc)
      have HCC := Lib.hid hcc
      obtain ⟨L, HLL⟩ : ∃ L, Hid (lpIds ts cc = L) := ⟨_, Lib.hid rfl⟩
      obtain ⟨mL, HML⟩ : ∃ m, Hid (L.length = m) := ⟨_, Lib.hid rfl⟩
      have hmL : mL ≤ 13 := by rw [← HML.out, ← HLL.out]; exact lpIds_len
      have hki : (k : Int) < (m0 : Int) := by omega
      have hkd : decide (k < m0) = true := by simpa using hlt
      clear hcc
      go_wp2_with fail
      refine (legs8_any A n cap ts cc _ HOKC (Lib.hid (hts.out.step HB.out))).mono ?_
      rintro e w5 ⟨v5, rfl, ho5, b5⟩
      rw [HLL.out, HML.out] at ho5
      obtain ⟨A5, c5, rfl⟩ := row_slice ho5
      have HI5 := Lib.hid (ints.IL.of_own ho5)
      have HB5 := Lib.hid (HB.out.trans (b5.mono hBs))
      have HO5 := Lib.hid (row_below HO.out b5)
      have HP5 := Lib.hid (row_below HP.out b5)
      have hB5s := HB5.out.size
      clear b5 ho5 HB HO HP eC
      cases hmm : mem L q
      · have HMM := Lib.hid hmm
        have HC := Lib.hid (show thrL ts q (CL.take (k + 1)) = thrL ts q (CL.take k) by rw [HTS.out, HLL.out, hmm]; rfl)
        clear hmm
        go_wp2_with fail
        refine (has_is A5 mL c5 L q false HMM _ (by omega) HI5).mono ?_
        rintro e w9 ⟨rfl, rfl⟩
        go_wp2_with fail
        go_roundw
        case rel => exact ⟨k + 1, m, c, A2, by omega, by go_num, by omega, rfl, Lib.hid (by rw [HC.out]; exact HM.out), HNE.out, by rw [HC.out]; exact HO5.out, HP5.out, HB5.out⟩
        case measure => simp [intOf]; omega
      · have HMM := Lib.hid hmm
        have HC := Lib.hid (show thrL ts q (CL.take (k + 1)) = thrL ts q (CL.take k) ++ [cc] by rw [HTS.out, HLL.out, hmm]; rfl)
        clear hmm
        go_wp2_with fail
        refine (has_is A5 mL c5 L q true HMM _ (by omega) HI5).mono ?_
        rintro e w9 ⟨rfl, rfl⟩
        obtain ⟨gC', eg, eC⟩ := (ints.IL.of_own HP5.out).2 k cc HCC.out
        obtain rfl : gC = gC' := by injection eg with eg; injection eg
        clear eg
        go_wp2_with (at_builtin; refine wpList_append_lies _ rfl _ _ 24 rfl w.heap.size 3 i0 (.int .i64 0) 1 8 Tryd.underlying24 hi hz0 hz1 hz2 rfl (by decide) _ _ _ rfl (HO5.out.alloc _) ⟨w5.heap.size, 0, none⟩ 1 1 [.int .i64 cc] rfl rfl (cell_one_new _ _ _) (by simp [Value.oneCell']) (by decide) (by unfold maxLen; omega) (by omega) (by simp; omega) _ rfl ?_; intro g9 c9 w3 hown' hgrow hat hlt9)
        clear eC
        have hgC := (HP5.out.lt gC rfl).2
        have HNE9 := Lib.hid (show ∀ g, (Value.slice (some ⟨g9, 0, none⟩) (m + 1) c9).ownBlock = some g → ¬ (Value.slice (some ⟨gC, 0, none⟩) m0 c1).ownBlock = some g from fun g e h => by
          have e1 : g9 = g := own_eq (n := m + 1) (c := c9) e
          have e2 : gC = g := own_eq (n := m0) (c := c1) h
          rcases hat with z | z
          · exact HNE.out g9 z (by rw [e1, ← e2]; rfl)
          · have z2 : g9 = w5.heap.size + 1 := by simpa using z
            omega)
        have HAL := Lib.hid ((Below.refl w5.heap.size w5).alloc (Nat.le_refl _) (.cells #[.int .i64 cc] 3))
        have HP9 := Lib.hid ((row_below HP5.out HAL.out).kept hgrow (.inr (fun e => HNE.out gC e.symm rfl)))
        have HB9 := Lib.hid ((HB5.out.trans (HAL.out.mono hB5s)).grown hgrow (by simp; omega) (fun g e => (HO5.out.lt g e).1))
        have HO9 := Lib.hid (show w3.ownsRow w.heap.size 3 1 (.slice (some ⟨g9, 0, none⟩) (m + 1) c9) (m + 1) (ints.intsV (thrL ts q (CL.take (k + 1)))) by rw [HC.out, intsV_app]; exact hown')
        clear hown' hgrow hat
        go_wp2_with fail
        go_roundw
        case rel => exact ⟨k + 1, m + 1, c9, some ⟨g9, 0, none⟩, by omega, by go_num, by omega, rfl, Lib.hid (by rw [HC.out, List.length_append, HM.out]; rfl), HNE9.out, HO9.out, HP9.out, HB9.out⟩
        case measure => simp [intOf]; omega
    · have hkd : decide (k < m0) = false := by simpa using hlt
      obtain rfl : k = m0 := by omega
      have HFIN := Lib.hid (show wr.ownsRow w.heap.size 3 1 (.slice A2 m c) (thrIds ts q).length (ints.intsV (thrIds ts q)) by
        have h := HO.out
        have hm := HM.out
        rw [show k = CL.length from HM0.out.symm, List.take_length] at h hm
        rw [HF.out.1, hm]; exact h)
      have HT2 := Lib.hid HF.out.2
      clear hlt
      go_wp2_with fail
      go_ret2
      refine ⟨_, ?_, HFIN.out, HB.out⟩
      rw [HT2.out]; rfl
/-- CountLoops' answer -/
def ansCo (ts : List Lg) : Value := .tuple #[.int .i64 ((clIds ts).length : Nat), .bool (goodLg ts)]
set_option maxHeartbeats 4000000 in
set_option maxRecDepth 100000 in
theorem count_model (A : Option Addr) (n cap : Nat) (ts : List Lg) (w : World) (hn : n ≤ 2000000) (hts : Hid (LgAt w w.heap.size A n ts)) :
    Calls Tryd.prog 38 #[.slice A n cap] w (APost (ansCo ts) w) := by
  cases hg : goodLg ts
  · have HG := Lib.hid hg
    have HF := Lib.hid (show ansCo ts = .tuple #[.int .i64 0, .bool false] by unfold ansCo clIds; rw [hg]; rfl)
    clear hg
    go_enter Tryd.func38, Tryd.ntmps38
    go_wp2_with fail
    refine (legs_is A n cap ts false _ hn hts HG).mono ?_
    rintro e w1 ⟨rfl, b1⟩
    have HB := Lib.hid b1
    clear b1
    go_wp2_with fail
    go_ret2
    exact ⟨by rw [HF.out]; rfl, HB.out⟩
  · have HG := Lib.hid hg
    obtain ⟨C, HC⟩ : ∃ C, Hid (clN ts (net ts) ts.length = C) := ⟨_, Lib.hid rfl⟩
    obtain ⟨m, HM⟩ : ∃ m, Hid (C.length = m) := ⟨_, Lib.hid rfl⟩
    have HF := Lib.hid (show ansCo ts = .tuple #[.int .i64 (m : Nat), .bool true] by unfold ansCo clIds; rw [hg, if_pos rfl, HC.out, HM.out])
    clear hg
    go_enter Tryd.func38, Tryd.ntmps38
    go_wp2_with fail
    refine (legs_is A n cap ts true _ hn hts HG).mono ?_
    rintro e w1 ⟨rfl, b1⟩
    have HB := Lib.hid b1
    clear b1
    go_wp2_with fail
    refine (closing_any A n cap ts (net ts) (Lib.hid rfl) _ HG (Lib.hid (hts.out.step HB.out))).mono ?_
    rintro e w2 ⟨v, rfl, ho, b⟩
    rw [HC.out, HM.out] at ho
    obtain ⟨A2, c2, rfl⟩ := row_slice ho
    have HB2 := Lib.hid (HB.out.trans (b.mono HB.out.size))
    clear ho b
    go_wp2_with fail
    go_ret2
    exact ⟨by rw [HF.out]; rfl, HB2.out⟩
end Go.Proofs.YtkeepfkjhcmhlaaDoor.lp
