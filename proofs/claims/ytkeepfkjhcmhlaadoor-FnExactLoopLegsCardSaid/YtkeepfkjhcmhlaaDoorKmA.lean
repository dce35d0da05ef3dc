/-
  The way between two stations by tree legs, and the legs of a loop, by the model.
  Conditions: the legs are valid and lie in one block.
-/
import Derived.Test.YtkeepfkjhcmhlaaDoorKuB
import Derived.Test.YtkeepfkjhcmhlaaDoorNtD0
import Derived.Test.YtkeepfkjhcmhlaaDoorInA
import Derived.Deep.RegionHeld3
import Derived.Deep.DeepCutAuto
import Derived.OwnWalk
namespace Go.Proofs.YtkeepfkjhcmhlaaDoor.lp
open Go.RowKit
open reads base ty lg rowi hs nt
set_option linter.unusedVariables false
set_option linter.unusedSimpArgs false

/-- a way by tree legs that does not turn back, if there is one -/
def WPo (ts : List Lg) (last a b : Int) (w : World) (e : Ending) (w' : World) : Prop :=
  ∃ (r : List Int) (ok : Bool) (g c m : Nat), e = .returned (.tuple #[.slice (some ⟨g, 0, none⟩) m c, .bool ok]) ∧ r.length = m ∧ m ≤ 12 ∧ w'.ownsRow w.heap.size 3 1 (.slice (some ⟨g, 0, none⟩) m c) m (ints.intsV r) ∧ Below w.heap.size w w' ∧ (if ok = true then NB ts (net ts).tr last a r b else ∀ l, ¬ NB ts (net ts).tr last a l b)
theorem jo_test {x : Lg} {a : Int} (h : (x.frm == a) = true ∨ (x.to_ == a) = true) : Jo x a (x.frm + x.to_ - a) := by
  unfold Jo
  rcases h with h | h
  · have : x.frm = a := by simpa using h
    omega
  · have : x.to_ = a := by simpa using h
    omega
theorem ints_one (xs : List Int) : ∀ u ∈ ints.intsV xs, u.oneCell' = true := by
  intro u hu
  obtain ⟨y, -, rfl⟩ := List.mem_map.1 hu
  rfl
theorem row_some {w : World} {base size n : Nat} {e : TypeId} {v : Value} {xs : List Value} (h : w.ownsRow base e size v n xs) (hn : 0 < n) : ∃ g c, v = .slice (some ⟨g, 0, none⟩) n c := by
  obtain ⟨g, cap, hv, -, -⟩ := h.form hn
  exact ⟨g, cap, hv⟩
/-- what the search has shown: no way begins with one of the first k legs -/
def Tried (ts : List Lg) (T : List Int) (last a b : Int) (k : Nat) : Prop := ∀ i l, i ∈ T.take k → ¬ NB ts (net ts).tr last a (i :: l) b
theorem tried_next {ts : List Lg} {T : List Int} {last a b : Int} {k : Nat} {i : Int} (h : Tried ts T last a b k) (hi : T[k]? = some i) (hn : ∀ l, ¬ NB ts (net ts).tr last a (i :: l) b) : Tried ts T last a b (k + 1) := fun j l hj => by
  rw [take_snoc hi] at hj
  rcases List.mem_append.1 hj with q | q
  · exact h j l q
  · rw [List.mem_singleton.1 q]; exact hn l
theorem tried_all {ts : List Lg} {last a b : Int} {m : Nat} (hm : (net ts).tr.length = m) (h : Tried ts (net ts).tr last a b m) (hab : ¬ a = b) : ∀ l, ¬ NB ts (net ts).tr last a l b := fun l hl => by
  cases l with
  | nil => exact hab hl
  | cons i l => exact h i l (by rw [← hm, List.take_length]; exact hl.1) hl
set_option maxHeartbeats 8000000 in
set_option maxRecDepth 100000 in
theorem way_any (ts : List Lg) (hg : Hid (goodLg ts = true)) : ∀ (f : Nat) (last a b : Int) (A : Option Addr) (n cap : Nat) (At : Option Addr) (m ct : Nat) (w : World), Hid (∀ l b', NB ts (net ts).tr last a l b' → l.length < f) → Hid (LgAt w w.heap.size A n ts) → Hid (InAt w w.heap.size At m (net ts).tr) →
    Calls Tryd.prog 83 #[.slice A n cap, .slice At m ct, .int .i64 a, .int .i64 b, .int .i64 last] w (WPo ts last a b w) := by
  intro f
  induction f with
  | zero => intro last a b A n cap At m ct w hf _ _; exact absurd (hf.out [] a rfl) (by simp)
  | succ f ih =>
  have IH := Lib.hid ih
  clear ih
  intro last a b A n cap At m ct w HF hts htr
  obtain ⟨i0, hi, hz0, hz1, hz2⟩ := info_parts infoI
  have HL := Lib.hid hts.out.1
  have HM := Lib.hid htr.out.1
  have hn12 := len12 HL.out hg.out
  have hm12 : m ≤ 12 := by rw [← HM.out]; exact (ok_net hg.out).tr_len
  by_cases hab : a = b
  · have HN := Lib.hid (show NB ts (net ts).tr last a [] b from hab)
    have hd : (a == b) = true := by simpa using hab
    have hd2 : decide (a = b) = true := by simpa using hab
    clear hab
    go_enter Tryd.func83, Tryd.ntmps83
    go_wp2_with fail
    go_ret2
    exact ⟨[], true, _, _, 0, rfl, rfl, by omega, World.ownsRow_made w #[] 0 (Nat.le_refl _) (by decide) (by simp), (Below.refl _ _).alloc (Nat.le_refl _) _, HN.out⟩
  · have HAB := Lib.hid hab
    have hd : (a == b) = false := by simpa using hab
    have hd2 : decide (a = b) = false := by simpa using hab
    clear hab
    go_enter Tryd.func83, Tryd.ntmps83
    go_wp2_with fail
    go_loopw [12] (fun i wr => ∃ (k : Nat), k ≤ m ∧ i = .int .i64 (k : Nat) ∧ Hid (Tried ts (net ts).tr last a b k) ∧ Below w.heap.size w wr) (fun i _ => m - (intOf i).toNat)
    case atStart => exact ⟨0, Nat.zero_le _, rfl, Lib.hid (fun i l hi => by simp at hi), Below.refl _ _⟩
    case round =>
      obtain ⟨k, hk, rfl, HT, hB⟩ := hrel
      have HB := Lib.hid hB
      have hBs := hB.size
      clear hB
      have hk0 : (0 : Int) ≤ (k : Int) := by omega
      by_cases hlt : k < m
      · obtain ⟨i, hi9⟩ := at_lt HM.out hlt
        have him := List.mem_of_getElem? hi9
        obtain ⟨hi0, x, hx⟩ := tr_pos him
        obtain ⟨j, rfl⟩ := Int.eq_ofNat_of_zero_le hi0
        rw [Int.toNat_natCast] at hx
        have hjn : j < n := by have := lt_at hx; rw [HL.out] at this; exact this
        obtain ⟨gT, rfl, hgT, eT⟩ := (htr.out.below HB.out).2 k _ hi9
        obtain ⟨gL, rfl, hgL, e0, e1, e2, e3, e4⟩ := (hts.out.below HB.out).2 j x hx
        have HI := Lib.hid hi9
        have HX := Lib.hid hx
        have HIM := Lib.hid him
        have HOK := Lib.hid (okLg_lim (goodLg_at hg.out hx))
        have hf1 := HOK.out.1
        have hf2 := HOK.out.2.1
        clear hx him hi0 hi9 e2 e3 e4
        have hki : (k : Int) < (m : Int) := by omega
        have hkd : decide (k < m) = true := by simpa using hlt
        have hji : (j : Int) < (n : Int) := by omega
        have hj0 : (0 : Int) ≤ (j : Int) := by omega
        have hjd : decide (j < n) = true := by simpa using hjn
        by_cases hla : (j : Int) = last
        · have HT2 := Lib.hid (tried_next HT.out HI.out (fun l h => h.2.1 hla))
          have hd3 : ((j : Int) == last) = true := by simpa using hla
          have hd4 : decide ((j : Int) = last) = true := by simpa using hla
          clear hla
          go_wp2_with fail
          go_roundw
          case rel => exact ⟨k + 1, by omega, by go_num, HT2, HB.out⟩
          case measure => simp [intOf]; omega
        · have HLA := Lib.hid hla
          have hd3 : ((j : Int) == last) = false := by simpa using hla
          have hd4 : decide ((j : Int) = last) = false := by simpa using hla
          clear hla
          have hcase : (x.frm == a) = true ∨ (x.frm == a) = false ∧ ((x.to_ == a) = true ∨ (x.to_ == a) = false) := by cases (x.frm == a) <;> cases (x.to_ == a) <;> simp
          have none_ : (x.frm == a) = false → (x.to_ == a) = false → Tried ts (net ts).tr last a b (k + 1) := fun q1 q2 => tried_next HT.out HI.out (fun l h => by
            obtain ⟨-, -, o, ⟨-, y, hy, hj⟩, -⟩ := h
            rw [Int.toNat_natCast, HX.out] at hy
            obtain rfl := Option.some.inj hy
            have q1 : ¬ x.frm = a := by simpa using q1
            have q2 : ¬ x.to_ = a := by simpa using q2
            unfold Jo at hj; omega)
          have HNO := Lib.hid none_
          clear none_
          have go : Jo x a (x.frm + x.to_ - a) → ∀ (o : Int), x.frm + x.to_ - a = o → (Jn ts (j : Int) a o) ∧ (∀ l b', NB ts (net ts).tr (j : Int) o l b' → l.length < f) := fun hj o ho => by
            rw [ho] at hj
            have hJ : Jn ts (j : Int) a o := ⟨by omega, x, by rw [Int.toNat_natCast]; exact HX.out, hj⟩
            refine ⟨hJ, fun l b' hl => ?_⟩
            have := HF.out ((j : Int) :: l) b' ⟨HIM.out, HLA.out, o, hJ, hl⟩
            simp at this; omega
          have HGO := Lib.hid go
          clear go
          obtain ⟨o, ho⟩ : ∃ o, x.frm + x.to_ - a = o := ⟨_, rfl⟩
          have HO := Lib.hid ho
          clear ho
          rcases hcase with q | ⟨q, q2 | q2⟩
          · have q3 : (x.frm != a) = false := by simpa using q
            have hJo := jo_test (x := x) (a := a) (.inl q)
            have ha7 : 0 ≤ a ∧ a ≤ 7 := by unfold Jo at hJo; omega
            obtain ⟨HJ, HFO⟩ := HGO.out hJo o HO.out
            have HJn := Lib.hid HJ
            have HFo := Lib.hid HFO
            have hox := HO.out
            clear hJo HJ HFO
            go_wp2_with fail
            go_quiet (fail)
            try rw [hox]
            obtain ⟨W1, HW1⟩ : ∃ W, Hid (wr.drewN nq = W) := ⟨_, Lib.hid rfl⟩
            try rw [HW1.out]
            have HBD := Lib.hid (show Below wr.heap.size wr W1 by rw [← HW1.out]; exact drewN_below _ _)
            have HB1 := Lib.hid (HB.out.trans (HBD.out.mono hBs))
            clear HW1 e0 e1 eT
            go_wp2_with fail
            refine (IH.out (j : Int) o b _ n cap _ m ct _ HFo (Lib.hid (hts.out.step HB1.out)) (Lib.hid (htr.out.step HB1.out))).mono ?_
            rintro e w2 ⟨r, ok, g9, c9, m9, rfl, hr, hm9, hown, hb2, hok⟩
            have HR := Lib.hid hr
            have HOW := Lib.hid hown
            have HOK2 := Lib.hid hok
            have HB2 := Lib.hid (HB1.out.trans (hb2.mono HB1.out.size))
            have hg9 := (hown.lt g9 rfl).2
            have hb2s := hb2.size
            clear hr hown hb2 hok
            cases ok
            · have HNX := Lib.hid (tried_next HT.out HI.out (fun l h => by
                obtain ⟨-, -, o', ho', h2⟩ := h
                have e9 : o' = o := ho'.uniq HJn.out
                rw [e9] at h2
                have q := HOK2.out
                rw [if_neg (by simp)] at q
                exact q l h2))
              go_wp2_with fail
              go_roundw
              case rel => exact ⟨k + 1, by omega, by go_num, HNX, HB2.out⟩
              case measure => simp [intOf]; omega
            · have HNB := Lib.hid (show NB ts (net ts).tr last a ((j : Int) :: r) b from ⟨HIM.out, HLA.out, o, HJn.out, by have q := HOK2.out; rw [if_pos rfl] at q; exact q⟩)
              have hm99 : m9 + 1 ≤ 12 := by
                have q := (nb_once HNB.out).2
                have q2 := (ok_net hg.out).tr_len
                simp only [List.length_cons, HR.out] at q; omega
              have HS := Lib.hid (show (w2.alloc (.cells #[.int .i64 (j : Int)] 3)).ownsRow w.heap.size 3 1 (.slice (some ⟨w2.heap.size, 0, none⟩) 1 1) 1 [.int .i64 (j : Int)] from row_blk (n := 1) (size := 1) (Blk.new w2 3 #[.int .i64 (j : Int)]) HB2.out.size (by decide) rfl)
              have HNE := Lib.hid (row_below HOW.out ((Below.refl w2.heap.size w2).alloc (Nat.le_refl _) (.cells #[.int .i64 (j : Int)] 3)))
              have HB3 := Lib.hid (HB2.out.alloc HB2.out.size (.cells #[.int .i64 (j : Int)] 3))
              have hsz := HB2.out.size
              go_wp2_with (at_builtin; refine wpList_append_own _ rfl _ _ 24 rfl w.heap.size 3 i0 (.int .i64 0) 1 8 Tryd.underlying24 hi hz0 hz1 hz2 rfl (by decide) _ _ _ rfl HS.out ⟨g9, 0, none⟩ m9 c9 (ints.intsV r) rfl (by rw [ints.intsV_len, HR.out]; omega) (HNE.out.cells (g := g9) rfl) (ints_one r) (by unfold maxLen; omega) (by omega) (by simp; omega) ?_; intro v' w3 hown' hgrow _)
              have HB4 := Lib.hid (HB3.out.grown hgrow (by simp; omega) (fun g e => (HS.out.lt g e).1))
              obtain ⟨g8, c8, rfl⟩ := row_some hown' (by omega)
              have HO8 := Lib.hid hown'
              clear hown' hgrow
              go_wp2_with fail
              go_ret2
              refine ⟨(j : Int) :: r, true, g8, c8, 1 + m9, rfl, by rw [List.length_cons, HR.out]; omega, by omega, ?_, HB4.out, HNB.out⟩
              rw [show ints.intsV ((j : Int) :: r) = [.int .i64 (j : Int)] ++ ints.intsV r from rfl]; exact HO8.out
          · have q3 : (x.frm != a) = true := by simpa using q
            have q4 : (x.to_ != a) = false := by simpa using q2
            have hJo := jo_test (x := x) (a := a) (.inr q2)
            have ha7 : 0 ≤ a ∧ a ≤ 7 := by unfold Jo at hJo; omega
            obtain ⟨HJ, HFO⟩ := HGO.out hJo o HO.out
            have HJn := Lib.hid HJ
            have HFo := Lib.hid HFO
            have hox := HO.out
            clear hJo HJ HFO
            go_wp2_with fail
            go_quiet (fail)
            try rw [hox]
            obtain ⟨W1, HW1⟩ : ∃ W, Hid (wr.drewN nq = W) := ⟨_, Lib.hid rfl⟩
            try rw [HW1.out]
            have HBD := Lib.hid (show Below wr.heap.size wr W1 by rw [← HW1.out]; exact drewN_below _ _)
            have HB1 := Lib.hid (HB.out.trans (HBD.out.mono hBs))
            clear HW1 e0 e1 eT
            go_wp2_with fail
            refine (IH.out (j : Int) o b _ n cap _ m ct _ HFo (Lib.hid (hts.out.step HB1.out)) (Lib.hid (htr.out.step HB1.out))).mono ?_
            rintro e w2 ⟨r, ok, g9, c9, m9, rfl, hr, hm9, hown, hb2, hok⟩
            have HR := Lib.hid hr
            have HOW := Lib.hid hown
            have HOK2 := Lib.hid hok
            have HB2 := Lib.hid (HB1.out.trans (hb2.mono HB1.out.size))
            have hg9 := (hown.lt g9 rfl).2
            have hb2s := hb2.size
            clear hr hown hb2 hok
            cases ok
            · have HNX := Lib.hid (tried_next HT.out HI.out (fun l h => by
                obtain ⟨-, -, o', ho', h2⟩ := h
                have e9 : o' = o := ho'.uniq HJn.out
                rw [e9] at h2
                have q := HOK2.out
                rw [if_neg (by simp)] at q
                exact q l h2))
              go_wp2_with fail
              go_roundw
              case rel => exact ⟨k + 1, by omega, by go_num, HNX, HB2.out⟩
              case measure => simp [intOf]; omega
            · have HNB := Lib.hid (show NB ts (net ts).tr last a ((j : Int) :: r) b from ⟨HIM.out, HLA.out, o, HJn.out, by have q := HOK2.out; rw [if_pos rfl] at q; exact q⟩)
              have hm99 : m9 + 1 ≤ 12 := by
                have q := (nb_once HNB.out).2
                have q2 := (ok_net hg.out).tr_len
                simp only [List.length_cons, HR.out] at q; omega
              have HS := Lib.hid (show (w2.alloc (.cells #[.int .i64 (j : Int)] 3)).ownsRow w.heap.size 3 1 (.slice (some ⟨w2.heap.size, 0, none⟩) 1 1) 1 [.int .i64 (j : Int)] from row_blk (n := 1) (size := 1) (Blk.new w2 3 #[.int .i64 (j : Int)]) HB2.out.size (by decide) rfl)
              have HNE := Lib.hid (row_below HOW.out ((Below.refl w2.heap.size w2).alloc (Nat.le_refl _) (.cells #[.int .i64 (j : Int)] 3)))
              have HB3 := Lib.hid (HB2.out.alloc HB2.out.size (.cells #[.int .i64 (j : Int)] 3))
              have hsz := HB2.out.size
              go_wp2_with (at_builtin; refine wpList_append_own _ rfl _ _ 24 rfl w.heap.size 3 i0 (.int .i64 0) 1 8 Tryd.underlying24 hi hz0 hz1 hz2 rfl (by decide) _ _ _ rfl HS.out ⟨g9, 0, none⟩ m9 c9 (ints.intsV r) rfl (by rw [ints.intsV_len, HR.out]; omega) (HNE.out.cells (g := g9) rfl) (ints_one r) (by unfold maxLen; omega) (by omega) (by simp; omega) ?_; intro v' w3 hown' hgrow _)
              have HB4 := Lib.hid (HB3.out.grown hgrow (by simp; omega) (fun g e => (HS.out.lt g e).1))
              obtain ⟨g8, c8, rfl⟩ := row_some hown' (by omega)
              have HO8 := Lib.hid hown'
              clear hown' hgrow
              go_wp2_with fail
              go_ret2
              refine ⟨(j : Int) :: r, true, g8, c8, 1 + m9, rfl, by rw [List.length_cons, HR.out]; omega, by omega, ?_, HB4.out, HNB.out⟩
              rw [show ints.intsV ((j : Int) :: r) = [.int .i64 (j : Int)] ++ ints.intsV r from rfl]; exact HO8.out
          · have q3 : (x.frm != a) = true := by simpa using q
            have q4 : (x.to_ != a) = true := by simpa using q2
            have HT2 := Lib.hid (HNO.out q q2)
            clear HO
            go_wp2_with fail
            go_roundw
            case rel => exact ⟨k + 1, by omega, by go_num, HT2, HB.out⟩
            case measure => simp [intOf]; omega
      · have hkd : decide (k < m) = false := by simpa using hlt
        obtain rfl : m = k := by omega
        clear hlt
        have HFIN := Lib.hid (tried_all HM.out HT.out HAB.out)
        go_wp2_with fail
        go_ret2
        exact ⟨[], false, _, _, 0, rfl, rfl, by omega, World.ownsRow_made wr #[] 0 hBs (by decide) (by simp), HB.out.alloc hBs _, HFIN.out⟩
#print axioms way_any
end Go.Proofs.YtkeepfkjhcmhlaaDoor.lp
