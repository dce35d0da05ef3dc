/-
  A network by value, as the program keeps it: 56 cells; tests of it; sums, differences, the lesser and the greater of shifts.
  Sums, differences, the lesser and the greater of two shifts, the indices of marks that are set, by the program.
  Whether the ends of a leg are placed, by the program.
  The program's shift along a leg.
  A station is placed from the other end of a leg, by the program.
  Conditions: those that each theorem names.
-/
import Derived.Test.YtiimegmaokfpgabGreatDoorNtR
import Derived.Test.YtiimegmaokfpgabGreatDoorNtP
import Derived.Test.YtiimegmaokfpgabGreatDoorLgI
import Derived.Test.YtiimegmaokfpgabGreatDoorSinI
import Derived.Deep.DeepCutAuto
import Derived.Deep.RegionWith
import Derived.Deep.QuietTactic
import Derived.BigQuiet
import Derived.Deep.WholeRow
import Derived.Test.YtiimegmaokfpgabGreatDoorRowI
import Derived.OwnWalk
import Derived.LoopTactic
import Derived.Deep.RegionHeld3
import Derived.Test.YtiimegmaokfpgabGreatDoorLgD
import Derived.Test.YtiimegmaokfpgabGreatDoorNtC
namespace Go.Proofs.YtiimegmaokfpgabGreatDoor.nq
open Go.RowKit
open reads base ty lg lgi win hs nt
set_option linter.unusedVariables false
set_option linter.unusedSimpArgs false

/-- its cells: which stations are placed, the places, the tree legs, the closing legs -/
def nvL (s : Net) (cl : List Bool) : List Value := (mks 8 s.ps).map Value.bool ++ (flatSf s.pl ++ ((mks 12 s.tr).map Value.bool ++ cl.map Value.bool))
def nv (s : Net) (cl : List Bool) : Array Value := (nvL s cl).toArray
/-- what is asked of a network -/
def NOk (s : Net) (cl : List Bool) : Prop := s.pl.length = 8 ∧ cl.length = 12
theorem set_flat (t : Sf) : ∀ (ts : List Sf) (i : Nat), i < ts.length → (((flatSf ts).set (i * 3) (.int .i64 t.east)).set (i * 3 + 1) (.int .i64 t.north)).set (i * 3 + 2) (.int .i64 t.up) = flatSf (ts.set i t)
  | [], i, h => by simp at h
  | d :: ts, 0, h => by simp [flatSf]
  | d :: ts, i + 1, h => by
    have ih := set_flat t ts i (by simpa using h)
    have e : flatSf (d :: ts) = .int .i64 d.east :: .int .i64 d.north :: .int .i64 d.up :: flatSf ts := rfl
    have e2 : flatSf ((d :: ts).set (i + 1) t) = .int .i64 d.east :: .int .i64 d.north :: .int .i64 d.up :: flatSf (ts.set i t) := rfl
    rw [e2, ← ih, e, show (i + 1) * 3 = i * 3 + 1 + 1 + 1 by omega, show i * 3 + 1 + 1 + 1 + 1 = (i * 3 + 1) + 1 + 1 + 1 by omega, show i * 3 + 1 + 1 + 1 + 2 = (i * 3 + 2) + 1 + 1 + 1 by omega]
    simp only [List.set_cons_succ]
section
variable {s : Net} {cl : List Bool}
theorem nv_size (h : NOk s cl) : (nv s cl).size = 56 := by
  unfold nv nvL
  rw [List.size_toArray, List.length_append, List.length_append, List.length_append, List.length_map, List.length_map, List.length_map, mks_len, mks_len, flatSf_len, h.1, h.2]
theorem nv_one : (nv s cl).all (·.oneCell') = true := by
  unfold nv nvL
  rw [List.all_toArray, List.all_eq_true]
  intro u hu
  rw [List.mem_append, List.mem_append, List.mem_append] at hu
  rcases hu with hu | hu | hu | hu
  · obtain ⟨b, -, rfl⟩ := List.mem_map.1 hu; rfl
  · unfold flatSf at hu
    rw [List.mem_flatMap] at hu
    obtain ⟨t, -, ht⟩ := hu
    simp at ht
    rcases ht with rfl | rfl | rfl <;> rfl
  · obtain ⟨b, -, rfl⟩ := List.mem_map.1 hu; rfl
  · obtain ⟨b, -, rfl⟩ := List.mem_map.1 hu; rfl
theorem nv_ps {q : Nat} (hq : q < 8) : (nv s cl)[q]? = some (.bool (mem s.ps (q : Int))) := by
  unfold nv nvL
  rw [List.getElem?_toArray, List.getElem?_append_left (by rw [List.length_map, mks_len]; exact hq), List.getElem?_map, mks_at _ hq]; rfl
theorem nv_pl (h : NOk s cl) {q : Nat} (hq : q < 8) : (nv s cl)[8 + q * 3]? = some (.int .i64 (at_ s.pl (q : Int)).east) ∧ (nv s cl)[8 + q * 3 + 1]? = some (.int .i64 (at_ s.pl (q : Int)).north) ∧ (nv s cl)[8 + q * 3 + 2]? = some (.int .i64 (at_ s.pl (q : Int)).up) := by
  have e : s.pl[q]? = some (at_ s.pl (q : Int)) := by
    unfold at_
    rw [Int.toNat_natCast, List.getElem?_eq_getElem (by have := h.1; omega)]; rfl
  obtain ⟨k0, k1, k2⟩ := flatSf_at s.pl q _ e
  have g : ∀ j, j < 24 → (nv s cl)[8 + j]? = (flatSf s.pl)[j]? := fun j hj => by
    unfold nv nvL
    rw [List.getElem?_toArray, List.getElem?_append_right (by rw [List.length_map, mks_len]; omega), List.length_map, mks_len, show 8 + j - 8 = j by omega, List.getElem?_append_left (by rw [flatSf_len, h.1]; exact hj)]
  refine ⟨(g _ (by omega)).trans k0, ?_, ?_⟩
  · rw [Nat.add_assoc]; exact (g _ (by omega)).trans k1
  · rw [Nat.add_assoc]; exact (g _ (by omega)).trans k2
theorem nv_tr (h : NOk s cl) {i : Nat} (hi : i < 12) : (nv s cl)[32 + i]? = some (.bool (mem s.tr (i : Int))) := by
  unfold nv nvL
  rw [List.getElem?_toArray, List.getElem?_append_right (by rw [List.length_map, mks_len]; omega), List.length_map, mks_len, List.getElem?_append_right (by rw [flatSf_len, h.1]; omega), flatSf_len, h.1, List.getElem?_append_left (by rw [List.length_map, mks_len]; omega), show 32 + i - 8 - 8 * 3 = i by omega, List.getElem?_map, mks_at _ hi]; rfl
theorem nv_cl (h : NOk s cl) {i : Nat} {b : Bool} (hb : cl[i]? = some b) : (nv s cl)[44 + i]? = some (.bool b) := by
  have hi : i < 12 := by have := (List.getElem?_eq_some_iff.1 hb).1; have := h.2; omega
  unfold nv nvL
  rw [List.getElem?_toArray, List.getElem?_append_right (by rw [List.length_map, mks_len]; omega), List.length_map, mks_len, List.getElem?_append_right (by rw [flatSf_len, h.1]; omega), flatSf_len, h.1, List.getElem?_append_right (by rw [List.length_map, mks_len]; omega), List.length_map, mks_len, show 44 + i - 8 - 8 * 3 - 12 = i by omega, List.getElem?_map, hb]; rfl
/-- a station is placed -/
theorem nv_set_ps {q : Nat} (hq : q < 8) : (nv s cl).setIfInBounds q (.bool true) = nv ⟨s.pl, put s.ps (q : Int), s.tr⟩ cl := by
  unfold nv nvL
  rw [List.setIfInBounds_toArray, List.set_append_left _ _ (by rw [List.length_map, mks_len]; exact hq), ← mks_put _ hq, List.map_set]
theorem nv_set_pl (h : NOk s cl) {q : Nat} (hq : q < 8) (c : Sf) : (((nv s cl).setIfInBounds (8 + q * 3) (.int .i64 c.east)).setIfInBounds (8 + q * 3 + 1) (.int .i64 c.north)).setIfInBounds (8 + q * 3 + 2) (.int .i64 c.up) = nv ⟨s.pl.set q c, s.ps, s.tr⟩ cl := by
  unfold nv nvL
  have hl : ((mks 8 s.ps).map Value.bool).length = 8 := by rw [List.length_map, mks_len]
  have g : ∀ (F R : List Value) (j : Nat) (u : Value), F.length = 24 → j < 24 → (((mks 8 s.ps).map Value.bool) ++ (F ++ R)).set (8 + j) u = ((mks 8 s.ps).map Value.bool) ++ (F.set j u ++ R) := fun F R j u hF hj => by
    rw [List.set_append_right _ _ (by omega), hl, show 8 + j - 8 = j by omega, List.set_append_left _ _ (by omega)]
  have l24 : (flatSf s.pl).length = 24 := by rw [flatSf_len, h.1]
  rw [List.setIfInBounds_toArray, List.setIfInBounds_toArray, List.setIfInBounds_toArray, Nat.add_assoc, Nat.add_assoc, g _ _ _ _ l24 (by omega), g _ _ _ _ (by rw [List.length_set]; exact l24) (by omega), g _ _ _ _ (by rw [List.length_set, List.length_set]; exact l24) (by omega), set_flat c s.pl q (by rw [h.1]; exact hq)]
theorem nv_set_tr (h : NOk s cl) {i : Nat} (hi : i < 12) : (nv s cl).setIfInBounds (32 + i) (.bool true) = nv ⟨s.pl, s.ps, put s.tr (i : Int)⟩ cl := by
  unfold nv nvL
  rw [List.setIfInBounds_toArray, List.set_append_right _ _ (by rw [List.length_map, mks_len]; omega), List.length_map, mks_len, List.set_append_right _ _ (by rw [flatSf_len, h.1]; omega), flatSf_len, h.1, List.set_append_left _ _ (by rw [List.length_map, mks_len]; omega), show 32 + i - 8 - 8 * 3 = i by omega, ← mks_put _ hi, List.map_set]
theorem nv_set_cl (h : NOk s cl) {i : Nat} (hi : i < 12) (b : Bool) : (nv s cl).setIfInBounds (44 + i) (.bool b) = nv s (cl.set i b) := by
  unfold nv nvL
  rw [List.setIfInBounds_toArray, List.set_append_right _ _ (by rw [List.length_map, mks_len]; omega), List.length_map, mks_len, List.set_append_right _ _ (by rw [flatSf_len, h.1]; omega), flatSf_len, h.1, List.set_append_right _ _ (by rw [List.length_map, mks_len]; omega), List.length_map, mks_len, show 44 + i - 8 - 8 * 3 - 12 = i by omega, List.map_set]
end
/-- no station placed, all places zero -/
def none6 : Net := ⟨List.replicate 8 zero3, [], []⟩
def off12 : List Bool := List.replicate 12 false
theorem ok_none : NOk none6 off12 := ⟨rfl, rfl⟩
theorem infoNet : (Tryz.prog.info? 76).map (fun i => (i.zero, i.size)) = some (some (.agg (nv none6 off12)), 56) := by kernel_rfl
end Go.Proofs.YtiimegmaokfpgabGreatDoor.nq

namespace Go.Proofs.YtiimegmaokfpgabGreatDoor.nq
open Go.RowKit
open reads base ty lg lgi win hs nt rowi
set_option linter.unusedVariables false
set_option linter.unusedSimpArgs false

set_option maxHeartbeats 4000000 in
set_option maxRecDepth 100000 in
theorem sum_q (a b c : Sf) (h : Hid (add3 a b = c)) (w : World) (ha : Hid (BdS a)) (hb : Hid (BdS b)) :
    Calls Tryz.prog 154 #[.agg #[.int .i64 a.east, .int .i64 a.north, .int .i64 a.up], .agg #[.int .i64 b.east, .int .i64 b.north, .int .i64 b.up]] w (APost (.agg #[.int .i64 c.east, .int .i64 c.north, .int .i64 c.up]) w) := by
  obtain ⟨⟨a00, a01⟩, ⟨a10, a11⟩, a20, a21⟩ := ha.out
  obtain ⟨⟨b00, b01⟩, ⟨b10, b11⟩, b20, b21⟩ := hb.out
  obtain ⟨k0, k1, k2⟩ : a.east + b.east = c.east ∧ a.north + b.north = c.north ∧ a.up + b.up = c.up := by rw [← h.out]; exact ⟨rfl, rfl, rfl⟩
  go_enter Tryz.func154, Tryz.ntmps154
  go_wp2_with fail
  refine bodyPost_ret (v := .agg #[.int .i64 c.east, .int .i64 c.north, .int .i64 c.up]) (by simp [results, Tryz.results154, go_sem, k0, k1, k2]) rfl ⟨rfl, ?_⟩
  exact (((Below.refl _ _).alloc (Nat.le_refl _) _).alloc (by simp) _).alloc (by simp; omega) _
set_option maxHeartbeats 4000000 in
set_option maxRecDepth 100000 in
theorem diff_q (a b c : Sf) (h : Hid (sub3 a b = c)) (w : World) (ha : Hid (BdS a)) (hb : Hid (BdS b)) :
    Calls Tryz.prog 155 #[.agg #[.int .i64 a.east, .int .i64 a.north, .int .i64 a.up], .agg #[.int .i64 b.east, .int .i64 b.north, .int .i64 b.up]] w (APost (.agg #[.int .i64 c.east, .int .i64 c.north, .int .i64 c.up]) w) := by
  obtain ⟨⟨a00, a01⟩, ⟨a10, a11⟩, a20, a21⟩ := ha.out
  obtain ⟨⟨b00, b01⟩, ⟨b10, b11⟩, b20, b21⟩ := hb.out
  obtain ⟨k0, k1, k2⟩ : a.east - b.east = c.east ∧ a.north - b.north = c.north ∧ a.up - b.up = c.up := by rw [← h.out]; exact ⟨rfl, rfl, rfl⟩
  go_enter Tryz.func155, Tryz.ntmps155
  go_wp2_with fail
  refine bodyPost_ret (v := .agg #[.int .i64 c.east, .int .i64 c.north, .int .i64 c.up]) (by simp [results, Tryz.results155, go_sem, k0, k1, k2]) rfl ⟨rfl, ?_⟩
  exact (((Below.refl _ _).alloc (Nat.le_refl _) _).alloc (by simp) _).alloc (by simp; omega) _
/-- indices that the call has made -/
def MPost (xs : List Int) (w : World) (e : Ending) (w' : World) : Prop :=
  ∃ A c, e = .returned (.slice A xs.length c) ∧ w'.ownsRow w.heap.size 3 1 (.slice A xs.length c) xs.length (ints.intsV xs) ∧ Below w.heap.size w w'
/-- marks in memory, at o in block g -/
def BsAt (w : World) (g o : Nat) (bs : List Bool) : Prop := ∀ k b, bs[k]? = some b → g < w.heap.size ∧ w.cell? ⟨g, o + k, none⟩ = some (.bool b)
theorem BsAt.below {w w' : World} {g o : Nat} {bs : List Bool} (h : BsAt w g o bs) (hb : Below w.heap.size w w') : BsAt w' g o bs := fun k b hk => by
  obtain ⟨h1, h2⟩ := h k b hk
  exact ⟨by have := hb.size; omega, (hb.cell (p := ⟨g, o + k, none⟩) h1).trans h2⟩
set_option maxHeartbeats 4000000 in
set_option maxRecDepth 100000 in
theorem marked_any (g o n : Nat) (bs : List Bool) (w : World) (hn : Hid (bs.length = n)) (h12 : n ≤ 12) (hc : Hid (BsAt w g o bs)) :
    Calls Tryz.prog 70 #[.slice (some ⟨g, o, none⟩) n n] w (MPost (tru bs n) w) := by
  obtain ⟨i0, hi, hz0, hz1, hz2⟩ := info_parts infoI
  have HR0 := Lib.hid (show (w.alloc (.cells #[] 3)).ownsRow w.heap.size 3 1 (.slice (some ⟨w.heap.size, 0, none⟩) 0 0) 0 [] from World.ownsRow_made w #[] 0 (Nat.le_refl _) (by decide) (by simp))
  have HB0 := Lib.hid ((Below.refl w.heap.size w).alloc (Nat.le_refl _) (.cells #[] 3))
  go_enter Tryz.func70, Tryz.ntmps70
  go_wp2_with fail
  go_loopw [3, 9] (fun v i wr => ∃ (k m c : Nat) (A2 : Option Addr), k ≤ n ∧ i = .int .i64 (k : Nat) ∧ m ≤ k ∧ v = .slice A2 m c ∧ Hid ((tru bs k).length = m) ∧ wr.ownsRow w.heap.size 3 1 (.slice A2 m c) m (ints.intsV (tru bs k)) ∧ Below w.heap.size w wr) (fun _ i _ => n - (intOf i).toNat)
  case atStart => exact ⟨0, 0, 0, _, Nat.zero_le _, rfl, Nat.le_refl _, rfl, Lib.hid rfl, HR0.out, HB0.out⟩
  case round =>
    obtain ⟨k, m, c, A2, hk, rfl, hmk, rfl, HM, hO, hB⟩ := hrel
    have HO := Lib.hid hO
    have HB := Lib.hid hB
    have hBs := hB.size
    clear hO hB HR0 HB0
    have hk0 : (0 : Int) ≤ (k : Int) := by omega
    by_cases hlt : k < n
    · have hki : (k : Int) < (n : Int) := by omega
      have hkd : decide (k < n) = true := by simpa using hlt
      obtain ⟨b, hb⟩ : ∃ b, bs[k]? = some b := ⟨_, List.getElem?_eq_getElem (by rw [hn.out]; exact hlt)⟩
      have hcell := (hc.out.below HB.out k b hb).2
      cases b
      · have HC := Lib.hid (tru_no hb)
        clear hb
        go_wp2_with fail
        go_roundw
        case rel => exact ⟨k + 1, m, c, A2, by omega, by go_num, by omega, rfl, Lib.hid (by rw [HC.out]; exact HM.out), by rw [HC.out]; exact HO.out, HB.out⟩
        case measure => simp [intOf]; omega
      · have HC := Lib.hid (tru_yes hb)
        clear hb
        go_wp2_with (at_builtin; refine wpList_append_lies _ rfl _ _ 27 rfl w.heap.size 3 i0 (.int .i64 0) 1 8 Tryz.underlying27 hi hz0 hz1 hz2 rfl (by decide) _ _ _ rfl (HO.out.alloc _) ⟨wr.heap.size, 0, none⟩ 1 1 [.int .i64 (k : Int)] rfl rfl (cell_one_new _ _ _) (by simp [Value.oneCell']) (by decide) (by unfold maxLen; omega) (by omega) (by simp; omega) _ rfl ?_; intro g9 c9 w3 hown' hgrow hat hlt9)
        have HAL := Lib.hid ((Below.refl wr.heap.size wr).alloc (Nat.le_refl _) (.cells #[.int .i64 (k : Int)] 3))
        have HB9 := Lib.hid ((HB.out.trans (HAL.out.mono hBs)).grown hgrow (by simp; omega) (fun g e => (HO.out.lt g e).1))
        have HO9 := Lib.hid (show w3.ownsRow w.heap.size 3 1 (.slice (some ⟨g9, 0, none⟩) (m + 1) c9) (m + 1) (ints.intsV (tru bs (k + 1))) by rw [HC.out, intsV_app]; exact hown')
        clear hown' hgrow hat
        go_wp2_with fail
        go_roundw
        case rel => exact ⟨k + 1, m + 1, c9, some ⟨g9, 0, none⟩, by omega, by go_num, by omega, rfl, Lib.hid (by rw [HC.out, List.length_append, HM.out]; rfl), HO9.out, HB9.out⟩
        case measure => simp [intOf]; omega
    · have hkd : decide (k < n) = false := by simpa using hlt
      obtain rfl : k = n := by omega
      clear hlt
      go_wp2_with fail
      go_ret
      refine ⟨A2, c, ?_, ?_, HB.out⟩
      · rw [HM.out]; rfl
      · rw [HM.out]; exact HO.out
end Go.Proofs.YtiimegmaokfpgabGreatDoor.nq

namespace Go.Proofs.YtiimegmaokfpgabGreatDoor.nq
open Go.RowKit
open reads base ty lg lgi win hs nt rowi
set_option linter.unusedVariables false
set_option linter.unusedSimpArgs false

set_option maxHeartbeats 4000000 in
set_option maxRecDepth 100000 in
theorem ends_any (s : Net) (cl : List Bool) (x : Lg) (p q : Bool) (w : World) (hx : Hid (okLg x = true)) (hp : Hid (mem s.ps x.frm = p)) (hq : Hid (mem s.ps x.to_ = q)) :
    Calls Tryz.prog 75 #[.agg (nv s cl), .agg #[.int .i64 x.frm, .int .i64 x.to_, .int .i64 x.tape, .int .i64 x.comp, .int .i64 x.slope]] w (BPost (p && q) w) := by
  obtain ⟨frm, to_, tape, comp, slope⟩ := x
  obtain ⟨l1, l2, -⟩ := okLg_lim hx.out
  simp only [] at l1 l2
  obtain ⟨a, rfl⟩ := Int.eq_ofNat_of_zero_le l1.1
  obtain ⟨b, rfl⟩ := Int.eq_ofNat_of_zero_le l2.1
  have ha : a < 8 := by omega
  have hb : b < 8 := by omega
  have HP := Lib.hid (show (nv s cl)[a]? = some (.bool p) by rw [nv_ps ha]; rw [← hp.out])
  have HQ := Lib.hid (show (nv s cl)[b]? = some (.bool q) by rw [nv_ps hb]; rw [← hq.out])
  obtain ⟨C, HC⟩ : ∃ C, Hid (nv s cl = C) := ⟨_, Lib.hid rfl⟩
  rw [HC.out] at HP HQ ⊢
  obtain ⟨W, HW⟩ : ∃ W, Hid ((w.alloc (.cells C 76)).alloc (.cells #[.int .i64 (a : Int), .int .i64 (b : Int), .int .i64 tape, .int .i64 comp, .int .i64 slope] 87) = W) := ⟨_, Lib.hid rfl⟩
  have c1 : W.cell? ⟨w.heap.size, a, none⟩ = some (.bool p) := by rw [← HW.out]; exact (((Blk.new w 76 C).alloc _).cell a).trans HP.out
  have c2 : W.cell? ⟨w.heap.size, b, none⟩ = some (.bool q) := by rw [← HW.out]; exact (((Blk.new w 76 C).alloc _).cell b).trans HQ.out
  have c3 : W.cell? ⟨w.heap.size + 1, 0, none⟩ = some (.int .i64 (a : Int)) := by rw [← HW.out]; simp
  have c4 : W.cell? ⟨w.heap.size + 1, 1, none⟩ = some (.int .i64 (b : Int)) := by rw [← HW.out]; simp
  have HB := Lib.hid (show Below w.heap.size w W by rw [← HW.out]; exact ((Below.refl _ _).alloc (Nat.le_refl _) _).alloc (by simp) _)
  clear HP HQ HC hp hq hx
  go_enter Tryz.func75, Tryz.ntmps75
  go_upto_region 1 with fail
  rw [HW.out]
  clear HW
  cases p
  · go_wp2_with fail
    go_ret
    exact ⟨rfl, HB.out⟩
  · go_wp2_with fail
    go_ret
    exact ⟨rfl, HB.out⟩
end Go.Proofs.YtiimegmaokfpgabGreatDoor.nq

namespace Go.Proofs.YtiimegmaokfpgabGreatDoor.nq
open Go.RowKit
open reads base ty win lg sn
set_option linter.unusedVariables false
set_option linter.unusedSimpArgs false

set_option maxHeartbeats 4000000 in
set_option maxRecDepth 100000 in
theorem along_any (x : Lg) (w : World) (hx : Hid (okLg x = true)) (hT : Hid (Tab w)) : Calls Tryz.prog 153 #[.agg #[.int .i64 x.frm, .int .i64 x.to_, .int .i64 x.tape, .int .i64 x.comp, .int .i64 x.slope]] w (APost (.agg #[.int .i64 (shf x).east, .int .i64 (shf x).north, .int .i64 (shf x).up]) w) := by
  obtain ⟨-, -, -, ⟨a4, a5⟩, ⟨a6, a7⟩, a8, a9⟩ := okLg_lim hx.out
  obtain ⟨lv, hlv⟩ : ∃ v, level x = v := ⟨_, rfl⟩
  have lb := level_bd hx.out
  rw [hlv] at lb
  obtain ⟨lb0, lb1⟩ := lb
  obtain ⟨ee, he⟩ : ∃ v, sn.rdiv (lv * sn.sinZ x.comp) 1000 = v := ⟨_, rfl⟩
  obtain ⟨nn, hn⟩ : ∃ v, sn.rdiv (lv * sn.cosZ x.comp) 1000 = v := ⟨_, rfl⟩
  obtain ⟨uu, hu⟩ : ∃ v, sn.rdiv (x.tape * sn.sinZ x.slope) 1000 = v := ⟨_, rfl⟩
  have HA := Lib.hid (show shf x = ⟨ee, nn, uu⟩ by unfold shf; rw [hlv, he, hn, hu])
  have HP1 := Lib.hid (show partV x.tape x.slope = .tuple #[.int .i64 lv, .int .i64 uu, .bool true] by unfold partV; rw [hu]; rw [← hlv]; rfl)
  have HP2 := Lib.hid (show partV lv x.comp = .tuple #[.int .i64 nn, .int .i64 ee, .bool true] by unfold partV; rw [he, hn])
  clear hlv he hn hu hx
  rw [HA.out]
  have HT0 := Lib.hid ((hT.out.alloc (.cells #[.int .i64 x.frm, .int .i64 x.to_, .int .i64 x.tape, .int .i64 x.comp, .int .i64 x.slope] 87)).alloc (.cells #[.int .i64 0, .int .i64 0, .int .i64 0] 72))
  go_enter Tryz.func153, Tryz.ntmps153
  go_wp2_with fail
  refine (partOf_in x.tape x.slope _ (by omega) (by omega) (by omega) (by omega) HT0).mono ?_
  rintro e w1 ⟨rfl, b1⟩
  rw [HP1.out]
  have HT1 := Lib.hid (HT0.out.below b1)
  obtain ⟨hc1, hf1⟩ := bcell b1
  have hz : w.heap.size + 2 ≤ w1.heap.size := by have := b1.size; simp at this; omega
  have hz0 : w.heap.size < w1.heap.size := by omega
  have hz1 : w.heap.size + 1 < w1.heap.size := by omega
  have HB := Lib.hid ((((Below.refl w.heap.size w).alloc (Nat.le_refl _) _).alloc (by simp) _).trans (b1.mono (by simp; omega)))
  clear b1 HT0
  go_wp2_with fail
  refine (partOf_in lv x.comp _ (by omega) (by omega) (by omega) (by omega) HT1).mono ?_
  rintro e w2 ⟨rfl, b2⟩
  rw [HP2.out]
  obtain ⟨hc2, hf2⟩ := bcell b2
  have hz2 : w1.heap.size ≤ w2.heap.size := b2.size
  have HB2 := Lib.hid (HB.out.trans (b2.mono HB.out.size))
  clear b2
  go_wp2_with fail
  refine bodyPost_ret (v := .agg #[.int .i64 ee, .int .i64 nn, .int .i64 uu]) (by simp [results, Tryz.results153, go_sem, *]) rfl ⟨rfl, ?_⟩
  exact ((HB2.out.setCell (by simp) _).setCell (by simp) _).setCell (by simp) _
theorem along_is (x : Lg) (s : Sf) (h : Hid (shf x = s)) (w : World) (hx : Hid (okLg x = true)) (hT : Hid (Tab w)) : Calls Tryz.prog 153 #[.agg #[.int .i64 x.frm, .int .i64 x.to_, .int .i64 x.tape, .int .i64 x.comp, .int .i64 x.slope]] w (APost (.agg #[.int .i64 s.east, .int .i64 s.north, .int .i64 s.up]) w) := by rw [← h.out]; exact along_any x w hx hT
end Go.Proofs.YtiimegmaokfpgabGreatDoor.nq

namespace Go.Proofs.YtiimegmaokfpgabGreatDoor.nq
open Go.RowKit
open reads base ty lg lgi win hs nt rowi sn
set_option linter.unusedVariables false
set_option linter.unusedSimpArgs false

/-- what the region that places reads: the leg's ends, a place, a shift -/
def PE (X Y g a c d : Nat) (p h : Sf) (v : World) : Prop := v.cell? ⟨X, 0, none⟩ = some (.int .i64 (c : Int)) ∧ v.cell? ⟨X, 1, none⟩ = some (.int .i64 (d : Int)) ∧ v.cell? ⟨g, 8 + a * 3, none⟩ = some (.int .i64 p.east) ∧ v.cell? ⟨g, 8 + a * 3 + 1, none⟩ = some (.int .i64 p.north) ∧ v.cell? ⟨g, 8 + a * 3 + 2, none⟩ = some (.int .i64 p.up) ∧ v.cell? ⟨Y, 0, none⟩ = some (.int .i64 h.east) ∧ v.cell? ⟨Y, 1, none⟩ = some (.int .i64 h.north) ∧ v.cell? ⟨Y, 2, none⟩ = some (.int .i64 h.up) ∧ X < v.heap.size ∧ Y < v.heap.size ∧ g < v.heap.size ∧ ¬ X = g ∧ ¬ Y = g
section
variable {X Y g a b c d : Nat} {p h : Sf} {v v' : World}
theorem PE.step (H : PE X Y g a c d p h v) (hb : Below v.heap.size v v') : PE X Y g a c d p h v' := by
  obtain ⟨x0, x1, p0, p1, p2, y0, y1, y2, l1, l2, l3, n1, n2⟩ := H
  have A : ∀ o, v'.cell? ⟨X, o, none⟩ = v.cell? ⟨X, o, none⟩ := fun o => hb.cell (p := ⟨X, o, none⟩) l1
  have B : ∀ o, v'.cell? ⟨Y, o, none⟩ = v.cell? ⟨Y, o, none⟩ := fun o => hb.cell (p := ⟨Y, o, none⟩) l2
  have C : ∀ o, v'.cell? ⟨g, o, none⟩ = v.cell? ⟨g, o, none⟩ := fun o => hb.cell (p := ⟨g, o, none⟩) l3
  have hs := hb.size
  exact ⟨(A _).trans x0, (A _).trans x1, (C _).trans p0, (C _).trans p1, (C _).trans p2, (B _).trans y0, (B _).trans y1, (B _).trans y2, by omega, by omega, by omega, n1, n2⟩
theorem PE.set (H : PE X Y g a c d p h v) {o : Nat} (ho : o < 8 + a * 3 ∨ 8 + a * 3 + 2 < o) (u : Value) : PE X Y g a c d p h (v.setCell ⟨g, o, none⟩ u) := by
  obtain ⟨x0, x1, p0, p1, p2, y0, y1, y2, l1, l2, l3, n1, n2⟩ := H
  have A : ∀ j, (v.setCell ⟨g, o, none⟩ u).cell? ⟨X, j, none⟩ = v.cell? ⟨X, j, none⟩ := fun j => World.cell?_setCell_other _ _ _ _ (by intro e; injection e with e1; exact n1 e1.symm)
  have B : ∀ j, (v.setCell ⟨g, o, none⟩ u).cell? ⟨Y, j, none⟩ = v.cell? ⟨Y, j, none⟩ := fun j => World.cell?_setCell_other _ _ _ _ (by intro e; injection e with e1; exact n2 e1.symm)
  have C : ∀ j, j = 8 + a * 3 ∨ j = 8 + a * 3 + 1 ∨ j = 8 + a * 3 + 2 → (v.setCell ⟨g, o, none⟩ u).cell? ⟨g, j, none⟩ = v.cell? ⟨g, j, none⟩ := fun j hj => World.cell?_setCell_other _ _ _ _ (by intro e; injection e with e1 e2; omega)
  exact ⟨(A _).trans x0, (A _).trans x1, (C _ (.inl rfl)).trans p0, (C _ (.inr (.inl rfl))).trans p1, (C _ (.inr (.inr rfl))).trans p2, (B _).trans y0, (B _).trans y1, (B _).trans y2, by simpa [World.setCell] using l1, by simpa [World.setCell] using l2, by simpa [World.setCell] using l3, n1, n2⟩
theorem PE.mk9 (H : PE X Y g a c d p h v) : v.cell? ⟨X, 0, none⟩ = some (.int .i64 (c : Int)) ∧ v.cell? ⟨X, 1, none⟩ = some (.int .i64 (d : Int)) ∧ v.cell? ⟨g, 8 + a * 3, none⟩ = some (.int .i64 p.east) ∧ v.cell? ⟨g, 8 + a * 3 + 1, none⟩ = some (.int .i64 p.north) ∧ v.cell? ⟨g, 8 + a * 3 + 2, none⟩ = some (.int .i64 p.up) ∧ v.cell? ⟨Y, 0, none⟩ = some (.int .i64 h.east) ∧ v.cell? ⟨Y, 1, none⟩ = some (.int .i64 h.north) ∧ v.cell? ⟨Y, 2, none⟩ = some (.int .i64 h.up) ∧ PE X Y g a c d p h v := ⟨H.1, H.2.1, H.2.2.1, H.2.2.2.1, H.2.2.2.2.1, H.2.2.2.2.2.1, H.2.2.2.2.2.2.1, H.2.2.2.2.2.2.2.1, H⟩
end
theorem grown_of {w v : World} (hb : Below w.heap.size w v) (r : Option Nat) : w.grownBy v r := ⟨hb.os, hb.tape, hb.output, hb.size, fun j hj _ => hb.block j hj⟩
/-- a station placed: the network's cells -/
def PPo (g : Nat) (s : Net) (cl : List Bool) (w : World) (e : Ending) (w' : World) : Prop := e = .returned (.tuple #[]) ∧ Blk w' g 76 (nv s cl) ∧ w.grownBy w' (some g)
set_option maxHeartbeats 16000000 in
set_option maxRecDepth 100000 in
theorem place_fwd (g a b : Nat) (tp cp sl : Int) (s : Net) (cl : List Bool) (p h c : Sf) (w : World) (hN : Hid (NOk s cl)) (hok : Hid (okLg ⟨(a : Int), (b : Int), tp, cp, sl⟩ = true)) (HA : Hid (mem s.ps (a : Int) = true)) (HBF : Hid (mem s.ps (b : Int) = false)) (HP : Hid (at_ s.pl (a : Int) = p)) (HH : Hid (shf ⟨(a : Int), (b : Int), tp, cp, sl⟩ = h)) (HC : Hid (add3 p h = c)) (HPB : Hid (BdS p)) (HG : Hid (Blk w g 76 (nv s cl))) (hT : Hid (Tab w)) :
    Calls Tryz.prog 125 #[.pointer (some ⟨g, 0, none⟩), .agg #[.int .i64 (a : Int), .int .i64 (b : Int), .int .i64 tp, .int .i64 cp, .int .i64 sl]] w (PPo g ⟨s.pl.set b c, put s.ps (b : Int), s.tr⟩ cl w) := by
  obtain ⟨l1, l2, l3, -⟩ := okLg_lim hok.out
  simp only [] at l1 l2 l3
  have ha : a < 8 := by omega
  have hb : b < 8 := by omega
  have hab : ¬ a = b := by omega
  have ha0 : (0 : Int) ≤ (a : Int) := by omega
  have hb0 : (0 : Int) ≤ (b : Int) := by omega
  have ha8 : (a : Int) < 8 := by omega
  have hb8 : (b : Int) < 8 := by omega
  clear l1 l2 l3
  have HHB := Lib.hid (show BdS h by rw [← HH.out]; exact bd_shf hok.out)
  have hgw := HG.out.lt
  obtain ⟨W0, HW0⟩ : ∃ W, Hid (w.alloc (.cells #[.int .i64 (a : Int), .int .i64 (b : Int), .int .i64 tp, .int .i64 cp, .int .i64 sl] 87) = W) := ⟨_, Lib.hid rfl⟩
  have HX := Lib.hid (show Blk W0 w.heap.size 87 #[.int .i64 (a : Int), .int .i64 (b : Int), .int .i64 tp, .int .i64 cp, .int .i64 sl] by rw [← HW0.out]; exact Blk.new _ _ _)
  have HG0 := Lib.hid (show Blk W0 g 76 (nv s cl) by rw [← HW0.out]; exact HG.out.alloc _)
  have HB0 := Lib.hid (show Below w.heap.size w W0 by rw [← HW0.out]; exact (Below.refl _ _).alloc (Nat.le_refl _) _)
  have HT0 := Lib.hid (show Tab W0 by rw [← HW0.out]; exact hT.out.alloc _)
  have x0 := HX.out.cell 0
  have x1 := HX.out.cell 1
  have x2 := HX.out.cell 2
  have x3 := HX.out.cell 3
  have x4 := HX.out.cell 4
  go_enter Tryz.func125, Tryz.ntmps125
  go_upto_region 1 with fail
  rw [HW0.out]
  clear HW0 HG hT
  go_wp2_with fail
  refine (along_is ⟨(a : Int), (b : Int), tp, cp, sl⟩ h HH W0 hok HT0).mono ?_
  rintro e w1 ⟨rfl, b1⟩
  have HX1 := Lib.hid (HX.out.below b1 HX.out.lt)
  have HG1 := Lib.hid (HG0.out.below b1 HG0.out.lt)
  have HB1 := Lib.hid (HB0.out.trans (b1.mono HB0.out.size))
  clear b1 HX HG0 HB0 HT0 x0 x1 x2 x3 x4
  obtain ⟨Y, HY⟩ : ∃ Y, Hid (w1.heap.size = Y) := ⟨_, Lib.hid rfl⟩
  obtain ⟨W2, HW2⟩ : ∃ W, Hid (w1.alloc (.cells #[.int .i64 h.east, .int .i64 h.north, .int .i64 h.up] 72) = W) := ⟨_, Lib.hid rfl⟩
  have HX2 := Lib.hid (show Blk W2 w.heap.size 87 #[.int .i64 (a : Int), .int .i64 (b : Int), .int .i64 tp, .int .i64 cp, .int .i64 sl] by rw [← HW2.out]; exact HX1.out.alloc _)
  have HG2 := Lib.hid (show Blk W2 g 76 (nv s cl) by rw [← HW2.out]; exact HG1.out.alloc _)
  have HY2 := Lib.hid (show Blk W2 Y 72 #[.int .i64 h.east, .int .i64 h.north, .int .i64 h.up] by rw [← HW2.out, ← HY.out]; exact Blk.new _ _ _)
  have HB2 := Lib.hid (show Below w.heap.size w W2 by rw [← HW2.out]; exact HB1.out.alloc HB1.out.size _)
  have hYg : ¬ Y = g := by rw [← HY.out]; have := HG1.out.lt; omega
  go_upto_region 2 with fail
  try rw [HY.out]
  try simp only [HY.out]
  rw [HW2.out]
  clear HW2 HX1 HG1 HB1 HY
  have x0 := HX2.out.cell 0
  have x1 := HX2.out.cell 1
  have fa : W2.cell? ⟨g, a, none⟩ = some (.bool true) := by rw [HG2.out.cell, nv_ps (by omega)]; rw [HA.out]
  go_quiet (fail)
  go_upto_region 3 with fail
  obtain ⟨W3, HW3⟩ : ∃ W, Hid (W2.drewN nq = W) := ⟨_, Lib.hid rfl⟩
  have HBD := Lib.hid (show Below W2.heap.size W2 W3 by rw [← HW3.out]; exact drewN_below _ _)
  have HX3 := Lib.hid (HX2.out.below HBD.out HX2.out.lt)
  have HG3 := Lib.hid (HG2.out.below HBD.out HG2.out.lt)
  have HY3 := Lib.hid (HY2.out.below HBD.out HY2.out.lt)
  have HB3 := Lib.hid (HB2.out.trans (HBD.out.mono HB2.out.size))
  rw [HW3.out]
  clear HW3 HX2 HG2 HY2 HB2 HBD x0 x1 fa
  have HE := Lib.hid (show PE w.heap.size Y g a a b p h W3 by
    obtain ⟨p0, p1, p2⟩ := nv_pl hN.out ha
    rw [HP.out] at p0 p1 p2
    exact ⟨HX3.out.cell 0, HX3.out.cell 1, (HG3.out.cell _).trans p0, (HG3.out.cell _).trans p1, (HG3.out.cell _).trans p2, HY3.out.cell 0, HY3.out.cell 1, HY3.out.cell 2, HX3.out.lt, HY3.out.lt, HG3.out.lt, by omega, hYg⟩)
  clear HX3 HY3 HP HH hok
  refine wp_region_held_drew (S := (fun v => v.cell? ⟨w.heap.size, 0, none⟩ = some (.int .i64 (a : Int)) ∧ v.cell? ⟨w.heap.size, 1, none⟩ = some (.int .i64 (b : Int)) ∧ v.cell? ⟨g, 8 + a * 3, none⟩ = some (.int .i64 p.east) ∧ v.cell? ⟨g, 8 + a * 3 + 1, none⟩ = some (.int .i64 p.north) ∧ v.cell? ⟨g, 8 + a * 3 + 2, none⟩ = some (.int .i64 p.up) ∧ v.cell? ⟨Y, 0, none⟩ = some (.int .i64 h.east) ∧ v.cell? ⟨Y, 1, none⟩ = some (.int .i64 h.north) ∧ v.cell? ⟨Y, 2, none⟩ = some (.int .i64 h.up) ∧ PE w.heap.size Y g a a b p h v)) (by kernel_rfl) ?_ (fun hHeld => ?_)
  · exact (HE.out.step (Below.refl _ _).drew).mk9
  refine' wpAnyH_take (i := 0) (v := ?vr1_0) rfl (by kernel_rfl) (by kernel_rfl) (by kernel_rfl) (fun _ _ _ h => h) (Or.inl ⟨by rfl, ?hyr1_0⟩) (by assumption) ?restr1_0
  case hyr1_0 => (intro w hSw; (try dsimp only at hSw); go_simp; try (with_reducible rfl))
  simp only [Act.put, List.getElem_toArray, List.getElem_cons_succ, List.getElem_cons_zero, List.setIfInBounds_toArray, List.set_cons_zero, List.set_cons_succ]
  refine' wpAnyH_take (i := 1) (v := ?vr1_1) rfl (by kernel_rfl) (by kernel_rfl) (by kernel_rfl) (fun _ _ _ h => h) (Or.inl ⟨by rfl, ?hyr1_1⟩) (by assumption) ?restr1_1
  case hyr1_1 => (intro w hSw; (try dsimp only at hSw); go_simp; try (with_reducible rfl))
  simp only [Act.put, List.getElem_toArray, List.getElem_cons_succ, List.getElem_cons_zero, List.setIfInBounds_toArray, List.set_cons_zero, List.set_cons_succ]
  refine' wpAnyH_take (i := 2) (v := ?vr1_2) rfl (by kernel_rfl) (by kernel_rfl) (by kernel_rfl) (fun _ _ _ h => h) (Or.inl ⟨by rfl, ?hyr1_2⟩) (by assumption) ?restr1_2
  case hyr1_2 => (intro w hSw; (try dsimp only at hSw); go_simp; try (with_reducible rfl))
  simp only [Act.put, List.getElem_toArray, List.getElem_cons_succ, List.getElem_cons_zero, List.setIfInBounds_toArray, List.set_cons_zero, List.set_cons_succ]
  refine' wpAnyH_take (i := 3) (v := ?vr1_3) rfl (by kernel_rfl) (by kernel_rfl) (by kernel_rfl) (fun _ _ _ h => h) (Or.inl ⟨by rfl, ?hyr1_3⟩) (by assumption) ?restr1_3
  case hyr1_3 => (intro w hSw; (try dsimp only at hSw); go_simp; try (with_reducible rfl))
  simp only [Act.put, List.getElem_toArray, List.getElem_cons_succ, List.getElem_cons_zero, List.setIfInBounds_toArray, List.set_cons_zero, List.set_cons_succ]
  refine' wpAnyH_take (i := 4) (v := ?vr1_4) rfl (by kernel_rfl) (by kernel_rfl) (by kernel_rfl) (fun _ _ _ h => h) (Or.inl ⟨by rfl, ?hyr1_4⟩) (by assumption) ?restr1_4
  case hyr1_4 => (intro w hSw; (try dsimp only at hSw); go_simp; try (with_reducible rfl))
  simp only [Act.put, List.getElem_toArray, List.getElem_cons_succ, List.getElem_cons_zero, List.setIfInBounds_toArray, List.set_cons_zero, List.set_cons_succ]
  refine' wpAnyH_take (i := 5) (v := ?vr1_5) rfl (by kernel_rfl) (by kernel_rfl) (by kernel_rfl) (fun _ _ _ h => h) (Or.inl ⟨by rfl, ?hyr1_5⟩) (by assumption) ?restr1_5
  case hyr1_5 => (intro w hSw; (try dsimp only at hSw); go_simp; try (with_reducible rfl))
  simp only [Act.put, List.getElem_toArray, List.getElem_cons_succ, List.getElem_cons_zero, List.setIfInBounds_toArray, List.set_cons_zero, List.set_cons_succ]
  refine' wpAnyH_take (i := 6) (v := ?vr1_6) rfl (by kernel_rfl) (by kernel_rfl) (by kernel_rfl) (fun _ _ _ h => h) (Or.inl ⟨by rfl, ?hyr1_6⟩) (by assumption) ?restr1_6
  case hyr1_6 => (intro w hSw; (try dsimp only at hSw); go_simp; try (with_reducible rfl))
  simp only [Act.put, List.getElem_toArray, List.getElem_cons_succ, List.getElem_cons_zero, List.setIfInBounds_toArray, List.set_cons_zero, List.set_cons_succ]
  refine' wpAnyH_take (i := 7) (v := ?vr1_7) rfl (by kernel_rfl) (by kernel_rfl) (by kernel_rfl) (fun _ _ _ h => h) (Or.inl ⟨by rfl, ?hyr1_7⟩) (by assumption) ?restr1_7
  case hyr1_7 => (intro w hSw; (try dsimp only at hSw); go_simp; try (with_reducible rfl))
  simp only [Act.put, List.getElem_toArray, List.getElem_cons_succ, List.getElem_cons_zero, List.setIfInBounds_toArray, List.set_cons_zero, List.set_cons_succ]
  refine' wpAnyH_take (i := 8) (v := ?vr1_8) rfl (by kernel_rfl) (by kernel_rfl) (by kernel_rfl) (fun _ _ _ h => h) (Or.inl ⟨by rfl, ?hyr1_8⟩) (by assumption) ?restr1_8
  case hyr1_8 => (intro w hSw; (try dsimp only at hSw); go_simp; try (with_reducible rfl))
  simp only [Act.put, List.getElem_toArray, List.getElem_cons_succ, List.getElem_cons_zero, List.setIfInBounds_toArray, List.set_cons_zero, List.set_cons_succ]
  refine' wpAnyH_take (i := 9) (v := ?vr1_9) rfl (by kernel_rfl) (by kernel_rfl) (by kernel_rfl) (fun _ _ _ h => h) (Or.inl ⟨by rfl, ?hyr1_9⟩) (by assumption) ?restr1_9
  case hyr1_9 => (intro w hSw; (try dsimp only at hSw); go_simp; try (with_reducible rfl))
  simp only [Act.put, List.getElem_toArray, List.getElem_cons_succ, List.getElem_cons_zero, List.setIfInBounds_toArray, List.set_cons_zero, List.set_cons_succ]
  refine' wpAnyH_take (i := 10) (v := ?vr1_10) rfl (by kernel_rfl) (by kernel_rfl) (by kernel_rfl) (fun _ _ _ h => h) (Or.inl ⟨by rfl, ?hyr1_10⟩) (by assumption) ?restr1_10
  case hyr1_10 => (intro w hSw; (try dsimp only at hSw); go_simp; try (with_reducible rfl))
  simp only [Act.put, List.getElem_toArray, List.getElem_cons_succ, List.getElem_cons_zero, List.setIfInBounds_toArray, List.set_cons_zero, List.set_cons_succ]
  refine' wpAnyH_take (i := 11) (v := ?vr1_11) rfl (by kernel_rfl) (by kernel_rfl) (by kernel_rfl) (fun _ _ _ h => h) (Or.inl ⟨by rfl, ?hyr1_11⟩) (by assumption) ?restr1_11
  case hyr1_11 => (intro w hSw; (try dsimp only at hSw); go_simp; try (with_reducible rfl))
  simp only [Act.put, List.getElem_toArray, List.getElem_cons_succ, List.getElem_cons_zero, List.setIfInBounds_toArray, List.set_cons_zero, List.set_cons_succ]
  refine' wpAnyH_take (i := 12) (v := ?vr1_12) rfl (by kernel_rfl) (by kernel_rfl) (by kernel_rfl) (fun _ _ _ h => h) (Or.inl ⟨by rfl, ?hyr1_12⟩) (by assumption) ?restr1_12
  case hyr1_12 => (intro w hSw; (try dsimp only at hSw); go_simp; try (with_reducible rfl))
  simp only [Act.put, List.getElem_toArray, List.getElem_cons_succ, List.getElem_cons_zero, List.setIfInBounds_toArray, List.set_cons_zero, List.set_cons_succ]
  refine' wpAnyH_take (i := 13) (v := ?vr1_13) rfl (by kernel_rfl) (by kernel_rfl) (by kernel_rfl) (fun _ _ _ h => h) (Or.inl ⟨by rfl, ?hyr1_13⟩) (by assumption) ?restr1_13
  case hyr1_13 => (intro w hSw; (try dsimp only at hSw); go_simp; try (with_reducible rfl))
  simp only [Act.put, List.getElem_toArray, List.getElem_cons_succ, List.getElem_cons_zero, List.setIfInBounds_toArray, List.set_cons_zero, List.set_cons_succ]
  refine' wpAnyH_take (i := 15) (v := ?vr1_15) rfl (by kernel_rfl) (by kernel_rfl) (by kernel_rfl) (fun _ _ _ h => h) (Or.inl ⟨by rfl, ?hyr1_15⟩) (by assumption) ?restr1_15
  case hyr1_15 => (intro w hSw; (try dsimp only at hSw); go_simp; try (with_reducible rfl))
  simp only [Act.put, List.getElem_toArray, List.getElem_cons_succ, List.getElem_cons_zero, List.setIfInBounds_toArray, List.set_cons_zero, List.set_cons_succ]
  refine' wpAnyH_take (i := 16) (v := ?vr1_16) rfl (by kernel_rfl) (by kernel_rfl) (by kernel_rfl) (fun _ _ _ h => h) (Or.inl ⟨by rfl, ?hyr1_16⟩) (by assumption) ?restr1_16
  case hyr1_16 => (intro w hSw; (try dsimp only at hSw); go_simp; try (with_reducible rfl))
  simp only [Act.put, List.getElem_toArray, List.getElem_cons_succ, List.getElem_cons_zero, List.setIfInBounds_toArray, List.set_cons_zero, List.set_cons_succ]
  refine' wpAnyH_take (i := 19) (v := ?vr1_19) rfl (by kernel_rfl) (by kernel_rfl) (by kernel_rfl) (fun _ _ _ h => h) (Or.inl ⟨by rfl, ?hyr1_19⟩) (by assumption) ?restr1_19
  case hyr1_19 => (intro w hSw; (try dsimp only at hSw); go_simp; try (with_reducible rfl))
  simp only [Act.put, List.getElem_toArray, List.getElem_cons_succ, List.getElem_cons_zero, List.setIfInBounds_toArray, List.set_cons_zero, List.set_cons_succ]
  refine' wpAnyH_take (i := 20) (v := ?vr1_20) rfl (by kernel_rfl) (by kernel_rfl) (by kernel_rfl) (fun _ _ _ h => h) (Or.inl ⟨by rfl, ?hyr1_20⟩) (by assumption) ?restr1_20
  case hyr1_20 => (intro w hSw; (try dsimp only at hSw); go_simp; try (with_reducible rfl))
  simp only [Act.put, List.getElem_toArray, List.getElem_cons_succ, List.getElem_cons_zero, List.setIfInBounds_toArray, List.set_cons_zero, List.set_cons_succ]
  refine wpAnyH_ready (rs := [14]) (by kernel_rfl) (by simp) ?_
  refine AllReadyH.cons rfl (fun K hK => ?_) AllReadyH.nil
  go_simp
  refine (sum_q p h c HC _ HPB HHB).mono ?_
  rintro e w4 ⟨rfl, b4⟩
  have HG4 := Lib.hid (HG3.out.drew.below b4 HG3.out.lt)
  have HB4 := Lib.hid (HB3.out.drew.trans (b4.mono HB3.out.size))
  refine hK.out _ _ ((hHeld.2.2.2.2.2.2.2.2.step b4).mk9) (fun hHeld1 => ?_)
  clear hK K hHeld
  have hHeld := hHeld1
  clear hHeld1
  try simp only [Act.put, List.getElem_toArray, List.getElem_cons_succ, List.getElem_cons_zero, List.setIfInBounds_toArray, List.set_cons_zero, List.set_cons_succ]
  clear b4 HG3 HB3 HE
  obtain ⟨y, k0⟩ : ∃ y, w4.cell? ⟨g, b, none⟩ = some y := ⟨_, (HG4.out.cell _).trans (nv_ps hb)⟩
  have f0 := HG4.out.frozen b
  have hg4 := HG4.out.lt
  refine' wpAnyH_take (i := 17) (v := ?vr1_17) rfl (by kernel_rfl) (by kernel_rfl) (by kernel_rfl) (fun _ _ _ h => h) (Or.inl ⟨by rfl, ?hyr1_17⟩) (by assumption) ?restr1_17
  case hyr1_17 => (intro w hSw; (try dsimp only at hSw); go_simp; try (with_reducible rfl))
  simp only [Act.put, List.getElem_toArray, List.getElem_cons_succ, List.getElem_cons_zero, List.setIfInBounds_toArray, List.set_cons_zero, List.set_cons_succ]
  refine wpAnyH_ready (rs := [18]) (by kernel_rfl) (by simp) ?_
  refine AllReadyH.cons rfl (fun K hK => ?_) AllReadyH.nil
  go_simp
  refine hK.out _ _ ((hHeld.2.2.2.2.2.2.2.2.set (o := b) (.inl (by omega)) _).mk9) (fun hHeld1 => ?_)
  clear hK K hHeld
  have hHeld := hHeld1
  clear hHeld1
  try simp only [Act.put, List.getElem_toArray, List.getElem_cons_succ, List.getElem_cons_zero, List.setIfInBounds_toArray, List.set_cons_zero, List.set_cons_succ]
  clear k0 f0 hg4
  obtain ⟨W5, HW5⟩ : ∃ W, Hid (w4.setCell ⟨g, b, none⟩ (.bool true) = W) := ⟨_, Lib.hid rfl⟩
  have HG5 := Lib.hid (show Blk W5 g 76 (nv ⟨s.pl, put s.ps (b : Int), s.tr⟩ cl) by rw [← HW5.out, ← nv_set_ps hb]; exact HG4.out.set_ b _)
  have HR5 := Lib.hid (show w.grownBy W5 (some g) by rw [← HW5.out]; exact base.grown_set (grown_of HB4.out _) _ _)
  rw [HW5.out] at hHeld ⊢
  clear HW5 HG4 HB4
  have HN5 := Lib.hid (show NOk ⟨s.pl, put s.ps (b : Int), s.tr⟩ cl from hN.out)
  obtain ⟨y0, k0⟩ : ∃ y, W5.cell? ⟨g, 8 + b * 3, none⟩ = some y := ⟨_, (HG5.out.cell _).trans (nv_pl HN5.out hb).1⟩
  obtain ⟨y1, k1⟩ : ∃ y, W5.cell? ⟨g, 8 + b * 3 + 1, none⟩ = some y := ⟨_, (HG5.out.cell _).trans (nv_pl HN5.out hb).2.1⟩
  obtain ⟨y2, k2⟩ : ∃ y, W5.cell? ⟨g, 8 + b * 3 + 2, none⟩ = some y := ⟨_, (HG5.out.cell _).trans (nv_pl HN5.out hb).2.2⟩
  have f0 := HG5.out.frozen (8 + b * 3)
  have f1 := HG5.out.frozen (8 + b * 3 + 1)
  have f2 := HG5.out.frozen (8 + b * 3 + 2)
  have hg5 := HG5.out.lt
  refine' wpAnyH_take (i := 21) (v := ?vr1_21) rfl (by kernel_rfl) (by kernel_rfl) (by kernel_rfl) (fun _ _ _ h => h) (Or.inl ⟨by rfl, ?hyr1_21⟩) (by assumption) ?restr1_21
  case hyr1_21 => (intro w hSw; (try dsimp only at hSw); go_simp; try (with_reducible rfl))
  simp only [Act.put, List.getElem_toArray, List.getElem_cons_succ, List.getElem_cons_zero, List.setIfInBounds_toArray, List.set_cons_zero, List.set_cons_succ]
  refine wpAnyH_ready (rs := [22]) (by kernel_rfl) (by simp) ?_
  refine AllReadyH.cons rfl (fun K hK => ?_) AllReadyH.nil
  go_simp
  refine hK.out _ _ ((((hHeld.2.2.2.2.2.2.2.2.set (o := 8 + b * 3) (by omega) _).set (o := 8 + b * 3 + 1) (by omega) _).set (o := 8 + b * 3 + 2) (by omega) _).mk9) (fun hHeld1 => ?_)
  clear hK K hHeld
  have hHeld := hHeld1
  clear hHeld1
  try simp only [Act.put, List.getElem_toArray, List.getElem_cons_succ, List.getElem_cons_zero, List.setIfInBounds_toArray, List.set_cons_zero, List.set_cons_succ]
  refine wpAnyH_done (by kernel_rfl) ?_ _
  clear hHeld k0 k1 k2 f0 f1 f2 hg5
  have HG6 := Lib.hid (show Blk (((W5.setCell ⟨g, 8 + b * 3, none⟩ (.int .i64 c.east)).setCell ⟨g, 8 + b * 3 + 1, none⟩ (.int .i64 c.north)).setCell ⟨g, 8 + b * 3 + 2, none⟩ (.int .i64 c.up)) g 76 (nv ⟨s.pl.set b c, put s.ps (b : Int), s.tr⟩ cl) by
    have h := ((HG5.out.set_ (8 + b * 3) (.int .i64 c.east)).set_ (8 + b * 3 + 1) (.int .i64 c.north)).set_ (8 + b * 3 + 2) (.int .i64 c.up)
    rwa [nv_set_pl HN5.out hb c] at h)
  have HR6 := Lib.hid (base.grown_set (base.grown_set (base.grown_set HR5.out (8 + b * 3) (.int .i64 c.east)) (8 + b * 3 + 1) (.int .i64 c.north)) (8 + b * 3 + 2) (.int .i64 c.up))
  go_wp2_with fail
  refine bodyPost_ret (v := .tuple #[]) (by simp [results, Tryz.results125, go_sem]) rfl ⟨rfl, HG6.out, HR6.out⟩
set_option maxHeartbeats 16000000 in
set_option maxRecDepth 100000 in
theorem place_bwd (g a b : Nat) (tp cp sl : Int) (s : Net) (cl : List Bool) (p h c : Sf) (w : World) (hN : Hid (NOk s cl)) (hok : Hid (okLg ⟨(b : Int), (a : Int), tp, cp, sl⟩ = true)) (HA : Hid (mem s.ps (a : Int) = true)) (HBF : Hid (mem s.ps (b : Int) = false)) (HP : Hid (at_ s.pl (a : Int) = p)) (HH : Hid (shf ⟨(b : Int), (a : Int), tp, cp, sl⟩ = h)) (HC : Hid (sub3 p h = c)) (HPB : Hid (BdS p)) (HG : Hid (Blk w g 76 (nv s cl))) (hT : Hid (Tab w)) :
    Calls Tryz.prog 125 #[.pointer (some ⟨g, 0, none⟩), .agg #[.int .i64 (b : Int), .int .i64 (a : Int), .int .i64 tp, .int .i64 cp, .int .i64 sl]] w (PPo g ⟨s.pl.set b c, put s.ps (b : Int), s.tr⟩ cl w) := by
  obtain ⟨l1, l2, l3, -⟩ := okLg_lim hok.out
  simp only [] at l1 l2 l3
  have ha : a < 8 := by omega
  have hb : b < 8 := by omega
  have hab : ¬ a = b := by omega
  have ha0 : (0 : Int) ≤ (a : Int) := by omega
  have hb0 : (0 : Int) ≤ (b : Int) := by omega
  have ha8 : (a : Int) < 8 := by omega
  have hb8 : (b : Int) < 8 := by omega
  clear l1 l2 l3
  have HHB := Lib.hid (show BdS h by rw [← HH.out]; exact bd_shf hok.out)
  have hgw := HG.out.lt
  obtain ⟨W0, HW0⟩ : ∃ W, Hid (w.alloc (.cells #[.int .i64 (b : Int), .int .i64 (a : Int), .int .i64 tp, .int .i64 cp, .int .i64 sl] 87) = W) := ⟨_, Lib.hid rfl⟩
  have HX := Lib.hid (show Blk W0 w.heap.size 87 #[.int .i64 (b : Int), .int .i64 (a : Int), .int .i64 tp, .int .i64 cp, .int .i64 sl] by rw [← HW0.out]; exact Blk.new _ _ _)
  have HG0 := Lib.hid (show Blk W0 g 76 (nv s cl) by rw [← HW0.out]; exact HG.out.alloc _)
  have HB0 := Lib.hid (show Below w.heap.size w W0 by rw [← HW0.out]; exact (Below.refl _ _).alloc (Nat.le_refl _) _)
  have HT0 := Lib.hid (show Tab W0 by rw [← HW0.out]; exact hT.out.alloc _)
  have x0 := HX.out.cell 0
  have x1 := HX.out.cell 1
  have x2 := HX.out.cell 2
  have x3 := HX.out.cell 3
  have x4 := HX.out.cell 4
  go_enter Tryz.func125, Tryz.ntmps125
  go_upto_region 1 with fail
  rw [HW0.out]
  clear HW0 HG hT
  go_wp2_with fail
  refine (along_is ⟨(b : Int), (a : Int), tp, cp, sl⟩ h HH W0 hok HT0).mono ?_
  rintro e w1 ⟨rfl, b1⟩
  have HX1 := Lib.hid (HX.out.below b1 HX.out.lt)
  have HG1 := Lib.hid (HG0.out.below b1 HG0.out.lt)
  have HB1 := Lib.hid (HB0.out.trans (b1.mono HB0.out.size))
  clear b1 HX HG0 HB0 HT0 x0 x1 x2 x3 x4
  obtain ⟨Y, HY⟩ : ∃ Y, Hid (w1.heap.size = Y) := ⟨_, Lib.hid rfl⟩
  obtain ⟨W2, HW2⟩ : ∃ W, Hid (w1.alloc (.cells #[.int .i64 h.east, .int .i64 h.north, .int .i64 h.up] 72) = W) := ⟨_, Lib.hid rfl⟩
  have HX2 := Lib.hid (show Blk W2 w.heap.size 87 #[.int .i64 (b : Int), .int .i64 (a : Int), .int .i64 tp, .int .i64 cp, .int .i64 sl] by rw [← HW2.out]; exact HX1.out.alloc _)
  have HG2 := Lib.hid (show Blk W2 g 76 (nv s cl) by rw [← HW2.out]; exact HG1.out.alloc _)
  have HY2 := Lib.hid (show Blk W2 Y 72 #[.int .i64 h.east, .int .i64 h.north, .int .i64 h.up] by rw [← HW2.out, ← HY.out]; exact Blk.new _ _ _)
  have HB2 := Lib.hid (show Below w.heap.size w W2 by rw [← HW2.out]; exact HB1.out.alloc HB1.out.size _)
  have hYg : ¬ Y = g := by rw [← HY.out]; have := HG1.out.lt; omega
  go_upto_region 2 with fail
  try rw [HY.out]
  try simp only [HY.out]
  rw [HW2.out]
  clear HW2 HX1 HG1 HB1 HY
  have x0 := HX2.out.cell 0
  have x1 := HX2.out.cell 1
  have fa : W2.cell? ⟨g, b, none⟩ = some (.bool false) := by rw [HG2.out.cell, nv_ps (by omega)]; rw [HBF.out]
  go_quiet (fail)
  go_upto_region 4 with fail
  obtain ⟨W3, HW3⟩ : ∃ W, Hid (W2.drewN nq = W) := ⟨_, Lib.hid rfl⟩
  have HBD := Lib.hid (show Below W2.heap.size W2 W3 by rw [← HW3.out]; exact drewN_below _ _)
  have HX3 := Lib.hid (HX2.out.below HBD.out HX2.out.lt)
  have HG3 := Lib.hid (HG2.out.below HBD.out HG2.out.lt)
  have HY3 := Lib.hid (HY2.out.below HBD.out HY2.out.lt)
  have HB3 := Lib.hid (HB2.out.trans (HBD.out.mono HB2.out.size))
  rw [HW3.out]
  clear HW3 HX2 HG2 HY2 HB2 HBD x0 x1 fa
  have HE := Lib.hid (show PE w.heap.size Y g a b a p h W3 by
    obtain ⟨p0, p1, p2⟩ := nv_pl hN.out ha
    rw [HP.out] at p0 p1 p2
    exact ⟨HX3.out.cell 0, HX3.out.cell 1, (HG3.out.cell _).trans p0, (HG3.out.cell _).trans p1, (HG3.out.cell _).trans p2, HY3.out.cell 0, HY3.out.cell 1, HY3.out.cell 2, HX3.out.lt, HY3.out.lt, HG3.out.lt, by omega, hYg⟩)
  clear HX3 HY3 HP HH hok
  refine wp_region_held_drew (S := (fun v => v.cell? ⟨w.heap.size, 0, none⟩ = some (.int .i64 (b : Int)) ∧ v.cell? ⟨w.heap.size, 1, none⟩ = some (.int .i64 (a : Int)) ∧ v.cell? ⟨g, 8 + a * 3, none⟩ = some (.int .i64 p.east) ∧ v.cell? ⟨g, 8 + a * 3 + 1, none⟩ = some (.int .i64 p.north) ∧ v.cell? ⟨g, 8 + a * 3 + 2, none⟩ = some (.int .i64 p.up) ∧ v.cell? ⟨Y, 0, none⟩ = some (.int .i64 h.east) ∧ v.cell? ⟨Y, 1, none⟩ = some (.int .i64 h.north) ∧ v.cell? ⟨Y, 2, none⟩ = some (.int .i64 h.up) ∧ PE w.heap.size Y g a b a p h v)) (by kernel_rfl) ?_ (fun hHeld => ?_)
  · exact (HE.out.step (Below.refl _ _).drew).mk9
  refine' wpAnyH_take (i := 0) (v := ?vr2_0) rfl (by kernel_rfl) (by kernel_rfl) (by kernel_rfl) (fun _ _ _ h => h) (Or.inl ⟨by rfl, ?hyr2_0⟩) (by assumption) ?restr2_0
  case hyr2_0 => (intro w hSw; (try dsimp only at hSw); go_simp; try (with_reducible rfl))
  simp only [Act.put, List.getElem_toArray, List.getElem_cons_succ, List.getElem_cons_zero, List.setIfInBounds_toArray, List.set_cons_zero, List.set_cons_succ]
  refine' wpAnyH_take (i := 1) (v := ?vr2_1) rfl (by kernel_rfl) (by kernel_rfl) (by kernel_rfl) (fun _ _ _ h => h) (Or.inl ⟨by rfl, ?hyr2_1⟩) (by assumption) ?restr2_1
  case hyr2_1 => (intro w hSw; (try dsimp only at hSw); go_simp; try (with_reducible rfl))
  simp only [Act.put, List.getElem_toArray, List.getElem_cons_succ, List.getElem_cons_zero, List.setIfInBounds_toArray, List.set_cons_zero, List.set_cons_succ]
  refine' wpAnyH_take (i := 2) (v := ?vr2_2) rfl (by kernel_rfl) (by kernel_rfl) (by kernel_rfl) (fun _ _ _ h => h) (Or.inl ⟨by rfl, ?hyr2_2⟩) (by assumption) ?restr2_2
  case hyr2_2 => (intro w hSw; (try dsimp only at hSw); go_simp; try (with_reducible rfl))
  simp only [Act.put, List.getElem_toArray, List.getElem_cons_succ, List.getElem_cons_zero, List.setIfInBounds_toArray, List.set_cons_zero, List.set_cons_succ]
  refine' wpAnyH_take (i := 3) (v := ?vr2_3) rfl (by kernel_rfl) (by kernel_rfl) (by kernel_rfl) (fun _ _ _ h => h) (Or.inl ⟨by rfl, ?hyr2_3⟩) (by assumption) ?restr2_3
  case hyr2_3 => (intro w hSw; (try dsimp only at hSw); go_simp; try (with_reducible rfl))
  simp only [Act.put, List.getElem_toArray, List.getElem_cons_succ, List.getElem_cons_zero, List.setIfInBounds_toArray, List.set_cons_zero, List.set_cons_succ]
  refine' wpAnyH_take (i := 4) (v := ?vr2_4) rfl (by kernel_rfl) (by kernel_rfl) (by kernel_rfl) (fun _ _ _ h => h) (Or.inl ⟨by rfl, ?hyr2_4⟩) (by assumption) ?restr2_4
  case hyr2_4 => (intro w hSw; (try dsimp only at hSw); go_simp; try (with_reducible rfl))
  simp only [Act.put, List.getElem_toArray, List.getElem_cons_succ, List.getElem_cons_zero, List.setIfInBounds_toArray, List.set_cons_zero, List.set_cons_succ]
  refine' wpAnyH_take (i := 5) (v := ?vr2_5) rfl (by kernel_rfl) (by kernel_rfl) (by kernel_rfl) (fun _ _ _ h => h) (Or.inl ⟨by rfl, ?hyr2_5⟩) (by assumption) ?restr2_5
  case hyr2_5 => (intro w hSw; (try dsimp only at hSw); go_simp; try (with_reducible rfl))
  simp only [Act.put, List.getElem_toArray, List.getElem_cons_succ, List.getElem_cons_zero, List.setIfInBounds_toArray, List.set_cons_zero, List.set_cons_succ]
  refine' wpAnyH_take (i := 6) (v := ?vr2_6) rfl (by kernel_rfl) (by kernel_rfl) (by kernel_rfl) (fun _ _ _ h => h) (Or.inl ⟨by rfl, ?hyr2_6⟩) (by assumption) ?restr2_6
  case hyr2_6 => (intro w hSw; (try dsimp only at hSw); go_simp; try (with_reducible rfl))
  simp only [Act.put, List.getElem_toArray, List.getElem_cons_succ, List.getElem_cons_zero, List.setIfInBounds_toArray, List.set_cons_zero, List.set_cons_succ]
  refine' wpAnyH_take (i := 7) (v := ?vr2_7) rfl (by kernel_rfl) (by kernel_rfl) (by kernel_rfl) (fun _ _ _ h => h) (Or.inl ⟨by rfl, ?hyr2_7⟩) (by assumption) ?restr2_7
  case hyr2_7 => (intro w hSw; (try dsimp only at hSw); go_simp; try (with_reducible rfl))
  simp only [Act.put, List.getElem_toArray, List.getElem_cons_succ, List.getElem_cons_zero, List.setIfInBounds_toArray, List.set_cons_zero, List.set_cons_succ]
  refine' wpAnyH_take (i := 8) (v := ?vr2_8) rfl (by kernel_rfl) (by kernel_rfl) (by kernel_rfl) (fun _ _ _ h => h) (Or.inl ⟨by rfl, ?hyr2_8⟩) (by assumption) ?restr2_8
  case hyr2_8 => (intro w hSw; (try dsimp only at hSw); go_simp; try (with_reducible rfl))
  simp only [Act.put, List.getElem_toArray, List.getElem_cons_succ, List.getElem_cons_zero, List.setIfInBounds_toArray, List.set_cons_zero, List.set_cons_succ]
  refine' wpAnyH_take (i := 9) (v := ?vr2_9) rfl (by kernel_rfl) (by kernel_rfl) (by kernel_rfl) (fun _ _ _ h => h) (Or.inl ⟨by rfl, ?hyr2_9⟩) (by assumption) ?restr2_9
  case hyr2_9 => (intro w hSw; (try dsimp only at hSw); go_simp; try (with_reducible rfl))
  simp only [Act.put, List.getElem_toArray, List.getElem_cons_succ, List.getElem_cons_zero, List.setIfInBounds_toArray, List.set_cons_zero, List.set_cons_succ]
  refine' wpAnyH_take (i := 10) (v := ?vr2_10) rfl (by kernel_rfl) (by kernel_rfl) (by kernel_rfl) (fun _ _ _ h => h) (Or.inl ⟨by rfl, ?hyr2_10⟩) (by assumption) ?restr2_10
  case hyr2_10 => (intro w hSw; (try dsimp only at hSw); go_simp; try (with_reducible rfl))
  simp only [Act.put, List.getElem_toArray, List.getElem_cons_succ, List.getElem_cons_zero, List.setIfInBounds_toArray, List.set_cons_zero, List.set_cons_succ]
  refine' wpAnyH_take (i := 11) (v := ?vr2_11) rfl (by kernel_rfl) (by kernel_rfl) (by kernel_rfl) (fun _ _ _ h => h) (Or.inl ⟨by rfl, ?hyr2_11⟩) (by assumption) ?restr2_11
  case hyr2_11 => (intro w hSw; (try dsimp only at hSw); go_simp; try (with_reducible rfl))
  simp only [Act.put, List.getElem_toArray, List.getElem_cons_succ, List.getElem_cons_zero, List.setIfInBounds_toArray, List.set_cons_zero, List.set_cons_succ]
  refine' wpAnyH_take (i := 12) (v := ?vr2_12) rfl (by kernel_rfl) (by kernel_rfl) (by kernel_rfl) (fun _ _ _ h => h) (Or.inl ⟨by rfl, ?hyr2_12⟩) (by assumption) ?restr2_12
  case hyr2_12 => (intro w hSw; (try dsimp only at hSw); go_simp; try (with_reducible rfl))
  simp only [Act.put, List.getElem_toArray, List.getElem_cons_succ, List.getElem_cons_zero, List.setIfInBounds_toArray, List.set_cons_zero, List.set_cons_succ]
  refine' wpAnyH_take (i := 13) (v := ?vr2_13) rfl (by kernel_rfl) (by kernel_rfl) (by kernel_rfl) (fun _ _ _ h => h) (Or.inl ⟨by rfl, ?hyr2_13⟩) (by assumption) ?restr2_13
  case hyr2_13 => (intro w hSw; (try dsimp only at hSw); go_simp; try (with_reducible rfl))
  simp only [Act.put, List.getElem_toArray, List.getElem_cons_succ, List.getElem_cons_zero, List.setIfInBounds_toArray, List.set_cons_zero, List.set_cons_succ]
  refine' wpAnyH_take (i := 15) (v := ?vr2_15) rfl (by kernel_rfl) (by kernel_rfl) (by kernel_rfl) (fun _ _ _ h => h) (Or.inl ⟨by rfl, ?hyr2_15⟩) (by assumption) ?restr2_15
  case hyr2_15 => (intro w hSw; (try dsimp only at hSw); go_simp; try (with_reducible rfl))
  simp only [Act.put, List.getElem_toArray, List.getElem_cons_succ, List.getElem_cons_zero, List.setIfInBounds_toArray, List.set_cons_zero, List.set_cons_succ]
  refine' wpAnyH_take (i := 16) (v := ?vr2_16) rfl (by kernel_rfl) (by kernel_rfl) (by kernel_rfl) (fun _ _ _ h => h) (Or.inl ⟨by rfl, ?hyr2_16⟩) (by assumption) ?restr2_16
  case hyr2_16 => (intro w hSw; (try dsimp only at hSw); go_simp; try (with_reducible rfl))
  simp only [Act.put, List.getElem_toArray, List.getElem_cons_succ, List.getElem_cons_zero, List.setIfInBounds_toArray, List.set_cons_zero, List.set_cons_succ]
  refine' wpAnyH_take (i := 19) (v := ?vr2_19) rfl (by kernel_rfl) (by kernel_rfl) (by kernel_rfl) (fun _ _ _ h => h) (Or.inl ⟨by rfl, ?hyr2_19⟩) (by assumption) ?restr2_19
  case hyr2_19 => (intro w hSw; (try dsimp only at hSw); go_simp; try (with_reducible rfl))
  simp only [Act.put, List.getElem_toArray, List.getElem_cons_succ, List.getElem_cons_zero, List.setIfInBounds_toArray, List.set_cons_zero, List.set_cons_succ]
  refine' wpAnyH_take (i := 20) (v := ?vr2_20) rfl (by kernel_rfl) (by kernel_rfl) (by kernel_rfl) (fun _ _ _ h => h) (Or.inl ⟨by rfl, ?hyr2_20⟩) (by assumption) ?restr2_20
  case hyr2_20 => (intro w hSw; (try dsimp only at hSw); go_simp; try (with_reducible rfl))
  simp only [Act.put, List.getElem_toArray, List.getElem_cons_succ, List.getElem_cons_zero, List.setIfInBounds_toArray, List.set_cons_zero, List.set_cons_succ]
  refine wpAnyH_ready (rs := [14]) (by kernel_rfl) (by simp) ?_
  refine AllReadyH.cons rfl (fun K hK => ?_) AllReadyH.nil
  go_simp
  refine (diff_q p h c HC _ HPB HHB).mono ?_
  rintro e w4 ⟨rfl, b4⟩
  have HG4 := Lib.hid (HG3.out.drew.below b4 HG3.out.lt)
  have HB4 := Lib.hid (HB3.out.drew.trans (b4.mono HB3.out.size))
  refine hK.out _ _ ((hHeld.2.2.2.2.2.2.2.2.step b4).mk9) (fun hHeld1 => ?_)
  clear hK K hHeld
  have hHeld := hHeld1
  clear hHeld1
  try simp only [Act.put, List.getElem_toArray, List.getElem_cons_succ, List.getElem_cons_zero, List.setIfInBounds_toArray, List.set_cons_zero, List.set_cons_succ]
  clear b4 HG3 HB3 HE
  obtain ⟨y, k0⟩ : ∃ y, w4.cell? ⟨g, b, none⟩ = some y := ⟨_, (HG4.out.cell _).trans (nv_ps hb)⟩
  have f0 := HG4.out.frozen b
  have hg4 := HG4.out.lt
  refine' wpAnyH_take (i := 17) (v := ?vr2_17) rfl (by kernel_rfl) (by kernel_rfl) (by kernel_rfl) (fun _ _ _ h => h) (Or.inl ⟨by rfl, ?hyr2_17⟩) (by assumption) ?restr2_17
  case hyr2_17 => (intro w hSw; (try dsimp only at hSw); go_simp; try (with_reducible rfl))
  simp only [Act.put, List.getElem_toArray, List.getElem_cons_succ, List.getElem_cons_zero, List.setIfInBounds_toArray, List.set_cons_zero, List.set_cons_succ]
  refine wpAnyH_ready (rs := [18]) (by kernel_rfl) (by simp) ?_
  refine AllReadyH.cons rfl (fun K hK => ?_) AllReadyH.nil
  go_simp
  refine hK.out _ _ ((hHeld.2.2.2.2.2.2.2.2.set (o := b) (.inl (by omega)) _).mk9) (fun hHeld1 => ?_)
  clear hK K hHeld
  have hHeld := hHeld1
  clear hHeld1
  try simp only [Act.put, List.getElem_toArray, List.getElem_cons_succ, List.getElem_cons_zero, List.setIfInBounds_toArray, List.set_cons_zero, List.set_cons_succ]
  clear k0 f0 hg4
  obtain ⟨W5, HW5⟩ : ∃ W, Hid (w4.setCell ⟨g, b, none⟩ (.bool true) = W) := ⟨_, Lib.hid rfl⟩
  have HG5 := Lib.hid (show Blk W5 g 76 (nv ⟨s.pl, put s.ps (b : Int), s.tr⟩ cl) by rw [← HW5.out, ← nv_set_ps hb]; exact HG4.out.set_ b _)
  have HR5 := Lib.hid (show w.grownBy W5 (some g) by rw [← HW5.out]; exact base.grown_set (grown_of HB4.out _) _ _)
  rw [HW5.out] at hHeld ⊢
  clear HW5 HG4 HB4
  have HN5 := Lib.hid (show NOk ⟨s.pl, put s.ps (b : Int), s.tr⟩ cl from hN.out)
  obtain ⟨y0, k0⟩ : ∃ y, W5.cell? ⟨g, 8 + b * 3, none⟩ = some y := ⟨_, (HG5.out.cell _).trans (nv_pl HN5.out hb).1⟩
  obtain ⟨y1, k1⟩ : ∃ y, W5.cell? ⟨g, 8 + b * 3 + 1, none⟩ = some y := ⟨_, (HG5.out.cell _).trans (nv_pl HN5.out hb).2.1⟩
  obtain ⟨y2, k2⟩ : ∃ y, W5.cell? ⟨g, 8 + b * 3 + 2, none⟩ = some y := ⟨_, (HG5.out.cell _).trans (nv_pl HN5.out hb).2.2⟩
  have f0 := HG5.out.frozen (8 + b * 3)
  have f1 := HG5.out.frozen (8 + b * 3 + 1)
  have f2 := HG5.out.frozen (8 + b * 3 + 2)
  have hg5 := HG5.out.lt
  refine' wpAnyH_take (i := 21) (v := ?vr2_21) rfl (by kernel_rfl) (by kernel_rfl) (by kernel_rfl) (fun _ _ _ h => h) (Or.inl ⟨by rfl, ?hyr2_21⟩) (by assumption) ?restr2_21
  case hyr2_21 => (intro w hSw; (try dsimp only at hSw); go_simp; try (with_reducible rfl))
  simp only [Act.put, List.getElem_toArray, List.getElem_cons_succ, List.getElem_cons_zero, List.setIfInBounds_toArray, List.set_cons_zero, List.set_cons_succ]
  refine wpAnyH_ready (rs := [22]) (by kernel_rfl) (by simp) ?_
  refine AllReadyH.cons rfl (fun K hK => ?_) AllReadyH.nil
  go_simp
  refine hK.out _ _ ((((hHeld.2.2.2.2.2.2.2.2.set (o := 8 + b * 3) (by omega) _).set (o := 8 + b * 3 + 1) (by omega) _).set (o := 8 + b * 3 + 2) (by omega) _).mk9) (fun hHeld1 => ?_)
  clear hK K hHeld
  have hHeld := hHeld1
  clear hHeld1
  try simp only [Act.put, List.getElem_toArray, List.getElem_cons_succ, List.getElem_cons_zero, List.setIfInBounds_toArray, List.set_cons_zero, List.set_cons_succ]
  refine wpAnyH_done (by kernel_rfl) ?_ _
  clear hHeld k0 k1 k2 f0 f1 f2 hg5
  have HG6 := Lib.hid (show Blk (((W5.setCell ⟨g, 8 + b * 3, none⟩ (.int .i64 c.east)).setCell ⟨g, 8 + b * 3 + 1, none⟩ (.int .i64 c.north)).setCell ⟨g, 8 + b * 3 + 2, none⟩ (.int .i64 c.up)) g 76 (nv ⟨s.pl.set b c, put s.ps (b : Int), s.tr⟩ cl) by
    have h := ((HG5.out.set_ (8 + b * 3) (.int .i64 c.east)).set_ (8 + b * 3 + 1) (.int .i64 c.north)).set_ (8 + b * 3 + 2) (.int .i64 c.up)
    rwa [nv_set_pl HN5.out hb c] at h)
  have HR6 := Lib.hid (base.grown_set (base.grown_set (base.grown_set HR5.out (8 + b * 3) (.int .i64 c.east)) (8 + b * 3 + 1) (.int .i64 c.north)) (8 + b * 3 + 2) (.int .i64 c.up))
  go_wp2_with fail
  refine bodyPost_ret (v := .tuple #[]) (by simp [results, Tryz.results125, go_sem]) rfl ⟨rfl, HG6.out, HR6.out⟩
end Go.Proofs.YtiimegmaokfpgabGreatDoor.nq
