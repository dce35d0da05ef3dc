/-
  A network by value, as the program keeps it: 56 cells; tests of it; sums, differences, the lesser and the greater of shifts.
  Sums, differences, the lesser and the greater of two shifts, the indices of marks that are set, by the program.
  Whether the ends of a leg are placed, by the program.
  The program's shift along a leg.
  Conditions: those that each theorem names.
-/
import Derived.Test.YtnpghhpcloljeabGreatDoorNtCq
import Derived.Test.YtnpghhpcloljeabGreatDoorNtAq
import Derived.Test.YtnpghhpcloljeabGreatDoorLgIq
import Derived.Deep.DeepCutAuto
import Derived.Deep.RegionWith
import Derived.Deep.QuietTactic
import Derived.BigQuiet
import Derived.Deep.WholeRow
import Derived.Test.YtnpghhpcloljeabGreatDoorReadsq
import Derived.OwnWalk
import Derived.LoopTactic
import Derived.Deep.RegionHeld3
import Derived.Test.YtnpghhpcloljeabGreatDoorLgD
namespace Go.Proofs.YtnpghhpcloljeabGreatDoor.nq
open Go.RowKit
open reads base ty lg lgi win hs nt
set_option linter.unusedVariables false
set_option linter.unusedSimpArgs false

/-- its cells: which stations are placed, the places, the tree legs, the closing legs -/
def nvL (s : Net) (cl : List Bool) : List Value := (mks 8 s.ps).map Value.bool ++ (flatSf s.pl ++ ((mks 12 s.tr).map Value.bool ++ cl.map Value.bool))
def nv (s : Net) (cl : List Bool) : Array Value := (nvL s cl).toArray
/-- what is asked of a network -/
def NOk (s : Net) (cl : List Bool) : Prop := s.pl.length = 8 ∧ cl.length = 12
theorem set_flat (t : Sf) : ∀ (ts : List Sf) (i : Nat), i < ts.length → (((flatSf ts).set (i * 3) (.int .i64 t.east)).set (i * 3 + 1) (.int .i64 t.north)).set (i * 3 + 2) (.int .i64 t.up) = flatSf (ts.set i t)
  | [], i, h => by simp at h
  | d :: ts, 0, h => by simp [flatSf]
  | d :: ts, i + 1, h => by
    have ih := set_flat t ts i (by simpa using h)
    have e : flatSf (d :: ts) = .int .i64 d.east :: .int .i64 d.north :: .int .i64 d.up :: flatSf ts := rfl
    have e2 : flatSf ((d :: ts).set (i + 1) t) = .int .i64 d.east :: .int .i64 d.north :: .int .i64 d.up :: flatSf (ts.set i t) := rfl
    rw [e2, ← ih, e, show (i + 1) * 3 = i * 3 + 1 + 1 + 1 by omega, show i * 3 + 1 + 1 + 1 + 1 = (i * 3 + 1) + 1 + 1 + 1 by omega, show i * 3 + 1 + 1 + 1 + 2 = (i * 3 + 2) + 1 + 1 + 1 by omega]
    simp only [List.set_cons_succ]
section
variable {s : Net} {cl : List Bool}
theorem nv_size (h : NOk s cl) : (nv s cl).size = 56 := by
  unfold nv nvL
  rw [List.size_toArray, List.length_append, List.length_append, List.length_append, List.length_map, List.length_map, List.length_map, mks_len, mks_len, flatSf_len, h.1, h.2]
theorem nv_one : (nv s cl).all (·.oneCell') = true := by
  unfold nv nvL
  rw [List.all_toArray, List.all_eq_true]
  intro u hu
  rw [List.mem_append, List.mem_append, List.mem_append] at hu
  rcases hu with hu | hu | hu | hu
  · obtain ⟨b, -, rfl⟩ := List.mem_map.1 hu; rfl
  · unfold flatSf at hu
    rw [List.mem_flatMap] at hu
    obtain ⟨t, -, ht⟩ := hu
    simp at ht
    rcases ht with rfl | rfl | rfl <;> rfl
  · obtain ⟨b, -, rfl⟩ := List.mem_map.1 hu; rfl
  · obtain ⟨b, -, rfl⟩ := List.mem_map.1 hu; rfl
theorem nv_ps {q : Nat} (hq : q < 8) : (nv s cl)[q]? = some (.bool (mem s.ps (q : Int))) := by
  unfold nv nvL
  rw [List.getElem?_toArray, List.getElem?_append_left (by rw [List.length_map, mks_len]; exact hq), List.getElem?_map, mks_at _ hq]; rfl
theorem nv_pl (h : NOk s cl) {q : Nat} (hq : q < 8) : (nv s cl)[8 + q * 3]? = some (.int .i64 (at_ s.pl (q : Int)).east) ∧ (nv s cl)[8 + q * 3 + 1]? = some (.int .i64 (at_ s.pl (q : Int)).north) ∧ (nv s cl)[8 + q * 3 + 2]? = some (.int .i64 (at_ s.pl (q : Int)).up) := by
  have e : s.pl[q]? = some (at_ s.pl (q : Int)) := by
    unfold at_
    rw [Int.toNat_natCast, List.getElem?_eq_getElem (by have := h.1; omega)]; rfl
  obtain ⟨k0, k1, k2⟩ := flatSf_at s.pl q _ e
  have g : ∀ j, j < 24 → (nv s cl)[8 + j]? = (flatSf s.pl)[j]? := fun j hj => by
    unfold nv nvL
    rw [List.getElem?_toArray, List.getElem?_append_right (by rw [List.length_map, mks_len]; omega), List.length_map, mks_len, show 8 + j - 8 = j by omega, List.getElem?_append_left (by rw [flatSf_len, h.1]; exact hj)]
  refine ⟨(g _ (by omega)).trans k0, ?_, ?_⟩
  · rw [Nat.add_assoc]; exact (g _ (by omega)).trans k1
  · rw [Nat.add_assoc]; exact (g _ (by omega)).trans k2
theorem nv_tr (h : NOk s cl) {i : Nat} (hi : i < 12) : (nv s cl)[32 + i]? = some (.bool (mem s.tr (i : Int))) := by
  unfold nv nvL
  rw [List.getElem?_toArray, List.getElem?_append_right (by rw [List.length_map, mks_len]; omega), List.length_map, mks_len, List.getElem?_append_right (by rw [flatSf_len, h.1]; omega), flatSf_len, h.1, List.getElem?_append_left (by rw [List.length_map, mks_len]; omega), show 32 + i - 8 - 8 * 3 = i by omega, List.getElem?_map, mks_at _ hi]; rfl
theorem nv_cl (h : NOk s cl) {i : Nat} {b : Bool} (hb : cl[i]? = some b) : (nv s cl)[44 + i]? = some (.bool b) := by
  have hi : i < 12 := by have := (List.getElem?_eq_some_iff.1 hb).1; have := h.2; omega
  unfold nv nvL
  rw [List.getElem?_toArray, List.getElem?_append_right (by rw [List.length_map, mks_len]; omega), List.length_map, mks_len, List.getElem?_append_right (by rw [flatSf_len, h.1]; omega), flatSf_len, h.1, List.getElem?_append_right (by rw [List.length_map, mks_len]; omega), List.length_map, mks_len, show 44 + i - 8 - 8 * 3 - 12 = i by omega, List.getElem?_map, hb]; rfl
/-- a station is placed -/
theorem nv_set_ps {q : Nat} (hq : q < 8) : (nv s cl).setIfInBounds q (.bool true) = nv ⟨s.pl, put s.ps (q : Int), s.tr⟩ cl := by
  unfold nv nvL
  rw [List.setIfInBounds_toArray, List.set_append_left _ _ (by rw [List.length_map, mks_len]; exact hq), ← mks_put _ hq, List.map_set]
theorem nv_set_pl (h : NOk s cl) {q : Nat} (hq : q < 8) (c : Sf) : (((nv s cl).setIfInBounds (8 + q * 3) (.int .i64 c.east)).setIfInBounds (8 + q * 3 + 1) (.int .i64 c.north)).setIfInBounds (8 + q * 3 + 2) (.int .i64 c.up) = nv ⟨s.pl.set q c, s.ps, s.tr⟩ cl := by
  unfold nv nvL
  have hl : ((mks 8 s.ps).map Value.bool).length = 8 := by rw [List.length_map, mks_len]
  have g : ∀ (F R : List Value) (j : Nat) (u : Value), F.length = 24 → j < 24 → (((mks 8 s.ps).map Value.bool) ++ (F ++ R)).set (8 + j) u = ((mks 8 s.ps).map Value.bool) ++ (F.set j u ++ R) := fun F R j u hF hj => by
    rw [List.set_append_right _ _ (by omega), hl, show 8 + j - 8 = j by omega, List.set_append_left _ _ (by omega)]
  have l24 : (flatSf s.pl).length = 24 := by rw [flatSf_len, h.1]
  rw [List.setIfInBounds_toArray, List.setIfInBounds_toArray, List.setIfInBounds_toArray, Nat.add_assoc, Nat.add_assoc, g _ _ _ _ l24 (by omega), g _ _ _ _ (by rw [List.length_set]; exact l24) (by omega), g _ _ _ _ (by rw [List.length_set, List.length_set]; exact l24) (by omega), set_flat c s.pl q (by rw [h.1]; exact hq)]
theorem nv_set_tr (h : NOk s cl) {i : Nat} (hi : i < 12) : (nv s cl).setIfInBounds (32 + i) (.bool true) = nv ⟨s.pl, s.ps, put s.tr (i : Int)⟩ cl := by
  unfold nv nvL
  rw [List.setIfInBounds_toArray, List.set_append_right _ _ (by rw [List.length_map, mks_len]; omega), List.length_map, mks_len, List.set_append_right _ _ (by rw [flatSf_len, h.1]; omega), flatSf_len, h.1, List.set_append_left _ _ (by rw [List.length_map, mks_len]; omega), show 32 + i - 8 - 8 * 3 = i by omega, ← mks_put _ hi, List.map_set]
theorem nv_set_cl (h : NOk s cl) {i : Nat} (hi : i < 12) (b : Bool) : (nv s cl).setIfInBounds (44 + i) (.bool b) = nv s (cl.set i b) := by
  unfold nv nvL
  rw [List.setIfInBounds_toArray, List.set_append_right _ _ (by rw [List.length_map, mks_len]; omega), List.length_map, mks_len, List.set_append_right _ _ (by rw [flatSf_len, h.1]; omega), flatSf_len, h.1, List.set_append_right _ _ (by rw [List.length_map, mks_len]; omega), List.length_map, mks_len, show 44 + i - 8 - 8 * 3 - 12 = i by omega, List.map_set]
end
/-- no station placed, all places zero -/
def none6 : Net := ⟨List.replicate 8 zero3, [], []⟩
def off12 : List Bool := List.replicate 12 false
theorem ok_none : NOk none6 off12 := ⟨rfl, rfl⟩
theorem infoNet : (Tryz.prog.info? 76).map (fun i => (i.zero, i.size)) = some (some (.agg (nv none6 off12)), 56) := by kernel_rfl
end Go.Proofs.YtnpghhpcloljeabGreatDoor.nq

namespace Go.Proofs.YtnpghhpcloljeabGreatDoor.nq
open Go.RowKit
open reads base ty lg lgi win hs nt rowi
set_option linter.unusedVariables false
set_option linter.unusedSimpArgs false

set_option maxHeartbeats 4000000 in
set_option maxRecDepth 100000 in
theorem sum_q (a b c : Sf) (h : Hid (add3 a b = c)) (w : World) (ha : Hid (BdS a)) (hb : Hid (BdS b)) :
    Calls Tryz.prog 154 #[.agg #[.int .i64 a.east, .int .i64 a.north, .int .i64 a.up], .agg #[.int .i64 b.east, .int .i64 b.north, .int .i64 b.up]] w (APost (.agg #[.int .i64 c.east, .int .i64 c.north, .int .i64 c.up]) w) := by
  obtain ⟨⟨a00, a01⟩, ⟨a10, a11⟩, a20, a21⟩ := ha.out
  obtain ⟨⟨b00, b01⟩, ⟨b10, b11⟩, b20, b21⟩ := hb.out
  obtain ⟨k0, k1, k2⟩ : a.east + b.east = c.east ∧ a.north + b.north = c.north ∧ a.up + b.up = c.up := by rw [← h.out]; exact ⟨rfl, rfl, rfl⟩
  go_enter Tryz.func154, Tryz.ntmps154
  go_wp2_with fail
  refine bodyPost_ret (v := .agg #[.int .i64 c.east, .int .i64 c.north, .int .i64 c.up]) (by simp [results, Tryz.results154, go_sem, k0, k1, k2]) rfl ⟨rfl, ?_⟩
  exact (((Below.refl _ _).alloc (Nat.le_refl _) _).alloc (by simp) _).alloc (by simp; omega) _
set_option maxHeartbeats 4000000 in
set_option maxRecDepth 100000 in
theorem diff_q (a b c : Sf) (h : Hid (sub3 a b = c)) (w : World) (ha : Hid (BdS a)) (hb : Hid (BdS b)) :
    Calls Tryz.prog 155 #[.agg #[.int .i64 a.east, .int .i64 a.north, .int .i64 a.up], .agg #[.int .i64 b.east, .int .i64 b.north, .int .i64 b.up]] w (APost (.agg #[.int .i64 c.east, .int .i64 c.north, .int .i64 c.up]) w) := by
  obtain ⟨⟨a00, a01⟩, ⟨a10, a11⟩, a20, a21⟩ := ha.out
  obtain ⟨⟨b00, b01⟩, ⟨b10, b11⟩, b20, b21⟩ := hb.out
  obtain ⟨k0, k1, k2⟩ : a.east - b.east = c.east ∧ a.north - b.north = c.north ∧ a.up - b.up = c.up := by rw [← h.out]; exact ⟨rfl, rfl, rfl⟩
  go_enter Tryz.func155, Tryz.ntmps155
  go_wp2_with fail
  refine bodyPost_ret (v := .agg #[.int .i64 c.east, .int .i64 c.north, .int .i64 c.up]) (by simp [results, Tryz.results155, go_sem, k0, k1, k2]) rfl ⟨rfl, ?_⟩
  exact (((Below.refl _ _).alloc (Nat.le_refl _) _).alloc (by simp) _).alloc (by simp; omega) _
/-- indices that the call has made -/
def MPost (xs : List Int) (w : World) (e : Ending) (w' : World) : Prop :=
  ∃ A c, e = .returned (.slice A xs.length c) ∧ w'.ownsRow w.heap.size 3 1 (.slice A xs.length c) xs.length (ints.intsV xs) ∧ Below w.heap.size w w'
/-- marks in memory, at o in block g -/
def BsAt (w : World) (g o : Nat) (bs : List Bool) : Prop := ∀ k b, bs[k]? = some b → g < w.heap.size ∧ w.cell? ⟨g, o + k, none⟩ = some (.bool b)
theorem BsAt.below {w w' : World} {g o : Nat} {bs : List Bool} (h : BsAt w g o bs) (hb : Below w.heap.size w w') : BsAt w' g o bs := fun k b hk => by
  obtain ⟨h1, h2⟩ := h k b hk
  exact ⟨by have := hb.size; omega, (hb.cell (p := ⟨g, o + k, none⟩) h1).trans h2⟩
set_option maxHeartbeats 4000000 in
set_option maxRecDepth 100000 in
theorem marked_any (g o n : Nat) (bs : List Bool) (w : World) (hn : Hid (bs.length = n)) (h12 : n ≤ 12) (hc : Hid (BsAt w g o bs)) :
    Calls Tryz.prog 70 #[.slice (some ⟨g, o, none⟩) n n] w (MPost (tru bs n) w) := by
  obtain ⟨i0, hi, hz0, hz1, hz2⟩ := info_parts infoI
  have HR0 := Lib.hid (show (w.alloc (.cells #[] 3)).ownsRow w.heap.size 3 1 (.slice (some ⟨w.heap.size, 0, none⟩) 0 0) 0 [] from World.ownsRow_made w #[] 0 (Nat.le_refl _) (by decide) (by simp))
  have HB0 := Lib.hid ((Below.refl w.heap.size w).alloc (Nat.le_refl _) (.cells #[] 3))
  go_enter Tryz.func70, Tryz.ntmps70
  go_wp2_with fail
  go_loopw [3, 9] (fun v i wr => ∃ (k m c : Nat) (A2 : Option Addr), k ≤ n ∧ i = .int .i64 (k : Nat) ∧ m ≤ k ∧ v = .slice A2 m c ∧ Hid ((tru bs k).length = m) ∧ wr.ownsRow w.heap.size 3 1 (.slice A2 m c) m (ints.intsV (tru bs k)) ∧ Below w.heap.size w wr) (fun _ i _ => n - (intOf i).toNat)
  case atStart => exact ⟨0, 0, 0, _, Nat.zero_le _, rfl, Nat.le_refl _, rfl, Lib.hid rfl, HR0.out, HB0.out⟩
  case round =>
    obtain ⟨k, m, c, A2, hk, rfl, hmk, rfl, HM, hO, hB⟩ := hrel
    have HO := Lib.hid hO
    have HB := Lib.hid hB
    have hBs := hB.size
    clear hO hB HR0 HB0
    have hk0 : (0 : Int) ≤ (k : Int) := by omega
    by_cases hlt : k < n
    · have hki : (k : Int) < (n : Int) := by omega
      have hkd : decide (k < n) = true := by simpa using hlt
      obtain ⟨b, hb⟩ : ∃ b, bs[k]? = some b := ⟨_, List.getElem?_eq_getElem (by rw [hn.out]; exact hlt)⟩
      have hcell := (hc.out.below HB.out k b hb).2
      cases b
      · have HC := Lib.hid (tru_no hb)
        clear hb
        go_wp2_with fail
        go_roundw
        case rel => exact ⟨k + 1, m, c, A2, by omega, by go_num, by omega, rfl, Lib.hid (by rw [HC.out]; exact HM.out), by rw [HC.out]; exact HO.out, HB.out⟩
        case measure => simp [intOf]; omega
      · have HC := Lib.hid (tru_yes hb)
        clear hb
        go_wp2_with (at_builtin; refine wpList_append_lies _ rfl _ _ 27 rfl w.heap.size 3 i0 (.int .i64 0) 1 8 Tryz.underlying27 hi hz0 hz1 hz2 rfl (by decide) _ _ _ rfl (HO.out.alloc _) ⟨wr.heap.size, 0, none⟩ 1 1 [.int .i64 (k : Int)] rfl rfl (cell_one_new _ _ _) (by simp [Value.oneCell']) (by decide) (by unfold maxLen; omega) (by omega) (by simp; omega) _ rfl ?_; intro g9 c9 w3 hown' hgrow hat hlt9)
        have HAL := Lib.hid ((Below.refl wr.heap.size wr).alloc (Nat.le_refl _) (.cells #[.int .i64 (k : Int)] 3))
        have HB9 := Lib.hid ((HB.out.trans (HAL.out.mono hBs)).grown hgrow (by simp; omega) (fun g e => (HO.out.lt g e).1))
        have HO9 := Lib.hid (show w3.ownsRow w.heap.size 3 1 (.slice (some ⟨g9, 0, none⟩) (m + 1) c9) (m + 1) (ints.intsV (tru bs (k + 1))) by rw [HC.out, intsV_app]; exact hown')
        clear hown' hgrow hat
        go_wp2_with fail
        go_roundw
        case rel => exact ⟨k + 1, m + 1, c9, some ⟨g9, 0, none⟩, by omega, by go_num, by omega, rfl, Lib.hid (by rw [HC.out, List.length_append, HM.out]; rfl), HO9.out, HB9.out⟩
        case measure => simp [intOf]; omega
    · have hkd : decide (k < n) = false := by simpa using hlt
      obtain rfl : k = n := by omega
      clear hlt
      go_wp2_with fail
      go_ret
      refine ⟨A2, c, ?_, ?_, HB.out⟩
      · rw [HM.out]; rfl
      · rw [HM.out]; exact HO.out
end Go.Proofs.YtnpghhpcloljeabGreatDoor.nq

namespace Go.Proofs.YtnpghhpcloljeabGreatDoor.nq
open Go.RowKit
open reads base ty lg lgi win hs nt rowi
set_option linter.unusedVariables false
set_option linter.unusedSimpArgs false

set_option maxHeartbeats 4000000 in
set_option maxRecDepth 100000 in
theorem ends_any (s : Net) (cl : List Bool) (x : Lg) (p q : Bool) (w : World) (hx : Hid (okLg x = true)) (hp : Hid (mem s.ps x.frm = p)) (hq : Hid (mem s.ps x.to_ = q)) :
    Calls Tryz.prog 75 #[.agg (nv s cl), .agg #[.int .i64 x.frm, .int .i64 x.to_, .int .i64 x.tape, .int .i64 x.comp, .int .i64 x.slope]] w (BPost (p && q) w) := by
  obtain ⟨frm, to_, tape, comp, slope⟩ := x
  obtain ⟨l1, l2, -⟩ := okLg_lim hx.out
  simp only [] at l1 l2
  obtain ⟨a, rfl⟩ := Int.eq_ofNat_of_zero_le l1.1
  obtain ⟨b, rfl⟩ := Int.eq_ofNat_of_zero_le l2.1
  have ha : a < 8 := by omega
  have hb : b < 8 := by omega
  have HP := Lib.hid (show (nv s cl)[a]? = some (.bool p) by rw [nv_ps ha]; rw [← hp.out])
  have HQ := Lib.hid (show (nv s cl)[b]? = some (.bool q) by rw [nv_ps hb]; rw [← hq.out])
  obtain ⟨C, HC⟩ : ∃ C, Hid (nv s cl = C) := ⟨_, Lib.hid rfl⟩
  rw [HC.out] at HP HQ ⊢
  obtain ⟨W, HW⟩ : ∃ W, Hid ((w.alloc (.cells C 76)).alloc (.cells #[.int .i64 (a : Int), .int .i64 (b : Int), .int .i64 tape, .int .i64 comp, .int .i64 slope] 87) = W) := ⟨_, Lib.hid rfl⟩
  have c1 : W.cell? ⟨w.heap.size, a, none⟩ = some (.bool p) := by rw [← HW.out]; exact (((Blk.new w 76 C).alloc _).cell a).trans HP.out
  have c2 : W.cell? ⟨w.heap.size, b, none⟩ = some (.bool q) := by rw [← HW.out]; exact (((Blk.new w 76 C).alloc _).cell b).trans HQ.out
  have c3 : W.cell? ⟨w.heap.size + 1, 0, none⟩ = some (.int .i64 (a : Int)) := by rw [← HW.out]; simp
  have c4 : W.cell? ⟨w.heap.size + 1, 1, none⟩ = some (.int .i64 (b : Int)) := by rw [← HW.out]; simp
  have HB := Lib.hid (show Below w.heap.size w W by rw [← HW.out]; exact ((Below.refl _ _).alloc (Nat.le_refl _) _).alloc (by simp) _)
  clear HP HQ HC hp hq hx
  go_enter Tryz.func75, Tryz.ntmps75
  go_upto_region 1 with fail
  rw [HW.out]
  clear HW
  cases p
  · go_wp2_with fail
    go_ret
    exact ⟨rfl, HB.out⟩
  · go_wp2_with fail
    go_ret
    exact ⟨rfl, HB.out⟩
end Go.Proofs.YtnpghhpcloljeabGreatDoor.nq

namespace Go.Proofs.YtnpghhpcloljeabGreatDoor.nq
open Go.RowKit
open reads base ty win lg sn
set_option linter.unusedVariables false
set_option linter.unusedSimpArgs false

set_option maxHeartbeats 4000000 in
set_option maxRecDepth 100000 in
theorem along_any (x : Lg) (w : World) (hx : Hid (okLg x = true)) (hT : Hid (Tab w)) : Calls Tryz.prog 153 #[.agg #[.int .i64 x.frm, .int .i64 x.to_, .int .i64 x.tape, .int .i64 x.comp, .int .i64 x.slope]] w (APost (.agg #[.int .i64 (shf x).east, .int .i64 (shf x).north, .int .i64 (shf x).up]) w) := by
  obtain ⟨-, -, -, ⟨a4, a5⟩, ⟨a6, a7⟩, a8, a9⟩ := okLg_lim hx.out
  obtain ⟨lv, hlv⟩ : ∃ v, level x = v := ⟨_, rfl⟩
  have lb := level_bd hx.out
  rw [hlv] at lb
  obtain ⟨lb0, lb1⟩ := lb
  obtain ⟨ee, he⟩ : ∃ v, sn.rdiv (lv * sn.sinZ x.comp) 1000 = v := ⟨_, rfl⟩
  obtain ⟨nn, hn⟩ : ∃ v, sn.rdiv (lv * sn.cosZ x.comp) 1000 = v := ⟨_, rfl⟩
  obtain ⟨uu, hu⟩ : ∃ v, sn.rdiv (x.tape * sn.sinZ x.slope) 1000 = v := ⟨_, rfl⟩
  have HA := Lib.hid (show shf x = ⟨ee, nn, uu⟩ by unfold shf; rw [hlv, he, hn, hu])
  have HP1 := Lib.hid (show partV x.tape x.slope = .tuple #[.int .i64 lv, .int .i64 uu, .bool true] by unfold partV; rw [hu]; rw [← hlv]; rfl)
  have HP2 := Lib.hid (show partV lv x.comp = .tuple #[.int .i64 nn, .int .i64 ee, .bool true] by unfold partV; rw [he, hn])
  clear hlv he hn hu hx
  rw [HA.out]
  have HT0 := Lib.hid ((hT.out.alloc (.cells #[.int .i64 x.frm, .int .i64 x.to_, .int .i64 x.tape, .int .i64 x.comp, .int .i64 x.slope] 87)).alloc (.cells #[.int .i64 0, .int .i64 0, .int .i64 0] 72))
  go_enter Tryz.func153, Tryz.ntmps153
  go_wp2_with fail
  refine (partOf_in x.tape x.slope _ (by omega) (by omega) (by omega) (by omega) HT0).mono ?_
  rintro e w1 ⟨rfl, b1⟩
  rw [HP1.out]
  have HT1 := Lib.hid (HT0.out.below b1)
  obtain ⟨hc1, hf1⟩ := bcell b1
  have hz : w.heap.size + 2 ≤ w1.heap.size := by have := b1.size; simp at this; omega
  have hz0 : w.heap.size < w1.heap.size := by omega
  have hz1 : w.heap.size + 1 < w1.heap.size := by omega
  have HB := Lib.hid ((((Below.refl w.heap.size w).alloc (Nat.le_refl _) _).alloc (by simp) _).trans (b1.mono (by simp; omega)))
  clear b1 HT0
  go_wp2_with fail
  refine (partOf_in lv x.comp _ (by omega) (by omega) (by omega) (by omega) HT1).mono ?_
  rintro e w2 ⟨rfl, b2⟩
  rw [HP2.out]
  obtain ⟨hc2, hf2⟩ := bcell b2
  have hz2 : w1.heap.size ≤ w2.heap.size := b2.size
  have HB2 := Lib.hid (HB.out.trans (b2.mono HB.out.size))
  clear b2
  go_wp2_with fail
  refine bodyPost_ret (v := .agg #[.int .i64 ee, .int .i64 nn, .int .i64 uu]) (by simp [results, Tryz.results153, go_sem, *]) rfl ⟨rfl, ?_⟩
  exact ((HB2.out.setCell (by simp) _).setCell (by simp) _).setCell (by simp) _
theorem along_is (x : Lg) (s : Sf) (h : Hid (shf x = s)) (w : World) (hx : Hid (okLg x = true)) (hT : Hid (Tab w)) : Calls Tryz.prog 153 #[.agg #[.int .i64 x.frm, .int .i64 x.to_, .int .i64 x.tape, .int .i64 x.comp, .int .i64 x.slope]] w (APost (.agg #[.int .i64 s.east, .int .i64 s.north, .int .i64 s.up]) w) := by rw [← h.out]; exact along_any x w hx hT
end Go.Proofs.YtnpghhpcloljeabGreatDoor.nq
