/-
  Sums, differences, the lesser and the greater of two shifts, the indices of marks that are set, by the program.
  Conditions: the coordinates lie within a million.
-/
import Derived.Test.YtgfopehceojahaaDoorNqA
import Derived.Test.YtgfopehceojahaaDoorRowI
import Derived.OwnWalk
import Derived.LoopTactic
namespace Go.Proofs.YtgfopehceojahaaDoor.nq
open Go.RowKit
open reads base ty lg lgi win hs nt rowi
set_option linter.unusedVariables false
set_option linter.unusedSimpArgs false

set_option maxHeartbeats 4000000 in
set_option maxRecDepth 100000 in
theorem sum_q (a b c : Sf) (h : Hid (add3 a b = c)) (w : World) (ha : Hid (BdS a)) (hb : Hid (BdS b)) :
    Calls Tryd.prog 85 #[.agg #[.int .i64 a.east, .int .i64 a.north, .int .i64 a.up], .agg #[.int .i64 b.east, .int .i64 b.north, .int .i64 b.up]] w (APost (.agg #[.int .i64 c.east, .int .i64 c.north, .int .i64 c.up]) w) := by
  obtain ⟨⟨a00, a01⟩, ⟨a10, a11⟩, a20, a21⟩ := ha.out
  obtain ⟨⟨b00, b01⟩, ⟨b10, b11⟩, b20, b21⟩ := hb.out
  obtain ⟨k0, k1, k2⟩ : a.east + b.east = c.east ∧ a.north + b.north = c.north ∧ a.up + b.up = c.up := by rw [← h.out]; exact ⟨rfl, rfl, rfl⟩
  go_enter Tryd.func85, Tryd.ntmps85
  go_wp2_with fail
  refine bodyPost_ret (v := .agg #[.int .i64 c.east, .int .i64 c.north, .int .i64 c.up]) (by simp [results, Tryd.results85, go_sem, k0, k1, k2]) rfl ⟨rfl, ?_⟩
  exact (((Below.refl _ _).alloc (Nat.le_refl _) _).alloc (by simp) _).alloc (by simp; omega) _
set_option maxHeartbeats 4000000 in
set_option maxRecDepth 100000 in
theorem diff_q (a b c : Sf) (h : Hid (sub3 a b = c)) (w : World) (ha : Hid (BdS a)) (hb : Hid (BdS b)) :
    Calls Tryd.prog 86 #[.agg #[.int .i64 a.east, .int .i64 a.north, .int .i64 a.up], .agg #[.int .i64 b.east, .int .i64 b.north, .int .i64 b.up]] w (APost (.agg #[.int .i64 c.east, .int .i64 c.north, .int .i64 c.up]) w) := by
  obtain ⟨⟨a00, a01⟩, ⟨a10, a11⟩, a20, a21⟩ := ha.out
  obtain ⟨⟨b00, b01⟩, ⟨b10, b11⟩, b20, b21⟩ := hb.out
  obtain ⟨k0, k1, k2⟩ : a.east - b.east = c.east ∧ a.north - b.north = c.north ∧ a.up - b.up = c.up := by rw [← h.out]; exact ⟨rfl, rfl, rfl⟩
  go_enter Tryd.func86, Tryd.ntmps86
  go_wp2_with fail
  refine bodyPost_ret (v := .agg #[.int .i64 c.east, .int .i64 c.north, .int .i64 c.up]) (by simp [results, Tryd.results86, go_sem, k0, k1, k2]) rfl ⟨rfl, ?_⟩
  exact (((Below.refl _ _).alloc (Nat.le_refl _) _).alloc (by simp) _).alloc (by simp; omega) _
/-- indices that the call has made -/
def MPost (xs : List Int) (w : World) (e : Ending) (w' : World) : Prop :=
  ∃ A c, e = .returned (.slice A xs.length c) ∧ w'.ownsRow w.heap.size 3 1 (.slice A xs.length c) xs.length (ints.intsV xs) ∧ Below w.heap.size w w'
/-- marks in memory, at o in block g -/
def BsAt (w : World) (g o : Nat) (bs : List Bool) : Prop := ∀ k b, bs[k]? = some b → g < w.heap.size ∧ w.cell? ⟨g, o + k, none⟩ = some (.bool b)
theorem BsAt.below {w w' : World} {g o : Nat} {bs : List Bool} (h : BsAt w g o bs) (hb : Below w.heap.size w w') : BsAt w' g o bs := fun k b hk => by
  obtain ⟨h1, h2⟩ := h k b hk
  exact ⟨by have := hb.size; omega, (hb.cell (p := ⟨g, o + k, none⟩) h1).trans h2⟩
set_option maxHeartbeats 4000000 in
set_option maxRecDepth 100000 in
theorem marked_any (g o n : Nat) (bs : List Bool) (w : World) (hn : Hid (bs.length = n)) (h12 : n ≤ 12) (hc : Hid (BsAt w g o bs)) :
    Calls Tryd.prog 57 #[.slice (some ⟨g, o, none⟩) n n] w (MPost (tru bs n) w) := by
  obtain ⟨i0, hi, hz0, hz1, hz2⟩ := info_parts infoI
  have HR0 := Lib.hid (show (w.alloc (.cells #[] 3)).ownsRow w.heap.size 3 1 (.slice (some ⟨w.heap.size, 0, none⟩) 0 0) 0 [] from World.ownsRow_made w #[] 0 (Nat.le_refl _) (by decide) (by simp))
  have HB0 := Lib.hid ((Below.refl w.heap.size w).alloc (Nat.le_refl _) (.cells #[] 3))
  go_enter Tryd.func57, Tryd.ntmps57
  go_wp2_with fail
  go_loopw [3, 9] (fun v i wr => ∃ (k m c : Nat) (A2 : Option Addr), k ≤ n ∧ i = .int .i64 (k : Nat) ∧ m ≤ k ∧ v = .slice A2 m c ∧ Hid ((tru bs k).length = m) ∧ wr.ownsRow w.heap.size 3 1 (.slice A2 m c) m (ints.intsV (tru bs k)) ∧ Below w.heap.size w wr) (fun _ i _ => n - (intOf i).toNat)
  case atStart => exact ⟨0, 0, 0, _, Nat.zero_le _, rfl, Nat.le_refl _, rfl, Lib.hid rfl, HR0.out, HB0.out⟩
  case round =>
    obtain ⟨k, m, c, A2, hk, rfl, hmk, rfl, HM, hO, hB⟩ := hrel
    have HO := Lib.hid hO
    have HB := Lib.hid hB
    have hBs := hB.size
    clear hO hB HR0 HB0
    have hk0 : (0 : Int) ≤ (k : Int) := by omega
    by_cases hlt : k < n
    · have hki : (k : Int) < (n : Int) := by omega
      have hkd : decide (k < n) = true := by simpa using hlt
      obtain ⟨b, hb⟩ : ∃ b, bs[k]? = some b := ⟨_, List.getElem?_eq_getElem (by rw [hn.out]; exact hlt)⟩
      have hcell := (hc.out.below HB.out k b hb).2
      cases b
      · have HC := Lib.hid (tru_no hb)
        clear hb
        go_wp2_with fail
        go_roundw
        case rel => exact ⟨k + 1, m, c, A2, by omega, by go_num, by omega, rfl, Lib.hid (by rw [HC.out]; exact HM.out), by rw [HC.out]; exact HO.out, HB.out⟩
        case measure => simp [intOf]; omega
      · have HC := Lib.hid (tru_yes hb)
        clear hb
        go_wp2_with (at_builtin; refine wpList_append_lies _ rfl _ _ 30 rfl w.heap.size 3 i0 (.int .i64 0) 1 8 Tryd.underlying30 hi hz0 hz1 hz2 rfl (by decide) _ _ _ rfl (HO.out.alloc _) ⟨wr.heap.size, 0, none⟩ 1 1 [.int .i64 (k : Int)] rfl rfl (cell_one_new _ _ _) (by simp [Value.oneCell']) (by decide) (by unfold maxLen; omega) (by omega) (by simp; omega) _ rfl ?_; intro g9 c9 w3 hown' hgrow hat hlt9)
        have HAL := Lib.hid ((Below.refl wr.heap.size wr).alloc (Nat.le_refl _) (.cells #[.int .i64 (k : Int)] 3))
        have HB9 := Lib.hid ((HB.out.trans (HAL.out.mono hBs)).grown hgrow (by simp; omega) (fun g e => (HO.out.lt g e).1))
        have HO9 := Lib.hid (show w3.ownsRow w.heap.size 3 1 (.slice (some ⟨g9, 0, none⟩) (m + 1) c9) (m + 1) (ints.intsV (tru bs (k + 1))) by rw [HC.out, intsV_app]; exact hown')
        clear hown' hgrow hat
        go_wp2_with fail
        go_roundw
        case rel => exact ⟨k + 1, m + 1, c9, some ⟨g9, 0, none⟩, by omega, by go_num, by omega, rfl, Lib.hid (by rw [HC.out, List.length_append, HM.out]; rfl), HO9.out, HB9.out⟩
        case measure => simp [intOf]; omega
    · have hkd : decide (k < n) = false := by simpa using hlt
      obtain rfl : k = n := by omega
      clear hlt
      go_wp2_with fail
      go_ret
      refine ⟨A2, c, ?_, ?_, HB.out⟩
      · rw [HM.out]; rfl
      · rw [HM.out]; exact HO.out
#print axioms marked_any
end Go.Proofs.YtgfopehceojahaaDoor.nq
