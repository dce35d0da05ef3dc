/-
  A network by value, as the program keeps it: 56 cells; tests of it; sums, differences, the lesser and the greater of shifts.
  Conditions: none but those that a theorem names.
-/
import Derived.Test.YtgfopehceojahaaDoorNtR
import Derived.Test.YtgfopehceojahaaDoorNtP
import Derived.Test.YtgfopehceojahaaDoorLgI
import Derived.Test.YtgfopehceojahaaDoorSinI
import Derived.Deep.DeepCutAuto
import Derived.Deep.RegionWith
import Derived.Deep.QuietTactic
import Derived.BigQuiet
import Derived.Deep.WholeRow
namespace Go.Proofs.YtgfopehceojahaaDoor.nq
open Go.RowKit
open reads base ty lg lgi win hs nt
set_option linter.unusedVariables false
set_option linter.unusedSimpArgs false

/-- its cells: which stations are placed, the places, the tree legs, the closing legs -/
def nvL (s : Net) (cl : List Bool) : List Value := (mks 8 s.ps).map Value.bool ++ (flatSf s.pl ++ ((mks 12 s.tr).map Value.bool ++ cl.map Value.bool))
def nv (s : Net) (cl : List Bool) : Array Value := (nvL s cl).toArray
/-- what is asked of a network -/
def NOk (s : Net) (cl : List Bool) : Prop := s.pl.length = 8 ∧ cl.length = 12
theorem set_flat (t : Sf) : ∀ (ts : List Sf) (i : Nat), i < ts.length → (((flatSf ts).set (i * 3) (.int .i64 t.east)).set (i * 3 + 1) (.int .i64 t.north)).set (i * 3 + 2) (.int .i64 t.up) = flatSf (ts.set i t)
  | [], i, h => by simp at h
  | d :: ts, 0, h => by simp [flatSf]
  | d :: ts, i + 1, h => by
    have ih := set_flat t ts i (by simpa using h)
    have e : flatSf (d :: ts) = .int .i64 d.east :: .int .i64 d.north :: .int .i64 d.up :: flatSf ts := rfl
    have e2 : flatSf ((d :: ts).set (i + 1) t) = .int .i64 d.east :: .int .i64 d.north :: .int .i64 d.up :: flatSf (ts.set i t) := rfl
    rw [e2, ← ih, e, show (i + 1) * 3 = i * 3 + 1 + 1 + 1 by omega, show i * 3 + 1 + 1 + 1 + 1 = (i * 3 + 1) + 1 + 1 + 1 by omega, show i * 3 + 1 + 1 + 1 + 2 = (i * 3 + 2) + 1 + 1 + 1 by omega]
    simp only [List.set_cons_succ]
section
variable {s : Net} {cl : List Bool}
theorem nv_size (h : NOk s cl) : (nv s cl).size = 56 := by
  unfold nv nvL
  rw [List.size_toArray, List.length_append, List.length_append, List.length_append, List.length_map, List.length_map, List.length_map, mks_len, mks_len, flatSf_len, h.1, h.2]
theorem nv_one : (nv s cl).all (·.oneCell') = true := by
  unfold nv nvL
  rw [List.all_toArray, List.all_eq_true]
  intro u hu
  rw [List.mem_append, List.mem_append, List.mem_append] at hu
  rcases hu with hu | hu | hu | hu
  · obtain ⟨b, -, rfl⟩ := List.mem_map.1 hu; rfl
  · unfold flatSf at hu
    rw [List.mem_flatMap] at hu
    obtain ⟨t, -, ht⟩ := hu
    simp at ht
    rcases ht with rfl | rfl | rfl <;> rfl
  · obtain ⟨b, -, rfl⟩ := List.mem_map.1 hu; rfl
  · obtain ⟨b, -, rfl⟩ := List.mem_map.1 hu; rfl
theorem nv_ps {q : Nat} (hq : q < 8) : (nv s cl)[q]? = some (.bool (mem s.ps (q : Int))) := by
  unfold nv nvL
  rw [List.getElem?_toArray, List.getElem?_append_left (by rw [List.length_map, mks_len]; exact hq), List.getElem?_map, mks_at _ hq]; rfl
theorem nv_pl (h : NOk s cl) {q : Nat} (hq : q < 8) : (nv s cl)[8 + q * 3]? = some (.int .i64 (at_ s.pl (q : Int)).east) ∧ (nv s cl)[8 + q * 3 + 1]? = some (.int .i64 (at_ s.pl (q : Int)).north) ∧ (nv s cl)[8 + q * 3 + 2]? = some (.int .i64 (at_ s.pl (q : Int)).up) := by
  have e : s.pl[q]? = some (at_ s.pl (q : Int)) := by
    unfold at_
    rw [Int.toNat_natCast, List.getElem?_eq_getElem (by have := h.1; omega)]; rfl
  obtain ⟨k0, k1, k2⟩ := flatSf_at s.pl q _ e
  have g : ∀ j, j < 24 → (nv s cl)[8 + j]? = (flatSf s.pl)[j]? := fun j hj => by
    unfold nv nvL
    rw [List.getElem?_toArray, List.getElem?_append_right (by rw [List.length_map, mks_len]; omega), List.length_map, mks_len, show 8 + j - 8 = j by omega, List.getElem?_append_left (by rw [flatSf_len, h.1]; exact hj)]
  refine ⟨(g _ (by omega)).trans k0, ?_, ?_⟩
  · rw [Nat.add_assoc]; exact (g _ (by omega)).trans k1
  · rw [Nat.add_assoc]; exact (g _ (by omega)).trans k2
theorem nv_tr (h : NOk s cl) {i : Nat} (hi : i < 12) : (nv s cl)[32 + i]? = some (.bool (mem s.tr (i : Int))) := by
  unfold nv nvL
  rw [List.getElem?_toArray, List.getElem?_append_right (by rw [List.length_map, mks_len]; omega), List.length_map, mks_len, List.getElem?_append_right (by rw [flatSf_len, h.1]; omega), flatSf_len, h.1, List.getElem?_append_left (by rw [List.length_map, mks_len]; omega), show 32 + i - 8 - 8 * 3 = i by omega, List.getElem?_map, mks_at _ hi]; rfl
theorem nv_cl (h : NOk s cl) {i : Nat} {b : Bool} (hb : cl[i]? = some b) : (nv s cl)[44 + i]? = some (.bool b) := by
  have hi : i < 12 := by have := (List.getElem?_eq_some_iff.1 hb).1; have := h.2; omega
  unfold nv nvL
  rw [List.getElem?_toArray, List.getElem?_append_right (by rw [List.length_map, mks_len]; omega), List.length_map, mks_len, List.getElem?_append_right (by rw [flatSf_len, h.1]; omega), flatSf_len, h.1, List.getElem?_append_right (by rw [List.length_map, mks_len]; omega), List.length_map, mks_len, show 44 + i - 8 - 8 * 3 - 12 = i by omega, List.getElem?_map, hb]; rfl
/-- a station is placed -/
theorem nv_set_ps {q : Nat} (hq : q < 8) : (nv s cl).setIfInBounds q (.bool true) = nv ⟨s.pl, put s.ps (q : Int), s.tr⟩ cl := by
  unfold nv nvL
  rw [List.setIfInBounds_toArray, List.set_append_left _ _ (by rw [List.length_map, mks_len]; exact hq), ← mks_put _ hq, List.map_set]
theorem nv_set_pl (h : NOk s cl) {q : Nat} (hq : q < 8) (c : Sf) : (((nv s cl).setIfInBounds (8 + q * 3) (.int .i64 c.east)).setIfInBounds (8 + q * 3 + 1) (.int .i64 c.north)).setIfInBounds (8 + q * 3 + 2) (.int .i64 c.up) = nv ⟨s.pl.set q c, s.ps, s.tr⟩ cl := by
  unfold nv nvL
  have hl : ((mks 8 s.ps).map Value.bool).length = 8 := by rw [List.length_map, mks_len]
  have g : ∀ (F R : List Value) (j : Nat) (u : Value), F.length = 24 → j < 24 → (((mks 8 s.ps).map Value.bool) ++ (F ++ R)).set (8 + j) u = ((mks 8 s.ps).map Value.bool) ++ (F.set j u ++ R) := fun F R j u hF hj => by
    rw [List.set_append_right _ _ (by omega), hl, show 8 + j - 8 = j by omega, List.set_append_left _ _ (by omega)]
  have l24 : (flatSf s.pl).length = 24 := by rw [flatSf_len, h.1]
  rw [List.setIfInBounds_toArray, List.setIfInBounds_toArray, List.setIfInBounds_toArray, Nat.add_assoc, Nat.add_assoc, g _ _ _ _ l24 (by omega), g _ _ _ _ (by rw [List.length_set]; exact l24) (by omega), g _ _ _ _ (by rw [List.length_set, List.length_set]; exact l24) (by omega), set_flat c s.pl q (by rw [h.1]; exact hq)]
theorem nv_set_tr (h : NOk s cl) {i : Nat} (hi : i < 12) : (nv s cl).setIfInBounds (32 + i) (.bool true) = nv ⟨s.pl, s.ps, put s.tr (i : Int)⟩ cl := by
  unfold nv nvL
  rw [List.setIfInBounds_toArray, List.set_append_right _ _ (by rw [List.length_map, mks_len]; omega), List.length_map, mks_len, List.set_append_right _ _ (by rw [flatSf_len, h.1]; omega), flatSf_len, h.1, List.set_append_left _ _ (by rw [List.length_map, mks_len]; omega), show 32 + i - 8 - 8 * 3 = i by omega, ← mks_put _ hi, List.map_set]
theorem nv_set_cl (h : NOk s cl) {i : Nat} (hi : i < 12) (b : Bool) : (nv s cl).setIfInBounds (44 + i) (.bool b) = nv s (cl.set i b) := by
  unfold nv nvL
  rw [List.setIfInBounds_toArray, List.set_append_right _ _ (by rw [List.length_map, mks_len]; omega), List.length_map, mks_len, List.set_append_right _ _ (by rw [flatSf_len, h.1]; omega), flatSf_len, h.1, List.set_append_right _ _ (by rw [List.length_map, mks_len]; omega), List.length_map, mks_len, show 44 + i - 8 - 8 * 3 - 12 = i by omega, List.map_set]
end
/-- no station placed, all places zero -/
def none6 : Net := ⟨List.replicate 8 zero3, [], []⟩
def off12 : List Bool := List.replicate 12 false
theorem ok_none : NOk none6 off12 := ⟨rfl, rfl⟩
theorem infoNet : (Tryd.prog.info? 74).map (fun i => (i.zero, i.size)) = some (some (.agg (nv none6 off12)), 56) := by kernel_rfl
#print axioms nv_set_pl
#print axioms infoNet
end Go.Proofs.YtgfopehceojahaaDoor.nq
