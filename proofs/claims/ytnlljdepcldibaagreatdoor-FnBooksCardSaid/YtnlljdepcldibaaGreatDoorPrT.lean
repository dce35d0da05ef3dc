/-
  The program's numbers of some texts (parseInts).
  Conditions: the variables of strconv are laid; the texts lie in one block.
-/
import Derived.Test.YtnlljdepcldibaaGreatDoorParC0
import Derived.Test.YtnlljdepcldibaaGreatDoorRowI
import Derived.Test.YtnlljdepcldibaaGreatDoorNumT
namespace Go.Proofs.YtnlljdepcldibaaGreatDoor.lgz
open Go.RowKit
open reads base pow txt strmath readc rowi pcrd
set_option linter.unusedVariables false
set_option linter.unusedSimpArgs false

/-- which numbers some texts tell -/
def PR (ts : List ByteArray) (xs : List Int) (ok : Bool) : Prop :=
  (ok = true ∧ xs.length = ts.length ∧ ∀ (k : Nat) t x, ts[k]? = some t → xs[k]? = some x → IsNum t x) ∨ (ok = false ∧ ∃ t, t ∈ ts ∧ ∀ n, ¬ IsNum t n)
def PI (ts : List ByteArray) (w : World) (e : Ending) (w' : World) : Prop :=
  ∃ v xs ok, e = .returned (.tuple #[v, .bool ok]) ∧ w'.ownsRow w.heap.size 3 1 v xs.length (ints.intsV xs) ∧ PR ts xs ok ∧ Below w.heap.size w w'
set_option maxHeartbeats 4000000 in
set_option maxRecDepth 100000 in
theorem parseInts_any (g n c : Nat) (ts : List ByteArray) (w : World) (hn : Hid (ts.length = n)) (hn8 : n ≤ 8) (hg : g < w.heap.size) (hc : Hid (∀ (k : Nat) t, ts[k]? = some t → w.cell? ⟨g, k, none⟩ = some (.string t))) (hs : Hid (∀ t ∈ ts, t.size ≤ 1048576)) (hV : Hid (VarsP w)) :
    Calls Tryz.prog 30 #[.slice (some ⟨g, 0, none⟩) n c] w (PI ts w) := by
  obtain ⟨i0, hi, hz0, hz1, hz2⟩ := info_parts infoI
  have HR := Lib.hid (World.ownsRow_made (base := w.heap.size) (e := 3) (size := 1) w #[] 0 (Nat.le_refl _) (by decide) (by simp))
  have HE := Lib.hid ((Below.refl w.heap.size w).alloc (Nat.le_refl _) (.cells #[] 3))
  go_enter Tryz.func30, Tryz.ntmps30
  go_wp2_with fail
  go_loopw [4, 12] (fun v i wr => ∃ (k : Nat) (xs : List Int), k ≤ n ∧ i = .int .i64 k ∧ Hid (xs.length = k) ∧ Hid (∀ (j : Nat) t x, ts[j]? = some t → xs[j]? = some x → IsNum t x) ∧ Hid (wr.ownsRow w.heap.size 3 1 v xs.length (ints.intsV xs)) ∧ Below w.heap.size w wr) (fun _ i _ => n - (intOf i).toNat)
  case atStart => exact ⟨0, [], Nat.zero_le _, rfl, Lib.hid rfl, Lib.hid (by intro j t x _ h; simp at h), HR, HE.out⟩
  case round =>
    obtain ⟨k, xs, hk, rfl, HL, HN, HO, hB⟩ := hrel
    have hBs := hB.size
    have HB := Lib.hid hB
    have hlen : xs.length ≤ 8 := by rw [HL.out]; omega
    clear hB HE HR
    by_cases hlt : k < n
    · obtain ⟨t, htk⟩ := at_lt hn.out hlt
      have hcell : wr.cell? ⟨g, k, none⟩ = some (.string t) := (HB.out.cell (p := ⟨g, k, none⟩) hg).trans (hc.out k t htk)
      have hst := hs.out t (List.mem_of_getElem? htk)
      have HK := Lib.hid htk
      have HMT := Lib.hid (List.mem_of_getElem? htk)
      have hki : (k : Int) < (n : Int) := by omega
      have hk0 : 0 ≤ (k : Int) := by omega
      have hkd : decide (k < n) = true := by simpa using hlt
      clear htk
      go_wp2_with fail
      refine (parc.par_any t _ hst (vars_below hV.out HB.out)).mono ?_
      rintro e w4 ⟨h, b⟩
      have HB4 := Lib.hid (HB.out.trans (b.mono hBs))
      have HO4 := Lib.hid (row_below HO.out b)
      have hs4 := HB4.out.size
      clear b hcell
      rcases h with ⟨x, hx, rfl⟩ | ⟨hx, rfl⟩
      · have HX := Lib.hid hx
        clear hx
        go_wp2_with (at_builtin; refine wpList_append_own _ rfl _ _ 50 rfl w.heap.size 3 i0 (.int .i64 0) 1 8 Tryz.underlying50 hi hz0 hz1 hz2 rfl (by decide) _ _ _ rfl (HO4.out.alloc _) ⟨w4.heap.size, 0, none⟩ 1 1 [.int .i64 x] rfl rfl (cell_one_new _ _ _) (by simp [Value.oneCell']) (by unfold maxLen; omega) (by omega) (by simp; omega) ?_; intro v' w9 hown' hgrow _)
        go_roundw
        case rel =>
          refine ⟨k + 1, xs ++ [x], by omega, by go_num, Lib.hid (by rw [List.length_append, HL.out]; rfl), Lib.hid ?_, Lib.hid ?_, ?_⟩
          · intro j t' x' ht' hx'
            by_cases hj : j < k
            · rw [List.getElem?_append_left (by rw [HL.out]; exact hj)] at hx'
              exact HN.out j t' x' ht' hx'
            · have hj2 : j < (xs ++ [x]).length := (List.getElem?_eq_some_iff.1 hx').1
              rw [List.length_append, List.length_singleton, HL.out] at hj2
              obtain rfl : j = k := by omega
              rw [List.getElem?_append_right (by rw [HL.out]; omega), HL.out, Nat.sub_self] at hx'
              obtain rfl : x = x' := by simpa using hx'
              rw [HK.out] at ht'
              obtain rfl : t = t' := Option.some.inj ht'
              exact HX.out
          · rw [List.length_append, List.length_singleton, intsV_app]; exact hown'
          · exact (HB4.out.alloc HB4.out.size _).grown hgrow (by simp; omega) (fun j ej => (HO4.out.lt j ej).1)
        case measure => simp [intOf]; omega
      · have HX := Lib.hid hx
        clear hx
        go_wp2_with fail
        go_ret2
        exact ⟨_, [], false, rfl, by have h := World.ownsRow_made (base := w.heap.size) (e := 3) (size := 1) w4 #[] 0 (by omega) (by decide) (by simp); simpa [ints.intsV] using h, .inr ⟨rfl, t, HMT.out, HX.out⟩, HB4.out.alloc hs4 _⟩
    · have hkd : decide (k < n) = false := by simpa using hlt
      obtain rfl : k = n := by omega
      go_wp2_with fail
      go_ret2
      exact ⟨_, xs, true, rfl, HO.out, .inl ⟨rfl, by rw [HL.out, hn.out], HN.out⟩, HB.out⟩
theorem strs_new (w : World) (T : TypeId) (ts : List ByteArray) : ∀ (k : Nat) t, ts[k]? = some t → (w.alloc (.cells (strs ts).toArray T)).cell? ⟨w.heap.size, k, none⟩ = some (.string t) := fun k t hk => by
  rw [(Blk.new w T _).cell k]
  simp [strs, hk]
theorem parseInts_new (g n c : Nat) (ts : List ByteArray) (T : TypeId) (cs : Array Value) (w : World) (hg : w.heap.size = g) (hn : ts.length = n) (hn8 : n ≤ 8) (hcs : cs = (strs ts).toArray) (hs : ∀ t ∈ ts, t.size ≤ 1048576) (hV : VarsP w) :
    Calls Tryz.prog 30 #[.slice (some ⟨g, 0, none⟩) n c] (w.alloc (.cells cs T)) (PI ts (w.alloc (.cells cs T))) := by
  subst hcs hg
  exact parseInts_any w.heap.size n c ts _ (Lib.hid hn) hn8 (by simp) (Lib.hid (strs_new w T ts)) (Lib.hid hs) (Lib.hid (hV.below ((Below.refl _ _).alloc (Nat.le_refl _) _)))
end Go.Proofs.YtnlljdepcldibaaGreatDoor.lgz
