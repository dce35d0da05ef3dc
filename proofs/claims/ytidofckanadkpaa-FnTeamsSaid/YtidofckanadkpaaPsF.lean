/-
  Where an Id stands among people, by the model.
  Conditions: the list has at most 2000000 elements.
-/
import Derived.Test.YtidofckanadkpaaBase
import Derived.Test.YtidofckanadkpaaTyPs
namespace Go.Proofs.Ytidofckanadkpaa.psf
open Go.RowKit
open reads base ty
set_option linter.unusedVariables false
set_option linter.unusedSimpArgs false

/-- where an Id stands, counted from k on; -1 for none -/
def findFrom (a : Int) : Nat → List Ps → Int
  | _, [] => -1
  | k, t :: ts => if t.id = a then k else findFrom a (k + 1) ts
def find (ts : List Ps) (a : Int) : Int := findFrom a 0 ts
theorem from_at {ts : List Ps} {k : Nat} {t : Ps} (a : Int) (h : ts[k]? = some t) : findFrom a k (ts.drop k) = if t.id = a then (k : Int) else findFrom a (k + 1) (ts.drop (k + 1)) := by
  obtain ⟨hk, rfl⟩ := List.getElem?_eq_some_iff.1 h
  rw [List.drop_eq_getElem_cons hk]; rfl
theorem from_end {ts : List Ps} {k : Nat} (a : Int) (h : ts.length = k) : findFrom a k (ts.drop k) = -1 := by
  rw [List.drop_eq_nil_of_le (by omega)]; rfl
theorem from_lt (a : Int) : ∀ (ts : List Ps) (k : Nat), findFrom a k ts = -1 ∨ ((k : Int) ≤ findFrom a k ts ∧ findFrom a k ts < k + ts.length)
  | [], k => .inl rfl
  | t :: ts, k => by
    by_cases h : t.id = a
    · exact .inr (by simp only [findFrom, h, if_true, List.length_cons]; omega)
    · simp only [findFrom, h, if_false, List.length_cons]
      rcases from_lt a ts (k + 1) with e | ⟨e, e'⟩
      · exact .inl e
      · exact .inr (by omega)
theorem find_lt (ts : List Ps) (a : Int) : find ts a = -1 ∨ (0 ≤ find ts a ∧ find ts a < ts.length) := by
  rcases from_lt a ts 0 with e | ⟨e, e'⟩
  · exact .inl e
  · exact .inr ⟨by simpa [find] using e, by simpa [find] using e'⟩
/-- an answer that is found is where the Id stands -/
theorem from_is (a : Int) : ∀ (ts : List Ps) (k j : Nat), findFrom a k ts = (k + j : Nat) → ∃ t, ts[j]? = some t ∧ t.id = a
  | [], k, j, h => by simp only [findFrom] at h; omega
  | t :: ts, k, j, h => by
    by_cases e : t.id = a
    · simp only [findFrom, e, if_true] at h
      obtain rfl : j = 0 := by omega
      exact ⟨t, rfl, e⟩
    · simp only [findFrom, e, if_false] at h
      cases j with
      | zero => rcases from_lt a ts (k + 1) with f | ⟨f, f'⟩ <;> omega
      | succ j => simpa using from_is a ts (k + 1) j (by rw [h]; congr 1; omega)
theorem find_is {ts : List Ps} {a : Int} {j : Nat} (h : find ts a = (j : Int)) : ∃ t, ts[j]? = some t ∧ t.id = a := from_is a ts 0 j (by simpa [find] using h)
/-- none is found exactly if nobody has the Id -/
theorem from_none (a : Int) : ∀ (ts : List Ps) (k : Nat), findFrom a k ts = -1 ↔ ∀ t ∈ ts, t.id ≠ a
  | [], k => by simp [findFrom]
  | t :: ts, k => by
    by_cases e : t.id = a
    · simp only [findFrom, e, if_true, List.mem_cons]
      exact ⟨fun h => by omega, fun h => absurd e (h t (.inl rfl))⟩
    · simp only [findFrom, e, if_false, List.mem_cons, from_none a ts (k + 1)]
      exact ⟨fun h u hu => hu.elim (fun q => q ▸ e) (h u), fun h u hu => h u (.inr hu)⟩
theorem find_none (ts : List Ps) (a : Int) : find ts a = -1 ↔ ∀ t ∈ ts, t.id ≠ a := from_none a ts 0
set_option maxHeartbeats 4000000 in
set_option maxRecDepth 100000 in
theorem find_model (A : Option Addr) (n cap : Nat) (ts : List Ps) (a : Int) (w : World) (hn : n ≤ 2000000) (hts : Hid (PsAt w w.heap.size A n ts)) :
    Calls Try.prog 93 #[.slice A n cap, .int .i64 a] w fun e w' => e = .returned (.int .i64 (find ts a)) ∧ w = w' := by
  have hL : Hid (ts.length = n) := Lib.hid hts.out.1
  go_enter Try.func93, Try.ntmps93
  go_wp2_with fail
  go_loop [5] (fun i => ∃ k : Nat, k ≤ n ∧ i = .int .i64 k ∧ Hid (findFrom a k (ts.drop k) = find ts a)) (fun i => n - (intOf i).toNat)
  case atStart => exact ⟨0, Nat.zero_le _, rfl, Lib.hid rfl⟩
  case round =>
    obtain ⟨k, hk, rfl, HI⟩ := hrel
    by_cases hlt : k < n
    · obtain ⟨t, htk⟩ := at_lt hL.out hlt
      obtain ⟨g, rfl, hg, h0, -, -, -⟩ := hts.out.2 k t htk
      have HA := Lib.hid (from_at a htk)
      clear htk
      have hki : (k : Int) < (n : Int) := by omega
      have hk0 : 0 ≤ (k : Int) := by omega
      have hkd : decide (k < n) = true := by simpa using hlt
      by_cases he : t.id = a
      · have HF := Lib.hid (show find ts a = (k : Int) by rw [← HI.out, HA.out, if_pos he])
        have hd : decide (t.id = a) = true := by simpa using he
        have hd' : (t.id == a) = true := by simpa using he
        clear he
        go_wp2_with fail
        go_ret
        exact ⟨by rw [HF.out]; rfl, rfl⟩
      · have HF := Lib.hid (show findFrom a (k + 1) (ts.drop (k + 1)) = find ts a by rw [← HI.out, HA.out, if_neg he])
        have hd : decide (t.id = a) = false := by simpa using he
        have hd' : (t.id == a) = false := by simpa using he
        clear he
        go_wp2_with fail
        go_round
        case rel => exact ⟨k + 1, by omega, by go_num, HF⟩
        case measure => simp [intOf]; omega
    · have hkd : decide (k < n) = false := by simpa using hlt
      obtain rfl : k = n := by omega
      have HF := Lib.hid (show find ts a = -1 by rw [← HI.out, from_end a hL.out])
      clear hlt
      go_wp2_with fail
      go_ret
      exact ⟨by rw [HF.out]; rfl, rfl⟩
theorem find_model_is (A : Option Addr) (n cap : Nat) (ts : List Ps) (a z : Int) (h : Hid (find ts a = z)) (w : World) (hn : n ≤ 2000000) (hts : Hid (PsAt w w.heap.size A n ts)) :
    Calls Try.prog 93 #[.slice A n cap, .int .i64 a] w fun e w' => e = .returned (.int .i64 z) ∧ w = w' := by
  rw [← h.out]; exact find_model A n cap ts a w hn hts
#print axioms find_model_is
end Go.Proofs.Ytidofckanadkpaa.psf
