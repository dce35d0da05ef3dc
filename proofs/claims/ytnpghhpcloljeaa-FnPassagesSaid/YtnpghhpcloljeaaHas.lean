/-
  Whether a list of ints has one, by the model; an append to a list of ints inside a region that draws its order.
  Conditions: the list has at most 2000000 elements.
-/
import Derived.Test.YtnpghhpcloljeaaRowI
import Derived.Deep.QuietTactic
import Derived.BigQuiet
import Derived.Deep.RegionHeld3
namespace Go.Proofs.Ytnpghhpcloljeaa.hs
open Go.RowKit
open reads base rowi
set_option linter.unusedVariables false
set_option linter.unusedSimpArgs false

def mem (xs : List Int) (a : Int) : Bool := xs.any fun x => x == a
theorem mem_iff {xs : List Int} {a : Int} : mem xs a = true ↔ a ∈ xs := by
  unfold mem; rw [List.any_eq_true]
  constructor
  · rintro ⟨x, hx, e⟩; rw [← (by simpa using e : x = a)]; exact hx
  · intro h; exact ⟨a, h, by simp⟩
theorem mem_no {xs : List Int} {a : Int} (h : (xs.take xs.length).all (fun x => !(x == a)) = true) : mem xs a = false := by
  rw [List.take_length, List.all_eq_true] at h
  unfold mem; rw [List.any_eq_false]; intro x hx; have := h x hx; simpa using this
theorem mem_yes {xs : List Int} {a x : Int} {k : Nat} (h : xs[k]? = some x) (e : x = a) : mem xs a = true := mem_iff.2 (by rw [← e]; exact List.mem_of_getElem? h)
theorem step_ints {ops : Array Oper} {o : Oper} {a : Act} {w : World} {K : Act → World → Prop} {Q : Exit → Act → World → Prop} {E : Prop} (hgd : o.guard = none) (s x : Operand) (ho : o.op = .call { callee := .builtin .append, args := #[s, x], argTypes := #[41, 41] })
    {bs n m c : Nat} {v : Value} {xs news : List Int} {ad : Addr} (hs : a.eval s = v) (hown : w.ownsRow bs 3 1 v n (ints.intsV xs)) (hx : a.eval x = .slice (some ad) m c) (hl : news.length = m) (hnews : ∀ j y, news[j]? = some y → w.cell? (ad.add j) = some (.int .i64 y)) (h6 : n + m ≤ 1000000) (hb : bs ≤ w.heap.size)
    (h : ∀ v' w', w'.ownsRow bs 3 1 v' (n + m) (ints.intsV (xs ++ news)) → w.grownBy w' v.ownBlock → K (a.put o.dst v') w') :
    if Region.wanted o (yielded ops a.tmps) = true then Oper.wp Try.prog o a w K Q else E := by
  obtain ⟨i0, hi, hz0, hz1, hz2⟩ := info_parts infoI
  rw [if_pos (show Region.wanted o (yielded ops a.tmps) = true by simp [Region.wanted, hgd])]
  refine wp_append_own w s x _ ho bs 3 i0 (.int .i64 0) 1 8 Try.underlying41 hi hz0 hz1 hz2 rfl (by decide) v n (ints.intsV xs) hs hown ad m c (ints.intsV news) hx (by rw [ints.intsV_len]; omega) ?_ ?_ (by unfold maxLen; omega) (by omega) hb (fun v' w' h1 h2 _ => h v' w' (by unfold ints.intsV at h1 ⊢; rw [List.map_append]; exact h1) h2)
  · intro j u hj
    unfold ints.intsV at hj
    rw [List.getElem?_map] at hj
    cases e : news[j]? with
    | none => rw [e] at hj; simp at hj
    | some y => rw [e] at hj; obtain rfl : Value.int .i64 y = u := by simpa using hj
                exact hnews j y e
  · intro u hu
    obtain ⟨y, -, rfl⟩ := List.mem_map.1 hu
    rfl
#print axioms step_ints
end Go.Proofs.Ytnpghhpcloljeaa.hs
