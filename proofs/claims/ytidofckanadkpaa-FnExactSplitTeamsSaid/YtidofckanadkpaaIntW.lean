/-
  A list of lists of ints whose blocks lie between two numbers: what leaves it as it is.
  Conditions: none but those that a theorem names.
-/
import Derived.Test.YtidofckanadkpaaIntU
namespace Go.Proofs.Ytidofckanadkpaa.intt
open Go.RowKit
open reads base tab ints
set_option linter.unusedVariables false

/-- a list of lists whose blocks lie from lo on and below hi -/
def TB (w : World) (lo hi : Nat) (A : Option Addr) (n c : Nat) (vs : List Value) (L : List (List Int)) : Prop :=
  w.ownsRow lo 27 1 (.slice A n c) n vs ∧ TabV 3 1 intsV w lo vs L ∧ (∀ g, (Value.slice A n c).ownBlock = some g → g < hi) ∧ ∀ (i : Nat) v, vs[i]? = some v → ∀ g, v.ownBlock = some g → g < hi
theorem own_under {w w' : World} {b B size n : Nat} {e : TypeId} {v : Value} {xs : List Value} (h : w.ownsRow b e size v n xs) (hb : Below B w w') (hl : ∀ g, v.ownBlock = some g → g < B) : w'.ownsRow b e size v n xs := by
  refine ⟨h.1, ?_⟩
  rcases h.2 with q | ⟨g, cap, cur, rfl, h2, h3, h4⟩
  · exact .inl q
  · exact .inr ⟨g, cap, cur, rfl, h2, by rw [hb.block g (hl g rfl)]; exact h3, h4⟩
section
variable {w w' : World} {lo hi n c : Nat} {A : Option Addr} {vs : List Value} {L : List (List Int)}
theorem tb_len (ho : w.ownsRow lo 27 1 (.slice A n c) n vs) : vs.length = n := by have := ho.1; omega
theorem TB.new {v : Value} (ho : w.ownsRow lo 27 1 v vs.length vs) (ht : TabV 3 1 intsV w lo vs L) (hn : L.length = n) : ∃ A c, v = .slice A n c ∧ TB w lo w.heap.size A n c vs L := by
  obtain ⟨A, c, rfl⟩ := row_slice ho
  have e : vs.length = n := by rw [ht.1]; exact hn
  rw [e] at ho ⊢
  refine ⟨A, c, rfl, ho, ht, fun g h => (ho.lt g h).2, fun i v hv g hg => ?_⟩
  have hi : i < L.length := by rw [← ht.1]; exact (List.getElem?_eq_some_iff.1 hv).1
  exact ((ht.2 i v _ hv (List.getElem?_eq_getElem hi)).lt g hg).2
theorem TB.under (h : TB w lo hi A n c vs L) {B : Nat} (hb : Below B w w') (hB : hi ≤ B) : TB w' lo hi A n c vs L :=
  ⟨own_under h.1 hb (fun g e => Nat.lt_of_lt_of_le (h.2.2.1 g e) hB), ⟨h.2.1.1, fun i v x h1 h2 => own_under (h.2.1.2 i v x h1 h2) hb (fun g e => Nat.lt_of_lt_of_le (h.2.2.2 i v h1 g e) hB)⟩, h.2.2⟩
theorem TB.below (h : TB w lo hi A n c vs L) (hb : Below w.heap.size w w') : TB w' lo hi A n c vs L :=
  ⟨row_below h.1 hb, h.2.1.below hb, h.2.2⟩
theorem TB.kept (h : TB w lo hi A n c vs L) {g : Nat} (hg : w.grownBy w' (some g)) (hne : hi ≤ g ∨ g < lo) : TB w' lo hi A n c vs L := by
  refine ⟨h.1.kept hg ?_, h.2.1.kept hg (fun i v x h1 h2 => ?_), h.2.2⟩
  · cases e : (Value.slice A n c).ownBlock with
    | none => exact .inl rfl
    | some k => exact .inr (fun e2 => by injection e2 with e2; have h1 := h.2.2.1 k e; have h2 := (h.1.lt k e).1; omega)
  · cases e : v.ownBlock with
    | none => exact .inl rfl
    | some k => exact .inr (fun e2 => by injection e2 with e2; have h3 := h.2.2.2 i v h1 k e; have h4 := ((h.2.1.2 i v x h1 h2).lt k e).1; omega)
end
set_option maxHeartbeats 1000000 in
theorem eq_tb {lo hi lo' hi' n c c' : Nat} {A A' : Option Addr} {vs vs' : List Value} {L : List (List Int)} {w : World} (hn : n ≤ 2000000) (hl : Hid (off L ≤ 2000000)) (hL : Hid (L.length = n)) (h : Hid (TB w lo hi A n c vs L)) (h' : Hid (TB w lo' hi' A' n c' vs' L)) :
    Calls Try.prog 52 #[.slice A n c, .slice A' n c'] w (BPost true w) :=
  eq_tab A A' n c c' lo lo' vs vs' L w hn hl hL (Lib.hid h.out.1) (Lib.hid h.out.2.1) (Lib.hid h'.out.1) (Lib.hid h'.out.2.1)
/-- marks: the list's own blocks alone are written -/
theorem mark_tb {lo hi n c : Nat} {A : Option Addr} {vs : List Value} {L : List (List Int)} {w : World} (k : Int) (hn : n ≤ 2000000) (k0 : 0 ≤ k) (k1 : k ≤ 1000000) (hl : Hid (off L ≤ 2000000)) (hL : Hid (L.length = n)) (hd : Hid (Disj vs)) (h : Hid (TB w lo hi A n c vs L)) (hb : lo ≤ w.heap.size) :
    Calls Try.prog 53 #[.slice A n c, .int .i64 k] w fun e w' => e = .returned (.int .i64 (k + (off L : Int))) ∧ TB w' lo hi A n c vs (mt k L) ∧ Below lo w w' := by
  refine (mark_tab lo n _ vs L k w hn k0 k1 hl hL hd (Lib.hid h.out.1) (Lib.hid h.out.2.1) (Lib.hid hb)).mono ?_
  rintro e w' ⟨rfl, h1, h2, h3⟩
  exact ⟨rfl, ⟨h1, h2, h.out.2.2⟩, h3⟩
theorem held_tb {lo hi n c : Nat} {A : Option Addr} {vs : List Value} {L : List (List Int)} {w : World} (k : Int) (hn : n ≤ 2000000) (k0 : 0 ≤ k) (k1 : k ≤ 1000000) (hl : Hid (off L ≤ 2000000)) (hL : Hid (L.length = n)) (h : Hid (TB w lo hi A n c vs (mt k L))) :
    Calls Try.prog 54 #[.slice A n c, .int .i64 k] w fun e w' => e = .returned (.int .i64 (k + (off L : Int))) ∧ w = w' :=
  held_tab A lo n c vs L k w hn k0 k1 hl hL (Lib.hid h.out.1) (Lib.hid h.out.2.1)
end Go.Proofs.Ytidofckanadkpaa.intt
