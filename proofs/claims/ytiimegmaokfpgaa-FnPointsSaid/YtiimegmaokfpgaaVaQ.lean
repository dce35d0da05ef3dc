/-
  Points in memory as a flat list of cells, cut; an append inside a region.
  Conditions: the points lie in one block, at most 2000000 of them.
-/
import Derived.Test.YtiimegmaokfpgaaVaA
import Derived.BigQuiet
import Derived.Deep.QuietTactic
import Derived.Deep.Cut
import Derived.Deep.DeepCutAuto
import Derived.RegionTactic
import Derived.Deep.RegionWith
import Derived.OwnWalk
import Derived.Deep.RegionHeld3
import Derived.Laws.AppendOwnNone
import Derived.Laws.OwnMore
namespace Go.Proofs.Ytiimegmaokfpgaa.va
open Go.RowKit
open reads base ty rowi
set_option linter.unusedVariables false
set_option linter.unusedSimpArgs false

theorem flatDp_append (xs ys : List Dp) : flatDp (xs ++ ys) = flatDp xs ++ flatDp ys := by simp [flatDp]
theorem flatDp_one (ts : List Dp) : ∀ u ∈ flatDp ts, u.oneCell' = true := by
  intro u hu
  simp only [flatDp, List.mem_flatMap] at hu
  obtain ⟨t, -, h⟩ := hu
  simp at h
  rcases h with rfl | rfl <;> rfl
theorem flat_cell {w : World} {B g n : Nat} {ts : List Dp} (h : DpAt w B (some ⟨g, 0, none⟩) n ts) : ∀ (q : Nat) u, (flatDp ts)[q]? = some u → w.cell? ⟨g, q, none⟩ = some u := by
  intro q u hu
  have hq : q < n * 2 := by have := lt_at hu; rw [flatDp_len, h.1] at this; exact this
  obtain ⟨t, ht⟩ := at_lt h.1 (show q / 2 < n by omega)
  obtain ⟨f0, f1⟩ := flatDp_at ts (q / 2) t ht
  obtain ⟨g', e, -, c0, c1⟩ := h.2 (q / 2) t ht
  obtain rfl : g = g' := by injection e with e; injection e
  have hr : q % 2 = 0 ∨ q % 2 = 1 := by omega
  rcases hr with r | r
  · rw [show q / 2 * 2 = q by omega] at f0 c0; rw [c0, ← f0, hu]
  · rw [show q / 2 * 2 + 1 = q by omega] at f1 c1; rw [c1, ← f1, hu]
theorem flat_take {w : World} {B g n : Nat} {ts : List Dp} (h : DpAt w B (some ⟨g, 0, none⟩) n ts) (k : Nat) : ∀ (q : Nat) u, (flatDp (ts.take k))[q]? = some u → w.cell? ((⟨g, 0, none⟩ : Addr).add q) = some u := by
  intro q u hu
  have e : (⟨g, 0, none⟩ : Addr).add q = ⟨g, q, none⟩ := by unfold Addr.add; by_cases hj : q = 0 <;> simp [hj]
  rw [e]
  refine flat_cell h q u ?_
  have := lt_at hu
  rw [← List.take_append_drop k ts, flatDp_append, List.getElem?_append_left this]
  exact hu
theorem flat_drop {w : World} {B g n : Nat} {ts : List Dp} (h : DpAt w B (some ⟨g, 0, none⟩) n ts) (k : Nat) (hk : k ≤ n) : ∀ (q : Nat) u, (flatDp (ts.drop k))[q]? = some u → w.cell? ((⟨g, k * 2, none⟩ : Addr).add q) = some u := by
  intro q u hu
  have e : (⟨g, k * 2, none⟩ : Addr).add q = ⟨g, k * 2 + q, none⟩ := by unfold Addr.add; by_cases hj : q = 0 <;> simp [hj]
  rw [e]
  refine flat_cell h (k * 2 + q) u ?_
  have hl : (flatDp (ts.take k)).length = k * 2 := by rw [flatDp_len, List.length_take, h.1]; congr 1; omega
  rw [← List.take_append_drop k ts, flatDp_append, List.getElem?_append_right (by omega), hl, Nat.add_sub_cancel_left]
  exact hu
theorem step_dps {ops : Array Oper} {o : Oper} {a : Act} {w : World} {K : Act → World → Prop} {Q : Exit → Act → World → Prop} {E : Prop} (hgd : o.guard = none) (s x : Operand) (ho : o.op = .call { callee := .builtin .append, args := #[s, x], argTypes := #[24, 24] })
    {bs n m c : Nat} {v : Value} {xs news : List Value} {ad : Addr} (hs : a.eval s = v) (hown : w.ownsRow bs 42 2 v n xs) (hx : a.eval x = .slice (some ad) m c) (hl : news.length = m * 2) (hnews : ∀ j u, news[j]? = some u → w.cell? (ad.add j) = some u) (h1 : ∀ u ∈ news, u.oneCell' = true) (h6 : n + m ≤ 1000000) (hb : bs ≤ w.heap.size)
    (h : ∀ v' w', w'.ownsRow bs 42 2 v' (n + m) (xs ++ news) → w.grownBy w' v.ownBlock → K (a.put o.dst v') w') :
    if Region.wanted o (yielded ops a.tmps) = true then Oper.wp Try.prog o a w K Q else E := by
  obtain ⟨i0, hi, hz0, hz1, hz2⟩ := info_parts infoDp
  rw [if_pos (show Region.wanted o (yielded ops a.tmps) = true by simp [Region.wanted, hgd])]
  exact wp_append_own w s x _ ho bs 42 i0 (.agg #[.int .i64 0, .int .i64 0]) 2 16 Try.underlying24 hi hz0 hz1 hz2 rfl (by decide) v n xs hs hown ad m c news hx hl hnews h1 (by unfold maxLen; omega) (by omega) hb (fun v' w' h1 h2 _ => h v' w' h1 h2)
/-- an address that fits its length and its room -/
def CapOk (A : Option Addr) (n cap : Nat) : Prop := (∃ g, A = some ⟨g, 0, none⟩ ∧ n ≤ cap) ∨ (A = none ∧ n = 0 ∧ cap = 0)
theorem cap_own {w : World} {base size n c : Nat} {e : TypeId} {A : Option Addr} {xs : List Value} (h : w.ownsRow base e size (.slice A n c) n xs) : CapOk A n c := by
  rcases h.2 with ⟨e1, -⟩ | ⟨g, cp, cur, e1, -, -, h3, -⟩
  · injection e1 with a b c; exact .inr ⟨a, b, c⟩
  · injection e1 with a b c; subst c; exact .inl ⟨g, a, h3⟩
/-- a part of a list that is put behind another one -/
def SrcDp (w : World) (B : Nat) (A : Option Addr) (m c : Nat) (us : List Dp) : Prop :=
  us.length = m ∧ ((∃ ad, A = some ad ∧ (0 < m → ad.block < B) ∧ ∀ j u, (flatDp us)[j]? = some u → w.cell? (ad.add j) = some u) ∨ (A = none ∧ m = 0 ∧ c = 0))
theorem SrcDp.below {w w' : World} {B : Nat} {A : Option Addr} {m c : Nat} {us : List Dp} (h : SrcDp w B A m c us) (hb : Below B w w') : SrcDp w' B A m c us :=
  ⟨h.1, by
    rcases h.2 with ⟨ad, e, hB, hc⟩ | h
    · exact .inl ⟨ad, e, hB, fun j u hu => by
        rcases Nat.eq_zero_or_pos m with z | z
        · have := lt_at hu; rw [flatDp_len, h.1, z] at this; omega
        · exact (hb.cell (p := ad.add j) (by rw [block_of_add]; exact hB z)).trans (hc j u hu)⟩
    · exact .inr h⟩
theorem src_take {w : World} {B g n k : Nat} {ts : List Dp} (h : DpAt w B (some ⟨g, 0, none⟩) n ts) (hk : k ≤ n) (c : Nat) : SrcDp w B (some ⟨g, 0, none⟩) k c (ts.take k) := by
  refine ⟨by rw [List.length_take, h.1]; omega, .inl ⟨_, rfl, fun hp => ?_, flat_take h k⟩⟩
  obtain ⟨t, ht⟩ := at_lt h.1 (show 0 < n by omega)
  obtain ⟨g', e, hg, -⟩ := h.2 0 t ht
  injection e with e; injection e with e; subst e; exact hg
theorem src_drop {w : World} {B g n k : Nat} {ts : List Dp} (h : DpAt w B (some ⟨g, 0, none⟩) n ts) (hk : k ≤ n) (c : Nat) : SrcDp w B (some ⟨g, k * 2, none⟩) (n - k) c (ts.drop k) := by
  refine ⟨by rw [List.length_drop, h.1], .inl ⟨_, rfl, fun hp => ?_, flat_drop h k hk⟩⟩
  obtain ⟨t, ht⟩ := at_lt h.1 (show 0 < n by omega)
  obtain ⟨g', e, hg, -⟩ := h.2 0 t ht
  injection e with e; injection e with e; subst e; exact hg
theorem src_end (w : World) (B : Nat) (ad : Addr) (c : Nat) : SrcDp w B (some ad) 0 c [] := ⟨rfl, .inl ⟨_, rfl, fun h => absurd h (by omega), fun j u hu => by simp [flatDp] at hu⟩⟩
theorem src_nil (w : World) (B : Nat) : SrcDp w B none 0 0 [] := ⟨rfl, .inr ⟨rfl, rfl, rfl⟩⟩
theorem src_one {w : World} {g B : Nat} {cs : Array Value} {x : Dp} (hb : Blk w g 42 cs) (hc : cs = #[.int .i64 x.day, .int .i64 x.tn]) (hB : g < B) (c : Nat) : SrcDp w B (some ⟨g, 0, none⟩) 1 c [x] := by
  subst hc
  refine ⟨rfl, .inl ⟨_, rfl, fun _ => hB, fun j u hu => ?_⟩⟩
  have e : (⟨g, 0, none⟩ : Addr).add j = ⟨g, j, none⟩ := by unfold Addr.add; by_cases hj : j = 0 <;> simp [hj]
  rw [e, hb.cell]
  simpa [flatDp] using hu
/-- an append of a part of a list, empty or not, inside a region -/
theorem step_src {ops : Array Oper} {o : Oper} {a : Act} {w : World} {K : Act → World → Prop} {Q : Exit → Act → World → Prop} {E : Prop} (hgd : o.guard = none) (s x : Operand) (ho : o.op = .call { callee := .builtin .append, args := #[s, x], argTypes := #[24, 24] })
    {bs n m c B : Nat} {v : Value} {xs : List Value} {us : List Dp} {A : Option Addr} (hs : a.eval s = v) (hown : w.ownsRow bs 42 2 v n xs) (hx : a.eval x = .slice A m c) (hsrc : SrcDp w B A m c us) (h6 : n + m ≤ 1000000) (hb : bs ≤ w.heap.size)
    (h : ∀ v' w', w'.ownsRow bs 42 2 v' (n + m) (xs ++ flatDp us) → w.grownBy w' v.ownBlock → K (a.put o.dst v') w') :
    if Region.wanted o (yielded ops a.tmps) = true then Oper.wp Try.prog o a w K Q else E := by
  rcases hsrc with ⟨hl, ⟨ad, rfl, -, hc⟩ | ⟨rfl, rfl, rfl⟩⟩
  · exact step_dps hgd s x ho hs hown hx (by rw [flatDp_len, hl]) hc (flatDp_one us) h6 hb h
  · obtain rfl : us = [] := List.length_eq_zero_iff.1 hl
    obtain ⟨i0, hi, hz0, hz1, hz2⟩ := info_parts infoDp
    rw [if_pos (show Region.wanted o (yielded ops a.tmps) = true by simp [Region.wanted, hgd])]
    have hrun := run_append_owned_none (P := Try.prog) (w := w) bs 24 o.type 42 i0 2 Try.underlying24 hi v n xs hown
    unfold Oper.wp
    simp [execOp, ho, resolve, invoke, builtin, hs, hx, hrun, Result.andThen]
    exact h v w (by simpa [flatDp] using hown) (World.grownBy.refl w _)
/-- an empty list that the call has just made -/
theorem made1 (w v : World) (h : w.heap.size ≤ v.heap.size) (e : TypeId) (size : Nat) : (v.alloc (.cells #[] e)).ownsRow w.heap.size e size (.slice (some ⟨v.heap.size, 0, none⟩) 0 0) 0 [] := World.ownsRow_made v #[] 0 h (by decide) (by simp)
/-- points that the call has made -/
def QDp (us : List Dp) (w : World) (e : Ending) (w' : World) : Prop :=
  ∃ A c, e = .returned (.slice A us.length c) ∧ w'.ownsRow w.heap.size 42 2 (.slice A us.length c) us.length (flatDp us) ∧ Below w.heap.size w w'
/-- points that the call has made, and a word -/
def DPost (us : List Dp) (t : Bool) (w : World) (e : Ending) (w' : World) : Prop :=
  ∃ v, e = .returned (.tuple #[v, .bool t]) ∧ w'.ownsRow w.heap.size 42 2 v us.length (flatDp us) ∧ Below w.heap.size w w'
end Go.Proofs.Ytiimegmaokfpgaa.va
