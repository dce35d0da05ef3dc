/-
  The drawn lists of tools, with a kind.
  Conditions: the code has at most 65536 bytes.
-/
import Derived.Test.YtekbiapgbhaibaaTlU
namespace Go.Proofs.Ytekbiapgbhaibaa.tlp
open Go.RowKit
open reads curs curd tl
set_option linter.unusedVariables false
set_option linter.unusedSimpArgs false

theorem own_base4 {w : World} {base base' n : Nat} {e : TypeId} {v : Value} {xs : List Value} (hb : base' ≤ base) (h : w.ownsRow base e 4 v n xs) : w.ownsRow base' e 4 v n xs := by
  refine ⟨h.1, ?_⟩
  rcases h.2 with h' | ⟨g, cap, cur, h1, h2, h3⟩
  · exact .inl h'
  · exact .inr ⟨g, cap, cur, h1, by omega, h3⟩
theorem cur_below {u u' : World} {B b k : Nat} {A : Option Addr} {n cap : Nat} {zs : List UInt8} (h : Cur u B b k A n cap zs) (hb : Below u.heap.size u u') : Cur u' B b k A n cap zs := by
  have hl := cur_lt h
  obtain ⟨c1, c2, c3, pos, sd, c4, c5, c6, c7⟩ := h
  exact ⟨c1, c2.below (hb.mono (by omega)), c3, pos, sd, c4, c5, c6, c7.below hb hl⟩
/-- drawn tools and a drawn kind -/
def TOPost (w : World) (e : Ending) (w' : World) : Prop :=
  ∃ (v : Value) (ts : List Tl) (y : Int), e = .returned (.tuple #[v, .int .i64 y]) ∧ w'.ownsRow (w.heap.size + 1) 25 4 v ts.length (flatT ts) ∧ ts.length ≤ 12 ∧ Below w.heap.size w w'
set_option maxHeartbeats 8000000 in
set_option maxRecDepth 100000 in
theorem toolsOf_draw (A : Option Addr) (n cap : Nat) (zs : List UInt8) (w : World) (h : Hid (curs.Code w A n zs)) : Calls Try.prog 32 #[.slice A n cap] w (TOPost w) := by
  have H1 := Lib.hid (h.out.below ((Below.refl _ _).alloc (Nat.le_refl _) (.cells #[.slice A n cap, .int .i64 0, .int .u64 0] 75)))
  have HC0 := Lib.hid (cur_new cap h.out)
  go_enter Try.func32, Try.ntmps32
  go_wp2_with fail
  refine (tools_draw A n cap zs _ H1).mono ?_
  rintro e w2 ⟨v, ts, rfl, hO, hl, b2⟩
  have hs2 : w.heap.size + 1 ≤ w2.heap.size := by have := b2.size; simp at this; omega
  have HC2 := Lib.hid (cur_below HC0.out b2)
  have HB2 := Lib.hid (((Below.refl w.heap.size w).alloc (Nat.le_refl _) _).trans (b2.mono (by simp)))
  have HO2 := Lib.hid (show w2.ownsRow (w.heap.size + 1 + 1) 25 4 v ts.length (flatT ts) by simpa using hO)
  have HN := Lib.hid (show v.ownBlock ≠ some w.heap.size from fun e => by have := (HO2.out.lt _ e).1; omega)
  clear hO b2 H1 HC0
  go_wp2_with fail
  refine (pick_any w.heap.size w.heap.size 0 A n cap zs _ 24 (by omega) (cur_alloc HC2.out (by omega) _) (by decide) (by decide)).mono ?_
  rintro e w3 ⟨r, rfl, hr, hC, hg⟩
  have hr2 : r ≤ 23 := hr
  have HC3 := Lib.hid hC
  have HK := Lib.hid ((Blk.new w2 3 (intsV [0, 1, 2, -1, 3]).toArray).grown hg (by intro e; injection e with e; omega))
  have HO3 := Lib.hid ((HO2.out.alloc (.cells (intsV [0, 1, 2, -1, 3]).toArray 3)).kept hg (.inr HN.out))
  have HB3 := Lib.hid ((HB2.out.alloc HB2.out.size (.cells (intsV [0, 1, 2, -1, 3]).toArray 3)).grown hg (by simp; omega) (fun g e => by injection e with e; omega))
  clear hC hg hr
  obtain ⟨q, hq, hq2⟩ : ∃ q : Nat, (r : Int) / 11 = (q : Int) ∧ (q = 0 ∨ q = 1 ∨ q = 2) := ⟨r / 11, by omega, by omega⟩
  rcases hq2 with rfl | rfl | rfl
  · go_wp2_with fail
    refine (among_pre w.heap.size w.heap.size 1 A n cap zs _ _ 3 _ [0, 1, 2, -1, 3] (by omega) HC3.out HK.out (by omega) (by decide) (by decide) (by decide)).mono ?_
    rintro e w4 ⟨y, -, rfl, hC, hg⟩
    have HO4 := Lib.hid (HO3.out.kept hg (.inr HN.out))
    have HB4 := Lib.hid (HB3.out.grown hg HB3.out.size (fun g e => by injection e with e; omega))
    clear hC hg HK
    go_wp2_with fail
    go_ret2
    exact ⟨v, ts, y, rfl, own_base4 (by omega) HO4.out, hl, HB4.out⟩
  · go_wp2_with fail
    refine (among_pre w.heap.size w.heap.size 1 A n cap zs _ _ 4 _ [0, 1, 2, -1, 3] (by omega) HC3.out HK.out (by omega) (by decide) (by decide) (by decide)).mono ?_
    rintro e w4 ⟨y, -, rfl, hC, hg⟩
    have HO4 := Lib.hid (HO3.out.kept hg (.inr HN.out))
    have HB4 := Lib.hid (HB3.out.grown hg HB3.out.size (fun g e => by injection e with e; omega))
    clear hC hg HK
    go_wp2_with fail
    go_ret2
    exact ⟨v, ts, y, rfl, own_base4 (by omega) HO4.out, hl, HB4.out⟩
  · go_wp2_with fail
    refine (among_pre w.heap.size w.heap.size 1 A n cap zs _ _ 5 _ [0, 1, 2, -1, 3] (by omega) HC3.out HK.out (by omega) (by decide) (by decide) (by decide)).mono ?_
    rintro e w4 ⟨y, -, rfl, hC, hg⟩
    have HO4 := Lib.hid (HO3.out.kept hg (.inr HN.out))
    have HB4 := Lib.hid (HB3.out.grown hg HB3.out.size (fun g e => by injection e with e; omega))
    clear hC hg HK
    go_wp2_with fail
    go_ret2
    exact ⟨v, ts, y, rfl, own_base4 (by omega) HO4.out, hl, HB4.out⟩
end Go.Proofs.Ytekbiapgbhaibaa.tlp
