/-
  ReverseBook of the program.
  Conditions: the entries lie in one block below the call's own.
-/
import Derived.Test.YtnlljdepcldibaaEiR
import Derived.Test.YtnlljdepcldibaaEiB
namespace Go.Proofs.Ytnlljdepcldibaa.eni
open Go.RowKit Go.Shelf
open reads base ty win lg lgi en rowi
set_option linter.unusedVariables false
set_option linter.unusedSimpArgs false
attribute [local go_sem] Oper.semAt_some

/-- what holds between two rounds -/
def RInv (w : World) (b Bs : Nat) (A : Option Addr) (n cap : Nat) (pre : List IE) (W : World) : Prop :=
  ((∃ v, Boxed W b 37 v ∧ W.ownsRow w.heap.size 25 6 v pre.length (flatEn (pre.map fun x => swEn x.2)) ∧ True) ∧ Below w.heap.size w W) ∧ Boxed W Bs 37 (.slice A n cap)
theorem RInv.alloc {w W : World} {b Bs : Nat} {A : Option Addr} {n cap : Nat} {pre : List IE} (h : RInv w b Bs A n cap pre W) (o : Obj) : RInv w b Bs A n cap pre (W.alloc o) := by
  obtain ⟨⟨⟨v, h1, h2, -⟩, h3⟩, h4⟩ := h
  exact ⟨⟨⟨v, h1.alloc o, h2.alloc o, trivial⟩, h3.alloc h3.size o⟩, h4.alloc o⟩
/-- the loop's own entry in its box -/
def RAx (w : World) (b Bs : Nat) (x : IE) (E : Nat) (W : World) : Prop := (w.heap.size ≤ E ∧ E ≠ b ∧ E ≠ Bs) ∧ Blk W E 25 #[.int .i64 x.2.frm, .int .i64 x.2.to_, .int .i64 x.2.tape, .int .i64 x.2.comp, .int .i64 x.2.slope, .bool x.2.back] ∧ ∃ u, Boxed W b 37 u ∧ u.ownBlock ≠ some E
theorem not_row {X Y : World} {row : Option Nat} {E : Nat} {t : TypeId} {cs : Array Value} {B : Nat} (hE : Blk X E t cs) (hr : ∀ r, row = some r → B ≤ r ∧ ∃ o : Obj, X.heap[r]? = some o ∧ o.isCells = false) : some E ≠ row := fun e => by
  obtain ⟨-, o, ho, hc⟩ := hr E e.symm
  have h : X.heap[E]? = some (.cells cs t (0, 0)) := hE
  rw [h] at ho; cases ho; cases hc
theorem RAx.kept {w X Y : World} {b Bs : Nat} {x : IE} {E : Nat} {row : Option Nat} {B : Nat} (h : RAx w b Bs x E X) (hg : X.grownBy Y row) (hr : ∀ r, row = some r → B ≤ r ∧ ∃ o : Obj, X.heap[r]? = some o ∧ o.isCells = false) : RAx w b Bs x E Y := by
  obtain ⟨h1, h2, u, h3, h4⟩ := h
  exact ⟨h1, h2.grown hg (not_row (Y := Y) h2 hr), u, h3.kept hg (not_row (Y := Y) (cs := #[u]) h3 hr), h4⟩
set_option maxHeartbeats 4000000 in
set_option maxRecDepth 100000 in
theorem reverseBook_impl (A : Option Addr) (n cap : Nat) (ts : List En) (w : World) (hn : n ≤ 2000000) (hts : Hid (EnAt w w.heap.size A n ts)) :
    Calls Try.prog 31 #[.slice A n cap] w (EPost (rvEn ts) (goodEn ts) w) := by
  obtain ⟨i0, hi, hz0, hz1, hz2⟩ := info_parts infoEn
  have hL : Hid (ts.length = n) := Lib.hid hts.out.1
  cases hg : goodEn ts
  · have HG := Lib.hid hg
    have HI := Lib.hid (show rvEn ts = [] by unfold rvEn; rw [hg]; rfl)
    clear hg
    rw [HI.out]
    go_enter Try.func31, Try.ntmps31
    go_wp2_with fail
    refine (isBook_is A n cap ts false _ hn hts HG).mono ?_
    rintro e w1 ⟨rfl, b1⟩
    have HB := Lib.hid b1
    clear b1
    go_wp2_with fail
    go_ret2
    exact ⟨_, rfl, World.ownsRow_made w1 #[] 0 HB.out.size (by decide) (by simp), HB.out.alloc HB.out.size _⟩
  · have HG := Lib.hid hg
    have hn12 : n ≤ 12 := by rw [← hL.out]; exact goodEn_len hg
    have HI := Lib.hid (show rvEn ts = ts.reverse.map swEn by unfold rvEn; rw [hg]; rfl)
    clear hg
    rw [HI.out]
    refine (callsIn_wide (n := 5)).1 ?_
    refine callsIn_of_wp_marks Try.func31 rfl trivial ?_ rfl
    simp only [Try.ntmps31, List.size_toArray, List.length_cons, List.length_nil, Nat.reduceAdd, Nat.reduceSub, Array.replicate_succ, Array.replicate_zero, List.push_toArray, List.append_toArray, List.nil_append, List.cons_append]
    gi_wp2_with (refine ⟨trivial, ?_⟩; gi_at_call 44; refine (callsIn_wide.2 (isBook_is A n cap ts true _ hn hts HG)).mono ?_; rintro e w1 ⟨rfl, b1⟩)
    have HB1 := Lib.hid b1
    have hs1 := b1.size
    clear b1
    gi_wp2_with (refine ⟨trivial, ?_⟩; gi_at_call 52; refine (callsIn_wide.2 (back_any A n cap _)).mono ?_; rintro e w' ⟨rfl, rfl⟩)
    have bO := Boxed.new (w1.alloc (.cells #[] 25)) 37 (.slice (some ⟨w1.heap.size, 0, none⟩) 0 0)
    have bS := Boxed.new ((w1.alloc (.cells #[] 25)).alloc (.cells #[.slice (some ⟨w1.heap.size, 0, none⟩) 0 0] 37)) 37 (.slice A n cap)
    rw [World.size_alloc] at bO
    rw [World.size_alloc, World.size_alloc] at bS
    have bO2 := bO.alloc (.cells #[.slice A n cap] 37)
    have hrow0 : (w1.alloc (.cells #[] 25)).ownsRow w.heap.size 25 6 (.slice (some ⟨w1.heap.size, 0, none⟩) 0 0) 0 [] := World.ownsRow_made w1 #[] 0 hs1 (by decide) (by simp)
    have hB0 := (((HB1.out.alloc hs1 (.cells #[] 25)).alloc (by simp; omega) (.cells #[.slice (some ⟨w1.heap.size, 0, none⟩) 0 0] 37)).alloc (by simp; omega) (.cells #[.slice A n cap] 37))
    refine wpIn_rangeFunc_ownH rfl (by decide) (gf := 64) (lb := #[.pointer (some ⟨w1.heap.size + 1 + 1, 0, none⟩)]) rfl trivial (enters_of Try.func64 (by kernel_rfl) rfl)
      (bstops (5 - 1) (by decide) w.heap.size (w1.heap.size + 1 + 1) A n cap ts hn _ (by simp) (by simp; omega) bS.cell (hts.out.below hB0)) Kq.trans (Kq.put (by simp; omega) (by simp)) (Below.refl _ _) (fun _ => rfl)
      (RInv w (w1.heap.size + 1) (w1.heap.size + 1 + 1) A n cap) (fun _ _ _ => False)
      (OwnFrom.and (OwnFrom.and (Own.from (holdsRow_own w.heap.size (w1.heap.size + 1) 37 25 6 (fun pre : List IE => pre.length) (fun pre => flatEn (pre.map fun x => swEn x.2)) (fun _ _ => True)) _) (ownFrom_below (Nat.le_refl _) (by simp; omega))) (Own.from (boxed_own _ _ (fun _ => .slice A n cap)) _))
      (fun _ _ _ _ _ hs _ _ => hs)
      ⟨⟨⟨_, bO2, ((hrow0.alloc _).alloc _), trivial⟩, hB0⟩, bS⟩
      (fun x a' W => ∃ E : Nat, a' = { tmps := #[.slice A n cap, undef, .slice none 0 0, .bool false, .pointer (some ⟨w1.heap.size + 1, 0, none⟩), undef, .pointer (some ⟨E, 0, none⟩), .slice A n cap, .bool true, .bool false, undef, .slice (some ⟨w1.heap.size, 0, none⟩) 0 0, .slice A n cap, .func (.func 64) #[] #[.pointer (some ⟨w1.heap.size + 1 + 1, 0, none⟩)], .int .i64 (x.1 : Int), .agg #[.int .i64 x.2.frm, .int .i64 x.2.to_, .int .i64 x.2.tape, .int .i64 x.2.comp, .int .i64 x.2.slope, .bool x.2.back], undef, undef, undef, undef, undef, undef, undef, undef, undef, undef, undef, undef, undef, undef, undef], defers := [] } ∧ RAx w (w1.heap.size + 1) (w1.heap.size + 1 + 1) x E W)
      (fun x a' s X Y row hs hg hr => by obtain ⟨E, ha, h⟩ := hs; exact ⟨E, ha, h.kept hg hr⟩)
      ?assign ?body ?done ?stop
    case assign =>
      intro l pre x W K hinv hK
      clear bO bS bO2 hrow0 hB0
      obtain ⟨⟨⟨v, hv, hrow, -⟩, hB⟩, hS⟩ := hinv
      have hbl := hv.lt
      have hsl := hS.lt
      have hBs := hB.size
      have HX := Lib.hid (show RAx w (w1.heap.size + 1) (w1.heap.size + 1 + 1) x W.heap.size (W.alloc (.cells #[.int .i64 x.2.frm, .int .i64 x.2.to_, .int .i64 x.2.tape, .int .i64 x.2.comp, .int .i64 x.2.slope, .bool x.2.back] 25)) from ⟨⟨hBs, by omega, by omega⟩, Blk.new _ _ _, v, hv.alloc _, fun c => by have := (hrow.lt _ c).2; omega⟩)
      have HN := Lib.hid (show RInv w (w1.heap.size + 1) (w1.heap.size + 1 + 1) A n cap pre (W.alloc (.cells #[.int .i64 x.2.frm, .int .i64 x.2.to_, .int .i64 x.2.tape, .int .i64 x.2.comp, .int .i64 x.2.slope, .bool x.2.back] 25)) from RInv.alloc ⟨⟨⟨v, hv, hrow, trivial⟩, hB⟩, hS⟩ _)
      unfold encE
      gi_wp2
      exact hK _ _ ((KeepsOthers.alloc W _).from _) ⟨Below.heap_alloc _ _ _ hsl, (Below.refl _ _).alloc hBs _⟩ HN.out ⟨W.heap.size, rfl, HX.out⟩
    case body =>
      rintro l pre x a' W hl hrl ⟨⟨⟨v, hv, hrow, -⟩, hB⟩, hS⟩ ⟨E, rfl, ⟨hE0, hEb, hEs⟩, hE, u, hu, hne⟩ hlen
      obtain rfl : v = u := by
        have h1 : W.heap[w1.heap.size + 1]? = some (.cells #[v] 37 (0, 0)) := hv
        have h2 : W.heap[w1.heap.size + 1]? = some (.cells #[u] 37 (0, 0)) := hu
        rw [h1] at h2
        injection h2 with h2
        injection h2 with h2
        simpa using h2
      clear bO bS bO2 hrow0 hB0 hu
      obtain ⟨i, t⟩ := x
      have hpl : pre.length < 12 := by rw [hL.out] at hlen; omega
      have hBs := hB.size
      obtain ⟨W3, HW3⟩ : ∃ W3, Hid (((W.setCell ⟨E, 0, none⟩ (.int .i64 t.to_)).setCell ⟨E, 1, none⟩ (.int .i64 t.frm)).setCell ⟨E, 5, none⟩ (.bool (!t.back)) = W3) := ⟨_, Lib.hid rfl⟩
      have HE3 := Lib.hid (show Blk W3 E 25 #[.int .i64 t.to_, .int .i64 t.frm, .int .i64 t.tape, .int .i64 t.comp, .int .i64 t.slope, .bool (!t.back)] by rw [← HW3.out]; exact ((hE.set_ 0 _).set_ 1 _).set_ 5 _)
      have HV3 := Lib.hid (show Boxed W3 (w1.heap.size + 1) 37 v by rw [← HW3.out]; exact (((show Blk W (w1.heap.size + 1) 37 #[v] from hv).far (p := ⟨E, 0, none⟩) (fun c => hEb c.symm) _).far (p := ⟨E, 1, none⟩) (fun c => hEb c.symm) _).far (p := ⟨E, 5, none⟩) (fun c => hEb c.symm) _)
      have HS3 := Lib.hid (show Boxed W3 (w1.heap.size + 1 + 1) 37 (.slice A n cap) by rw [← HW3.out]; exact (((show Blk W (w1.heap.size + 1 + 1) 37 #[.slice A n cap] from hS).far (p := ⟨E, 0, none⟩) (fun c => hEs c.symm) _).far (p := ⟨E, 1, none⟩) (fun c => hEs c.symm) _).far (p := ⟨E, 5, none⟩) (fun c => hEs c.symm) _)
      have hg3 : W.grownBy W3 (some E) := by rw [← HW3.out]; exact grown_set (grown_set (grown_set (World.grownBy.refl W _) _ _) _ _) _ _
      have HR3 := Lib.hid (show W3.ownsRow w.heap.size 25 6 v pre.length (flatEn (pre.map fun x => swEn x.2)) from hrow.kept hg3 (.inr hne))
      have HB3 := Lib.hid (show Below w.heap.size w W3 by rw [← HW3.out]; exact ((hB.setCell (p := ⟨E, 0, none⟩) hE0 _).setCell (p := ⟨E, 1, none⟩) hE0 _).setCell (p := ⟨E, 5, none⟩) hE0 _)
      have HBW := Lib.hid (show Below w.heap.size W W3 by rw [← HW3.out]; exact (((Below.refl w.heap.size W).setCell (p := ⟨E, 0, none⟩) hE0 _).setCell (p := ⟨E, 1, none⟩) hE0 _).setCell (p := ⟨E, 5, none⟩) hE0 _)
      have HK3 := Lib.hid (show KeepsOthers W W3 by rw [← HW3.out]; exact ((KeepsOthers.setCell _ _ _).trans (KeepsOthers.setCell _ _ _)).trans (KeepsOthers.setCell _ _ _))
      have HQ3 := Lib.hid (show W3.heap[w1.heap.size + 1 + 1]? = W.heap[w1.heap.size + 1 + 1]? from hg3.block _ hS.lt (by intro c; injection c with c; exact hEs c.symm))
      have hb3 := HB3.out.size
      have hWs : W3.heap.size = W.heap.size := by rw [← HW3.out]; simp
      obtain ⟨e0, e1, e2, e3, e4, e5⟩ := (⟨hE.cell 0, hE.cell 1, hE.cell 2, hE.cell 3, hE.cell 4, hE.cell 5⟩ : W.cell? ⟨E, 0, none⟩ = some (.int .i64 t.frm) ∧ W.cell? ⟨E, 1, none⟩ = some (.int .i64 t.to_) ∧ W.cell? ⟨E, 2, none⟩ = some (.int .i64 t.tape) ∧ W.cell? ⟨E, 3, none⟩ = some (.int .i64 t.comp) ∧ W.cell? ⟨E, 4, none⟩ = some (.int .i64 t.slope) ∧ W.cell? ⟨E, 5, none⟩ = some (.bool t.back))
      have ff : ∀ o, W.frozen? ⟨E, o, none⟩ = false := fun o => hE.frozen o
      have f0 := ff 0
      have f1 := ff 1
      have f5 := ff 5
      clear hg3 hv hrow hB hS hE hne ff
      have hEb1 : ¬ w1.heap.size + 1 = E := fun c => hEb c.symm
      have hcr : (((W.setCell ⟨E, 0, none⟩ (.int .i64 t.to_)).setCell ⟨E, 1, none⟩ (.int .i64 t.frm)).setCell ⟨E, 5, none⟩ (.bool (!t.back))).cell? ⟨w1.heap.size + 1, 0, none⟩ = some v := by rw [HW3.out]; exact HV3.out.cell
      obtain ⟨r0, r1, r2, r3, r4, r5⟩ := (by rw [HW3.out]; exact ⟨HE3.out.cell 0, HE3.out.cell 1, HE3.out.cell 2, HE3.out.cell 3, HE3.out.cell 4, HE3.out.cell 5⟩ : (((W.setCell ⟨E, 0, none⟩ (.int .i64 t.to_)).setCell ⟨E, 1, none⟩ (.int .i64 t.frm)).setCell ⟨E, 5, none⟩ (.bool (!t.back))).cell? ⟨E, 0, none⟩ = some (.int .i64 t.to_) ∧ (((W.setCell ⟨E, 0, none⟩ (.int .i64 t.to_)).setCell ⟨E, 1, none⟩ (.int .i64 t.frm)).setCell ⟨E, 5, none⟩ (.bool (!t.back))).cell? ⟨E, 1, none⟩ = some (.int .i64 t.frm) ∧ (((W.setCell ⟨E, 0, none⟩ (.int .i64 t.to_)).setCell ⟨E, 1, none⟩ (.int .i64 t.frm)).setCell ⟨E, 5, none⟩ (.bool (!t.back))).cell? ⟨E, 2, none⟩ = some (.int .i64 t.tape) ∧ (((W.setCell ⟨E, 0, none⟩ (.int .i64 t.to_)).setCell ⟨E, 1, none⟩ (.int .i64 t.frm)).setCell ⟨E, 5, none⟩ (.bool (!t.back))).cell? ⟨E, 3, none⟩ = some (.int .i64 t.comp) ∧ (((W.setCell ⟨E, 0, none⟩ (.int .i64 t.to_)).setCell ⟨E, 1, none⟩ (.int .i64 t.frm)).setCell ⟨E, 5, none⟩ (.bool (!t.back))).cell? ⟨E, 4, none⟩ = some (.int .i64 t.slope) ∧ (((W.setCell ⟨E, 0, none⟩ (.int .i64 t.to_)).setCell ⟨E, 1, none⟩ (.int .i64 t.frm)).setCell ⟨E, 5, none⟩ (.bool (!t.back))).cell? ⟨E, 5, none⟩ = some (.bool (!t.back)))
      gi_wp2_with (gi_at_builtin; rw [HW3.out]; refine wpListIn_append_own _ rfl _ _ 37 rfl w.heap.size 25 i0 _ 6 48 Try.underlying37 hi hz0 hz1 hz2 rfl (by decide) _ _ _ rfl (HR3.out.alloc _) ⟨W.heap.size, 0, none⟩ 1 1 [.int .i64 t.to_, .int .i64 t.frm, .int .i64 t.tape, .int .i64 t.comp, .int .i64 t.slope, .bool (!t.back)] rfl rfl (World.news_of_block (alloc_at hWs)) (by simp [Value.oneCell']) (by unfold maxLen; omega) (by omega) (by simp; omega) ?_; intro v' w9 hown' hgrow _; obtain ⟨g9, c9, rfl⟩ := ownsRow_succ hown'; obtain ⟨hvA, hvB, hrB, hkB, hbB⟩ := HV3.out.appended (by decide) HR3.out hb3 (by omega) hown' hgrow; have hcA := hvA.cell; have hfA := hvA.frozen)
      have hS9 : Boxed w9 (w1.heap.size + 1 + 1) 37 (.slice A n cap) := (HS3.out.alloc _).kept hgrow (HS3.out.not_row (by decide) HR3.out)
      refine ⟨(HK3.out.trans hkB).from _, ⟨?_, HBW.out.trans hbB⟩, ⟨⟨⟨_, hvB, ?_, trivial⟩, HB3.out.trans hbB⟩, hS9.other (by omega) _⟩⟩
      · exact ((show _ = _ from hS9.other (by omega) _).trans (show _ = _ from HS3.out).symm).trans HQ3.out
      · rw [List.length_append, List.length_singleton, List.map_append, List.map_singleton, flatEn_app]; exact hrB
    case done =>
      rintro D ys W hD hys ⟨⟨⟨v, hv, hrow, -⟩, hB⟩, hS⟩ hK
      have hc := hv.cell
      clear bO bS bO2 hrow0 hB0
      gi_wp2
      refine ⟨by simp, .inl ⟨_, _, rfl, run_takeDeferred hK, ?_⟩⟩
      have e1 : (ys.map fun x => swEn x.2) = ts.reverse.map swEn := by rw [← hys, List.map_map]; rfl
      have e2 : ys.length = (ts.reverse.map swEn).length := by rw [← e1, List.length_map]
      rw [e1, e2] at hrow
      exact ⟨_, results_tmp2 rfl _ _ _, v, rfl, ownsRow_putObj hrow _ hK rfl, hB.trans (belowK_b (w := w) (Nat.le_refl _) W D _ _ (by simp at hD; omega) hK rfl rfl)⟩
    case stop =>
      rintro D c pre W _ _ h _
      exact h.elim
end Go.Proofs.Ytnlljdepcldibaa.eni
