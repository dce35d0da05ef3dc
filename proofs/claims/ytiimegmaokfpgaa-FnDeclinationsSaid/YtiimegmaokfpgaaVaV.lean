/-
  The draw of bearings that are corrected.
  Conditions: the code has at most 65536 bytes.
-/
import Derived.Test.YtiimegmaokfpgaaVaT
import Derived.Test.YtiimegmaokfpgaaRowI
import Derived.Deep.DeepCutAuto
import Derived.Deep.RegionHeld3
import Derived.Deep.AppendLies
import Derived.OwnWalk
namespace Go.Proofs.Ytiimegmaokfpgaa.drp
open Go.RowKit
open reads base curs curd cure ty va rowi
set_option linter.unusedVariables false
set_option linter.unusedSimpArgs false

/-- a list of ints of one's own in a block -/
def RI (B : Nat) (u : World) (g m c : Nat) (xs : List Int) : Prop := u.ownsRow B 3 1 (.slice (some ⟨g, 0, none⟩) m c) m (ints.intsV xs) ∧ xs.length = m
theorem rows_ne {u : World} {base base' L m c g : Nat} {v : Value} {xs ys : List Value} (h : u.ownsRow base 42 2 v L xs) (h' : u.ownsRow base' 3 1 (.slice (some ⟨g, 0, none⟩) m c) m ys) : v.ownBlock ≠ some g := by
  rcases h'.2 with ⟨e, -⟩ | ⟨g', cp, cur, e, -, hb, -⟩
  · cases e
  · injection e with e
    injection e with e
    injection e with e
    subst e
    exact own_blk_ne h (show Blk u g 3 cur from hb) (by decide)
theorem RI.lt {B g m c : Nat} {u : World} {xs : List Int} (h : RI B u g m c xs) : B ≤ g ∧ g < u.heap.size := h.1.lt g rfl
theorem RI.grown {B g m c : Nat} {u u' : World} {xs : List Int} {b : Nat} (h : RI B u g m c xs) (hg : u.grownBy u' (some b)) (hb : g ≠ b) : RI B u' g m c xs :=
  ⟨h.1.kept hg (.inr (fun e => hb (by have e := Option.some.inj e; exact e))), h.2⟩
theorem GS.kept {w u u' : World} {B b k : Nat} {A : Option Addr} {n cap L g : Nat} {zs : List UInt8} {v : Value} {ts : List Dp} (h : GS w B b k A n cap zs v L ts u) (hg : u.grownBy u' (some g)) (hlo : w.heap.size ≤ g) (hne : v.ownBlock ≠ some g) : GS w B b k A n cap zs v L ts u' := by
  obtain ⟨h1, h2, h3, h4, h5, h6⟩ := h
  obtain ⟨c1, c2, c3, pos, sd, c4, c5, c6, c7⟩ := h1
  have hs := h2.size
  exact ⟨⟨c1, c2.grown hg (by omega) (fun g' e => by injection e with e; omega), c3, pos, sd, c4, c5, c6, c7.grown hg (fun e => by injection e with e; omega)⟩,
    ⟨hg.os.trans h2.os, hg.tape.trans h2.tape, hg.output.trans h2.output, Nat.le_trans h2.size hg.size, fun i hi hn => (hg.block i (by omega) (fun e => by injection e with e; omega)).trans (h2.block i hi hn)⟩, h3.kept hg (.inr (fun e => hne e)), h4, h5, h6⟩
/-- points and two lists of ints in the making -/
def C3 (w : World) (B b k : Nat) (A : Option Addr) (n cap : Nat) (zs : List UInt8) (v : Value) (L : Nat) (ts : List Dp) (g1 m1 c1 : Nat) (ds : List Int) (g2 m2 c2 : Nat) (fs : List Int) (u : World) : Prop :=
  GS w B b k A n cap zs v L ts u ∧ RI w.heap.size u g1 m1 c1 ds ∧ RI w.heap.size u g2 m2 c2 fs ∧ g1 ≠ g2
section
variable {w u u' : World} {B b k k' : Nat} {A : Option Addr} {n cap L g1 m1 c1 g2 m2 c2 : Nat} {zs : List UInt8} {v : Value} {ts : List Dp} {ds fs : List Int}
theorem C3.step (h : C3 w B b k A n cap zs v L ts g1 m1 c1 ds g2 m2 c2 fs u) (hC : Cur u' B b k' A n cap zs) (hg : u.grownBy u' (some b)) : C3 w B b k' A n cap zs v L ts g1 m1 c1 ds g2 m2 c2 fs u' :=
  ⟨h.1.step hC hg, h.2.1.grown hg (by have := h.2.1.lt; have := h.1.2.2.2.2.1; omega), h.2.2.1.grown hg (by have := h.2.2.1.lt; have := h.1.2.2.2.2.1; omega), h.2.2.2⟩
theorem C3.alloc (h : C3 w B b k A n cap zs v L ts g1 m1 c1 ds g2 m2 c2 fs u) (o : Obj) : C3 w B b k A n cap zs v L ts g1 m1 c1 ds g2 m2 c2 fs (u.alloc o) := ⟨h.1.alloc o, ⟨h.2.1.1.alloc o, h.2.1.2⟩, ⟨h.2.2.1.1.alloc o, h.2.2.1.2⟩, h.2.2.2⟩
theorem C3.more (h : C3 w B b k A n cap zs v L ts g1 m1 c1 ds g2 m2 c2 fs u) (hk : k ≤ k') : C3 w B b k' A n cap zs v L ts g1 m1 c1 ds g2 m2 c2 fs u := ⟨h.1.more hk, h.2⟩
theorem C3.app1 {g' c' H : Nat} {x : Int} (h : C3 w B b k A n cap zs v L ts g1 m1 c1 ds g2 m2 c2 fs u) (ho : u'.ownsRow w.heap.size 3 1 (.slice (some ⟨g', 0, none⟩) (m1 + 1) c') (m1 + 1) (ints.intsV ds ++ [.int .i64 x])) (hg : u.grownBy u' (some g1)) (hat : (Value.slice (some ⟨g1, 0, none⟩) m1 c1).ownBlock = some g' ∨ g' = H) (hH : u.heap.size = H) : C3 w B b k A n cap zs v L ts g' (m1 + 1) c' (ds ++ [x]) g2 m2 c2 fs u' := by
  have hl1 := h.2.1.lt
  have hl2 := h.2.2.1.lt
  refine ⟨h.1.kept hg hl1.1 (rows_ne h.1.2.2.1 h.2.1.1), ⟨by rw [intsV_app]; exact ho, by rw [List.length_append, h.2.1.2]; rfl⟩, h.2.2.1.grown hg (Ne.symm h.2.2.2), ?_⟩
  rcases hat with e | e
  · have e : g1 = g' := Option.some.inj e
    rw [← e]; exact h.2.2.2
  · omega
theorem C3.app2 {g' c' H : Nat} {x : Int} (h : C3 w B b k A n cap zs v L ts g1 m1 c1 ds g2 m2 c2 fs u) (ho : u'.ownsRow w.heap.size 3 1 (.slice (some ⟨g', 0, none⟩) (m2 + 1) c') (m2 + 1) (ints.intsV fs ++ [.int .i64 x])) (hg : u.grownBy u' (some g2)) (hat : (Value.slice (some ⟨g2, 0, none⟩) m2 c2).ownBlock = some g' ∨ g' = H) (hH : u.heap.size = H) : C3 w B b k A n cap zs v L ts g1 m1 c1 ds g' (m2 + 1) c' (fs ++ [x]) u' := by
  have hl1 := h.2.1.lt
  have hl2 := h.2.2.1.lt
  refine ⟨h.1.kept hg hl2.1 (rows_ne h.1.2.2.1 h.2.2.1.1), h.2.1.grown hg h.2.2.2, ⟨by rw [intsV_app]; exact ho, by rw [List.length_append, h.2.2.1.2]; rfl⟩, ?_⟩
  rcases hat with e | e
  · have e : g2 = g' := Option.some.inj e
    rw [← e]; exact h.2.2.2
  · omega
end
def PC (w : World) (e : Ending) (w' : World) : Prop := ∃ (v : Value) (L : Nat) (ts : List Dp) (g1 m1 c1 : Nat) (ds : List Int) (g2 m2 c2 : Nat) (fs : List Int), e = .returned (.tuple #[v, .slice (some ⟨g1, 0, none⟩) m1 c1, .slice (some ⟨g2, 0, none⟩) m2 c2]) ∧ w'.ownsRow w.heap.size 42 2 v L (flatDp ts) ∧ ts.length = L ∧ L ≤ 9 ∧ m1 ≤ 21 ∧ m2 ≤ 21 ∧ RI w.heap.size w' g1 m1 c1 ds ∧ RI w.heap.size w' g2 m2 c2 fs ∧ Below w.heap.size w w'
set_option maxHeartbeats 16000000 in
set_option maxRecDepth 100000 in
theorem correctAll_draw (A : Option Addr) (n cap : Nat) (zs : List UInt8) (w : World) (h : Hid (curs.Code w A n zs)) : Calls Try.prog 21 #[.slice A n cap] w (PC w) := by
  obtain ⟨i0, hi, hz0, hz1, hz2⟩ := info_parts infoI
  have HC0 := Lib.hid (cur_new cap h.out)
  obtain ⟨W0, HW0⟩ : ∃ W, Hid (w.alloc (.cells #[.slice A n cap, .int .i64 0, .int .u64 0] 66) = W) := ⟨_, Lib.hid rfl⟩
  have hs0 : W0.heap.size = w.heap.size + 1 := by rw [← HW0.out]; simp
  have HLW := Lib.hid (show ∀ u, W0.grownBy u (some w.heap.size) → Below w.heap.size w u from fun u hu => by rw [← HW0.out] at hu; exact low hu)
  rw [HW0.out] at HC0
  go_enter Try.func21, Try.ntmps21
  go_upto_region 2 with fail
  rw [HW0.out]
  clear HW0
  go_wp2_with fail
  refine (points_any w.heap.size w.heap.size 0 A n cap zs _ (by omega) HC0).mono ?_
  rintro e w1 ⟨v, L, ts, rfl, hl, hG⟩
  have HG := Lib.hid hG
  clear hG HC0
  obtain ⟨G1, HG1⟩ : ∃ G, Hid (w1.heap.size = G) := ⟨_, Lib.hid rfl⟩
  obtain ⟨G2, HG2⟩ : ∃ G, Hid ((w1.alloc (.cells #[] 3)).heap.size = G) := ⟨_, Lib.hid rfl⟩
  have hg12 : w1.heap.size + 1 = G2 := by rw [← HG2.out]; simp
  obtain ⟨W2, HW2⟩ : ∃ W, Hid ((w1.alloc (.cells #[] 3)).alloc (.cells #[] 3) = W) := ⟨_, Lib.hid rfl⟩
  have HC2 := Lib.hid (show C3 W0 w.heap.size w.heap.size (0 + 80) A n cap zs v L ts G1 0 0 [] G2 0 0 [] W2 by
    rw [← HW2.out, ← HG1.out, ← HG2.out]
    have hz := HG.out.2.1.size
    exact ⟨(HG.out.alloc _).alloc _, ⟨(World.ownsRow_made w1 #[] 0 hz (by decide) (by simp)).alloc _, rfl⟩, ⟨World.ownsRow_made (w1.alloc (.cells #[] 3)) #[] 0 (by simp; omega) (by decide) (by simp), rfl⟩, by simp⟩)
  go_upto_region 4 with fail
  rw [HW2.out]
  try rw [HG1.out]
  try rw [HG2.out]
  try rw [show G1 + 1 = G2 by rw [← HG1.out]; exact hg12]
  clear HW2 HG1 HG2 hg12 HG
  go_wp2_with fail
  refine (pick_any w.heap.size w.heap.size (0 + 80) A n cap zs _ 5 (by omega) HC2.out.1.1 (by decide) (by decide)).mono ?_
  rintro e w2 ⟨m, rfl, hm, hC, hg⟩
  have hm4 : m ≤ 4 := by omega
  have HS2 := Lib.hid (HC2.out.step hC hg)
  clear hC hg HC2 hm
  go_wp2_with fail
  go_loopw [7, 8, 9] (fun v1 v2 i wr => ∃ (j q g1 c1 g2 c2 : Nat) (ds fs : List Int), j + q = m ∧ i = .int .i64 q ∧ v1 = .slice (some ⟨g1, 0, none⟩) j c1 ∧ v2 = .slice (some ⟨g2, 0, none⟩) j c2 ∧ C3 W0 w.heap.size w.heap.size (0 + 80 + 1 + 2 * j) A n cap zs v L ts g1 j c1 ds g2 j c2 fs wr) (fun _ _ i _ => (intOf i).toNat)
  case atStart => exact ⟨0, m, _, _, _, _, _, _, by omega, rfl, rfl, rfl, HS2.out⟩
  case round =>
    obtain ⟨j, q, g1, c1, g2, c2, ds, fs, hjq, rfl, rfl, rfl, hS⟩ := hrel
    have HC := Lib.hid hS
    clear hS HS2
    by_cases hq : 0 < q
    · have hqd : decide ((0 : Int) < (q : Int)) = true := by simp; omega
      have hqd2 : decide (0 < q) = true := by simp; omega
      go_wp2_with fail
      refine (among_new w.heap.size w.heap.size (0 + 80 + 1 + 2 * j) A n cap zs wr 4 _ [0, 101, 150, 999] (by omega) HC.out.1.1 rfl (by decide) (by decide)).mono ?_
      rintro e w3 ⟨x3, -, rfl, hC, hg⟩
      have Hw3 := Lib.hid (HC.out.step hC hg)
      clear hC hg HC
      have hsz := Hw3.out.1.2.1.size
      go_wp2_with (at_builtin; refine wpList_append_lies _ rfl _ _ 32 rfl W0.heap.size 3 i0 (.int .i64 0) 1 8 Try.underlying32 hi hz0 hz1 hz2 rfl (by decide) _ _ _ rfl (Hw3.out.2.1.1.alloc _) ⟨w3.heap.size, 0, none⟩ 1 1 [.int .i64 (x3)] rfl rfl (World.news_of_block (alloc_at rfl)) (by simp [Value.oneCell']) (by decide) (by unfold maxLen; omega) (by omega) (by simp; omega) _ rfl ?_; intro g4 c4 w4 hown' hgrow hat _)
      have HC4 := Lib.hid ((Hw3.out.alloc _).app1 hown' hgrow hat rfl)
      clear hown' hgrow hat hsz Hw3
      go_wp2_with fail
      refine (among_new w.heap.size w.heap.size (0 + 80 + 1 + 2 * j + 1) A n cap zs w4 3 _ [0, 899, 3599] (by omega) HC4.out.1.1 rfl (by decide) (by decide)).mono ?_
      rintro e w5 ⟨x5, -, rfl, hC, hg⟩
      have Hw5 := Lib.hid (HC4.out.step hC hg)
      clear hC hg HC4
      have hsz := Hw5.out.1.2.1.size
      go_wp2_with (at_builtin; refine wpList_append_lies _ rfl _ _ 32 rfl W0.heap.size 3 i0 (.int .i64 0) 1 8 Try.underlying32 hi hz0 hz1 hz2 rfl (by decide) _ _ _ rfl (Hw5.out.2.2.1.1.alloc _) ⟨w5.heap.size, 0, none⟩ 1 1 [.int .i64 (x5)] rfl rfl (World.news_of_block (alloc_at rfl)) (by simp [Value.oneCell']) (by decide) (by unfold maxLen; omega) (by omega) (by simp; omega) _ rfl ?_; intro g6 c6 w6 hown' hgrow hat _)
      have HC6 := Lib.hid ((Hw5.out.alloc _).app2 hown' hgrow hat rfl)
      clear hown' hgrow hat hsz Hw5
      go_wp2_with fail
      go_roundw
      case rel => exact ⟨j + 1, q - 1, _, _, _, _, _, _, by omega, by first | go_num | (congr 1; omega), rfl, rfl, HC6.out.more (by omega)⟩
      case measure => simp [intOf]; omega
    · obtain rfl : q = 0 := by omega
      have hqd : decide ((0 : Int) < ((0 : Nat) : Int)) = false := by simp
      go_wp2_with fail
      refine (pick_any w.heap.size w.heap.size (0 + 80 + 1 + 2 * j) A n cap zs _ 16 (by omega) HC.out.1.1 (by decide) (by decide)).mono ?_
      rintro e w8 ⟨s, rfl, hs, hC, hg⟩
      have Hw8 := Lib.hid (HC.out.step hC hg)
      clear hC hg HC hs hqd
      by_cases q0 : s = 0
      · subst q0
        go_wp2_with fail
        refine (day11_any w.heap.size w.heap.size (0 + 80 + 1 + 2 * j + 1) A n cap zs _ (by omega) (Lib.hid Hw8.out.1.1)).mono ?_
        rintro e w9 ⟨x9, rfl, hC, hg⟩
        have Hw9 := Lib.hid (Hw8.out.step hC hg)
        clear hC hg Hw8
        have hsz := Hw9.out.1.2.1.size
        go_wp2_with (at_builtin; refine wpList_append_lies _ rfl _ _ 32 rfl W0.heap.size 3 i0 (.int .i64 0) 1 8 Try.underlying32 hi hz0 hz1 hz2 rfl (by decide) _ _ _ rfl (Hw9.out.2.1.1.alloc _) ⟨w9.heap.size, 0, none⟩ 1 1 [.int .i64 (x9)] rfl rfl (World.news_of_block (alloc_at rfl)) (by simp [Value.oneCell']) (by decide) (by unfold maxLen; omega) (by omega) (by simp; omega) _ rfl ?_; intro g10 c10 w10 hown' hgrow hat _)
        have HC10 := Lib.hid ((Hw9.out.alloc _).app1 hown' hgrow hat rfl)
        clear hown' hgrow hat hsz Hw9
        have HRR := Lib.hid (own_base (base' := w.heap.size) (by omega) HC10.out.1.2.2.1)
        have HR1 := Lib.hid (show RI w.heap.size _ _ _ _ _ from ⟨own_base (base' := w.heap.size) (by omega) HC10.out.2.1.1, HC10.out.2.1.2⟩)
        have HR2 := Lib.hid (show RI w.heap.size _ _ _ _ _ from ⟨own_base (base' := w.heap.size) (by omega) HC10.out.2.2.1.1, HC10.out.2.2.1.2⟩)
        have HBL := Lib.hid (HLW.out _ HC10.out.1.2.1)
        go_wp2_with fail
        go_ret3
        exact ⟨v, L, ts, _, _, _, _, _, _, _, _, rfl, HRR.out, HC10.out.1.2.2.2.1, hl, by omega, by omega, HR1.out, HR2.out, HBL.out⟩
      have q0' : ((s : Int) == 0) = false := by rw [beq_eq_false_iff_ne]; omega
      by_cases q1 : s = 1
      · subst q1
        go_wp2_with fail
        refine (day11_any w.heap.size w.heap.size (0 + 80 + 1 + 2 * j + 1) A n cap zs _ (by omega) (Lib.hid Hw8.out.1.1)).mono ?_
        rintro e w9 ⟨x9, rfl, hC, hg⟩
        have Hw9 := Lib.hid (Hw8.out.step hC hg)
        clear hC hg Hw8
        have hsz := Hw9.out.1.2.1.size
        go_wp2_with (at_builtin; refine wpList_append_lies _ rfl _ _ 32 rfl W0.heap.size 3 i0 (.int .i64 0) 1 8 Try.underlying32 hi hz0 hz1 hz2 rfl (by decide) _ _ _ rfl (Hw9.out.2.1.1.alloc _) ⟨w9.heap.size, 0, none⟩ 1 1 [.int .i64 (x9)] rfl rfl (World.news_of_block (alloc_at rfl)) (by simp [Value.oneCell']) (by decide) (by unfold maxLen; omega) (by omega) (by simp; omega) _ rfl ?_; intro g10 c10 w10 hown' hgrow hat _)
        have HC10 := Lib.hid ((Hw9.out.alloc _).app1 hown' hgrow hat rfl)
        clear hown' hgrow hat hsz Hw9
        go_wp2_with fail
        refine (fine_any w.heap.size w.heap.size (0 + 80 + 1 + 2 * j + 1 + 3) A n cap zs _ (by omega) (Lib.hid HC10.out.1.1)).mono ?_
        rintro e w11 ⟨x11, rfl, hC, hg⟩
        have Hw11 := Lib.hid (HC10.out.step hC hg)
        clear hC hg HC10
        have hsz := Hw11.out.1.2.1.size
        go_wp2_with (at_builtin; refine wpList_append_lies _ rfl _ _ 32 rfl W0.heap.size 3 i0 (.int .i64 0) 1 8 Try.underlying32 hi hz0 hz1 hz2 rfl (by decide) _ _ _ rfl (Hw11.out.2.2.1.1.alloc _) ⟨w11.heap.size, 0, none⟩ 1 1 [.int .i64 (x11)] rfl rfl (World.news_of_block (alloc_at rfl)) (by simp [Value.oneCell']) (by decide) (by unfold maxLen; omega) (by omega) (by simp; omega) _ rfl ?_; intro g12 c12 w12 hown' hgrow hat _)
        have HC12 := Lib.hid ((Hw11.out.alloc _).app2 hown' hgrow hat rfl)
        clear hown' hgrow hat hsz Hw11
        have HRR := Lib.hid (own_base (base' := w.heap.size) (by omega) HC12.out.1.2.2.1)
        have HR1 := Lib.hid (show RI w.heap.size _ _ _ _ _ from ⟨own_base (base' := w.heap.size) (by omega) HC12.out.2.1.1, HC12.out.2.1.2⟩)
        have HR2 := Lib.hid (show RI w.heap.size _ _ _ _ _ from ⟨own_base (base' := w.heap.size) (by omega) HC12.out.2.2.1.1, HC12.out.2.2.1.2⟩)
        have HBL := Lib.hid (HLW.out _ HC12.out.1.2.1)
        go_wp2_with fail
        go_ret3
        exact ⟨v, L, ts, _, _, _, _, _, _, _, _, rfl, HRR.out, HC12.out.1.2.2.2.1, hl, by omega, by omega, HR1.out, HR2.out, HBL.out⟩
      have q1' : ((s : Int) == 1) = false := by rw [beq_eq_false_iff_ne]; omega
      by_cases q2 : s = 2
      · subst q2
        have HD := Lib.hid (Hw8.out.more (show 0 + 80 + 1 + 2 * j + 1 ≤ 0 + 120 + j by omega))
        clear Hw8
        go_wp2_with fail
        go_loopw [7, 8] (fun v1 v2 wr => ∃ (p g1 c1 g2 c2 : Nat) (ds fs : List Int), p ≤ 21 ∧ v1 = .slice (some ⟨g1, 0, none⟩) p c1 ∧ v2 = .slice (some ⟨g2, 0, none⟩) p c2 ∧ C3 W0 w.heap.size w.heap.size (0 + 120 + p) A n cap zs v L ts g1 p c1 ds g2 p c2 fs wr) (fun v1 _ _ => 22 - lenV v1)
        case atStart => exact ⟨j, _, _, _, _, _, _, by omega, rfl, rfl, HD.out⟩
        case round =>
          obtain ⟨p, g1, c1, g2, c2, ds, fs, hp, rfl, rfl, hS⟩ := hrel
          have HE := Lib.hid hS
          clear hS HD
          go_wp2_with fail
          refine (pick_any w.heap.size w.heap.size (0 + 120 + p) A n cap zs _ 2 (by omega) HE.out.1.1 (by decide) (by decide)).mono ?_
          rintro e w9 ⟨r9, rfl, hr9, hC, hg⟩
          have hr1 : r9 ≤ 1 := by omega
          have HE9 := Lib.hid (HE.out.step hC hg)
          clear hC hg hr9 HE
          by_cases hlt : p < 20 + r9
          · have hd1 : decide ((p : Int) < 20 + (r9 : Int)) = true := by simp; omega
            have hsz := HE9.out.1.2.1.size
            go_wp2_with (at_builtin; first | (refine wpList_append_lies _ rfl _ _ 32 rfl W0.heap.size 3 i0 (.int .i64 0) 1 8 Try.underlying32 hi hz0 hz1 hz2 rfl (by decide) _ _ _ rfl (HE9.out.2.1.1.alloc _) ⟨w9.heap.size, 0, none⟩ 1 1 [.int .i64 7] rfl rfl (World.news_of_block (alloc_at rfl)) (by simp [Value.oneCell']) (by decide) (by unfold maxLen; omega) (by omega) (by simp; omega) _ rfl ?_; intro g10 c10 w10 hown' hgrow hat _; have HC10 := Lib.hid ((HE9.out.alloc _).app1 hown' hgrow hat rfl); have hsz2 := HC10.out.1.2.1.size; clear hown' hgrow hat HE9) | (refine wpList_append_lies _ rfl _ _ 32 rfl W0.heap.size 3 i0 (.int .i64 0) 1 8 Try.underlying32 hi hz0 hz1 hz2 rfl (by decide) _ _ _ rfl (HC10.out.2.2.1.1.alloc _) ⟨w10.heap.size, 0, none⟩ 1 1 [.int .i64 7] rfl rfl (World.news_of_block (alloc_at rfl)) (by simp [Value.oneCell']) (by decide) (by unfold maxLen; omega) (by omega) (by simp; omega) _ rfl ?_; intro g12 c12 w12 hown' hgrow hat _; have HC12 := Lib.hid ((HC10.out.alloc _).app2 hown' hgrow hat rfl); clear hown' hgrow hat HC10))
            go_roundw
            case rel => exact ⟨p + 1, _, _, _, _, _, _, by omega, rfl, rfl, HC12.out.more (by omega)⟩
            case measure => simp [lenV]; omega
          · have hd1 : decide ((p : Int) < 20 + (r9 : Int)) = false := by simp; omega
            have HRR := Lib.hid (own_base (base' := w.heap.size) (by omega) HE9.out.1.2.2.1)
            have HR1 := Lib.hid (show RI w.heap.size _ _ _ _ _ from ⟨own_base (base' := w.heap.size) (by omega) HE9.out.2.1.1, HE9.out.2.1.2⟩)
            have HR2 := Lib.hid (show RI w.heap.size _ _ _ _ _ from ⟨own_base (base' := w.heap.size) (by omega) HE9.out.2.2.1.1, HE9.out.2.2.1.2⟩)
            have HBL := Lib.hid (HLW.out _ HE9.out.1.2.1)
            go_wp2_with fail
            go_ret3
            exact ⟨v, L, ts, _, _, _, _, _, _, _, _, rfl, HRR.out, HE9.out.1.2.2.2.1, hl, by omega, by omega, HR1.out, HR2.out, HBL.out⟩
      have q2' : ((s : Int) == 2) = false := by rw [beq_eq_false_iff_ne]; omega
      have HRR := Lib.hid (own_base (base' := w.heap.size) (by omega) Hw8.out.1.2.2.1)
      have HR1 := Lib.hid (show RI w.heap.size _ _ _ _ _ from ⟨own_base (base' := w.heap.size) (by omega) Hw8.out.2.1.1, Hw8.out.2.1.2⟩)
      have HR2 := Lib.hid (show RI w.heap.size _ _ _ _ _ from ⟨own_base (base' := w.heap.size) (by omega) Hw8.out.2.2.1.1, Hw8.out.2.2.1.2⟩)
      have HBL := Lib.hid (HLW.out _ Hw8.out.1.2.1)
      go_wp2_with fail
      go_ret3
      exact ⟨v, L, ts, _, _, _, _, _, _, _, _, rfl, HRR.out, Hw8.out.1.2.2.2.1, hl, by omega, by omega, HR1.out, HR2.out, HBL.out⟩
end Go.Proofs.Ytiimegmaokfpgaa.drp
