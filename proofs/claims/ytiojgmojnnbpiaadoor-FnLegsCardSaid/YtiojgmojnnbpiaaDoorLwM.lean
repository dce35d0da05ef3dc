/-
  ParseLeg: what both walks share, and the walk of the model.
  ParseLeg: the walk of the model.
  The program's numbers of some texts (parseInts).
  ParseLeg: the walk of the program.
  The length of three parts: what an answer is.
  The program's length of three parts.
  Small helpers of the laws: a great code, the distance of two numbers.
  What FnLegs asks of the answers, in numbers: the shift of the reverse, its length, legs that agree, texts.
  The drawn legs and texts of FnLegs.
  FnLegs: the drawn pairs of legs.
  FnLegs: the forms of the answers, and what is live all along.
  Conditions: those that each theorem names.
-/
import Derived.Test.YtiojgmojnnbpiaaDoorLgX
import Derived.Deep.DeepCutAuto
import Derived.Test.YtiojgmojnnbpiaaDoorParC
import Derived.Test.YtiojgmojnnbpiaaDoorRowI
import Derived.Test.YtiojgmojnnbpiaaDoorLgU
import Derived.Deep.RegionHeld3
import Derived.Deep.RegionWith
import Derived.Deep.QuietTactic
import Derived.BigQuiet
import Derived.Test.YtiojgmojnnbpiaaDoorBase
import Derived.Test.YtiojgmojnnbpiaaDoorSinI
import Derived.LoopTactic
import Derived.Test.YtiojgmojnnbpiaaDoorLgD
import Derived.Test.YtiojgmojnnbpiaaDoorLgC
import Derived.Test.YtiojgmojnnbpiaaDoorDrA
import Derived.Test.YtiojgmojnnbpiaaDoorLgT
import Derived.Test.YtiojgmojnnbpiaaDoorLgR
import Derived.Test.YtiojgmojnnbpiaaDoorLgE
import Derived.Test.YtiojgmojnnbpiaaDoorLgM
import Derived.Test.YtiojgmojnnbpiaaDoorLgL
namespace Go.Proofs.YtiojgmojnnbpiaaDoor.lgy
open Go.RowKit
open reads base ty lg pow txt strmath iterc readc lgx
set_option linter.unusedVariables false
set_option linter.unusedSimpArgs false

theorem mem_len (c : UInt8) : ∀ (l p : List UInt8), p ∈ strmath.pieces c l → p.length ≤ l.length
  | [], p, h => by simp [strmath.pieces] at h; simp [h]
  | x :: l, p, h => by
    rw [strmath.pieces] at h
    split at h
    · rcases List.mem_cons.1 h with rfl | h
      · simp
      · have := mem_len c l p h; simp; omega
    · cases q : strmath.pieces c l with
      | nil => exact absurd q (strmath.pieces_ne c l)
      | cons a r =>
        rw [q] at h
        simp only at h
        rcases List.mem_cons.1 h with rfl | h
        · have := mem_len c l a (by rw [q]; simp); simp; omega
        · have := mem_len c l p (by rw [q]; simp [h]); simp; omega
theorem pcs_mem (c : UInt8) (s t : ByteArray) (h : t ∈ pcs c s.data.toList) : t.size ≤ s.size := by
  unfold pcs at h
  rw [List.mem_map] at h
  obtain ⟨p, hp, rfl⟩ := h
  have := mem_len c _ p hp
  have e : s.data.toList.length = s.size := rfl
  show p.toArray.size ≤ _
  simp; omega
theorem read_rv (t : ByteArray) (v : Int) (hv : Hid (RV t v)) (w : World) (hs : t.size ≤ 1048576) : Calls Tryd.prog 58 #[.string t] w fun e w' => ∃ ok, e = .returned (.tuple #[.int .i64 v, .bool ok]) ∧ Below w.heap.size w w' := by
  refine (read_any t w hs).mono ?_
  rintro e w' ⟨h, m, rfl⟩
  rcases h with ⟨n, hn, rfl⟩ | ⟨hn, rfl⟩
  · rcases hv.out with k | ⟨k, -⟩
    · rw [isNum_one hn k]; exact ⟨true, rfl, drewN_below w m⟩
    · exact absurd hn (k n)
  · rcases hv.out with k | ⟨-, k⟩
    · exact absurd k (hn v)
    · rw [k]; exact ⟨false, rfl, drewN_below w m⟩
/-- the slope that a word tells, as the model reads it -/
def SL (t : ByteArray) (v : Int) : Prop := ∃ b r, t.data.toList = b :: r ∧ ((b.toNat = 45 ∧ ∃ t' v', t'.data.toList = r ∧ RV t' v' ∧ v = -v') ∨ (b.toNat ≠ 45 ∧ RV t v))
theorem sl_num {t : ByteArray} {n v : Int} (h : SL t v) (e : t = num n) (h0 : -999999 ≤ n) (h1 : n ≤ 999999) : v = n := by
  subst e
  obtain ⟨b, r, hl, h⟩ := h
  by_cases hn : n < 0
  · have hs := slope_neg hn
    rw [hl] at hs
    injection hs with hb hr
    rcases h with ⟨-, t', v', e, hv, rfl⟩ | ⟨hne, -⟩
    · have et : t' = num (-n) := by
        have : t'.data.toList = (num (-n)).data.toList := by rw [e, hr]
        exact ByteArray.ext (Array.toList_inj.1 this)
      have := rv_num hv et (by omega) (by omega)
      omega
    · exact absurd (by rw [hb]; rfl) hne
  · obtain ⟨b', r', e, hb'⟩ := slope_pos (n := n) (by omega)
    rw [hl] at e
    injection e with hb hr
    rcases h with ⟨hb2, -⟩ | ⟨-, hv⟩
    · exact absurd (by rw [← hb]; exact hb2) hb'
    · exact rv_num hv rfl h0 h1
/-- the words of a leg's text tell the leg -/
theorem told {s u0 u1 u2 u3 u4 u5 u6 u7 e0 e1 : ByteArray} {v0 v1 v2 v3 v4 : Int} {y : Lg} (hw : pcs 32 s.data.toList = [u0, u1, u2, u3, u4, u5, u6, u7]) (he : pcs 45 u1.data.toList = [e0, e1])
    (r0 : RV e0 v0) (r1 : RV e1 v1) (r2 : RV u3 v2) (r3 : RV u5 v3) (r4 : SL u7 v4) (hy : IsLT s y) : (⟨v0, v1, v2, v3, v4⟩ : Lg) = y := by
  obtain ⟨⟨a0, a1⟩, ⟨a2, a3⟩, -, ⟨a4, a5⟩, ⟨a6, a7⟩, a8, a9⟩ := okLg_lim hy.1
  have k := ltx_words y hy.1
  rw [hy.2, hw] at k
  simp only [List.cons.injEq, and_true] at k
  obtain ⟨-, k1, -, k3, -, k5, -, k7⟩ := k
  have e := ltx_ends y hy.1
  rw [← k1, he] at e
  simp only [List.cons.injEq, and_true] at e
  have g0 := rv_num r0 e.1 (by omega) (by omega)
  have g1 := rv_num r1 e.2 (by omega) (by omega)
  have g2 := rv_num r2 k3 (by omega) (by omega)
  have g3 := rv_num r3 k5 (by omega) (by omega)
  have g4 := sl_num r4 k7 (by omega) (by omega)
  cases y
  simp only at g0 g1 g2 g3 g4
  subst g0 g1 g2 g3 g4
  rfl
/-- the answer in the making -/
def RB (w v : World) : Prop := Blk v w.heap.size 41 #[.int .i64 0, .int .i64 0, .int .i64 0, .int .i64 0, .int .i64 0] ∧ Below w.heap.size w v
theorem RB.start (w : World) : RB w (w.alloc (.cells #[.int .i64 0, .int .i64 0, .int .i64 0, .int .i64 0, .int .i64 0] 41)) := ⟨Blk.new w _ _, (Below.refl _ _).alloc (Nat.le_refl _) _⟩
theorem RB.step {w v v' : World} (h : RB w v) (hb : Below v.heap.size v v') : RB w v' := ⟨h.1.below hb h.1.lt, h.2.trans (hb.mono h.2.size)⟩
theorem RB.zs {w v : World} (h : RB w v) : v.cell? ⟨w.heap.size, 0, none⟩ = some (.int .i64 0) ∧ v.cell? ⟨w.heap.size, 1, none⟩ = some (.int .i64 0) ∧ v.cell? ⟨w.heap.size, 2, none⟩ = some (.int .i64 0) ∧ v.cell? ⟨w.heap.size, 3, none⟩ = some (.int .i64 0) ∧ v.cell? ⟨w.heap.size, 4, none⟩ = some (.int .i64 0) ∧ v.frozen? ⟨w.heap.size, 0, none⟩ = false ∧ v.frozen? ⟨w.heap.size, 1, none⟩ = false ∧ v.frozen? ⟨w.heap.size, 2, none⟩ = false ∧ v.frozen? ⟨w.heap.size, 3, none⟩ = false ∧ v.frozen? ⟨w.heap.size, 4, none⟩ = false ∧ w.heap.size < v.heap.size := ⟨h.1.cell 0, h.1.cell 1, h.1.cell 2, h.1.cell 3, h.1.cell 4, h.1.frozen 0, h.1.frozen 1, h.1.frozen 2, h.1.frozen 3, h.1.frozen 4, h.1.lt⟩
theorem RB.put {w v : World} (h : RB w v) (a b c d e : Value) : Below w.heap.size w (((((v.setCell ⟨w.heap.size, 0, none⟩ a).setCell ⟨w.heap.size, 1, none⟩ b).setCell ⟨w.heap.size, 2, none⟩ c).setCell ⟨w.heap.size, 3, none⟩ d).setCell ⟨w.heap.size, 4, none⟩ e) :=
  ((((h.2.setCell (Nat.le_refl _) _).setCell (Nat.le_refl _) _).setCell (Nat.le_refl _) _).setCell (Nat.le_refl _) _).setCell (Nat.le_refl _) _
/-- the answer, the words, the ends and a leg in the making -/
def PS (w : World) (g e X : Nat) (us es : List ByteArray) (x : Lg) (v : World) : Prop :=
  RB w v ∧ (∀ k u, us[k]? = some u → v.cell? ⟨g, k, none⟩ = some (.string u)) ∧ (∀ k u, es[k]? = some u → v.cell? ⟨e, k, none⟩ = some (.string u)) ∧ Blk v X 41 #[.int .i64 x.frm, .int .i64 x.to_, .int .i64 x.tape, .int .i64 x.comp, .int .i64 x.slope] ∧ w.heap.size < X ∧ g < X ∧ e < X
section
variable {w v v' : World} {g e X : Nat} {us es : List ByteArray} {x : Lg}
theorem PS.step (h : PS w g e X us es x v) (hb : Below v.heap.size v v') : PS w g e X us es x v' := by
  obtain ⟨h1, h2, h3, h4, h5, h6, h7⟩ := h
  have l := h4.lt
  exact ⟨h1.step hb, fun k u q => (hb.cell (p := ⟨g, k, none⟩) (by show g < _; omega)).trans (h2 k u q), fun k u q => (hb.cell (p := ⟨e, k, none⟩) (by show e < _; omega)).trans (h3 k u q), h4.below hb l, h5, h6, h7⟩
theorem PS.put (h : PS w g e X us es x v) (j : Nat) (y : Value) (x' : Lg) (q : (#[.int .i64 x.frm, .int .i64 x.to_, .int .i64 x.tape, .int .i64 x.comp, .int .i64 x.slope] : Array Value).setIfInBounds j y = #[.int .i64 x'.frm, .int .i64 x'.to_, .int .i64 x'.tape, .int .i64 x'.comp, .int .i64 x'.slope]) : PS w g e X us es x' (v.setCell ⟨X, j, none⟩ y) := by
  obtain ⟨h1, h2, h3, h4, h5, h6, h7⟩ := h
  refine ⟨⟨h1.1.far (by show w.heap.size ≠ X; omega) _, h1.2.setCell (by show w.heap.size ≤ X; omega) _⟩, fun k u r => (World.cell?_setCell_other v _ _ y (by intro c; injection c with c; omega)).trans (h2 k u r), fun k u r => (World.cell?_setCell_other v _ _ y (by intro c; injection c with c; omega)).trans (h3 k u r), ?_, h5, h6, h7⟩
  rw [← q]; exact h4.set_ j _
theorem PS.fx (h : PS w g e X us es x v) : ∀ o, v.frozen? ⟨X, o, none⟩ = false := fun o => h.2.2.2.1.frozen o
theorem PS.cx (h : PS w g e X us es x v) : v.cell? ⟨X, 0, none⟩ = some (.int .i64 x.frm) ∧ v.cell? ⟨X, 1, none⟩ = some (.int .i64 x.to_) ∧ v.cell? ⟨X, 2, none⟩ = some (.int .i64 x.tape) ∧ v.cell? ⟨X, 3, none⟩ = some (.int .i64 x.comp) ∧ v.cell? ⟨X, 4, none⟩ = some (.int .i64 x.slope) ∧ X < v.heap.size := ⟨h.2.2.2.1.cell 0, h.2.2.2.1.cell 1, h.2.2.2.1.cell 2, h.2.2.2.1.cell 3, h.2.2.2.1.cell 4, h.2.2.2.1.lt⟩
end
end Go.Proofs.YtiojgmojnnbpiaaDoor.lgy

namespace Go.Proofs.YtiojgmojnnbpiaaDoor.lgy
open Go.RowKit
open reads base ty lg pow txt strmath iterc readc lgx
set_option linter.unusedVariables false
set_option linter.unusedSimpArgs false

theorem cells_of {w : World} {base n c : Nat} {A : Option Addr} {ps : List ByteArray} (h : w.ownsRow base 9 1 (.slice A n c) n (strs ps)) (hn : 0 < n) (hl : ps.length = n) : ∃ g, A = some ⟨g, 0, none⟩ ∧ g < w.heap.size ∧ ∀ k u, ps[k]? = some u → w.cell? ⟨g, k, none⟩ = some (.string u) := by
  obtain ⟨g, cap, hv, hb, hlt⟩ := h.form hn
  injection hv with hA _ hc
  subst hA hc
  refine ⟨g, rfl, hlt, fun k u hk => ?_⟩
  have hkn : k < n := by have := (List.getElem?_eq_some_iff.1 hk).1; omega
  rw [h.cellAt k (by omega)]
  simp [strs, hk]
theorem num_ne (n : Int) : num n ≠ ⟨#[]⟩ := fun h => by
  by_cases hn : n < 0
  · have := slope_neg hn; rw [h] at this; simp at this
  · obtain ⟨b, r, e, -⟩ := slope_pos (n := n) (by omega); rw [h] at e; simp at e
theorem eight {α : Type} {l : List α} (h : l.length = 8) : ∃ a b c d e f g i, l = [a, b, c, d, e, f, g, i] := by
  match l, h with
  | [a, b, c, d, e, f, g, i], _ => exact ⟨a, b, c, d, e, f, g, i, rfl⟩
theorem two_of {α : Type} {l : List α} (h : l.length = 2) : ∃ a b, l = [a, b] := by
  match l, h with
  | [a, b], _ => exact ⟨a, b, rfl⟩
set_option maxHeartbeats 4000000 in
set_option maxRecDepth 100000 in
theorem parse_model (s : ByteArray) (r : Lg × Bool) (w : World) (hs : s.size ≤ 1048576) (hr : Hid (PL s r)) : Calls Tryd.prog 29 #[.string s] w (APost (plV r) w) := by
  have HB0 := Lib.hid (RB.start w)
  go_enter Tryd.func29, Tryd.ntmps29
  go_wp2_with fail
  refine (splitb.l1Split_any s 32 hs _).mono ?_
  rintro e w1 ⟨v, rfl, hown, b⟩
  have HB1 := Lib.hid (HB0.out.step b)
  obtain ⟨N, hN⟩ : ∃ N, (pcs 32 s.data.toList).length = N := ⟨_, rfl⟩
  rw [hN] at hown
  obtain ⟨WA, wc, rfl⟩ := row_slice hown
  have HO := Lib.hid hown
  have HN := Lib.hid hN
  clear b hown hN HB0
  by_cases h60 : 60 < s.size
  · have d60 : decide ((60 : Int) < (s.size : Int)) = true := by simp; omega
    have d60' : decide (60 < s.size) = true := by simpa using h60
    have HNO := Lib.hid (pl_no hr.out (fun x hx => by have := ltx_size x hx.1; rw [hx.2] at this; omega))
    obtain ⟨z0, z1, z2, z3, z4, f0, f1, f2, f3, f4, hz⟩ := HB1.out.zs
    go_wp2_with fail
    refine bodyPost_ret (v := .tuple #[.agg #[.int .i64 0, .int .i64 0, .int .i64 0, .int .i64 0, .int .i64 0], .bool false]) (by simp [results, Tryd.results29, go_sem, *]) rfl ⟨by rw [HNO.out]; rfl, ?_⟩
    exact HB1.out.put _ _ _ _ _
  have d60 : decide ((60 : Int) < (s.size : Int)) = false := by simp; omega
  have d60' : decide (60 < s.size) = false := by simpa using h60
  by_cases h8 : ¬ N = 8
  · have d8 : ((N : Int) != 8) = true := by simp; omega
    have d8' : (N != 8) = true := by simpa using h8
    have HNO := Lib.hid (pl_no hr.out (fun x hx => h8 (by have k := ltx_words x hx.1; rw [hx.2] at k; have := HN.out; rw [k] at this; simpa using this.symm)))
    obtain ⟨z0, z1, z2, z3, z4, f0, f1, f2, f3, f4, hz⟩ := HB1.out.zs
    go_wp2_with fail
    refine bodyPost_ret (v := .tuple #[.agg #[.int .i64 0, .int .i64 0, .int .i64 0, .int .i64 0, .int .i64 0], .bool false]) (by simp [results, Tryd.results29, go_sem, *]) rfl ⟨by rw [HNO.out]; rfl, ?_⟩
    exact HB1.out.put _ _ _ _ _
  have h8 : N = 8 := by omega
  subst h8
  obtain ⟨u0, u1, u2, u3, u4, u5, u6, u7, hw⟩ := eight HN.out
  have HW := Lib.hid hw
  have hrow := HO.out
  rw [hw] at hrow
  obtain ⟨g, rfl, hgl, hcells⟩ := cells_of hrow (by decide) rfl
  have HCE := Lib.hid hcells
  have c7 := hcells 7 u7 rfl
  have HM := Lib.hid (show ∀ t ∈ pcs 32 s.data.toList, t.size ≤ 60 from fun t ht => by have := pcs_mem 32 s t ht; omega)
  clear hrow hcells hw HO
  by_cases h7 : u7.size = 0
  · obtain rfl : u7 = ⟨#[]⟩ := by
      have : u7.data = #[] := Array.eq_empty_of_size_eq_zero h7
      exact ByteArray.ext this
    have HNO := Lib.hid (pl_no hr.out (fun x hx => by have k := ltx_words x hx.1; rw [hx.2, HW.out] at k; simp only [List.cons.injEq, and_true] at k; have e := k.2.2.2.2.2.2.2; exact num_ne _ e.symm))
    obtain ⟨z0, z1, z2, z3, z4, f0, f1, f2, f3, f4, hz⟩ := HB1.out.zs
    go_wp2_with fail
    refine bodyPost_ret (v := .tuple #[.agg #[.int .i64 0, .int .i64 0, .int .i64 0, .int .i64 0, .int .i64 0], .bool false]) (by simp [results, Tryd.results29, go_sem, *]) rfl ⟨by rw [HNO.out]; rfl, ?_⟩
    exact HB1.out.put _ _ _ _ _
  have hne7 : u7.data.toList ≠ [] := fun c => h7 (by have := congrArg List.length c; simpa using this)
  have e7 : (u7.toList == ByteArray.toList ⟨#[]⟩) = false := by rw [ByteArray.toList_eq, ByteArray.toList_eq]; simpa using hne7
  have e7' : (u7.toList == []) = false := by rw [ByteArray.toList_eq]; simpa using hne7
  have H7 := Lib.hid h7
  obtain ⟨z0, z1, z2, z3, z4, f0, f1, f2, f3, f4, hz⟩ := HB1.out.zs
  have c1 := HCE.out 1 u1 rfl
  have hm1 : u1.size ≤ 60 := HM.out u1 (by rw [HW.out]; simp)
  have hm3 : u3.size ≤ 60 := HM.out u3 (by rw [HW.out]; simp)
  have hm5 : u5.size ≤ 60 := HM.out u5 (by rw [HW.out]; simp)
  have hm7 : u7.size ≤ 60 := HM.out u7 (by rw [HW.out]; simp)
  clear h7 hne7 HM
  go_wp2_with fail
  refine (splitb.l1Split_any u1 45 (by omega) _).mono ?_
  rintro e w2 ⟨v, rfl, hown, b⟩
  have HB2 := Lib.hid (HB1.out.step b)
  have HC2 := Lib.hid (show ∀ k u, [u0, u1, u2, u3, u4, u5, u6, u7][k]? = some u → w2.cell? ⟨g, k, none⟩ = some (.string u) from fun k u q => (b.cell (p := ⟨g, k, none⟩) hgl).trans (HCE.out k u q))
  have hgl2 : g < w2.heap.size := Nat.lt_of_lt_of_le hgl b.size
  obtain ⟨M, hM⟩ : ∃ M, (pcs 45 u1.data.toList).length = M := ⟨_, rfl⟩
  rw [hM] at hown
  obtain ⟨EA, ec, rfl⟩ := row_slice hown
  have HO := Lib.hid hown
  have HMM := Lib.hid hM
  clear b hown hM HB1 HCE c7 c1 z0 z1 z2 z3 z4 f0 f1 f2 f3 f4 hz e7 e7'
  by_cases h2 : ¬ M = 2
  · have d2 : ((M : Int) != 2) = true := by simp; omega
    have d2' : (M != 2) = true := by simpa using h2
    have HNO := Lib.hid (pl_no hr.out (fun x hx => h2 (by have k := ltx_words x hx.1; rw [hx.2, HW.out] at k; simp only [List.cons.injEq, and_true] at k; have e := ltx_ends x hx.1; rw [← k.2.1] at e; have := HMM.out; rw [e] at this; simpa using this.symm)))
    obtain ⟨z0, z1, z2, z3, z4, f0, f1, f2, f3, f4, hz⟩ := HB2.out.zs
    go_wp2_with fail
    refine bodyPost_ret (v := .tuple #[.agg #[.int .i64 0, .int .i64 0, .int .i64 0, .int .i64 0, .int .i64 0], .bool false]) (by simp [results, Tryd.results29, go_sem, *]) rfl ⟨by rw [HNO.out]; rfl, ?_⟩
    exact HB2.out.put _ _ _ _ _
  have h2 : M = 2 := by omega
  subst h2
  obtain ⟨e0, e1, he⟩ := two_of HMM.out
  have HE := Lib.hid he
  have hrow := HO.out
  rw [he] at hrow
  obtain ⟨ge, rfl, hel, hce⟩ := cells_of hrow (by decide) rfl
  have HCX := Lib.hid hce
  have hs0 : e0.size ≤ 60 := by have := pcs_mem 45 u1 e0 (by rw [he]; simp); omega
  have hs1 : e1.size ≤ 60 := by have := pcs_mem 45 u1 e1 (by rw [he]; simp); omega
  clear hrow hce he HO
  obtain ⟨v0, hv0⟩ := rv_ex e0
  obtain ⟨v1, hv1⟩ := rv_ex e1
  obtain ⟨v2, hv2⟩ := rv_ex u3
  obtain ⟨v3, hv3⟩ := rv_ex u5
  have V0 := Lib.hid hv0
  have V1 := Lib.hid hv1
  have V2 := Lib.hid hv2
  have V3 := Lib.hid hv3
  clear hv0 hv1 hv2 hv3
  have HP0 := Lib.hid (show PS w g ge w2.heap.size [u0, u1, u2, u3, u4, u5, u6, u7] [e0, e1] ⟨0, 0, 0, 0, 0⟩ (w2.alloc (.cells #[.int .i64 0, .int .i64 0, .int .i64 0, .int .i64 0, .int .i64 0] 41)) from
    ⟨HB2.out.step ((Below.refl _ _).alloc (Nat.le_refl _) _), fun k u q => (World.cell?_alloc_lt w2 _ ⟨g, k, none⟩ hgl2).trans (HC2.out k u q), fun k u q => (World.cell?_alloc_lt w2 _ ⟨ge, k, none⟩ hel).trans (HCX.out k u q), Blk.new _ _ _, HB2.out.1.lt, hgl2, hel⟩)
  go_upto_region 8 with fail
  obtain ⟨X, HX⟩ : ∃ X, Hid (w2.heap.size = X) := ⟨_, Lib.hid rfl⟩
  obtain ⟨W0, HW0⟩ : ∃ W0, Hid (w2.alloc (.cells #[.int .i64 0, .int .i64 0, .int .i64 0, .int .i64 0, .int .i64 0] 41) = W0) := ⟨_, Lib.hid rfl⟩
  rw [HW0.out, HX.out] at HP0
  rw [HW0.out, HX.out]
  clear HW0 HX HB2 HC2 HCX
  have cw := HP0.out.2.2.1 0 e0 rfl
  go_wp2_with fail
  refine (read_rv e0 v0 V0 _ (by omega)).mono ?_
  rintro e x0 ⟨ok0, rfl, b⟩
  have HQ := Lib.hid (HP0.out.step b)
  have ff := HQ.out.fx 0
  obtain ⟨y0, y1, y2, y3, y4, yl⟩ := HQ.out.cx
  have HP1 := Lib.hid (HQ.out.put 0 (.int .i64 v0) ⟨v0, 0, 0, 0, 0⟩ rfl)
  clear b HP0 cw
  go_upto_region 9 with fail
  obtain ⟨W1, HW1⟩ : ∃ W, Hid (x0.setCell ⟨X, 0, none⟩ (.int .i64 v0) = W) := ⟨_, Lib.hid rfl⟩
  rw [HW1.out] at HP1
  rw [HW1.out]
  clear HW1 HQ ff y0 y1 y2 y3 y4 yl
  have cw := HP1.out.2.2.1 1 e1 rfl
  go_wp2_with fail
  refine (read_rv e1 v1 V1 _ (by omega)).mono ?_
  rintro e x1 ⟨ok1, rfl, b⟩
  have HQ := Lib.hid (HP1.out.step b)
  have ff := HQ.out.fx 1
  obtain ⟨y0, y1, y2, y3, y4, yl⟩ := HQ.out.cx
  have HP2 := Lib.hid (HQ.out.put 1 (.int .i64 v1) ⟨v0, v1, 0, 0, 0⟩ rfl)
  clear b HP1 cw
  go_upto_region 10 with fail
  obtain ⟨W2, HW2⟩ : ∃ W, Hid (x1.setCell ⟨X, 1, none⟩ (.int .i64 v1) = W) := ⟨_, Lib.hid rfl⟩
  rw [HW2.out] at HP2
  rw [HW2.out]
  clear HW2 HQ ff y0 y1 y2 y3 y4 yl
  have cw := HP2.out.2.1 3 u3 rfl
  go_wp2_with fail
  refine (read_rv u3 v2 V2 _ (by omega)).mono ?_
  rintro e x2 ⟨ok2, rfl, b⟩
  have HQ := Lib.hid (HP2.out.step b)
  have ff := HQ.out.fx 2
  obtain ⟨y0, y1, y2, y3, y4, yl⟩ := HQ.out.cx
  have HP3 := Lib.hid (HQ.out.put 2 (.int .i64 v2) ⟨v0, v1, v2, 0, 0⟩ rfl)
  clear b HP2 cw
  go_upto_region 11 with fail
  obtain ⟨W3, HW3⟩ : ∃ W, Hid (x2.setCell ⟨X, 2, none⟩ (.int .i64 v2) = W) := ⟨_, Lib.hid rfl⟩
  rw [HW3.out] at HP3
  rw [HW3.out]
  clear HW3 HQ ff y0 y1 y2 y3 y4 yl
  have cw := HP3.out.2.1 5 u5 rfl
  go_wp2_with fail
  refine (read_rv u5 v3 V3 _ (by omega)).mono ?_
  rintro e x3 ⟨ok3, rfl, b⟩
  have HQ := Lib.hid (HP3.out.step b)
  have ff := HQ.out.fx 3
  obtain ⟨y0, y1, y2, y3, y4, yl⟩ := HQ.out.cx
  have HP4 := Lib.hid (HQ.out.put 3 (.int .i64 v3) ⟨v0, v1, v2, v3, 0⟩ rfl)
  clear b HP3 cw
  go_upto_region 12 with fail
  obtain ⟨W4, HW4⟩ : ∃ W, Hid (x3.setCell ⟨X, 3, none⟩ (.int .i64 v3) = W) := ⟨_, Lib.hid rfl⟩
  rw [HW4.out] at HP4
  rw [HW4.out]
  clear HW4 HQ ff y0 y1 y2 y3 y4 yl
  have hlen7 : 0 < u7.size := by have := H7.out; omega
  have hlen7' : (0 : Int) < (u7.size : Int) := by omega
  obtain ⟨b, rr, hl⟩ : ∃ b rr, u7.data.toList = b :: rr := by
    cases q : u7.data.toList with
    | nil => exact absurd (by have := congrArg List.length q; simpa using this) H7.out
    | cons b rr => exact ⟨b, rr, rfl⟩
  have hb0 : u7[0] = b := by
    have : u7.data.toList[0]? = some b := by rw [hl]; rfl
    have k : u7.data.toList[0]? = some u7[0] := by rw [List.getElem?_eq_getElem (show 0 < u7.data.toList.length from hlen7)]; rfl
    rw [k] at this; exact Option.some.inj this
  have HL := Lib.hid hl
  have HB0 := Lib.hid hb0
  clear hl hb0
  have cw7 := HP4.out.2.1 7 u7 rfl
  by_cases hb : b.toNat = 45
  · have q1 : (u7[0].toNat == 45) = true := by rw [HB0.out]; simpa using hb
    have q2 : ((u7[0].toNat : Int) == 45) = true := by rw [HB0.out]; simp; omega
    obtain ⟨v4, hv4⟩ := rv_ex (u7.extract 1 u7.size)
    obtain ⟨bd0, bd1⟩ := rv_bd hv4
    have V4 := Lib.hid hv4
    have hle : (u7.extract 1 u7.size).data.toList = rr := by
      have := HL.out
      have hsz : rr.length = u7.size - 1 := by
        have k := congrArg List.length this
        have e : u7.data.toList.length = u7.size := rfl
        rw [e] at k
        simp at k
        omega
      simp [ByteArray.data_extract, Array.toList_extract, this]
      exact List.take_of_length_le (by omega)
    have hs4 : (u7.extract 1 u7.size).size ≤ 60 := by simp [ByteArray.size_extract]; omega
    have SLH := Lib.hid (show SL u7 (-v4) from ⟨b, rr, HL.out, .inl ⟨hb, _, v4, hle, hv4, rfl⟩⟩)
    clear hv4 hle
    go_wp2_with fail
    refine (read_rv _ v4 V4 _ (by omega)).mono ?_
    rintro e x4 ⟨ok4, rfl, b⟩
    have HQ := Lib.hid (HP4.out.step b)
    have ff := HQ.out.fx 4
    obtain ⟨y0, y1, y2, y3, y4, yl⟩ := HQ.out.cx
    have HP5 := Lib.hid (HQ.out.put 4 (.int .i64 (-v4)) ⟨v0, v1, v2, v3, -v4⟩ rfl)
    have HT := Lib.hid (show ∀ y, IsLT s y → (⟨v0, v1, v2, v3, -v4⟩ : Lg) = y from fun y hy => told HW.out HE.out V0.out V1.out V2.out V3.out SLH.out hy)
    clear b HP4
    go_upto_region 16 with fail
    obtain ⟨W5, HW5⟩ : ∃ W, Hid (x4.setCell ⟨X, 4, none⟩ (.int .i64 (-v4)) = W) := ⟨_, Lib.hid rfl⟩
    rw [HW5.out] at HP5
    rw [HW5.out]
    clear HW5 HQ ff y0 y1 y2 y3 y4 yl
    obtain ⟨y0, y1, y2, y3, y4, yl⟩ := HP5.out.cx
    cases hok : okLg ⟨v0, v1, v2, v3, -v4⟩
    · have HOK := Lib.hid hok
      clear hok
      go_wp2_with fail
      refine (leg_is ⟨v0, v1, v2, v3, -v4⟩ false HOK _).mono ?_
      rintro e x5 ⟨rfl, bb⟩
      have HB6 := Lib.hid (HP5.out.1.step bb)
      clear bb y0 y1 y2 y3 y4 yl
      have HNO := Lib.hid (pl_no hr.out (fun y hy => by have e := HT.out y hy; have k := hy.1; rw [← e, HOK.out] at k; cases k))
      obtain ⟨z0, z1, z2, z3, z4, f0, f1, f2, f3, f4, hz⟩ := HB6.out.zs
      go_wp2_with fail
      refine bodyPost_ret (v := .tuple #[.agg #[.int .i64 0, .int .i64 0, .int .i64 0, .int .i64 0, .int .i64 0], .bool false]) (by simp [results, Tryd.results29, go_sem, *]) rfl ⟨by rw [HNO.out]; rfl, ?_⟩
      exact HB6.out.put _ _ _ _ _
    · have HOK := Lib.hid hok
      obtain ⟨q, HQT⟩ : ∃ q, Hid (ltx ⟨v0, v1, v2, v3, -v4⟩ = q) := ⟨_, Lib.hid rfl⟩
      clear hok
      go_wp2_with fail
      refine (leg_is ⟨v0, v1, v2, v3, -v4⟩ true HOK _).mono ?_
      rintro e x5 ⟨rfl, bb⟩
      have HP6 := Lib.hid (HP5.out.step bb)
      clear bb y0 y1 y2 y3 y4 yl HP5
      obtain ⟨y0, y1, y2, y3, y4, yl⟩ := HP6.out.cx
      go_wp2_with fail
      refine (l4Text_is ⟨v0, v1, v2, v3, -v4⟩ q HQT _ HOK).mono ?_
      rintro e x6 ⟨rfl, bb⟩
      have HP7 := Lib.hid (HP6.out.step bb)
      clear bb y0 y1 y2 y3 y4 yl HP6
      by_cases hq : q = s
      · have k1 : (q.toList == s.toList) = true := by rw [hq]; simp
        have HYES := Lib.hid (pl_yes hr.out (show IsLT s ⟨v0, v1, v2, v3, -v4⟩ from ⟨HOK.out, by rw [HQT.out, hq]⟩))
        obtain ⟨y0, y1, y2, y3, y4, yl⟩ := HP7.out.cx
        obtain ⟨z0, z1, z2, z3, z4, f0, f1, f2, f3, f4, hz⟩ := HP7.out.1.zs
        clear hq
        go_wp2_with fail
        refine bodyPost_ret (v := .tuple #[.agg #[.int .i64 v0, .int .i64 v1, .int .i64 v2, .int .i64 v3, .int .i64 (-v4)], .bool true]) (by simp [results, Tryd.results29, go_sem, *]) rfl ⟨by rw [HYES.out]; rfl, ?_⟩
        exact HP7.out.1.put _ _ _ _ _
      · have k1 : (q.toList == s.toList) = false := by
          rw [ByteArray.toList_eq, ByteArray.toList_eq]
          simpa using fun c => hq (ByteArray.ext (Array.toList_inj.1 c))
        have HNQ := Lib.hid hq
        have HB7 := Lib.hid HP7.out.1
        clear hq
        have HNO := Lib.hid (pl_no hr.out (fun y hy => by have e := HT.out y hy; have k := hy.2; rw [← e, HQT.out] at k; exact HNQ.out k))
        obtain ⟨z0, z1, z2, z3, z4, f0, f1, f2, f3, f4, hz⟩ := HB7.out.zs
        go_wp2_with fail
        refine bodyPost_ret (v := .tuple #[.agg #[.int .i64 0, .int .i64 0, .int .i64 0, .int .i64 0, .int .i64 0], .bool false]) (by simp [results, Tryd.results29, go_sem, *]) rfl ⟨by rw [HNO.out]; rfl, ?_⟩
        exact HB7.out.put _ _ _ _ _
  · have q1 : (u7[0].toNat == 45) = false := by rw [HB0.out]; simpa using hb
    have q2 : ((u7[0].toNat : Int) == 45) = false := by rw [HB0.out]; simp; omega
    obtain ⟨v4, hv4⟩ := rv_ex u7
    obtain ⟨bd0, bd1⟩ := rv_bd hv4
    have V4 := Lib.hid hv4
    have SLH := Lib.hid (show SL u7 v4 from ⟨b, rr, HL.out, .inr ⟨hb, hv4⟩⟩)
    clear hv4
    go_wp2_with fail
    refine (read_rv _ v4 V4 _ (by omega)).mono ?_
    rintro e x4 ⟨ok4, rfl, b⟩
    have HQ := Lib.hid (HP4.out.step b)
    have ff := HQ.out.fx 4
    obtain ⟨y0, y1, y2, y3, y4, yl⟩ := HQ.out.cx
    have HP5 := Lib.hid (HQ.out.put 4 (.int .i64 v4) ⟨v0, v1, v2, v3, v4⟩ rfl)
    have HT := Lib.hid (show ∀ y, IsLT s y → (⟨v0, v1, v2, v3, v4⟩ : Lg) = y from fun y hy => told HW.out HE.out V0.out V1.out V2.out V3.out SLH.out hy)
    clear b HP4
    go_upto_region 16 with fail
    obtain ⟨W5, HW5⟩ : ∃ W, Hid (x4.setCell ⟨X, 4, none⟩ (.int .i64 v4) = W) := ⟨_, Lib.hid rfl⟩
    rw [HW5.out] at HP5
    rw [HW5.out]
    clear HW5 HQ ff y0 y1 y2 y3 y4 yl
    obtain ⟨y0, y1, y2, y3, y4, yl⟩ := HP5.out.cx
    cases hok : okLg ⟨v0, v1, v2, v3, v4⟩
    · have HOK := Lib.hid hok
      clear hok
      go_wp2_with fail
      refine (leg_is ⟨v0, v1, v2, v3, v4⟩ false HOK _).mono ?_
      rintro e x5 ⟨rfl, bb⟩
      have HB6 := Lib.hid (HP5.out.1.step bb)
      clear bb y0 y1 y2 y3 y4 yl
      have HNO := Lib.hid (pl_no hr.out (fun y hy => by have e := HT.out y hy; have k := hy.1; rw [← e, HOK.out] at k; cases k))
      obtain ⟨z0, z1, z2, z3, z4, f0, f1, f2, f3, f4, hz⟩ := HB6.out.zs
      go_wp2_with fail
      refine bodyPost_ret (v := .tuple #[.agg #[.int .i64 0, .int .i64 0, .int .i64 0, .int .i64 0, .int .i64 0], .bool false]) (by simp [results, Tryd.results29, go_sem, *]) rfl ⟨by rw [HNO.out]; rfl, ?_⟩
      exact HB6.out.put _ _ _ _ _
    · have HOK := Lib.hid hok
      obtain ⟨q, HQT⟩ : ∃ q, Hid (ltx ⟨v0, v1, v2, v3, v4⟩ = q) := ⟨_, Lib.hid rfl⟩
      clear hok
      go_wp2_with fail
      refine (leg_is ⟨v0, v1, v2, v3, v4⟩ true HOK _).mono ?_
      rintro e x5 ⟨rfl, bb⟩
      have HP6 := Lib.hid (HP5.out.step bb)
      clear bb y0 y1 y2 y3 y4 yl HP5
      obtain ⟨y0, y1, y2, y3, y4, yl⟩ := HP6.out.cx
      go_wp2_with fail
      refine (l4Text_is ⟨v0, v1, v2, v3, v4⟩ q HQT _ HOK).mono ?_
      rintro e x6 ⟨rfl, bb⟩
      have HP7 := Lib.hid (HP6.out.step bb)
      clear bb y0 y1 y2 y3 y4 yl HP6
      by_cases hq : q = s
      · have k1 : (q.toList == s.toList) = true := by rw [hq]; simp
        have HYES := Lib.hid (pl_yes hr.out (show IsLT s ⟨v0, v1, v2, v3, v4⟩ from ⟨HOK.out, by rw [HQT.out, hq]⟩))
        obtain ⟨y0, y1, y2, y3, y4, yl⟩ := HP7.out.cx
        obtain ⟨z0, z1, z2, z3, z4, f0, f1, f2, f3, f4, hz⟩ := HP7.out.1.zs
        clear hq
        go_wp2_with fail
        refine bodyPost_ret (v := .tuple #[.agg #[.int .i64 v0, .int .i64 v1, .int .i64 v2, .int .i64 v3, .int .i64 v4], .bool true]) (by simp [results, Tryd.results29, go_sem, *]) rfl ⟨by rw [HYES.out]; rfl, ?_⟩
        exact HP7.out.1.put _ _ _ _ _
      · have k1 : (q.toList == s.toList) = false := by
          rw [ByteArray.toList_eq, ByteArray.toList_eq]
          simpa using fun c => hq (ByteArray.ext (Array.toList_inj.1 c))
        have HNQ := Lib.hid hq
        have HB7 := Lib.hid HP7.out.1
        clear hq
        have HNO := Lib.hid (pl_no hr.out (fun y hy => by have e := HT.out y hy; have k := hy.2; rw [← e, HQT.out] at k; exact HNQ.out k))
        obtain ⟨z0, z1, z2, z3, z4, f0, f1, f2, f3, f4, hz⟩ := HB7.out.zs
        go_wp2_with fail
        refine bodyPost_ret (v := .tuple #[.agg #[.int .i64 0, .int .i64 0, .int .i64 0, .int .i64 0, .int .i64 0], .bool false]) (by simp [results, Tryd.results29, go_sem, *]) rfl ⟨by rw [HNO.out]; rfl, ?_⟩
        exact HB7.out.put _ _ _ _ _
end Go.Proofs.YtiojgmojnnbpiaaDoor.lgy

namespace Go.Proofs.YtiojgmojnnbpiaaDoor.lgz
open Go.RowKit
open reads base ty lg pow txt readc rowi pcrd
set_option linter.unusedVariables false
set_option linter.unusedSimpArgs false

/-- which numbers some texts tell -/
def PR (ts : List ByteArray) (xs : List Int) (ok : Bool) : Prop :=
  (ok = true ∧ xs.length = ts.length ∧ ∀ (k : Nat) t x, ts[k]? = some t → xs[k]? = some x → IsNum t x) ∨ (ok = false ∧ ∃ t, t ∈ ts ∧ ∀ n, ¬ IsNum t n)
def PI (ts : List ByteArray) (w : World) (e : Ending) (w' : World) : Prop :=
  ∃ v xs ok, e = .returned (.tuple #[v, .bool ok]) ∧ w'.ownsRow w.heap.size 3 1 v xs.length (ints.intsV xs) ∧ PR ts xs ok ∧ Below w.heap.size w w'
set_option maxHeartbeats 4000000 in
set_option maxRecDepth 100000 in
theorem parseInts_any (g n c : Nat) (ts : List ByteArray) (w : World) (hn : Hid (ts.length = n)) (hn8 : n ≤ 8) (hg : g < w.heap.size) (hc : Hid (∀ (k : Nat) t, ts[k]? = some t → w.cell? ⟨g, k, none⟩ = some (.string t))) (hs : Hid (∀ t ∈ ts, t.size ≤ 1048576)) (hV : Hid (VarsP w)) :
    Calls Tryd.prog 60 #[.slice (some ⟨g, 0, none⟩) n c] w (PI ts w) := by
  obtain ⟨i0, hi, hz0, hz1, hz2⟩ := info_parts infoI
  have HR := Lib.hid (World.ownsRow_made (base := w.heap.size) (e := 3) (size := 1) w #[] 0 (Nat.le_refl _) (by decide) (by simp))
  have HE := Lib.hid ((Below.refl w.heap.size w).alloc (Nat.le_refl _) (.cells #[] 3))
  go_enter Tryd.func60, Tryd.ntmps60
  go_wp2_with fail
  go_loopw [4, 12] (fun v i wr => ∃ (k : Nat) (xs : List Int), k ≤ n ∧ i = .int .i64 k ∧ Hid (xs.length = k) ∧ Hid (∀ (j : Nat) t x, ts[j]? = some t → xs[j]? = some x → IsNum t x) ∧ Hid (wr.ownsRow w.heap.size 3 1 v xs.length (ints.intsV xs)) ∧ Below w.heap.size w wr) (fun _ i _ => n - (intOf i).toNat)
  case atStart => exact ⟨0, [], Nat.zero_le _, rfl, Lib.hid rfl, Lib.hid (by intro j t x _ h; simp at h), HR, HE.out⟩
  case round =>
    obtain ⟨k, xs, hk, rfl, HL, HN, HO, hB⟩ := hrel
    have hBs := hB.size
    have HB := Lib.hid hB
    have hlen : xs.length ≤ 8 := by rw [HL.out]; omega
    clear hB HE HR
    by_cases hlt : k < n
    · obtain ⟨t, htk⟩ := at_lt hn.out hlt
      have hcell : wr.cell? ⟨g, k, none⟩ = some (.string t) := (HB.out.cell (p := ⟨g, k, none⟩) hg).trans (hc.out k t htk)
      have hst := hs.out t (List.mem_of_getElem? htk)
      have HK := Lib.hid htk
      have HMT := Lib.hid (List.mem_of_getElem? htk)
      have hki : (k : Int) < (n : Int) := by omega
      have hk0 : 0 ≤ (k : Int) := by omega
      have hkd : decide (k < n) = true := by simpa using hlt
      clear htk
      go_wp2_with fail
      refine (parc.par_any t _ hst (vars_below hV.out HB.out)).mono ?_
      rintro e w4 ⟨h, b⟩
      have HB4 := Lib.hid (HB.out.trans (b.mono hBs))
      have HO4 := Lib.hid (row_below HO.out b)
      have hs4 := HB4.out.size
      clear b hcell
      rcases h with ⟨x, hx, rfl⟩ | ⟨hx, rfl⟩
      · have HX := Lib.hid hx
        clear hx
        go_wp2_with (at_builtin; refine wpList_append_own _ rfl _ _ 32 rfl w.heap.size 3 i0 (.int .i64 0) 1 8 Tryd.underlying32 hi hz0 hz1 hz2 rfl (by decide) _ _ _ rfl (HO4.out.alloc _) ⟨w4.heap.size, 0, none⟩ 1 1 [.int .i64 x] rfl rfl (cell_one_new _ _ _) (by simp [Value.oneCell']) (by unfold maxLen; omega) (by omega) (by simp; omega) ?_; intro v' w9 hown' hgrow _)
        go_roundw
        case rel =>
          refine ⟨k + 1, xs ++ [x], by omega, by go_num, Lib.hid (by rw [List.length_append, HL.out]; rfl), Lib.hid ?_, Lib.hid ?_, ?_⟩
          · intro j t' x' ht' hx'
            by_cases hj : j < k
            · rw [List.getElem?_append_left (by rw [HL.out]; exact hj)] at hx'
              exact HN.out j t' x' ht' hx'
            · have hj2 : j < (xs ++ [x]).length := (List.getElem?_eq_some_iff.1 hx').1
              rw [List.length_append, List.length_singleton, HL.out] at hj2
              obtain rfl : j = k := by omega
              rw [List.getElem?_append_right (by rw [HL.out]; omega), HL.out, Nat.sub_self] at hx'
              obtain rfl : x = x' := by simpa using hx'
              rw [HK.out] at ht'
              obtain rfl : t = t' := Option.some.inj ht'
              exact HX.out
          · rw [List.length_append, List.length_singleton, intsV_app]; exact hown'
          · exact (HB4.out.alloc HB4.out.size _).grown hgrow (by simp; omega) (fun j ej => (HO4.out.lt j ej).1)
        case measure => simp [intOf]; omega
      · have HX := Lib.hid hx
        clear hx
        go_wp2_with fail
        go_ret2
        exact ⟨_, [], false, rfl, by have h := World.ownsRow_made (base := w.heap.size) (e := 3) (size := 1) w4 #[] 0 (by omega) (by decide) (by simp); simpa [ints.intsV] using h, .inr ⟨rfl, t, HMT.out, HX.out⟩, HB4.out.alloc hs4 _⟩
    · have hkd : decide (k < n) = false := by simpa using hlt
      obtain rfl : k = n := by omega
      go_wp2_with fail
      go_ret2
      exact ⟨_, xs, true, rfl, HO.out, .inl ⟨rfl, by rw [HL.out, hn.out], HN.out⟩, HB.out⟩
theorem strs_new (w : World) (T : TypeId) (ts : List ByteArray) : ∀ (k : Nat) t, ts[k]? = some t → (w.alloc (.cells (strs ts).toArray T)).cell? ⟨w.heap.size, k, none⟩ = some (.string t) := fun k t hk => by
  rw [(Blk.new w T _).cell k]
  simp [strs, hk]
theorem parseInts_new (g n c : Nat) (ts : List ByteArray) (T : TypeId) (cs : Array Value) (w : World) (hg : w.heap.size = g) (hn : ts.length = n) (hn8 : n ≤ 8) (hcs : cs = (strs ts).toArray) (hs : ∀ t ∈ ts, t.size ≤ 1048576) (hV : VarsP w) :
    Calls Tryd.prog 60 #[.slice (some ⟨g, 0, none⟩) n c] (w.alloc (.cells cs T)) (PI ts (w.alloc (.cells cs T))) := by
  subst hcs hg
  exact parseInts_any w.heap.size n c ts _ (Lib.hid hn) hn8 (by simp) (Lib.hid (strs_new w T ts)) (Lib.hid hs) (Lib.hid (hV.below ((Below.refl _ _).alloc (Nat.le_refl _) _)))
end Go.Proofs.YtiojgmojnnbpiaaDoor.lgz

namespace Go.Proofs.YtiojgmojnnbpiaaDoor.lgz
open Go.RowKit
open reads base ty lg pow txt strmath iterc readc rowi pcrd lgx lgy
set_option linter.unusedVariables false
set_option linter.unusedSimpArgs false

/-- the answer, the words, the ends, the variables -/
def WS (w : World) (g e : Nat) (us es : List ByteArray) (v : World) : Prop :=
  RB w v ∧ VarsP v ∧ (∀ (k : Nat) u, us[k]? = some u → v.cell? ⟨g, k, none⟩ = some (.string u)) ∧ (∀ (k : Nat) u, es[k]? = some u → v.cell? ⟨e, k, none⟩ = some (.string u)) ∧ g < v.heap.size ∧ e < v.heap.size
theorem WS.step {w v v' : World} {g e : Nat} {us es : List ByteArray} (h : WS w g e us es v) (hb : Below v.heap.size v v') : WS w g e us es v' := by
  obtain ⟨h1, h2, h3, h4, h5, h6⟩ := h
  have z := hb.size
  exact ⟨h1.step hb, h2.below hb, fun k u q => (hb.cell (p := ⟨g, k, none⟩) h5).trans (h3 k u q), fun k u q => (hb.cell (p := ⟨e, k, none⟩) h6).trans (h4 k u q), by omega, by omega⟩
theorem ws_mk {w v : World} {g e : Nat} {u0 u1 u2 u3 u4 u5 u6 u7 e0 e1 : ByteArray} (h : WS w g e [u0, u1, u2, u3, u4, u5, u6, u7] [e0, e1] v) : v.cell? ⟨e, 0, none⟩ = some (.string e0) ∧ v.cell? ⟨e, 1, none⟩ = some (.string e1) ∧ v.cell? ⟨g, 3, none⟩ = some (.string u3) ∧ v.cell? ⟨g, 5, none⟩ = some (.string u5) ∧ v.cell? ⟨g, 7, none⟩ = some (.string u7) ∧ WS w g e [u0, u1, u2, u3, u4, u5, u6, u7] [e0, e1] v :=
  ⟨h.2.2.2.1 0 e0 rfl, h.2.2.2.1 1 e1 rfl, h.2.2.1 3 u3 rfl, h.2.2.1 5 u5 rfl, h.2.2.1 7 u7 rfl, h⟩
/-- the words that a leg's text has -/
theorem words_of {s u0 u1 u2 u3 u4 u5 u6 u7 e0 e1 : ByteArray} {y : Lg} (hw : pcs 32 s.data.toList = [u0, u1, u2, u3, u4, u5, u6, u7]) (he : pcs 45 u1.data.toList = [e0, e1]) (hy : IsLT s y) : e0 = num y.frm ∧ e1 = num y.to_ ∧ u3 = num y.tape ∧ u5 = num y.comp ∧ u7 = num y.slope := by
  have k := ltx_words y hy.1
  rw [hy.2, hw] at k
  simp only [List.cons.injEq, and_true] at k
  obtain ⟨-, k1, -, k3, -, k5, -, k7⟩ := k
  have e := ltx_ends y hy.1
  rw [← k1, he] at e
  simp only [List.cons.injEq, and_true] at e
  exact ⟨e.1, e.2, k3, k5, k7⟩
theorem all_num {s u0 u1 u2 u3 u4 u5 u6 u7 e0 e1 : ByteArray} {y : Lg} (hw : pcs 32 s.data.toList = [u0, u1, u2, u3, u4, u5, u6, u7]) (he : pcs 45 u1.data.toList = [e0, e1]) (hy : IsLT s y) : ∀ t ∈ [e0, e1, u3, u5, u7], ∃ n, IsNum t n := by
  obtain ⟨rfl, rfl, rfl, rfl, rfl⟩ := words_of hw he hy
  obtain ⟨⟨a0, a1⟩, ⟨a2, a3⟩, -, ⟨a4, a5⟩, ⟨a6, a7⟩, a8, a9⟩ := okLg_lim hy.1
  intro t ht
  simp only [List.mem_cons, List.not_mem_nil, or_false] at ht
  rcases ht with rfl | rfl | rfl | rfl | rfl
  · exact ⟨_, isNum_num _ (by omega) (by omega)⟩
  · exact ⟨_, isNum_num _ (by omega) (by omega)⟩
  · exact ⟨_, isNum_num _ (by omega) (by omega)⟩
  · exact ⟨_, isNum_num _ (by omega) (by omega)⟩
  · exact ⟨_, isNum_num _ (by omega) (by omega)⟩
theorem told2 {s u0 u1 u2 u3 u4 u5 u6 u7 e0 e1 : ByteArray} {v0 v1 v2 v3 v4 : Int} {y : Lg} (hw : pcs 32 s.data.toList = [u0, u1, u2, u3, u4, u5, u6, u7]) (he : pcs 45 u1.data.toList = [e0, e1])
    (r0 : IsNum e0 v0) (r1 : IsNum e1 v1) (r2 : IsNum u3 v2) (r3 : IsNum u5 v3) (r4 : IsNum u7 v4) (hy : IsLT s y) : (⟨v0, v1, v2, v3, v4⟩ : Lg) = y := by
  obtain ⟨rfl, rfl, rfl, rfl, rfl⟩ := words_of hw he hy
  obtain ⟨⟨a0, a1⟩, ⟨a2, a3⟩, -, ⟨a4, a5⟩, ⟨a6, a7⟩, a8, a9⟩ := okLg_lim hy.1
  have g0 := isNum_one r0 (isNum_num _ (by omega) (by omega))
  have g1 := isNum_one r1 (isNum_num _ (by omega) (by omega))
  have g2 := isNum_one r2 (isNum_num _ (by omega) (by omega))
  have g3 := isNum_one r3 (isNum_num _ (by omega) (by omega))
  have g4 := isNum_one r4 (isNum_num _ (by omega) (by omega))
  cases y
  simp only at g0 g1 g2 g3 g4
  subst g0 g1 g2 g3 g4
  rfl
theorem five {α : Type} {l : List α} (h : l.length = 5) : ∃ a b c d e, l = [a, b, c, d, e] := by
  match l, h with
  | [a, b, c, d, e], _ => exact ⟨a, b, c, d, e, rfl⟩
set_option maxHeartbeats 4000000 in
set_option maxRecDepth 100000 in
theorem parse_impl (s : ByteArray) (r : Lg × Bool) (w : World) (hs : s.size ≤ 1048576) (hr : Hid (PL s r)) (hV : Hid (VarsP w)) : Calls Tryd.prog 30 #[.string s] w (APost (plV r) w) := by
  have HB0 := Lib.hid (RB.start w)
  have HV0 := Lib.hid (hV.out.below ((Below.refl w.heap.size w).alloc (Nat.le_refl _) (.cells #[.int .i64 0, .int .i64 0, .int .i64 0, .int .i64 0, .int .i64 0] 41)))
  by_cases h4 : 4000 < s.size
  · go_enter Tryd.func30, Tryd.ntmps30
    go_wp2_with fail
    refine (splitc.split_bad s _ _ hs (by decide) (Or.inl h4)).mono ?_
    rintro e w1 ⟨rfl, hw1⟩
    have HB1 := Lib.hid (show RB w w1 by rw [hw1]; exact HB0.out.step ((Below.refl _ _).alloc (Nat.le_refl _) _))
    clear hw1 HB0 HV0
    have HNO := Lib.hid (pl_no hr.out (fun x hx => by have := ltx_size x hx.1; rw [hx.2] at this; omega))
    obtain ⟨z0, z1, z2, z3, z4, f0, f1, f2, f3, f4, hz⟩ := HB1.out.zs
    go_wp2_with fail
    refine bodyPost_ret (v := .tuple #[.agg #[.int .i64 0, .int .i64 0, .int .i64 0, .int .i64 0, .int .i64 0], .bool false]) (by simp [results, Tryd.results30, go_sem, *]) rfl ⟨by rw [HNO.out]; rfl, ?_⟩
    exact HB1.out.put _ _ _ _ _
  have h4' : s.size ≤ 4000 := by omega
  clear h4
  go_enter Tryd.func30, Tryd.ntmps30
  go_wp2_with fail
  refine (splitc.split_any s 32 h4' _).mono ?_
  rintro e w1 ⟨v, rfl, hown, b⟩
  have HB1 := Lib.hid (HB0.out.step b)
  have HV1 := Lib.hid (HV0.out.below b)
  obtain ⟨N, hN⟩ : ∃ N, (pcs 32 s.data.toList).length = N := ⟨_, rfl⟩
  rw [hN] at hown
  obtain ⟨WA, wc, rfl⟩ := row_slice hown
  have HO := Lib.hid hown
  have HN := Lib.hid hN
  clear b hown hN HB0 HV0
  by_cases h8 : ¬ N = 8
  · have d8 : ((N : Int) != 8) = true := by simp; omega
    have d8' : (N != 8) = true := by simpa using h8
    have HNO := Lib.hid (pl_no hr.out (fun x hx => h8 (by have k := ltx_words x hx.1; rw [hx.2] at k; have := HN.out; rw [k] at this; simpa using this.symm)))
    obtain ⟨z0, z1, z2, z3, z4, f0, f1, f2, f3, f4, hz⟩ := HB1.out.zs
    go_wp2_with fail
    refine bodyPost_ret (v := .tuple #[.agg #[.int .i64 0, .int .i64 0, .int .i64 0, .int .i64 0, .int .i64 0], .bool false]) (by simp [results, Tryd.results30, go_sem, *]) rfl ⟨by rw [HNO.out]; rfl, ?_⟩
    exact HB1.out.put _ _ _ _ _
  have h8 : N = 8 := by omega
  subst h8
  obtain ⟨u0, u1, u2, u3, u4, u5, u6, u7, hw⟩ := eight HN.out
  have HW := Lib.hid hw
  have hrow := HO.out
  rw [hw] at hrow
  obtain ⟨g, rfl, hgl, hcells⟩ := cells_of hrow (by decide) rfl
  have HCE := Lib.hid hcells
  have c1 := hcells 1 u1 rfl
  have HM := Lib.hid (show ∀ t ∈ pcs 32 s.data.toList, t.size ≤ 4000 from fun t ht => by have := pcs_mem 32 s t ht; omega)
  have hm1 : u1.size ≤ 4000 := HM.out u1 (by rw [HW.out]; simp)
  have hm3 : u3.size ≤ 4000 := HM.out u3 (by rw [HW.out]; simp)
  have hm5 : u5.size ≤ 4000 := HM.out u5 (by rw [HW.out]; simp)
  have hm7 : u7.size ≤ 4000 := HM.out u7 (by rw [HW.out]; simp)
  clear hrow hcells hw HO HM
  go_wp2_with fail
  refine (splitc.split_any u1 45 hm1 _).mono ?_
  rintro e w2 ⟨v, rfl, hown, b⟩
  have HB2 := Lib.hid (HB1.out.step b)
  have HV2 := Lib.hid (HV1.out.below b)
  have HC2 := Lib.hid (show ∀ (k : Nat) u, [u0, u1, u2, u3, u4, u5, u6, u7][k]? = some u → w2.cell? ⟨g, k, none⟩ = some (.string u) from fun k u q => (b.cell (p := ⟨g, k, none⟩) hgl).trans (HCE.out k u q))
  have hgl2 : g < w2.heap.size := Nat.lt_of_lt_of_le hgl b.size
  obtain ⟨M, hM⟩ : ∃ M, (pcs 45 u1.data.toList).length = M := ⟨_, rfl⟩
  rw [hM] at hown
  obtain ⟨EA, ec, rfl⟩ := row_slice hown
  have HO := Lib.hid hown
  have HMM := Lib.hid hM
  clear b hown hM HB1 HV1 HCE c1
  by_cases h2 : ¬ M = 2
  · have d2 : ((M : Int) != 2) = true := by simp; omega
    have d2' : (M != 2) = true := by simpa using h2
    have HNO := Lib.hid (pl_no hr.out (fun x hx => h2 (by have k := ltx_words x hx.1; rw [hx.2, HW.out] at k; simp only [List.cons.injEq, and_true] at k; have e := ltx_ends x hx.1; rw [← k.2.1] at e; have := HMM.out; rw [e] at this; simpa using this.symm)))
    obtain ⟨z0, z1, z2, z3, z4, f0, f1, f2, f3, f4, hz⟩ := HB2.out.zs
    go_wp2_with fail
    refine bodyPost_ret (v := .tuple #[.agg #[.int .i64 0, .int .i64 0, .int .i64 0, .int .i64 0, .int .i64 0], .bool false]) (by simp [results, Tryd.results30, go_sem, *]) rfl ⟨by rw [HNO.out]; rfl, ?_⟩
    exact HB2.out.put _ _ _ _ _
  have h2 : M = 2 := by omega
  subst h2
  obtain ⟨e0, e1, he⟩ := two_of HMM.out
  have HE := Lib.hid he
  have hrow := HO.out
  rw [he] at hrow
  obtain ⟨ge, rfl, hel, hce⟩ := cells_of hrow (by decide) rfl
  have HS2 := Lib.hid (show WS w g ge [u0, u1, u2, u3, u4, u5, u6, u7] [e0, e1] w2 from ⟨HB2.out, HV2.out, HC2.out, hce, hgl2, hel⟩)
  have hs0 : e0.size ≤ 4000 := by have := pcs_mem 45 u1 e0 (by rw [he]; simp); omega
  have hs1 : e1.size ≤ 4000 := by have := pcs_mem 45 u1 e1 (by rw [he]; simp); omega
  have HSZ := Lib.hid (show ∀ t ∈ [e0, e1, u3, u5, u7], t.size ≤ 1048576 from fun t ht => by
    simp only [List.mem_cons, List.not_mem_nil, or_false] at ht
    rcases ht with rfl | rfl | rfl | rfl | rfl <;> omega)
  clear hrow hce he HO HB2 HV2 HC2 hgl hgl2 hel
  go_wp2_with fail
  refine wp_region_held_drew (S := (fun v => v.cell? ⟨ge, 0, none⟩ = some (.string e0) ∧ v.cell? ⟨ge, 1, none⟩ = some (.string e1) ∧ v.cell? ⟨g, 3, none⟩ = some (.string u3) ∧ v.cell? ⟨g, 5, none⟩ = some (.string u5) ∧ v.cell? ⟨g, 7, none⟩ = some (.string u7) ∧ WS w g ge [u0, u1, u2, u3, u4, u5, u6, u7] [e0, e1] v)) (by kernel_rfl) ?_ (fun hHeld => ?_)
  · exact ws_mk (HS2.out.step (drewN_below _ 1))
  refine' wpAnyH_take (i := 0) (v := ?vr1_0) rfl (by kernel_rfl) (by kernel_rfl) (by kernel_rfl) (fun _ _ _ h => h) (Or.inl ⟨by rfl, ?hyr1_0⟩) (by assumption) ?restr1_0
  case hyr1_0 => (intro w hSw; (try dsimp only at hSw); go_simp; try (with_reducible rfl))
  simp only [Act.put, List.getElem_toArray, List.getElem_cons_succ, List.getElem_cons_zero, List.setIfInBounds_toArray, List.set_cons_zero, List.set_cons_succ]
  refine' wpAnyH_take (i := 1) (v := ?vr1_1) rfl (by kernel_rfl) (by kernel_rfl) (by kernel_rfl) (fun _ _ _ h => h) (Or.inl ⟨by rfl, ?hyr1_1⟩) (by assumption) ?restr1_1
  case hyr1_1 => (intro w hSw; (try dsimp only at hSw); go_simp; try (with_reducible rfl))
  simp only [Act.put, List.getElem_toArray, List.getElem_cons_succ, List.getElem_cons_zero, List.setIfInBounds_toArray, List.set_cons_zero, List.set_cons_succ]
  refine' wpAnyH_take (i := 2) (v := ?vr1_2) rfl (by kernel_rfl) (by kernel_rfl) (by kernel_rfl) (fun _ _ _ h => h) (Or.inl ⟨by rfl, ?hyr1_2⟩) (by assumption) ?restr1_2
  case hyr1_2 => (intro w hSw; (try dsimp only at hSw); go_simp; try (with_reducible rfl))
  simp only [Act.put, List.getElem_toArray, List.getElem_cons_succ, List.getElem_cons_zero, List.setIfInBounds_toArray, List.set_cons_zero, List.set_cons_succ]
  refine' wpAnyH_take (i := 3) (v := ?vr1_3) rfl (by kernel_rfl) (by kernel_rfl) (by kernel_rfl) (fun _ _ _ h => h) (Or.inl ⟨by rfl, ?hyr1_3⟩) (by assumption) ?restr1_3
  case hyr1_3 => (intro w hSw; (try dsimp only at hSw); go_simp; try (with_reducible rfl))
  simp only [Act.put, List.getElem_toArray, List.getElem_cons_succ, List.getElem_cons_zero, List.setIfInBounds_toArray, List.set_cons_zero, List.set_cons_succ]
  refine' wpAnyH_take (i := 4) (v := ?vr1_4) rfl (by kernel_rfl) (by kernel_rfl) (by kernel_rfl) (fun _ _ _ h => h) (Or.inl ⟨by rfl, ?hyr1_4⟩) (by assumption) ?restr1_4
  case hyr1_4 => (intro w hSw; (try dsimp only at hSw); go_simp; try (with_reducible rfl))
  simp only [Act.put, List.getElem_toArray, List.getElem_cons_succ, List.getElem_cons_zero, List.setIfInBounds_toArray, List.set_cons_zero, List.set_cons_succ]
  refine' wpAnyH_take (i := 5) (v := ?vr1_5) rfl (by kernel_rfl) (by kernel_rfl) (by kernel_rfl) (fun _ _ _ h => h) (Or.inl ⟨by rfl, ?hyr1_5⟩) (by assumption) ?restr1_5
  case hyr1_5 => (intro w hSw; (try dsimp only at hSw); go_simp; try (with_reducible rfl))
  simp only [Act.put, List.getElem_toArray, List.getElem_cons_succ, List.getElem_cons_zero, List.setIfInBounds_toArray, List.set_cons_zero, List.set_cons_succ]
  refine' wpAnyH_take (i := 6) (v := ?vr1_6) rfl (by kernel_rfl) (by kernel_rfl) (by kernel_rfl) (fun _ _ _ h => h) (Or.inl ⟨by rfl, ?hyr1_6⟩) (by assumption) ?restr1_6
  case hyr1_6 => (intro w hSw; (try dsimp only at hSw); go_simp; try (with_reducible rfl))
  simp only [Act.put, List.getElem_toArray, List.getElem_cons_succ, List.getElem_cons_zero, List.setIfInBounds_toArray, List.set_cons_zero, List.set_cons_succ]
  refine' wpAnyH_take (i := 7) (v := ?vr1_7) rfl (by kernel_rfl) (by kernel_rfl) (by kernel_rfl) (fun _ _ _ h => h) (Or.inl ⟨by rfl, ?hyr1_7⟩) (by assumption) ?restr1_7
  case hyr1_7 => (intro w hSw; (try dsimp only at hSw); go_simp; try (with_reducible rfl))
  simp only [Act.put, List.getElem_toArray, List.getElem_cons_succ, List.getElem_cons_zero, List.setIfInBounds_toArray, List.set_cons_zero, List.set_cons_succ]
  refine' wpAnyH_take (i := 8) (v := ?vr1_8) rfl (by kernel_rfl) (by kernel_rfl) (by kernel_rfl) (fun _ _ _ h => h) (Or.inl ⟨by rfl, ?hyr1_8⟩) (by assumption) ?restr1_8
  case hyr1_8 => (intro w hSw; (try dsimp only at hSw); go_simp; try (with_reducible rfl))
  simp only [Act.put, List.getElem_toArray, List.getElem_cons_succ, List.getElem_cons_zero, List.setIfInBounds_toArray, List.set_cons_zero, List.set_cons_succ]
  refine' wpAnyH_take (i := 9) (v := ?vr1_9) rfl (by kernel_rfl) (by kernel_rfl) (by kernel_rfl) (fun _ _ _ h => h) (Or.inl ⟨by rfl, ?hyr1_9⟩) (by assumption) ?restr1_9
  case hyr1_9 => (intro w hSw; (try dsimp only at hSw); go_simp; try (with_reducible rfl))
  simp only [Act.put, List.getElem_toArray, List.getElem_cons_succ, List.getElem_cons_zero, List.setIfInBounds_toArray, List.set_cons_zero, List.set_cons_succ]
  refine' wpAnyH_take (i := 10) (v := ?vr1_10) rfl (by kernel_rfl) (by kernel_rfl) (by kernel_rfl) (fun _ _ _ h => h) (Or.inl ⟨by rfl, ?hyr1_10⟩) (by assumption) ?restr1_10
  case hyr1_10 => (intro w hSw; (try dsimp only at hSw); go_simp; try (with_reducible rfl))
  simp only [Act.put, List.getElem_toArray, List.getElem_cons_succ, List.getElem_cons_zero, List.setIfInBounds_toArray, List.set_cons_zero, List.set_cons_succ]
  refine' wpAnyH_take (i := 11) (v := ?vr1_11) rfl (by kernel_rfl) (by kernel_rfl) (by kernel_rfl) (fun _ _ _ h => h) (Or.inl ⟨by rfl, ?hyr1_11⟩) (by assumption) ?restr1_11
  case hyr1_11 => (intro w hSw; (try dsimp only at hSw); go_simp; try (with_reducible rfl))
  simp only [Act.put, List.getElem_toArray, List.getElem_cons_succ, List.getElem_cons_zero, List.setIfInBounds_toArray, List.set_cons_zero, List.set_cons_succ]
  refine' wpAnyH_take (i := 12) (v := ?vr1_12) rfl (by kernel_rfl) (by kernel_rfl) (by kernel_rfl) (fun _ _ _ h => h) (Or.inl ⟨by rfl, ?hyr1_12⟩) (by assumption) ?restr1_12
  case hyr1_12 => (intro w hSw; (try dsimp only at hSw); go_simp; try (with_reducible rfl))
  simp only [Act.put, List.getElem_toArray, List.getElem_cons_succ, List.getElem_cons_zero, List.setIfInBounds_toArray, List.set_cons_zero, List.set_cons_succ]
  refine' wpAnyH_take (i := 13) (v := ?vr1_13) rfl (by kernel_rfl) (by kernel_rfl) (by kernel_rfl) (fun _ _ _ h => h) (Or.inl ⟨by rfl, ?hyr1_13⟩) (by assumption) ?restr1_13
  case hyr1_13 => (intro w hSw; (try dsimp only at hSw); go_simp; try (with_reducible rfl))
  simp only [Act.put, List.getElem_toArray, List.getElem_cons_succ, List.getElem_cons_zero, List.setIfInBounds_toArray, List.set_cons_zero, List.set_cons_succ]
  refine' wpAnyH_take (i := 14) (v := ?vr1_14) rfl (by kernel_rfl) (by kernel_rfl) (by kernel_rfl) (fun _ _ _ h => h) (Or.inl ⟨by rfl, ?hyr1_14⟩) (by assumption) ?restr1_14
  case hyr1_14 => (intro w hSw; (try dsimp only at hSw); go_simp; try (with_reducible rfl))
  simp only [Act.put, List.getElem_toArray, List.getElem_cons_succ, List.getElem_cons_zero, List.setIfInBounds_toArray, List.set_cons_zero, List.set_cons_succ]
  refine wpAnyH_ready (rs := [15]) (by kernel_rfl) (by simp) ?_
  refine AllReadyH.cons rfl (fun K hK => ?_) AllReadyH.nil
  go_simp
  refine hK.out _ _ (ws_mk (hHeld.2.2.2.2.2.step ((Below.refl _ _).alloc (Nat.le_refl _) _))) (fun hHeld1 => ?_)
  clear hK K hHeld
  have hHeld := hHeld1
  clear hHeld1
  try simp only [Act.put, List.getElem_toArray, List.getElem_cons_succ, List.getElem_cons_zero, List.setIfInBounds_toArray, List.set_cons_zero, List.set_cons_succ]
  refine wpAnyH_ready (rs := [16]) (by kernel_rfl) (by simp) ?_
  refine AllReadyH.cons rfl (fun K hK => ?_) AllReadyH.nil
  go_simp
  refine (parseInts_new _ 5 _ [e0, e1, u3, u5, u7] _ _ _ rfl rfl (by decide) rfl HSZ.out (HS2.out.2.1.below (drewN_below _ 1))).mono ?_
  rintro e w3 ⟨v, xs, ok, rfl, hrow, hres, bb⟩
  refine hK.out _ _ (ws_mk (hHeld.2.2.2.2.2.step bb)) (fun hHeld1 => ?_)
  clear hK K hHeld
  have hHeld := hHeld1
  clear hHeld1
  try simp only [Act.put, List.getElem_toArray, List.getElem_cons_succ, List.getElem_cons_zero, List.setIfInBounds_toArray, List.set_cons_zero, List.set_cons_succ]
  refine' wpAnyH_take (i := 17) (v := ?vr1_17) rfl (by kernel_rfl) (by kernel_rfl) (by kernel_rfl) (fun _ _ _ h => h) (Or.inl ⟨by rfl, ?hyr1_17⟩) (by assumption) ?restr1_17
  case hyr1_17 => (intro w hSw; (try dsimp only at hSw); go_simp; try (with_reducible rfl))
  simp only [Act.put, List.getElem_toArray, List.getElem_cons_succ, List.getElem_cons_zero, List.setIfInBounds_toArray, List.set_cons_zero, List.set_cons_succ]
  refine' wpAnyH_take (i := 18) (v := ?vr1_18) rfl (by kernel_rfl) (by kernel_rfl) (by kernel_rfl) (fun _ _ _ h => h) (Or.inl ⟨by rfl, ?hyr1_18⟩) (by assumption) ?restr1_18
  case hyr1_18 => (intro w hSw; (try dsimp only at hSw); go_simp; try (with_reducible rfl))
  simp only [Act.put, List.getElem_toArray, List.getElem_cons_succ, List.getElem_cons_zero, List.setIfInBounds_toArray, List.set_cons_zero, List.set_cons_succ]
  refine' wpAnyH_take (i := 19) (v := ?vr1_19) rfl (by kernel_rfl) (by kernel_rfl) (by kernel_rfl) (fun _ _ _ h => h) (Or.inl ⟨by rfl, ?hyr1_19⟩) (by assumption) ?restr1_19
  case hyr1_19 => (intro w hSw; (try dsimp only at hSw); go_simp; try (with_reducible rfl))
  simp only [Act.put, List.getElem_toArray, List.getElem_cons_succ, List.getElem_cons_zero, List.setIfInBounds_toArray, List.set_cons_zero, List.set_cons_succ]
  refine' wpAnyH_take (i := 20) (v := ?vr1_20) rfl (by kernel_rfl) (by kernel_rfl) (by kernel_rfl) (fun _ _ _ h => h) (Or.inl ⟨by rfl, ?hyr1_20⟩) (by assumption) ?restr1_20
  case hyr1_20 => (intro w hSw; (try dsimp only at hSw); go_simp; try (with_reducible rfl))
  simp only [Act.put, List.getElem_toArray, List.getElem_cons_succ, List.getElem_cons_zero, List.setIfInBounds_toArray, List.set_cons_zero, List.set_cons_succ]
  refine' wpAnyH_take (i := 21) (v := ?vr1_21) rfl (by kernel_rfl) (by kernel_rfl) (by kernel_rfl) (fun _ _ _ h => h) (Or.inl ⟨by rfl, ?hyr1_21⟩) (by assumption) ?restr1_21
  case hyr1_21 => (intro w hSw; (try dsimp only at hSw); go_simp; try (with_reducible rfl))
  simp only [Act.put, List.getElem_toArray, List.getElem_cons_succ, List.getElem_cons_zero, List.setIfInBounds_toArray, List.set_cons_zero, List.set_cons_succ]
  refine wpAnyH_done (by kernel_rfl) ?_ _
  have HS3 := Lib.hid hHeld.2.2.2.2.2
  obtain ⟨NA, nc, rfl⟩ := row_slice hrow
  have HRW := Lib.hid hrow
  have HPR := Lib.hid hres
  clear hHeld HS2 hrow hres
  cases ok
  · have HFN := Lib.hid (show ∃ t, t ∈ [e0, e1, u3, u5, u7] ∧ ∀ n, ¬ IsNum t n by rcases HPR.out with ⟨h, -⟩ | ⟨-, h⟩; cases h; exact h)
    have HB3 := Lib.hid HS3.out.1
    have HNO := Lib.hid (pl_no hr.out (fun x hx => by obtain ⟨t, ht, hno⟩ := HFN.out; obtain ⟨n, hn⟩ := all_num HW.out HE.out hx t ht; exact hno n hn))
    obtain ⟨z0, z1, z2, z3, z4, f0, f1, f2, f3, f4, hz⟩ := HB3.out.zs
    go_wp2_with fail
    refine bodyPost_ret (v := .tuple #[.agg #[.int .i64 0, .int .i64 0, .int .i64 0, .int .i64 0, .int .i64 0], .bool false]) (by simp [results, Tryd.results30, go_sem, *]) rfl ⟨by rw [HNO.out]; rfl, ?_⟩
    exact HB3.out.put _ _ _ _ _
  have HTN := Lib.hid (show xs.length = 5 ∧ ∀ (k : Nat) t x, [e0, e1, u3, u5, u7][k]? = some t → xs[k]? = some x → IsNum t x by rcases HPR.out with ⟨-, h1, h2⟩ | ⟨h, -⟩; exact ⟨h1, h2⟩; cases h)
  obtain ⟨v0, v1, v2, v3, v4, hxs⟩ := five HTN.out.1
  subst hxs
  obtain ⟨gn, cap', hv, -, hnl⟩ := HRW.out.form (by simp)
  injection hv with hA _ hc
  subst hA hc
  have k0 := HRW.out.cellAt 0 (by simp)
  have k1 := HRW.out.cellAt 1 (by simp)
  have k2 := HRW.out.cellAt 2 (by simp)
  have k3 := HRW.out.cellAt 3 (by simp)
  have k4 := HRW.out.cellAt 4 (by simp)
  simp only [ints.intsV, List.map_cons, List.map_nil, List.getElem?_cons_zero, List.getElem?_cons_succ] at k0 k1 k2 k3 k4
  have HT := Lib.hid (show ∀ y, IsLT s y → (⟨v0, v1, v2, v3, v4⟩ : Lg) = y from fun y hy => by exact told2 HW.out HE.out (HTN.out.2 0 _ _ rfl rfl) (HTN.out.2 1 _ _ rfl rfl) (HTN.out.2 2 _ _ rfl rfl) (HTN.out.2 3 _ _ rfl rfl) (HTN.out.2 4 _ _ rfl rfl) hy)
  go_wp2_with fail
  go_region
  obtain ⟨Q, HQ⟩ : ∃ Q, Hid (w3.heap.size = Q) := ⟨_, Lib.hid rfl⟩
  have HB4 := Lib.hid (show RB w (w3.drew.alloc (.cells #[.int .i64 v0, .int .i64 v1, .int .i64 v2, .int .i64 v3, .int .i64 v4] 41)) from (HS3.out.1.step (drewN_below w3 1)).step ((Below.refl _ _).alloc (Nat.le_refl _) _))
  have HV4 := Lib.hid (show VarsP (w3.drew.alloc (.cells #[.int .i64 v0, .int .i64 v1, .int .i64 v2, .int .i64 v3, .int .i64 v4] 41)) from (HS3.out.2.1.below (drewN_below w3 1)).below ((Below.refl _ _).alloc (Nat.le_refl _) _))
  have HX4 := Lib.hid (show Blk (w3.drew.alloc (.cells #[.int .i64 v0, .int .i64 v1, .int .i64 v2, .int .i64 v3, .int .i64 v4] 41)) Q 41 #[.int .i64 v0, .int .i64 v1, .int .i64 v2, .int .i64 v3, .int .i64 v4] by rw [← HQ.out]; exact Blk.new w3.drew _ _)
  have HTB := Lib.hid (show TabP (w3.drew.alloc (.cells #[.int .i64 v0, .int .i64 v1, .int .i64 v2, .int .i64 v3, .int .i64 v4] 41)) from HV4.out.1)
  clear k0 k1 k2 k3 k4 HRW hnl HPR
  obtain ⟨q, ok2, hF, hy, hn⟩ : ∃ q ok2, ansText ⟨v0, v1, v2, v3, v4⟩ = .tuple #[.string q, .bool ok2] ∧ (ok2 = true → okLg ⟨v0, v1, v2, v3, v4⟩ = true ∧ ltx ⟨v0, v1, v2, v3, v4⟩ = q) ∧ (ok2 = false → okLg ⟨v0, v1, v2, v3, v4⟩ = false) := by
    unfold ansText
    cases h : okLg ⟨v0, v1, v2, v3, v4⟩
    · exact ⟨_, false, rfl, (fun c => by cases c), fun _ => rfl⟩
    · exact ⟨_, true, rfl, (fun _ => ⟨rfl, rfl⟩), (fun c => by cases c)⟩
  have HF := Lib.hid hF
  have HY := Lib.hid hy
  have HNN := Lib.hid hn
  clear hF hy hn
  go_wp2_with fail
  refine (lgi.legText_impl ⟨v0, v1, v2, v3, v4⟩ _ HTB).mono ?_
  rintro e w5 ⟨rfl, b⟩
  rw [HF.out]
  have HB5 := Lib.hid (HB4.out.step b)
  have HX5 := Lib.hid (HX4.out.below b HX4.out.lt)
  clear b HB4 HX4 HV4 HTB
  rw [HQ.out]
  cases ok2
  · clear HX5
    have HNO := Lib.hid (pl_no hr.out (fun y hy => by have e := HT.out y hy; have k := hy.1; rw [← e, HNN.out rfl] at k; cases k))
    obtain ⟨z0, z1, z2, z3, z4, f0, f1, f2, f3, f4, hz⟩ := HB5.out.zs
    go_wp2_with fail
    refine bodyPost_ret (v := .tuple #[.agg #[.int .i64 0, .int .i64 0, .int .i64 0, .int .i64 0, .int .i64 0], .bool false]) (by simp [results, Tryd.results30, go_sem, *]) rfl ⟨by rw [HNO.out]; rfl, ?_⟩
    exact HB5.out.put _ _ _ _ _
  obtain ⟨hok, hql⟩ := HY.out rfl
  by_cases hq : q = s
  · have k1 : (q.toList == s.toList) = true := by rw [hq]; simp
    have HANS := Lib.hid (pl_yes hr.out (show IsLT s ⟨v0, v1, v2, v3, v4⟩ from ⟨hok, by rw [hql, hq]⟩))
    obtain ⟨y0, y1, y2, y3, y4, yl⟩ := (⟨HX5.out.cell 0, HX5.out.cell 1, HX5.out.cell 2, HX5.out.cell 3, HX5.out.cell 4, HX5.out.lt⟩ : w5.cell? ⟨Q, 0, none⟩ = some (.int .i64 v0) ∧ w5.cell? ⟨Q, 1, none⟩ = some (.int .i64 v1) ∧ w5.cell? ⟨Q, 2, none⟩ = some (.int .i64 v2) ∧ w5.cell? ⟨Q, 3, none⟩ = some (.int .i64 v3) ∧ w5.cell? ⟨Q, 4, none⟩ = some (.int .i64 v4) ∧ Q < w5.heap.size)
    obtain ⟨z0, z1, z2, z3, z4, f0, f1, f2, f3, f4, hz⟩ := HB5.out.zs
    clear hq hok hql
    go_wp2_with fail
    refine bodyPost_ret (v := .tuple #[.agg #[.int .i64 v0, .int .i64 v1, .int .i64 v2, .int .i64 v3, .int .i64 v4], .bool true]) (by simp [results, Tryd.results30, go_sem, *]) rfl ⟨by rw [HANS.out]; rfl, ?_⟩
    exact HB5.out.put _ _ _ _ _
  · have k1 : (q.toList == s.toList) = false := by
      rw [ByteArray.toList_eq, ByteArray.toList_eq]
      simpa using fun c => hq (ByteArray.ext (Array.toList_inj.1 c))
    have HNQ := Lib.hid hq
    have HQL := Lib.hid hql
    clear hq hok hql HX5
    have HNO := Lib.hid (pl_no hr.out (fun y hy => by have e := HT.out y hy; have k := hy.2; rw [← e, HQL.out] at k; exact HNQ.out k))
    obtain ⟨z0, z1, z2, z3, z4, f0, f1, f2, f3, f4, hz⟩ := HB5.out.zs
    go_wp2_with fail
    refine bodyPost_ret (v := .tuple #[.agg #[.int .i64 0, .int .i64 0, .int .i64 0, .int .i64 0, .int .i64 0], .bool false]) (by simp [results, Tryd.results30, go_sem, *]) rfl ⟨by rw [HNO.out]; rfl, ?_⟩
    exact HB5.out.put _ _ _ _ _
end Go.Proofs.YtiojgmojnnbpiaaDoor.lgz

namespace Go.Proofs.YtiojgmojnnbpiaaDoor.len
open Go.RowKit
open reads
set_option linter.unusedVariables false

theorem band {a x b : Int} (h0 : a ≤ x) (h1 : x ≤ b) : (decide (a ≤ x) && decide (x ≤ b)) = true := by simp [h0, h1]
theorem bout {a x b : Int} (h : ¬ (a ≤ x ∧ x ≤ b)) : (decide (a ≤ x) && decide (x ≤ b)) = false := by simp; omega
/-- an answer, memory left to the caller -/
def APost (v : Value) (w : World) (e : Ending) (w' : World) : Prop := e = .returned v ∧ Below w.heap.size w w'
theorem sq_mono {a b : Int} (h0 : 0 ≤ a) (h : a ≤ b) : a * a ≤ b * b := Int.mul_le_mul h h h0 (by omega)
theorem sq_lt {a b : Int} (ha : 0 ≤ a) (hb : 0 ≤ b) (h : a * a < b * b) : a < b := by
  rcases Int.lt_or_le a b with k | k
  · exact k
  · have := sq_mono hb k; omega
theorem sq_bd (a : Int) (a0 : -100000 ≤ a) (a1 : a ≤ 100000) : 0 ≤ a * a ∧ a * a ≤ 10000000000 := by
  have h : (a * a).natAbs ≤ 100000 * 100000 := by rw [Int.natAbs_mul]; exact Nat.mul_le_mul (by omega) (by omega)
  have h0 : 0 ≤ a * a := by
    rcases Int.le_total 0 a with k | k
    · exact Int.mul_nonneg k k
    · have := Int.mul_nonneg (show 0 ≤ -a by omega) (show 0 ≤ -a by omega)
      rw [Int.neg_mul_neg] at this; exact this
  omega
/-- the greatest whole number whose square is at most S -/
def IsRoot (S r : Int) : Prop := 0 ≤ r ∧ r * r ≤ S ∧ S < (r + 1) * (r + 1)
theorem root_uniq {S r q : Int} (h : IsRoot S r) (k : IsRoot S q) : r = q := by
  have a : r < q + 1 := sq_lt h.1 (by have := k.1; omega) (by have := h.2.1; have := k.2.2; omega)
  have b : q < r + 1 := sq_lt k.1 (by have := h.1; omega) (by have := k.2.1; have := h.2.2; omega)
  omega
def okL (e n u : Int) : Prop := (-100000 ≤ e ∧ e ≤ 100000) ∧ (-100000 ≤ n ∧ n ≤ 100000) ∧ (-100000 ≤ u ∧ u ≤ 100000)
/-- what LengthOf answers -/
def LPost (e n u : Int) (w : World) (r : Ending) (w' : World) : Prop :=
  ((okL e n u ∧ ∃ q, IsRoot (e * e + n * n + u * u) q ∧ r = .returned (.tuple #[.int .i64 q, .bool true])) ∨ (¬ okL e n u ∧ r = .returned (.tuple #[.int .i64 0, .bool false]))) ∧ Below w.heap.size w w'

end Go.Proofs.YtiojgmojnnbpiaaDoor.len

namespace Go.Proofs.YtiojgmojnnbpiaaDoor.leni
open Go.RowKit
open reads base win len
set_option linter.unusedVariables false

theorem all3 {lo hi a b c : Int} {t : Bool} (h : decide ((lo ≤ a ∧ a ≤ hi) ∧ (lo ≤ b ∧ b ≤ hi) ∧ (lo ≤ c ∧ c ≤ hi)) = t) : allIn lo hi [a, b, c] = t := by
  rw [← h]; simp [allIn, btw, Bool.decide_and, Bool.and_assoc]
/-- the whole root -/
def RPost (S : Int) (w : World) (r : Ending) (w' : World) : Prop := ∃ q, IsRoot S q ∧ r = .returned (.int .i64 q) ∧ w = w'
set_option maxHeartbeats 4000000 in
set_option maxRecDepth 100000 in
theorem root_any (S : Int) (w : World) (s0 : 0 ≤ S) (s1 : S ≤ 30000000000) : Calls Tryd.prog 67 #[.int .i64 S] w (RPost S w) := by
  go_enter Tryd.func67, Tryd.ntmps67
  go_wp2_with fail
  go_loop [3, 4, 5] (fun a b _ => ∃ lo hi : Int, 0 ≤ lo ∧ lo < hi ∧ hi ≤ 200000 ∧ a = .int .i64 lo ∧ b = .int .i64 hi ∧ Hid (lo * lo ≤ S ∧ S < hi * hi)) (fun a b _ => (intOf b - intOf a).toNat)
  case atStart => exact ⟨0, 200000, by decide, by decide, by decide, rfl, rfl, Lib.hid ⟨by omega, by omega⟩⟩
  case round =>
    obtain ⟨lo, hi, l0, l1, l2, rfl, rfl, HI⟩ := hrel
    by_cases hlt : 1 < hi - lo
    · obtain ⟨M, hM⟩ : ∃ M, (lo + hi) / 2 = M := ⟨_, rfl⟩
      have m0 : lo + 1 ≤ M := by omega
      have m1 : M < hi := by omega
      have m2 : 0 ≤ M * M := Int.mul_nonneg (by omega) (by omega)
      have m3 : M * M ≤ 200000 * 200000 := sq_mono (by omega) (by omega)
      by_cases hc : M * M ≤ S
      · have hcd : decide (M * M ≤ S) = true := by simpa using hc
        go_wp2_with fail
        go_round
        case rel => exact ⟨M, hi, by omega, by omega, by omega, by first | rfl | rw [hM], rfl, Lib.hid ⟨hc, HI.out.2⟩⟩
        case measure => simp [intOf]; omega
      · have hcd : decide (M * M ≤ S) = false := by simpa using hc
        go_wp2_with fail
        go_round
        case rel => exact ⟨lo, M, by omega, by omega, by omega, rfl, by first | rfl | rw [hM], Lib.hid ⟨HI.out.1, by omega⟩⟩
        case measure => simp [intOf]; omega
    · obtain rfl : hi = lo + 1 := by omega
      have hd : decide (1 < lo + 1 - lo) = false := by simp; omega
      go_wp2_with fail
      go_ret
      exact ⟨lo, ⟨l0, HI.out.1, HI.out.2⟩, rfl, rfl⟩

theorem lengthOf_impl (e n u : Int) (w : World) : Calls Tryd.prog 36 #[.int .i64 e, .int .i64 n, .int .i64 u] w (LPost e n u w) := by
  by_cases h : (-100000 ≤ e ∧ e ≤ 100000) ∧ (-100000 ≤ n ∧ n ≤ 100000) ∧ (-100000 ≤ u ∧ u ≤ 100000)
  · have HA := Lib.hid (show okL e n u from h)
    have H1 := Lib.hid (decide_eq_true h)
    obtain ⟨p1, q1⟩ := sq_bd e h.1.1 h.1.2
    obtain ⟨p2, q2⟩ := sq_bd n h.2.1.1 h.2.1.2
    obtain ⟨p3, q3⟩ := sq_bd u h.2.2.1 h.2.2.2
    clear h
    go_enter Tryd.func36, Tryd.ntmps36
    go_wp2_with fail
    refine (lengths_new _ [e, n, u] _ _ _ true _ _ rfl rfl (by simp) rfl (all3 H1.out)).mono ?_
    rintro r w' ⟨rfl, rfl⟩
    go_wp2_with fail
    refine (root_any (e * e + n * n + u * u) _ (by omega) (by omega)).mono ?_
    rintro r w' ⟨q, hq, rfl, rfl⟩
    have HQ := Lib.hid hq
    clear hq
    go_wp2_with fail
    go_ret2
    exact ⟨.inl ⟨HA.out, q, HQ.out, rfl⟩, (Below.refl _ _).alloc (Nat.le_refl _) _⟩
  · have HA := Lib.hid (show ¬ okL e n u from h)
    have H1 := Lib.hid (decide_eq_false h)
    clear h
    go_enter Tryd.func36, Tryd.ntmps36
    go_wp2_with fail
    refine (lengths_new _ [e, n, u] _ _ _ false _ _ rfl rfl (by simp) rfl (all3 H1.out)).mono ?_
    rintro r w' ⟨rfl, rfl⟩
    go_wp2_with fail
    go_ret2
    exact ⟨.inr ⟨HA.out, rfl⟩, (Below.refl _ _).alloc (Nat.le_refl _) _⟩
end Go.Proofs.YtiojgmojnnbpiaaDoor.leni

namespace Go.Proofs.YtiojgmojnnbpiaaDoor.vsb
open Go.RowKit
open reads
set_option linter.unusedVariables false

theorem big_yes (A : Option Addr) (n cap : Nat) (w : World) (h : 65536 < n) (hm : n ≤ maxLen) :
    Calls Tryd.prog 9 #[.slice A n cap] w fun e w' => e = .returned (.bool true) ∧ w = w' := by
  unfold maxLen at hm
  have hd : decide (65536 < n) = true := by simpa using h
  have hd2 : decide (65536 < (n : Int)) = true := by simp; omega
  go_enter Tryd.func9, Tryd.ntmps9
  go_wp2_with fail
  go_ret
  exact ⟨rfl, rfl⟩
theorem big_no (A : Option Addr) (n cap : Nat) (w : World) (h : n ≤ 65536) :
    Calls Tryd.prog 9 #[.slice A n cap] w fun e w' => e = .returned (.bool false) ∧ w = w' := by
  have hd : decide (65536 < n) = false := by simpa using h
  have hd2 : decide (65536 < (n : Int)) = false := by simp; omega
  go_enter Tryd.func9, Tryd.ntmps9
  go_wp2_with fail
  go_ret
  exact ⟨rfl, rfl⟩
/-- how far a number lies from 0 -/
theorem far_is (x r : Int) (w : World) (h0 : -1000000 ≤ x) (h1 : x ≤ 1000000) (hr : Hid ((if x < 0 then -x else x) = r)) : Calls Tryd.prog 37 #[.int .i64 x] w fun e w' => e = .returned (.int .i64 r) ∧ w = w' := by
  have h := hr.out
  by_cases hx : x < 0
  · rw [if_pos hx] at h
    subst h
    have hd : decide (x < 0) = true := by simpa using hx
    go_enter Tryd.func37, Tryd.ntmps37
    go_wp2_with fail
    go_ret
    exact ⟨rfl, rfl⟩
  · rw [if_neg hx] at h
    subst h
    have hd : decide (x < 0) = false := by simpa using hx
    go_enter Tryd.func37, Tryd.ntmps37
    go_wp2_with fail
    go_ret
    exact ⟨rfl, rfl⟩
end Go.Proofs.YtiojgmojnnbpiaaDoor.vsb

namespace Go.Proofs.YtiojgmojnnbpiaaDoor.lgw
open Go.RowKit
open base ty lg
set_option linter.unusedVariables false
set_option linter.unusedSimpArgs false

set_option maxRecDepth 100000 in
theorem sin_half : ∀ k : Fin 360, sn.sinZ (((k.val : Int) + 180) % 360) = - sn.sinZ (k.val : Int) ∧ sn.cosZ (((k.val : Int) + 180) % 360) = - sn.cosZ (k.val : Int) := by decide +kernel
set_option maxRecDepth 100000 in
theorem sin_flip : ∀ k : Fin 181, sn.sinZ (-((k.val : Int) - 90)) = - sn.sinZ ((k.val : Int) - 90) ∧ sn.cosZ (-((k.val : Int) - 90)) = sn.cosZ ((k.val : Int) - 90) ∧ 0 ≤ sn.cosZ ((k.val : Int) - 90) := by decide +kernel
set_option maxRecDepth 100000 in
theorem circ1 : ∀ k : Fin 360, (999000 ≤ sn.sinZ (k.val : Int) * sn.sinZ (k.val : Int) + sn.cosZ (k.val : Int) * sn.cosZ (k.val : Int) ∧ sn.sinZ (k.val : Int) * sn.sinZ (k.val : Int) + sn.cosZ (k.val : Int) * sn.cosZ (k.val : Int) ≤ 1001200) ∧ (sn.sinZ (k.val : Int)).natAbs + (sn.cosZ (k.val : Int)).natAbs ≤ 1415 := by decide +kernel
set_option maxRecDepth 100000 in
theorem circ2 : ∀ k : Fin 181, (999000 ≤ sn.cosZ ((k.val : Int) - 90) * sn.cosZ ((k.val : Int) - 90) + sn.sinZ ((k.val : Int) - 90) * sn.sinZ ((k.val : Int) - 90) ∧ sn.cosZ ((k.val : Int) - 90) * sn.cosZ ((k.val : Int) - 90) + sn.sinZ ((k.val : Int) - 90) * sn.sinZ ((k.val : Int) - 90) ≤ 1001200) ∧ (sn.cosZ ((k.val : Int) - 90)).natAbs + (sn.sinZ ((k.val : Int) - 90)).natAbs ≤ 1415 := by decide +kernel
theorem fin_comp {c : Int} (h0 : 0 ≤ c) (h1 : c ≤ 359) : ∃ k : Fin 360, (k.val : Int) = c := ⟨⟨c.toNat, by omega⟩, by show ((c.toNat : Nat) : Int) = c; omega⟩
theorem fin_slope {c : Int} (h0 : -90 ≤ c) (h1 : c ≤ 90) : ∃ k : Fin 181, (k.val : Int) - 90 = c := ⟨⟨(c + 90).toNat, by omega⟩, by show (((c + 90).toNat : Nat) : Int) - 90 = c; omega⟩
theorem rdiv_neg (a : Int) : sn.rdiv (-a) 1000 = - sn.rdiv a 1000 := by unfold sn.rdiv; split <;> split <;> omega
theorem rdiv_near (a : Int) : -500 ≤ 1000 * sn.rdiv a 1000 - a ∧ 1000 * sn.rdiv a 1000 - a ≤ 500 := by unfold sn.rdiv; split <;> omega
/-- the shift of the reverse is the opposite one -/
theorem shf_rev {x : Lg} (h : okLg x = true) : shf (revLg x) = ⟨-(shf x).east, -(shf x).north, -(shf x).up⟩ := by
  obtain ⟨-, -, -, -, ⟨c0, c1⟩, s0, s1⟩ := okLg_lim h
  obtain ⟨k, hk⟩ := fin_comp c0 c1
  obtain ⟨j, hj⟩ := fin_slope s0 s1
  have a := sin_half k
  have b := sin_flip j
  rw [hk] at a
  rw [hj] at b
  have hl : level (revLg x) = level x := by
    show sn.rdiv (x.tape * sn.cosZ (-x.slope)) 1000 = sn.rdiv (x.tape * sn.cosZ x.slope) 1000
    rw [b.2.1]
  unfold shf
  rw [hl]
  show (⟨sn.rdiv (level x * sn.sinZ ((x.comp + 180) % 360)) 1000, sn.rdiv (level x * sn.cosZ ((x.comp + 180) % 360)) 1000, sn.rdiv (x.tape * sn.sinZ (-x.slope)) 1000⟩ : Sf) = _
  rw [a.1, a.2, b.1, Int.mul_neg, Int.mul_neg, Int.mul_neg, rdiv_neg, rdiv_neg, rdiv_neg]
theorem rev_rev {x : Lg} (h : okLg x = true) : revLg (revLg x) = x := by
  obtain ⟨-, -, -, -, ⟨c0, c1⟩, s0, s1⟩ := okLg_lim h
  obtain ⟨fr, to_, tp, cp, sl⟩ := x
  simp only at c0 c1
  show (⟨fr, to_, tp, ((cp + 180) % 360 + 180) % 360, - -sl⟩ : Lg) = _
  rw [show ((cp + 180) % 360 + 180) % 360 = cp by omega, show - -sl = sl by omega]
theorem cross (a e : Int) (h0 : -500 ≤ e) (h1 : e ≤ 500) : a * e ≤ 500 * (a.natAbs : Int) ∧ -(500 * (a.natAbs : Int)) ≤ a * e := by
  have h : (a * e).natAbs ≤ a.natAbs * 500 := by rw [Int.natAbs_mul]; exact Nat.mul_le_mul (Nat.le_refl _) (by omega)
  omega
theorem sq_small (e : Int) (h0 : -500 ≤ e) (h1 : e ≤ 500) : 0 ≤ e * e ∧ e * e ≤ 250000 := by
  have h : (e * e).natAbs ≤ 500 * 500 := by rw [Int.natAbs_mul]; exact Nat.mul_le_mul (by omega) (by omega)
  have h2 := (len.sq_bd e (by omega) (by omega)).1
  omega
theorem sq_exp (a e : Int) : (a + e) * (a + e) = a * a + 2 * (a * e) + e * e := by
  rw [Int.add_mul, Int.mul_add, Int.mul_add, Int.mul_comm e a]
  omega
theorem mul_swap (a b c d : Int) : a * b * (c * d) = a * c * (b * d) := by ac_rfl
theorem sqsum (L p q E N : Int) (hL : 0 ≤ L) (hE : -500 ≤ 1000 * E - L * p ∧ 1000 * E - L * p ≤ 500) (hN : -500 ≤ 1000 * N - L * q ∧ 1000 * N - L * q ≤ 500) (h1 : 999000 ≤ p * p + q * q ∧ p * p + q * q ≤ 1001200) (h2 : p.natAbs + q.natAbs ≤ 1415) :
    1000000 * (E * E + N * N) ≤ 1001200 * (L * L) + 1415000 * L + 500000 ∧ 999000 * (L * L) - 1415000 * L ≤ 1000000 * (E * E + N * N) := by
  obtain ⟨e, he⟩ : ∃ e, 1000 * E - L * p = e := ⟨_, rfl⟩
  obtain ⟨f, hf⟩ : ∃ f, 1000 * N - L * q = f := ⟨_, rfl⟩
  have c1 := cross (L * p) e (by omega) (by omega)
  have c2 := cross (L * q) f (by omega) (by omega)
  have n1 : ((L * p).natAbs : Int) = L * (p.natAbs : Int) := by rw [Int.natAbs_mul]; push_cast; rw [Int.ofNat_natAbs_of_nonneg hL]
  have n2 : ((L * q).natAbs : Int) = L * (q.natAbs : Int) := by rw [Int.natAbs_mul]; push_cast; rw [Int.ofNat_natAbs_of_nonneg hL]
  have n3 : L * (p.natAbs : Int) + L * (q.natAbs : Int) ≤ L * 1415 := by rw [← Int.mul_add]; exact Int.mul_le_mul_of_nonneg_left (by omega) hL
  have s1 := sq_exp (L * p) e
  have s2 := sq_exp (L * q) f
  rw [show L * p + e = 1000 * E by omega, mul_swap 1000 E 1000 E, mul_swap L p L p] at s1
  rw [show L * q + f = 1000 * N by omega, mul_swap 1000 N 1000 N, mul_swap L q L q] at s2
  have q1 : (L * L) * (p * p) + (L * L) * (q * q) = (L * L) * (p * p + q * q) := (Int.mul_add _ _ _).symm
  have LL : 0 ≤ L * L := Int.mul_nonneg hL hL
  have q2 : (L * L) * (p * p + q * q) ≤ (L * L) * 1001200 := Int.mul_le_mul_of_nonneg_left h1.2 LL
  have q3 : (L * L) * 999000 ≤ (L * L) * (p * p + q * q) := Int.mul_le_mul_of_nonneg_left h1.1 LL
  have e2 := sq_small e (by omega) (by omega)
  have f2 := sq_small f (by omega) (by omega)
  rw [n1] at c1
  rw [n2] at c2
  omega
/-- the length of a leg's shift is its tape, to within three -/
theorem len_near {x : Lg} {n : Int} (h : okLg x = true) (hn : len.IsRoot ((shf x).east * (shf x).east + (shf x).north * (shf x).north + (shf x).up * (shf x).up) n) : -3 ≤ n - x.tape ∧ n - x.tape ≤ 3 := by
  obtain ⟨-, -, -, ⟨t0, t1⟩, ⟨c0, c1⟩, s0, s1⟩ := okLg_lim h
  obtain ⟨k, hk⟩ := fin_comp c0 c1
  obtain ⟨j, hj⟩ := fin_slope s0 s1
  have a := circ1 k
  have b := circ2 j
  have cz := (sin_flip j).2.2
  have cb := sn.cosZ_bd x.slope
  rw [hk] at a
  rw [hj] at b cz
  have r1 := rdiv_near (x.tape * sn.cosZ x.slope)
  have r2 := rdiv_near (x.tape * sn.sinZ x.slope)
  have r3 := rdiv_near (level x * sn.sinZ x.comp)
  have r4 := rdiv_near (level x * sn.cosZ x.comp)
  have p0 : 0 ≤ x.tape * sn.cosZ x.slope := Int.mul_nonneg (by omega) cz
  have p1 : x.tape * sn.cosZ x.slope ≤ x.tape * 1000 := Int.mul_le_mul_of_nonneg_left cb.2 (by omega)
  have hlv : sn.rdiv (x.tape * sn.cosZ x.slope) 1000 = level x := rfl
  rw [hlv] at r1
  have l0 : 0 ≤ level x := by rw [← hlv]; unfold sn.rdiv; rw [if_neg (by omega)]; omega
  have l1 : level x ≤ x.tape := by omega
  have m1 := sqsum (level x) _ _ _ _ l0 r3 r4 a.1 a.2
  have m2 := sqsum x.tape _ _ _ _ (by omega) r1 r2 b.1 b.2
  have ll : level x * level x ≤ x.tape * x.tape := len.sq_mono l0 l1
  have tt : x.tape * x.tape ≤ x.tape * 500 := Int.mul_le_mul_of_nonneg_left t1 (by omega)
  obtain ⟨n0, n1, n2⟩ := hn
  simp only [shf] at n1 n2
  clear a b cz cb r1 r2 r3 r4 p0 p1 hlv
  generalize sn.rdiv (level x * sn.sinZ x.comp) 1000 = E at *
  generalize sn.rdiv (level x * sn.cosZ x.comp) 1000 = N at *
  generalize sn.rdiv (x.tape * sn.sinZ x.slope) 1000 = U at *
  generalize level x = L at *
  generalize x.tape = t at *
  constructor
  · rcases Int.lt_or_le (n - t) (-3) with hlt | hge
    · have g1 : (n + 1) * (n + 1) ≤ (t + -3) * (t + -3) := len.sq_mono (by omega) (by omega)
      rw [sq_exp t (-3)] at g1
      by_cases h4 : t = 4
      · subst h4; omega
      · omega
    · omega
  · rcases Int.lt_or_le 3 (n - t) with hlt | hge
    · have g1 : (t + 4) * (t + 4) ≤ n * n := len.sq_mono (by omega) (by omega)
      rw [sq_exp t 4] at g1
      omega
    · omega
theorem agree_rev {x : Lg} (h : okLg x = true) : ansAgree x (revLg x) 0 0 = .tuple #[.bool true, .bool true] := by
  have ha : aim x (revLg x) = x := by unfold aim; rw [if_pos ⟨rfl, rfl⟩, rev_rev h]
  have hn : near x x 0 0 = true := by
    unfold near tn.turn mst.mx
    simp only [Int.sub_self]
    decide
  have ho : agOk x (revLg x) 0 0 = true := by unfold agOk; rw [h, revLg_ok h]; rfl
  unfold ansAgree
  rw [ha, if_pos ⟨ho, rfl, rfl⟩, hn]
theorem agOk_parts {a b : Lg} {d q : Int} (h : agOk a b d q = true) : okLg a = true ∧ okLg b = true ∧ 0 ≤ d ∧ 0 ≤ q := by
  simp only [agOk, Bool.and_eq_true, decide_eq_true_eq] at h
  exact ⟨h.1.1.1, h.1.1.2, h.1.2, h.2⟩
theorem agOk_mk {a b : Lg} {d q : Int} (h : okLg a = true ∧ okLg b = true ∧ 0 ≤ d ∧ 0 ≤ q) : agOk a b d q = true := by
  simp only [agOk, Bool.and_eq_true, decide_eq_true_eq]
  exact ⟨⟨⟨h.1, h.2.1⟩, h.2.2.1⟩, h.2.2.2⟩
theorem near_more {a y : Lg} {d q : Int} (h : near a y d q = true) : near a y (d + 1) (q + 1) = true := by
  simp only [near, Bool.and_eq_true, decide_eq_true_eq] at h ⊢
  omega
theorem near_sym (a y a' y' : Lg) (d q : Int) (h1 : tn.turn a.comp y.comp = tn.turn a'.comp y'.comp) (h2 : mst.mx (a.slope - y.slope) (y.slope - a.slope) = mst.mx (a'.slope - y'.slope) (y'.slope - a'.slope)) (h3 : mst.mx (a.tape - y.tape) (y.tape - a.tape) = mst.mx (a'.tape - y'.tape) (y'.tape - a'.tape)) : near a y d q = near a' y' d q := by
  unfold near
  rw [h1, h2, h3]
theorem mx_flip (a b : Int) : mst.mx (a - b) (b - a) = mst.mx (b - a) (a - b) := by unfold mst.mx; split <;> split <;> omega
/-- which answers belong together -/
theorem agree_form (a b : Lg) (d q : Int) : ∃ (g ok : Bool), ansAgree a b d q = .tuple #[.bool g, .bool ok] ∧ (ok = true → ansAgree b a d q = .tuple #[.bool g, .bool true] ∧ ∃ g', ansAgree a b (d + 1) (q + 1) = .tuple #[.bool g', .bool true] ∧ (g = true → g' = true)) := by
  by_cases h : agOk a b d q = true ∧ (a.frm = (aim a b).frm ∧ a.to_ = (aim a b).to_)
  · refine ⟨near a (aim a b) d q, true, if_pos h, fun _ => ?_⟩
    obtain ⟨ho, he⟩ := h
    obtain ⟨ka, kb, kd, kq⟩ := agOk_parts ho
    refine ⟨?_, near a (aim a b) (d + 1) (q + 1), if_pos ⟨agOk_mk ⟨ka, kb, by omega, by omega⟩, he⟩, near_more⟩
    obtain ⟨-, -, na, ta, ⟨ca0, ca1⟩, sa⟩ := okLg_lim ka
    obtain ⟨-, -, nb, tb, ⟨cb0, cb1⟩, sb⟩ := okLg_lim kb
    have ho2 : agOk b a d q = true := agOk_mk ⟨kb, ka, kd, kq⟩
    by_cases hr : a.frm = b.to_ ∧ a.to_ = b.frm
    · have e1 : aim a b = revLg b := if_pos hr
      have e2 : aim b a = revLg a := if_pos ⟨hr.2.symm, hr.1.symm⟩
      unfold ansAgree
      rw [e1, e2, if_pos ⟨ho2, hr.2.symm, hr.1.symm⟩]
      have hh : near b (revLg a) d q = near a (revLg b) d q := by
        refine near_sym _ _ _ _ d q ?_ ?_ (mx_flip _ _)
        · show tn.turn b.comp ((a.comp + 180) % 360) = tn.turn a.comp ((b.comp + 180) % 360)
          unfold tn.turn; split <;> split <;> omega
        · show mst.mx (b.slope - -a.slope) (-a.slope - b.slope) = mst.mx (a.slope - -b.slope) (-b.slope - a.slope)
          rw [show b.slope - -a.slope = a.slope - -b.slope by omega, show -a.slope - b.slope = -b.slope - a.slope by omega]
      rw [hh]
    · have e1 : aim a b = b := if_neg hr
      have e2 : aim b a = a := if_neg (fun k => hr ⟨k.2.symm, k.1.symm⟩)
      rw [e1] at he ⊢
      unfold ansAgree
      rw [e2, if_pos ⟨ho2, he.1.symm, he.2.symm⟩]
      have hh : near b a d q = near a b d q := by
        refine near_sym _ _ _ _ d q ?_ (mx_flip _ _) (mx_flip _ _)
        unfold tn.turn; split <;> split <;> omega
      rw [hh]
  · exact ⟨false, false, if_neg h, fun k => by cases k⟩
end Go.Proofs.YtiojgmojnnbpiaaDoor.lgw

namespace Go.Proofs.YtiojgmojnnbpiaaDoor.lgd
open Go.RowKit
open reads curs curd cure ty drl base
set_option linter.unusedVariables false
set_option linter.unusedSimpArgs false

/-- a drawn leg, behind its function -/
def LPo (w : World) (e : Ending) (w' : World) : Prop := ∃ t : Lg, e = .returned (.agg #[.int .i64 t.frm, .int .i64 t.to_, .int .i64 t.tape, .int .i64 t.comp, .int .i64 t.slope]) ∧ Below w.heap.size w w'
theorem box5 {v : World} {X : Nat} {T : TypeId} (h : Blk v X T #[.int .i64 0, .int .i64 0, .int .i64 0, .int .i64 0, .int .i64 0]) : v.cell? ⟨X, 0, none⟩ = some (.int .i64 0) ∧ v.cell? ⟨X, 1, none⟩ = some (.int .i64 0) ∧ v.cell? ⟨X, 2, none⟩ = some (.int .i64 0) ∧ v.cell? ⟨X, 3, none⟩ = some (.int .i64 0) ∧ v.cell? ⟨X, 4, none⟩ = some (.int .i64 0) ∧ v.frozen? ⟨X, 0, none⟩ = false ∧ v.frozen? ⟨X, 1, none⟩ = false ∧ v.frozen? ⟨X, 2, none⟩ = false ∧ v.frozen? ⟨X, 3, none⟩ = false ∧ v.frozen? ⟨X, 4, none⟩ = false ∧ X < v.heap.size := ⟨h.cell 0, h.cell 1, h.cell 2, h.cell 3, h.cell 4, h.frozen 0, h.frozen 1, h.frozen 2, h.frozen 3, h.frozen 4, h.lt⟩
set_option maxHeartbeats 2000000 in
set_option maxRecDepth 100000 in
theorem isLeg_draw (A : Option Addr) (n cap : Nat) (zs : List UInt8) (w : World) (h : Hid (curs.Code w A n zs)) : Calls Tryd.prog 61 #[.slice A n cap] w (LPo w) := by
  have HCD := Lib.hid (h.out.below ((Below.refl w.heap.size w).alloc (Nat.le_refl _) (.cells #[.int .i64 0, .int .i64 0, .int .i64 0, .int .i64 0, .int .i64 0] 41)))
  have HZ0 := Lib.hid (Blk.new w 41 #[.int .i64 0, .int .i64 0, .int .i64 0, .int .i64 0, .int .i64 0])
  have HB0 := Lib.hid ((Below.refl w.heap.size w).alloc (Nat.le_refl _) (.cells #[.int .i64 0, .int .i64 0, .int .i64 0, .int .i64 0, .int .i64 0] 41))
  go_enter Tryd.func61, Tryd.ntmps61
  go_wp2_with fail
  have hs1 : (w.alloc (.cells #[.int .i64 0, .int .i64 0, .int .i64 0, .int .i64 0, .int .i64 0] 41)).heap.size = w.heap.size + 1 := by simp
  have HC0 := Lib.hid (cur_new cap HCD.out)
  rw [hs1] at HC0
  refine (leg_any (w.heap.size + 1) (w.heap.size + 1) 0 A n cap zs _ (by omega) HC0).mono ?_
  rintro e w1 ⟨t, rfl, hok, hC, hG⟩
  have b1 := low (w := w.alloc (.cells #[.int .i64 0, .int .i64 0, .int .i64 0, .int .i64 0, .int .i64 0] 41)) (by rw [hs1]; exact hG)
  clear hC hG HC0 hs1
  have HZ1 := Lib.hid (HZ0.out.below b1 HZ0.out.lt)
  have HB1 := Lib.hid (HB0.out.trans (b1.mono HB0.out.size))
  clear b1 HZ0 HB0 HCD
  obtain ⟨z0, z1, z2, z3, z4, f0, f1, f2, f3, f4, hl⟩ := box5 HZ1.out
  go_wp2_with fail
  refine bodyPost_ret (v := .agg #[.int .i64 t.frm, .int .i64 t.to_, .int .i64 t.tape, .int .i64 t.comp, .int .i64 t.slope]) (by simp [results, Tryd.results61, go_sem, *]) rfl ⟨t, rfl, ?_⟩
  exact ((((HB1.out.setCell (Nat.le_refl _) _).setCell (Nat.le_refl _) _).setCell (Nat.le_refl _) _).setCell (Nat.le_refl _) _).setCell (Nat.le_refl _) _
set_option maxHeartbeats 2000000 in
set_option maxRecDepth 100000 in
theorem shiftOf_draw (A : Option Addr) (n cap : Nat) (zs : List UInt8) (w : World) (h : Hid (curs.Code w A n zs)) : Calls Tryd.prog 32 #[.slice A n cap] w (LPo w) := by
  have HCD := Lib.hid (h.out.below ((Below.refl w.heap.size w).alloc (Nat.le_refl _) (.cells #[.int .i64 0, .int .i64 0, .int .i64 0, .int .i64 0, .int .i64 0] 41)))
  have HZ0 := Lib.hid (Blk.new w 41 #[.int .i64 0, .int .i64 0, .int .i64 0, .int .i64 0, .int .i64 0])
  have HB0 := Lib.hid ((Below.refl w.heap.size w).alloc (Nat.le_refl _) (.cells #[.int .i64 0, .int .i64 0, .int .i64 0, .int .i64 0, .int .i64 0] 41))
  go_enter Tryd.func32, Tryd.ntmps32
  go_wp2_with fail
  refine (isLeg_draw A n cap zs _ HCD).mono ?_
  rintro e w1 ⟨t, rfl, b1⟩
  have HZ1 := Lib.hid (HZ0.out.below b1 HZ0.out.lt)
  have HB1 := Lib.hid (HB0.out.trans (b1.mono HB0.out.size))
  clear b1 HZ0 HB0 HCD
  obtain ⟨z0, z1, z2, z3, z4, f0, f1, f2, f3, f4, hl⟩ := box5 HZ1.out
  go_wp2_with fail
  refine bodyPost_ret (v := .agg #[.int .i64 t.frm, .int .i64 t.to_, .int .i64 t.tape, .int .i64 t.comp, .int .i64 t.slope]) (by simp [results, Tryd.results32, go_sem, *]) rfl ⟨t, rfl, ?_⟩
  exact ((((HB1.out.setCell (Nat.le_refl _) _).setCell (Nat.le_refl _) _).setCell (Nat.le_refl _) _).setCell (Nat.le_refl _) _).setCell (Nat.le_refl _) _
set_option maxHeartbeats 2000000 in
set_option maxRecDepth 100000 in
theorem legText_draw (A : Option Addr) (n cap : Nat) (zs : List UInt8) (w : World) (h : Hid (curs.Code w A n zs)) : Calls Tryd.prog 39 #[.slice A n cap] w (LPo w) := by
  have HCD := Lib.hid (h.out.below ((Below.refl w.heap.size w).alloc (Nat.le_refl _) (.cells #[.int .i64 0, .int .i64 0, .int .i64 0, .int .i64 0, .int .i64 0] 41)))
  have HZ0 := Lib.hid (Blk.new w 41 #[.int .i64 0, .int .i64 0, .int .i64 0, .int .i64 0, .int .i64 0])
  have HB0 := Lib.hid ((Below.refl w.heap.size w).alloc (Nat.le_refl _) (.cells #[.int .i64 0, .int .i64 0, .int .i64 0, .int .i64 0, .int .i64 0] 41))
  go_enter Tryd.func39, Tryd.ntmps39
  go_wp2_with fail
  refine (isLeg_draw A n cap zs _ HCD).mono ?_
  rintro e w1 ⟨t, rfl, b1⟩
  have HZ1 := Lib.hid (HZ0.out.below b1 HZ0.out.lt)
  have HB1 := Lib.hid (HB0.out.trans (b1.mono HB0.out.size))
  clear b1 HZ0 HB0 HCD
  obtain ⟨z0, z1, z2, z3, z4, f0, f1, f2, f3, f4, hl⟩ := box5 HZ1.out
  go_wp2_with fail
  refine bodyPost_ret (v := .agg #[.int .i64 t.frm, .int .i64 t.to_, .int .i64 t.tape, .int .i64 t.comp, .int .i64 t.slope]) (by simp [results, Tryd.results39, go_sem, *]) rfl ⟨t, rfl, ?_⟩
  exact ((((HB1.out.setCell (Nat.le_refl _) _).setCell (Nat.le_refl _) _).setCell (Nat.le_refl _) _).setCell (Nat.le_refl _) _).setCell (Nat.le_refl _) _
theorem grown_drew (u : World) (r : Option Nat) : u.grownBy u.drew r := ⟨rfl, rfl, rfl, Nat.le_refl _, fun _ _ _ => rfl⟩
/-- a spoilt text -/
def SPo (B b k : Nat) (A : Option Addr) (n cap : Nat) (zs : List UInt8) (m : Nat) (w : World) (e : Ending) (w' : World) : Prop :=
  ∃ s : ByteArray, e = .returned (.string s) ∧ s.size ≤ m ∧ Cur w' B b k A n cap zs ∧ w.grownBy w' (some b)
set_option maxHeartbeats 4000000 in
set_option maxRecDepth 100000 in
theorem spoilt_any (B b k : Nat) (A : Option Addr) (n cap : Nat) (zs : List UInt8) (t u : ByteArray) (m : Nat) (w : World) (hk : k ≤ 60000) (h : Hid (Cur w B b k A n cap zs)) (ht : Hid (t.size = m)) (h0 : 0 < m) (h1 : m ≤ 100) (hu : Hid (u.size = 4)) :
    Calls Tryd.prog 72 #[.pointer (some ⟨b, 0, none⟩), .string t, .string u] w (SPo B b (k + 3) A n cap zs (m + 1) w) := by
  have hne : t.toList.isEmpty = false := by
    rw [Lib.toList_data]
    have h2 : t.data.toList.length = m := ht.out
    cases hh : t.data.toList with
    | nil => rw [hh] at h2; simp at h2; omega
    | cons a l => rfl
  have htm := ht.out
  have hum := hu.out
  go_enter Tryd.func72, Tryd.ntmps72
  go_wp2_with fail
  refine (pick_any B b k A n cap zs _ m (by omega) h.out h0 (by omega)).mono ?_
  rintro e w1 ⟨i, rfl, hi, hC, hg⟩
  have hi2 : i < m := by omega
  have HC1 := Lib.hid hC
  have HG1 := Lib.hid hg
  clear hC hg hi
  go_wp2_with fail
  refine (pick_any B b (k + 1) A n cap zs _ 4 (by omega) HC1.out (by omega) (by omega)).mono ?_
  rintro e w2 ⟨j, rfl, hj, hC, hg⟩
  have HC2 := Lib.hid hC
  have HG2 := Lib.hid (HG1.out.trans hg)
  clear hC hg HC1 HG1
  have hj4 : j ≤ 4 := by omega
  have hv : (u.extract j 4).size = 4 - j := by simp [ByteArray.size_extract]; omega
  go_wp2_with fail
  refine (pick_any B b (k + 2) A n cap zs _ 3 (by omega) HC2.out (by omega) (by omega)).mono ?_
  rintro e w3 ⟨q, rfl, hq, hC, hg⟩
  have HC3 := Lib.hid hC
  have HG3 := Lib.hid (HG2.out.trans hg)
  clear hC hg HC2 HG2
  obtain ⟨v, HV⟩ : ∃ v, Hid ((u.extract j 4).extract 0 1 = v) := ⟨_, Lib.hid rfl⟩
  have hvs : v.size = 1 := by rw [← HV.out]; simp [ByteArray.size_extract]; omega
  obtain ⟨a, HA⟩ : ∃ a, Hid (t.extract 0 i = a) := ⟨_, Lib.hid rfl⟩
  have has : a.size = i := by rw [← HA.out]; simp [ByteArray.size_extract]; omega
  have him : i ≤ m := by omega
  rw [HV.out]
  clear hv hum hu hj hj4
  by_cases q0 : q = 0
  · subst q0
    obtain ⟨c, HC⟩ : ∃ c, Hid (t.extract i m = c) := ⟨_, Lib.hid rfl⟩
    have hcs : c.size = m - i := by rw [← HC.out]; simp [ByteArray.size_extract]; omega
    go_upto_region 7 with fail
    obtain ⟨p1, P1⟩ : ∃ p, Hid (a ++ v = p) := ⟨_, Lib.hid rfl⟩
    obtain ⟨p2, P2⟩ : ∃ p, Hid (p1 ++ c = p) := ⟨_, Lib.hid rfl⟩
    have hp1 := txt.add_size P1.out
    have hp2 := txt.add_size P2.out
    have A1 := Lib.hid (fun W => txt.add_run P1.out 1000 (by omega) (by decide) W)
    have A2 := Lib.hid (fun W => txt.add_run P2.out 1000 (by omega) (by decide) W)
    refine wp_region_held_drew (S := (fun v => Cur v B b (k + 3) A n cap zs ∧ w.grownBy v (some b))) (by kernel_rfl) ?_ (fun hHeld => ?_)
    · exact ⟨cur_below HC3.out (drewN_below w3 1), HG3.out.trans (grown_drew w3 _)⟩
    refine' wpAnyH_take (i := 0) (v := ?vr1_0) rfl (by kernel_rfl) (by kernel_rfl) (by kernel_rfl) (fun _ _ _ h => h) (Or.inl ⟨by rfl, ?hyr1_0⟩) (by assumption) ?restr1_0
    case hyr1_0 => (intro w hSw; (try dsimp only at hSw); go_simp; try (with_reducible rfl))
    simp only [Act.put, List.getElem_toArray, List.getElem_cons_succ, List.getElem_cons_zero, List.setIfInBounds_toArray, List.set_cons_zero, List.set_cons_succ]
    refine' wpAnyH_take (i := 1) (v := ?vr1_1) rfl (by kernel_rfl) (by kernel_rfl) (by kernel_rfl) (fun _ _ _ h => h) (Or.inl ⟨by rfl, ?hyr1_1⟩) (by assumption) ?restr1_1
    case hyr1_1 => (intro w hSw; (try dsimp only at hSw); go_simp; try (with_reducible rfl))
    simp only [Act.put, List.getElem_toArray, List.getElem_cons_succ, List.getElem_cons_zero, List.setIfInBounds_toArray, List.set_cons_zero, List.set_cons_succ]
    refine' wpAnyH_take (i := 2) (v := ?vr1_2) rfl (by kernel_rfl) (by kernel_rfl) (by kernel_rfl) (fun _ _ _ h => h) (Or.inl ⟨by rfl, ?hyr1_2⟩) (by assumption) ?restr1_2
    case hyr1_2 => (intro w hSw; (try dsimp only at hSw); go_simp; try (with_reducible rfl))
    simp only [Act.put, List.getElem_toArray, List.getElem_cons_succ, List.getElem_cons_zero, List.setIfInBounds_toArray, List.set_cons_zero, List.set_cons_succ]
    simp only [HA.out]
    refine' wpAnyH_take (i := 3) (v := ?vr1_3) rfl (by kernel_rfl) (by kernel_rfl) (by kernel_rfl) (fun _ _ _ h => h) (Or.inl ⟨by rfl, ?hyr1_3⟩) (by assumption) ?restr1_3
    case hyr1_3 => (intro w hSw; (try dsimp only at hSw); go_simp; try (with_reducible rfl))
    simp only [Act.put, List.getElem_toArray, List.getElem_cons_succ, List.getElem_cons_zero, List.setIfInBounds_toArray, List.set_cons_zero, List.set_cons_succ]
    have hw := A1.out
    refine' wpAnyH_take (i := 4) (v := ?vr1_4) rfl (by kernel_rfl) (by kernel_rfl) (by kernel_rfl) (fun _ _ _ h => h) (Or.inl ⟨by rfl, ?hyr1_4⟩) (by assumption) ?restr1_4
    case hyr1_4 => (intro w hSw; (try dsimp only at hSw); go_simp; try (with_reducible rfl))
    simp only [Act.put, List.getElem_toArray, List.getElem_cons_succ, List.getElem_cons_zero, List.setIfInBounds_toArray, List.set_cons_zero, List.set_cons_succ]
    clear hw
    refine' wpAnyH_take (i := 5) (v := ?vr1_5) rfl (by kernel_rfl) (by kernel_rfl) (by kernel_rfl) (fun _ _ _ h => h) (Or.inl ⟨by rfl, ?hyr1_5⟩) (by assumption) ?restr1_5
    case hyr1_5 => (intro w hSw; (try dsimp only at hSw); go_simp; try (with_reducible rfl))
    simp only [Act.put, List.getElem_toArray, List.getElem_cons_succ, List.getElem_cons_zero, List.setIfInBounds_toArray, List.set_cons_zero, List.set_cons_succ]
    refine' wpAnyH_take (i := 6) (v := ?vr1_6) rfl (by kernel_rfl) (by kernel_rfl) (by kernel_rfl) (fun _ _ _ h => h) (Or.inl ⟨by rfl, ?hyr1_6⟩) (by assumption) ?restr1_6
    case hyr1_6 => (intro w hSw; (try dsimp only at hSw); go_simp; try (with_reducible rfl))
    simp only [Act.put, List.getElem_toArray, List.getElem_cons_succ, List.getElem_cons_zero, List.setIfInBounds_toArray, List.set_cons_zero, List.set_cons_succ]
    refine' wpAnyH_take (i := 7) (v := ?vr1_7) rfl (by kernel_rfl) (by kernel_rfl) (by kernel_rfl) (fun _ _ _ h => h) (Or.inl ⟨by rfl, ?hyr1_7⟩) (by assumption) ?restr1_7
    case hyr1_7 => (intro w hSw; (try dsimp only at hSw); go_simp; try (with_reducible rfl))
    simp only [Act.put, List.getElem_toArray, List.getElem_cons_succ, List.getElem_cons_zero, List.setIfInBounds_toArray, List.set_cons_zero, List.set_cons_succ]
    simp only [HC.out]
    have hw := A2.out
    refine' wpAnyH_take (i := 8) (v := ?vr1_8) rfl (by kernel_rfl) (by kernel_rfl) (by kernel_rfl) (fun _ _ _ h => h) (Or.inl ⟨by rfl, ?hyr1_8⟩) (by assumption) ?restr1_8
    case hyr1_8 => (intro w hSw; (try dsimp only at hSw); go_simp; try (with_reducible rfl))
    simp only [Act.put, List.getElem_toArray, List.getElem_cons_succ, List.getElem_cons_zero, List.setIfInBounds_toArray, List.set_cons_zero, List.set_cons_succ]
    clear hw
    refine' wpAnyH_take (i := 9) (v := ?vr1_9) rfl (by kernel_rfl) (by kernel_rfl) (by kernel_rfl) (fun _ _ _ h => h) (Or.inl ⟨by rfl, ?hyr1_9⟩) (by assumption) ?restr1_9
    case hyr1_9 => (intro w hSw; (try dsimp only at hSw); go_simp; try (with_reducible rfl))
    simp only [Act.put, List.getElem_toArray, List.getElem_cons_succ, List.getElem_cons_zero, List.setIfInBounds_toArray, List.set_cons_zero, List.set_cons_succ]
    refine wpAnyH_done (by kernel_rfl) ?_ _
    obtain ⟨HCE, HGE⟩ := hHeld
    have HCE := Lib.hid HCE
    have HGE := Lib.hid HGE
    go_wp2_with fail
    go_ret
    exact ⟨p2, rfl, by omega, HCE.out, HGE.out⟩
  by_cases q1 : q = 1
  · subst q1
    obtain ⟨i1, hi1⟩ : ∃ i1, i + 1 = i1 := ⟨_, rfl⟩
    have HW := Lib.hid (show IntKind.i64.wrap ((i : Int) + 1) = (i1 : Int) by rw [IntKind.wrap_i64]; omega)
    have him1 : i1 ≤ m := by omega
    obtain ⟨c, HC⟩ : ∃ c, Hid (t.extract i1 m = c) := ⟨_, Lib.hid rfl⟩
    have hcs : c.size = m - i1 := by rw [← HC.out]; simp [ByteArray.size_extract]; omega
    go_upto_region 9 with fail
    obtain ⟨p1, P1⟩ : ∃ p, Hid (a ++ v = p) := ⟨_, Lib.hid rfl⟩
    obtain ⟨p2, P2⟩ : ∃ p, Hid (p1 ++ c = p) := ⟨_, Lib.hid rfl⟩
    have hp1 := txt.add_size P1.out
    have hp2 := txt.add_size P2.out
    have A1 := Lib.hid (fun W => txt.add_run P1.out 1000 (by omega) (by decide) W)
    have A2 := Lib.hid (fun W => txt.add_run P2.out 1000 (by omega) (by decide) W)
    refine wp_region_held_drew (S := (fun v => Cur v B b (k + 3) A n cap zs ∧ w.grownBy v (some b))) (by kernel_rfl) ?_ (fun hHeld => ?_)
    · exact ⟨cur_below HC3.out (drewN_below w3 1), HG3.out.trans (grown_drew w3 _)⟩
    refine' wpAnyH_take (i := 0) (v := ?vr2_0) rfl (by kernel_rfl) (by kernel_rfl) (by kernel_rfl) (fun _ _ _ h => h) (Or.inl ⟨by rfl, ?hyr2_0⟩) (by assumption) ?restr2_0
    case hyr2_0 => (intro w hSw; (try dsimp only at hSw); go_simp; try (with_reducible rfl))
    simp only [Act.put, List.getElem_toArray, List.getElem_cons_succ, List.getElem_cons_zero, List.setIfInBounds_toArray, List.set_cons_zero, List.set_cons_succ]
    refine' wpAnyH_take (i := 1) (v := ?vr2_1) rfl (by kernel_rfl) (by kernel_rfl) (by kernel_rfl) (fun _ _ _ h => h) (Or.inl ⟨by rfl, ?hyr2_1⟩) (by assumption) ?restr2_1
    case hyr2_1 => (intro w hSw; (try dsimp only at hSw); go_simp; try (with_reducible rfl))
    simp only [Act.put, List.getElem_toArray, List.getElem_cons_succ, List.getElem_cons_zero, List.setIfInBounds_toArray, List.set_cons_zero, List.set_cons_succ]
    refine' wpAnyH_take (i := 2) (v := ?vr2_2) rfl (by kernel_rfl) (by kernel_rfl) (by kernel_rfl) (fun _ _ _ h => h) (Or.inl ⟨by rfl, ?hyr2_2⟩) (by assumption) ?restr2_2
    case hyr2_2 => (intro w hSw; (try dsimp only at hSw); go_simp; try (with_reducible rfl))
    simp only [Act.put, List.getElem_toArray, List.getElem_cons_succ, List.getElem_cons_zero, List.setIfInBounds_toArray, List.set_cons_zero, List.set_cons_succ]
    simp only [HA.out]
    refine' wpAnyH_take (i := 3) (v := ?vr2_3) rfl (by kernel_rfl) (by kernel_rfl) (by kernel_rfl) (fun _ _ _ h => h) (Or.inl ⟨by rfl, ?hyr2_3⟩) (by assumption) ?restr2_3
    case hyr2_3 => (intro w hSw; (try dsimp only at hSw); go_simp; try (with_reducible rfl))
    simp only [Act.put, List.getElem_toArray, List.getElem_cons_succ, List.getElem_cons_zero, List.setIfInBounds_toArray, List.set_cons_zero, List.set_cons_succ]
    have hw := A1.out
    refine' wpAnyH_take (i := 4) (v := ?vr2_4) rfl (by kernel_rfl) (by kernel_rfl) (by kernel_rfl) (fun _ _ _ h => h) (Or.inl ⟨by rfl, ?hyr2_4⟩) (by assumption) ?restr2_4
    case hyr2_4 => (intro w hSw; (try dsimp only at hSw); go_simp; try (with_reducible rfl))
    simp only [Act.put, List.getElem_toArray, List.getElem_cons_succ, List.getElem_cons_zero, List.setIfInBounds_toArray, List.set_cons_zero, List.set_cons_succ]
    clear hw
    refine' wpAnyH_take (i := 5) (v := ?vr2_5) rfl (by kernel_rfl) (by kernel_rfl) (by kernel_rfl) (fun _ _ _ h => h) (Or.inl ⟨by rfl, ?hyr2_5⟩) (by assumption) ?restr2_5
    case hyr2_5 => (intro w hSw; (try dsimp only at hSw); go_simp; try (with_reducible rfl))
    simp only [Act.put, List.getElem_toArray, List.getElem_cons_succ, List.getElem_cons_zero, List.setIfInBounds_toArray, List.set_cons_zero, List.set_cons_succ]
    refine' wpAnyH_take (i := 6) (v := ?vr2_6) rfl (by kernel_rfl) (by kernel_rfl) (by kernel_rfl) (fun _ _ _ h => h) (Or.inl ⟨by rfl, ?hyr2_6⟩) (by assumption) ?restr2_6
    case hyr2_6 => (intro w hSw; (try dsimp only at hSw); go_simp; try (with_reducible rfl))
    simp only [Act.put, List.getElem_toArray, List.getElem_cons_succ, List.getElem_cons_zero, List.setIfInBounds_toArray, List.set_cons_zero, List.set_cons_succ]
    refine' wpAnyH_take (i := 7) (v := ?vr2_7) rfl (by kernel_rfl) (by kernel_rfl) (by kernel_rfl) (fun _ _ _ h => h) (Or.inl ⟨by rfl, ?hyr2_7⟩) (by assumption) ?restr2_7
    case hyr2_7 => (intro w hSw; (try dsimp only at hSw); go_simp; try (with_reducible rfl))
    simp only [Act.put, List.getElem_toArray, List.getElem_cons_succ, List.getElem_cons_zero, List.setIfInBounds_toArray, List.set_cons_zero, List.set_cons_succ]
    simp only [HW.out]
    refine' wpAnyH_take (i := 8) (v := ?vr2_8) rfl (by kernel_rfl) (by kernel_rfl) (by kernel_rfl) (fun _ _ _ h => h) (Or.inl ⟨by rfl, ?hyr2_8⟩) (by assumption) ?restr2_8
    case hyr2_8 => (intro w hSw; (try dsimp only at hSw); go_simp; try (with_reducible rfl))
    simp only [Act.put, List.getElem_toArray, List.getElem_cons_succ, List.getElem_cons_zero, List.setIfInBounds_toArray, List.set_cons_zero, List.set_cons_succ]
    simp only [HC.out]
    have hw := A2.out
    refine' wpAnyH_take (i := 9) (v := ?vr2_9) rfl (by kernel_rfl) (by kernel_rfl) (by kernel_rfl) (fun _ _ _ h => h) (Or.inl ⟨by rfl, ?hyr2_9⟩) (by assumption) ?restr2_9
    case hyr2_9 => (intro w hSw; (try dsimp only at hSw); go_simp; try (with_reducible rfl))
    simp only [Act.put, List.getElem_toArray, List.getElem_cons_succ, List.getElem_cons_zero, List.setIfInBounds_toArray, List.set_cons_zero, List.set_cons_succ]
    clear hw
    refine' wpAnyH_take (i := 10) (v := ?vr2_10) rfl (by kernel_rfl) (by kernel_rfl) (by kernel_rfl) (fun _ _ _ h => h) (Or.inl ⟨by rfl, ?hyr2_10⟩) (by assumption) ?restr2_10
    case hyr2_10 => (intro w hSw; (try dsimp only at hSw); go_simp; try (with_reducible rfl))
    simp only [Act.put, List.getElem_toArray, List.getElem_cons_succ, List.getElem_cons_zero, List.setIfInBounds_toArray, List.set_cons_zero, List.set_cons_succ]
    refine wpAnyH_done (by kernel_rfl) ?_ _
    obtain ⟨HCE, HGE⟩ := hHeld
    have HCE := Lib.hid HCE
    have HGE := Lib.hid HGE
    go_wp2_with fail
    go_ret
    exact ⟨p2, rfl, by omega, HCE.out, HGE.out⟩
  · have q2 : q = 2 := by omega
    subst q2
    obtain ⟨i1, hi1⟩ : ∃ i1, i + 1 = i1 := ⟨_, rfl⟩
    have HW := Lib.hid (show IntKind.i64.wrap ((i : Int) + 1) = (i1 : Int) by rw [IntKind.wrap_i64]; omega)
    have him1 : i1 ≤ m := by omega
    obtain ⟨c, HC⟩ : ∃ c, Hid (t.extract i1 m = c) := ⟨_, Lib.hid rfl⟩
    have hcs : c.size = m - i1 := by rw [← HC.out]; simp [ByteArray.size_extract]; omega
    go_upto_region 10 with fail
    obtain ⟨p2, P2⟩ : ∃ p, Hid (a ++ c = p) := ⟨_, Lib.hid rfl⟩
    have hp2 := txt.add_size P2.out
    have A2 := Lib.hid (fun W => txt.add_run P2.out 1000 (by omega) (by decide) W)
    refine wp_region_held_drew (S := (fun v => Cur v B b (k + 3) A n cap zs ∧ w.grownBy v (some b))) (by kernel_rfl) ?_ (fun hHeld => ?_)
    · exact ⟨cur_below HC3.out (drewN_below w3 1), HG3.out.trans (grown_drew w3 _)⟩
    refine' wpAnyH_take (i := 0) (v := ?vr3_0) rfl (by kernel_rfl) (by kernel_rfl) (by kernel_rfl) (fun _ _ _ h => h) (Or.inl ⟨by rfl, ?hyr3_0⟩) (by assumption) ?restr3_0
    case hyr3_0 => (intro w hSw; (try dsimp only at hSw); go_simp; try (with_reducible rfl))
    simp only [Act.put, List.getElem_toArray, List.getElem_cons_succ, List.getElem_cons_zero, List.setIfInBounds_toArray, List.set_cons_zero, List.set_cons_succ]
    refine' wpAnyH_take (i := 1) (v := ?vr3_1) rfl (by kernel_rfl) (by kernel_rfl) (by kernel_rfl) (fun _ _ _ h => h) (Or.inl ⟨by rfl, ?hyr3_1⟩) (by assumption) ?restr3_1
    case hyr3_1 => (intro w hSw; (try dsimp only at hSw); go_simp; try (with_reducible rfl))
    simp only [Act.put, List.getElem_toArray, List.getElem_cons_succ, List.getElem_cons_zero, List.setIfInBounds_toArray, List.set_cons_zero, List.set_cons_succ]
    refine' wpAnyH_take (i := 2) (v := ?vr3_2) rfl (by kernel_rfl) (by kernel_rfl) (by kernel_rfl) (fun _ _ _ h => h) (Or.inl ⟨by rfl, ?hyr3_2⟩) (by assumption) ?restr3_2
    case hyr3_2 => (intro w hSw; (try dsimp only at hSw); go_simp; try (with_reducible rfl))
    simp only [Act.put, List.getElem_toArray, List.getElem_cons_succ, List.getElem_cons_zero, List.setIfInBounds_toArray, List.set_cons_zero, List.set_cons_succ]
    simp only [HA.out]
    refine' wpAnyH_take (i := 3) (v := ?vr3_3) rfl (by kernel_rfl) (by kernel_rfl) (by kernel_rfl) (fun _ _ _ h => h) (Or.inl ⟨by rfl, ?hyr3_3⟩) (by assumption) ?restr3_3
    case hyr3_3 => (intro w hSw; (try dsimp only at hSw); go_simp; try (with_reducible rfl))
    simp only [Act.put, List.getElem_toArray, List.getElem_cons_succ, List.getElem_cons_zero, List.setIfInBounds_toArray, List.set_cons_zero, List.set_cons_succ]
    refine' wpAnyH_take (i := 4) (v := ?vr3_4) rfl (by kernel_rfl) (by kernel_rfl) (by kernel_rfl) (fun _ _ _ h => h) (Or.inl ⟨by rfl, ?hyr3_4⟩) (by assumption) ?restr3_4
    case hyr3_4 => (intro w hSw; (try dsimp only at hSw); go_simp; try (with_reducible rfl))
    simp only [Act.put, List.getElem_toArray, List.getElem_cons_succ, List.getElem_cons_zero, List.setIfInBounds_toArray, List.set_cons_zero, List.set_cons_succ]
    refine' wpAnyH_take (i := 5) (v := ?vr3_5) rfl (by kernel_rfl) (by kernel_rfl) (by kernel_rfl) (fun _ _ _ h => h) (Or.inl ⟨by rfl, ?hyr3_5⟩) (by assumption) ?restr3_5
    case hyr3_5 => (intro w hSw; (try dsimp only at hSw); go_simp; try (with_reducible rfl))
    simp only [Act.put, List.getElem_toArray, List.getElem_cons_succ, List.getElem_cons_zero, List.setIfInBounds_toArray, List.set_cons_zero, List.set_cons_succ]
    simp only [HW.out]
    refine' wpAnyH_take (i := 6) (v := ?vr3_6) rfl (by kernel_rfl) (by kernel_rfl) (by kernel_rfl) (fun _ _ _ h => h) (Or.inl ⟨by rfl, ?hyr3_6⟩) (by assumption) ?restr3_6
    case hyr3_6 => (intro w hSw; (try dsimp only at hSw); go_simp; try (with_reducible rfl))
    simp only [Act.put, List.getElem_toArray, List.getElem_cons_succ, List.getElem_cons_zero, List.setIfInBounds_toArray, List.set_cons_zero, List.set_cons_succ]
    simp only [HC.out]
    have hw := A2.out
    refine' wpAnyH_take (i := 7) (v := ?vr3_7) rfl (by kernel_rfl) (by kernel_rfl) (by kernel_rfl) (fun _ _ _ h => h) (Or.inl ⟨by rfl, ?hyr3_7⟩) (by assumption) ?restr3_7
    case hyr3_7 => (intro w hSw; (try dsimp only at hSw); go_simp; try (with_reducible rfl))
    simp only [Act.put, List.getElem_toArray, List.getElem_cons_succ, List.getElem_cons_zero, List.setIfInBounds_toArray, List.set_cons_zero, List.set_cons_succ]
    clear hw
    refine' wpAnyH_take (i := 8) (v := ?vr3_8) rfl (by kernel_rfl) (by kernel_rfl) (by kernel_rfl) (fun _ _ _ h => h) (Or.inl ⟨by rfl, ?hyr3_8⟩) (by assumption) ?restr3_8
    case hyr3_8 => (intro w hSw; (try dsimp only at hSw); go_simp; try (with_reducible rfl))
    simp only [Act.put, List.getElem_toArray, List.getElem_cons_succ, List.getElem_cons_zero, List.setIfInBounds_toArray, List.set_cons_zero, List.set_cons_succ]
    refine wpAnyH_done (by kernel_rfl) ?_ _
    obtain ⟨HCE, HGE⟩ := hHeld
    have HCE := Lib.hid HCE
    have HGE := Lib.hid HGE
    go_wp2_with fail
    go_ret
    exact ⟨p2, rfl, by omega, HCE.out, HGE.out⟩
/-- a drawn text -/
def TPo (w : World) (e : Ending) (w' : World) : Prop := ∃ s : ByteArray, e = .returned (.string s) ∧ s.size ≤ 1000 ∧ Below w.heap.size w w'
theorem ltx_pos (x : Lg) : 0 < (lg.ltx x).size := by
  have h := congrArg List.length (lgx.ltx_list x)
  have hl : (lg.ltx x).data.toList.length = (lg.ltx x).size := rfl
  rw [hl] at h
  rw [h]; simp
set_option maxHeartbeats 4000000 in
set_option maxRecDepth 100000 in
theorem parseLeg_draw (A : Option Addr) (n cap : Nat) (zs : List UInt8) (w : World) (h : Hid (curs.Code w A n zs)) : Calls Tryd.prog 40 #[.slice A n cap] w (TPo w) := by
  have HC0 := Lib.hid (cur_new cap h.out)
  go_enter Tryd.func40, Tryd.ntmps40
  go_wp2_with fail
  refine (leg_any w.heap.size w.heap.size 0 A n cap zs _ (by omega) HC0).mono ?_
  rintro e w1 ⟨t, rfl, hok, hC, hG⟩
  have HB1 := Lib.hid (low hG)
  have HC1 := Lib.hid (cur_alloc hC (by have := (low hG).size; omega) (.cells #[.int .i64 t.frm, .int .i64 t.to_, .int .i64 t.tape, .int .i64 t.comp, .int .i64 t.slope] 41))
  have HB1' := Lib.hid (HB1.out.alloc HB1.out.size (.cells #[.int .i64 t.frm, .int .i64 t.to_, .int .i64 t.tape, .int .i64 t.comp, .int .i64 t.slope] 41))
  have HX1 := Lib.hid (Blk.new w1 41 #[.int .i64 t.frm, .int .i64 t.to_, .int .i64 t.tape, .int .i64 t.comp, .int .i64 t.slope])
  clear hC hG hok HC0 h
  go_wp2_with fail
  obtain ⟨W1, HW1⟩ : ∃ W1, Hid (w1.alloc (.cells #[.int .i64 t.frm, .int .i64 t.to_, .int .i64 t.tape, .int .i64 t.comp, .int .i64 t.slope] 41) = W1) := ⟨_, Lib.hid rfl⟩
  obtain ⟨X, HX⟩ : ∃ X, Hid (w1.heap.size = X) := ⟨_, Lib.hid rfl⟩
  rw [HW1.out] at HC1 HB1'
  rw [HW1.out, HX.out] at HX1
  rw [HW1.out, HX.out]
  clear HW1 HX HB1
  obtain ⟨ok, hx⟩ : ∃ ok, lg.okLg t = ok := ⟨_, rfl⟩
  have HO := Lib.hid hx
  clear hx
  refine (lg.leg_is t ok HO _).mono ?_
  rintro e w2 ⟨rfl, b2⟩
  have HC2 := Lib.hid (cur_below HC1.out b2)
  have HX2 := Lib.hid (HX1.out.below b2 HX1.out.lt)
  have HB2 := Lib.hid (HB1'.out.trans (b2.mono HB1'.out.size))
  clear b2 HC1 HX1 HB1'
  go_upto_if 12 with fail
  go_cut [4] (fun v wx => ∃ s : ByteArray, v = .string s ∧ 0 < s.size ∧ s.size ≤ 99 ∧ Hid (Cur wx w.heap.size w.heap.size 7 A n cap zs) ∧ Hid (Below w.heap.size w wx))
  case first =>
    cases ok
    · go_wp2_with fail
      go_meet
      case rel => exact ⟨_, rfl, by decide, by decide, Lib.hid HC2.out, HB2⟩
    · obtain ⟨x0, x1, x2, x3, x4, xl⟩ := (⟨HX2.out.cell 0, HX2.out.cell 1, HX2.out.cell 2, HX2.out.cell 3, HX2.out.cell 4, HX2.out.lt⟩ : w2.cell? ⟨X, 0, none⟩ = some (.int .i64 t.frm) ∧ w2.cell? ⟨X, 1, none⟩ = some (.int .i64 t.to_) ∧ w2.cell? ⟨X, 2, none⟩ = some (.int .i64 t.tape) ∧ w2.cell? ⟨X, 3, none⟩ = some (.int .i64 t.comp) ∧ w2.cell? ⟨X, 4, none⟩ = some (.int .i64 t.slope) ∧ X < w2.heap.size)
      go_wp2_with fail
      refine (lg.l4Text_is t (lg.ltx t) (Lib.hid rfl) _ HO).mono ?_
      rintro e w3 ⟨rfl, b3⟩
      have HC3 := Lib.hid (cur_below HC2.out b3)
      have HB3 := Lib.hid (HB2.out.trans (b3.mono HB2.out.size))
      have hs0 := ltx_pos t
      have hs1 := lgx.ltx_size t HO.out
      clear b3 HC2 HB2 HX2 x0 x1 x2 x3 x4 xl
      go_wp2_with fail
      go_meet
      case rel => exact ⟨_, rfl, hs0, by omega, HC3, HB3⟩
  case rest =>
    obtain ⟨s, rfl, hs0, hs1, HC3, HB3⟩ := hcut
    clear HC2 HX2 HB2 HO
    go_wp2_with fail
    refine (one_any w.heap.size w.heap.size 7 A n cap zs _ 4 (by omega) HC3.out (by decide) (by decide)).mono ?_
    rintro e w4 ⟨q, rfl, hC, hG⟩
    have HC4 := Lib.hid hC
    have HB4 := Lib.hid (HB3.out.grown hG HB3.out.size (fun k hk => by injection hk with hk; omega))
    clear hC hG HC3 HB3
    cases q
    · go_wp2_with fail
      go_ret
      exact ⟨s, rfl, by omega, HB4.out⟩
    · go_wp2_with fail
      refine (spoilt_any w.heap.size w.heap.size 8 A n cap zs s _ s.size _ (by omega) HC4 (Lib.hid rfl) hs0 (by omega) (Lib.hid (by rfl))).mono ?_
      rintro e w5 ⟨z, rfl, hz, hC, hG⟩
      have HB5 := Lib.hid (HB4.out.grown hG HB4.out.size (fun k hk => by injection hk with hk; omega))
      clear hC hG HC4 HB4
      go_wp2_with fail
      go_ret
      exact ⟨z, rfl, by omega, HB5.out⟩
end Go.Proofs.YtiojgmojnnbpiaaDoor.lgd

namespace Go.Proofs.YtiojgmojnnbpiaaDoor.lgd
open Go.RowKit
open reads curs curd cure ty drl base
set_option linter.unusedVariables false
set_option linter.unusedSimpArgs false

theorem tm_bd (x : Int) : -360 < x.tmod 360 ∧ x.tmod 360 < 360 := by
  have h1 := Int.tmod_lt_of_pos x (show (0 : Int) < 360 by decide)
  have h2 := Int.tmod_lt_of_pos (-x) (show (0 : Int) < 360 by decide)
  rw [Int.neg_tmod] at h2
  omega
/-- bounds that the second leg keeps -/
def okE (t : Lg) : Prop := (-1000 ≤ t.frm ∧ t.frm ≤ 1000) ∧ (-1000 ≤ t.to_ ∧ t.to_ ≤ 1000) ∧ (-2000 ≤ t.tape ∧ t.tape ≤ 2000) ∧ (-2000 ≤ t.comp ∧ t.comp ≤ 2000) ∧ (-2000 ≤ t.slope ∧ t.slope ≤ 2000)
/-- two legs in the making: the cursor, the answers' blocks, the legs' own -/
def DA (w : World) (X Y : Nat) (A : Option Addr) (n cap : Nat) (zs : List UInt8) (k : Nat) (a b : Lg) (v : World) : Prop :=
  Cur v (w.heap.size + 2) (w.heap.size + 2) k A n cap zs ∧ Blk v w.heap.size 41 #[.int .i64 0, .int .i64 0, .int .i64 0, .int .i64 0, .int .i64 0] ∧ Blk v (w.heap.size + 1) 41 #[.int .i64 0, .int .i64 0, .int .i64 0, .int .i64 0, .int .i64 0] ∧ Blk v X 41 #[.int .i64 a.frm, .int .i64 a.to_, .int .i64 a.tape, .int .i64 a.comp, .int .i64 a.slope] ∧ Blk v Y 41 #[.int .i64 b.frm, .int .i64 b.to_, .int .i64 b.tape, .int .i64 b.comp, .int .i64 b.slope] ∧ Below w.heap.size w v ∧ (w.heap.size + 2 < X ∧ X < Y)
section
variable {w v v' : World} {X Y : Nat} {A : Option Addr} {n cap : Nat} {zs : List UInt8} {k k' : Nat} {a b : Lg}
theorem DA.step (h : DA w X Y A n cap zs k a b v) (hC : Cur v' (w.heap.size + 2) (w.heap.size + 2) k' A n cap zs) (hg : v.grownBy v' (some (w.heap.size + 2))) : DA w X Y A n cap zs k' a b v' := by
  obtain ⟨h1, h2, h3, h4, h5, h6, h7⟩ := h
  have hl := h5.lt
  exact ⟨hC, h2.grown hg (by intro e; injection e with e; omega), h3.grown hg (by intro e; injection e with e; omega), h4.grown hg (by intro e; injection e with e; omega), h5.grown hg (by intro e; injection e with e; omega), h6.grown hg h6.size (fun k hk => by injection hk with hk; omega), h7⟩
theorem DA.below (h : DA w X Y A n cap zs k a b v) (hb : Below v.heap.size v v') : DA w X Y A n cap zs k a b v' := by
  obtain ⟨h1, h2, h3, h4, h5, h6, h7⟩ := h
  exact ⟨cur_below h1 hb, h2.below hb h2.lt, h3.below hb h3.lt, h4.below hb h4.lt, h5.below hb h5.lt, h6.trans (hb.mono h6.size), h7⟩
theorem DA.put (h : DA w X Y A n cap zs k a b v) (j : Nat) (y : Value) (b' : Lg) (e : (#[.int .i64 b.frm, .int .i64 b.to_, .int .i64 b.tape, .int .i64 b.comp, .int .i64 b.slope] : Array Value).setIfInBounds j y = #[.int .i64 b'.frm, .int .i64 b'.to_, .int .i64 b'.tape, .int .i64 b'.comp, .int .i64 b'.slope]) : DA w X Y A n cap zs k a b' (v.setCell ⟨Y, j, none⟩ y) := by
  obtain ⟨h1, h2, h3, h4, h5, h6, h7⟩ := h
  refine ⟨cur_set h1 (by show _ ≠ Y; omega) (by show _ ≤ Y; omega) _, h2.far (by show _ ≠ Y; omega) _, h3.far (by show _ ≠ Y; omega) _, h4.far (by show _ ≠ Y; omega) _, ?_, h6.setCell (by show _ ≤ Y; omega) _, h7⟩
  rw [← e]; exact h5.set_ j _
theorem DA.putAll (h : DA w X Y A n cap zs k a b v) (c : Lg) : DA w X Y A n cap zs k a c (((((v.setCell ⟨Y, 0, none⟩ (.int .i64 c.frm)).setCell ⟨Y, 1, none⟩ (.int .i64 c.to_)).setCell ⟨Y, 2, none⟩ (.int .i64 c.tape)).setCell ⟨Y, 3, none⟩ (.int .i64 c.comp)).setCell ⟨Y, 4, none⟩ (.int .i64 c.slope)) :=
  ((((h.put 0 (.int .i64 c.frm) ⟨c.frm, b.to_, b.tape, b.comp, b.slope⟩ rfl).put 1 (.int .i64 c.to_) ⟨c.frm, c.to_, b.tape, b.comp, b.slope⟩ rfl).put 2 (.int .i64 c.tape) ⟨c.frm, c.to_, c.tape, b.comp, b.slope⟩ rfl).put 3 (.int .i64 c.comp) ⟨c.frm, c.to_, c.tape, c.comp, b.slope⟩ rfl).put 4 (.int .i64 c.slope) c rfl
theorem DA.more (h : DA w X Y A n cap zs k a b v) (hk : k ≤ k') : DA w X Y A n cap zs k' a b v := ⟨cur_more h.1 k' hk, h.2⟩
theorem DA.ca (h : DA w X Y A n cap zs k a b v) : v.cell? ⟨X, 0, none⟩ = some (.int .i64 a.frm) ∧ v.cell? ⟨X, 1, none⟩ = some (.int .i64 a.to_) ∧ v.cell? ⟨X, 2, none⟩ = some (.int .i64 a.tape) ∧ v.cell? ⟨X, 3, none⟩ = some (.int .i64 a.comp) ∧ v.cell? ⟨X, 4, none⟩ = some (.int .i64 a.slope) := ⟨h.2.2.2.1.cell 0, h.2.2.2.1.cell 1, h.2.2.2.1.cell 2, h.2.2.2.1.cell 3, h.2.2.2.1.cell 4⟩
theorem DA.cb (h : DA w X Y A n cap zs k a b v) : (v.cell? ⟨Y, 0, none⟩ = some (.int .i64 b.frm) ∧ v.cell? ⟨Y, 1, none⟩ = some (.int .i64 b.to_) ∧ v.cell? ⟨Y, 2, none⟩ = some (.int .i64 b.tape) ∧ v.cell? ⟨Y, 3, none⟩ = some (.int .i64 b.comp) ∧ v.cell? ⟨Y, 4, none⟩ = some (.int .i64 b.slope)) ∧ (v.frozen? ⟨Y, 0, none⟩ = false ∧ v.frozen? ⟨Y, 1, none⟩ = false ∧ v.frozen? ⟨Y, 2, none⟩ = false ∧ v.frozen? ⟨Y, 3, none⟩ = false ∧ v.frozen? ⟨Y, 4, none⟩ = false) ∧ Y < v.heap.size := ⟨⟨h.2.2.2.2.1.cell 0, h.2.2.2.2.1.cell 1, h.2.2.2.2.1.cell 2, h.2.2.2.2.1.cell 3, h.2.2.2.2.1.cell 4⟩, ⟨h.2.2.2.2.1.frozen 0, h.2.2.2.2.1.frozen 1, h.2.2.2.2.1.frozen 2, h.2.2.2.2.1.frozen 3, h.2.2.2.2.1.frozen 4⟩, h.2.2.2.2.1.lt⟩
theorem DA.mk6 (h : DA w X Y A n cap zs k a b v) (hb : okE b) : (v.cell? ⟨X, 0, none⟩ = some (.int .i64 a.frm) ∧ v.cell? ⟨X, 1, none⟩ = some (.int .i64 a.to_) ∧ v.cell? ⟨X, 2, none⟩ = some (.int .i64 a.tape) ∧ v.cell? ⟨X, 3, none⟩ = some (.int .i64 a.comp) ∧ v.cell? ⟨X, 4, none⟩ = some (.int .i64 a.slope)) ∧ ∃ b, okE b ∧ DA w X Y A n cap zs k a b v := ⟨h.ca, b, hb, h⟩
end
/-- two legs in the making: the answers' blocks, the legs' own -/
def DE (w : World) (X Y : Nat) (p q a b : Lg) (v : World) : Prop :=
  Blk v w.heap.size 41 #[.int .i64 p.frm, .int .i64 p.to_, .int .i64 p.tape, .int .i64 p.comp, .int .i64 p.slope] ∧ Blk v (w.heap.size + 1) 41 #[.int .i64 q.frm, .int .i64 q.to_, .int .i64 q.tape, .int .i64 q.comp, .int .i64 q.slope] ∧ Blk v X 41 #[.int .i64 a.frm, .int .i64 a.to_, .int .i64 a.tape, .int .i64 a.comp, .int .i64 a.slope] ∧ Blk v Y 41 #[.int .i64 b.frm, .int .i64 b.to_, .int .i64 b.tape, .int .i64 b.comp, .int .i64 b.slope] ∧ Below w.heap.size w v ∧ (w.heap.size + 2 < X ∧ X < Y)
def zLg : Lg := ⟨0, 0, 0, 0, 0⟩
section
variable {w v v' : World} {X Y : Nat} {A : Option Addr} {n cap : Nat} {zs : List UInt8} {k k' : Nat} {a b p q : Lg}
theorem DA.de (h : DA w X Y A n cap zs k a b v) : DE w X Y zLg zLg a b v := ⟨h.2.1, h.2.2.1, h.2.2.2.1, h.2.2.2.2.1, h.2.2.2.2.2.1, h.2.2.2.2.2.2⟩
theorem DA.alloc (h : DA w X Y A n cap zs k a b v) (o : Obj) : DA w X Y A n cap zs k a b (v.alloc o) := h.below ((Below.refl _ _).alloc (Nat.le_refl _) o)
theorem DE.mk (h : DE w X Y p q a b v) : (v.cell? ⟨X, 0, none⟩ = some (.int .i64 a.frm) ∧ v.cell? ⟨X, 1, none⟩ = some (.int .i64 a.to_) ∧ v.cell? ⟨X, 2, none⟩ = some (.int .i64 a.tape) ∧ v.cell? ⟨X, 3, none⟩ = some (.int .i64 a.comp) ∧ v.cell? ⟨X, 4, none⟩ = some (.int .i64 a.slope)) ∧ v.cell? ⟨Y, 0, none⟩ = some (.int .i64 b.frm) ∧ v.cell? ⟨Y, 1, none⟩ = some (.int .i64 b.to_) ∧ v.cell? ⟨Y, 2, none⟩ = some (.int .i64 b.tape) ∧ v.cell? ⟨Y, 3, none⟩ = some (.int .i64 b.comp) ∧ v.cell? ⟨Y, 4, none⟩ = some (.int .i64 b.slope) := ⟨⟨h.2.2.1.cell 0, h.2.2.1.cell 1, h.2.2.1.cell 2, h.2.2.1.cell 3, h.2.2.1.cell 4⟩, ⟨h.2.2.2.1.cell 0, h.2.2.2.1.cell 1, h.2.2.2.1.cell 2, h.2.2.2.1.cell 3, h.2.2.2.1.cell 4⟩⟩
theorem DE.put1 (h : DE w X Y p q a b v) (c : Lg) : DE w X Y c q a b ((((((v.setCell ⟨w.heap.size, 0, none⟩ (.int .i64 c.frm)).setCell ⟨w.heap.size, 1, none⟩ (.int .i64 c.to_)).setCell ⟨w.heap.size, 2, none⟩ (.int .i64 c.tape)).setCell ⟨w.heap.size, 3, none⟩ (.int .i64 c.comp)).setCell ⟨w.heap.size, 4, none⟩ (.int .i64 c.slope))) := by
  obtain ⟨h1, h2, h3, h4, h5, h6⟩ := h
  have n1 : w.heap.size + 1 ≠ w.heap.size := by omega
  have n2 : X ≠ w.heap.size := by omega
  have n3 : Y ≠ w.heap.size := by omega
  exact ⟨(((((h1.set_ 0 (.int .i64 c.frm)).set_ 1 (.int .i64 c.to_)).set_ 2 (.int .i64 c.tape)).set_ 3 (.int .i64 c.comp)).set_ 4 (.int .i64 c.slope)), ((((h2.far n1 _).far n1 _).far n1 _).far n1 _).far n1 _, ((((h3.far n2 _).far n2 _).far n2 _).far n2 _).far n2 _, ((((h4.far n3 _).far n3 _).far n3 _).far n3 _).far n3 _, ((((h5.setCell (Nat.le_refl _) _).setCell (Nat.le_refl _) _).setCell (Nat.le_refl _) _).setCell (Nat.le_refl _) _).setCell (Nat.le_refl _) _, h6⟩
theorem DE.put2 (h : DE w X Y p q a b v) (c : Lg) : DE w X Y p c a b ((((((v.setCell ⟨(w.heap.size + 1), 0, none⟩ (.int .i64 c.frm)).setCell ⟨(w.heap.size + 1), 1, none⟩ (.int .i64 c.to_)).setCell ⟨(w.heap.size + 1), 2, none⟩ (.int .i64 c.tape)).setCell ⟨(w.heap.size + 1), 3, none⟩ (.int .i64 c.comp)).setCell ⟨(w.heap.size + 1), 4, none⟩ (.int .i64 c.slope))) := by
  obtain ⟨h1, h2, h3, h4, h5, h6⟩ := h
  have n1 : w.heap.size ≠ w.heap.size + 1 := by omega
  have n2 : X ≠ w.heap.size + 1 := by omega
  have n3 : Y ≠ w.heap.size + 1 := by omega
  have hb : w.heap.size ≤ w.heap.size + 1 := by omega
  exact ⟨((((h1.far n1 _).far n1 _).far n1 _).far n1 _).far n1 _, (((((h2.set_ 0 (.int .i64 c.frm)).set_ 1 (.int .i64 c.to_)).set_ 2 (.int .i64 c.tape)).set_ 3 (.int .i64 c.comp)).set_ 4 (.int .i64 c.slope)), ((((h3.far n2 _).far n2 _).far n2 _).far n2 _).far n2 _, ((((h4.far n3 _).far n3 _).far n3 _).far n3 _).far n3 _, ((((h5.setCell hb _).setCell hb _).setCell hb _).setCell hb _).setCell hb _, h6⟩
theorem box5v {v : World} {X : Nat} {T : TypeId} {p : Lg} (h : Blk v X T #[.int .i64 p.frm, .int .i64 p.to_, .int .i64 p.tape, .int .i64 p.comp, .int .i64 p.slope]) : (v.cell? ⟨X, 0, none⟩ = some (.int .i64 p.frm) ∧ v.cell? ⟨X, 1, none⟩ = some (.int .i64 p.to_) ∧ v.cell? ⟨X, 2, none⟩ = some (.int .i64 p.tape) ∧ v.cell? ⟨X, 3, none⟩ = some (.int .i64 p.comp) ∧ v.cell? ⟨X, 4, none⟩ = some (.int .i64 p.slope)) ∧ (v.frozen? ⟨X, 0, none⟩ = false ∧ v.frozen? ⟨X, 1, none⟩ = false ∧ v.frozen? ⟨X, 2, none⟩ = false ∧ v.frozen? ⟨X, 3, none⟩ = false ∧ v.frozen? ⟨X, 4, none⟩ = false) ∧ X < v.heap.size := ⟨⟨h.cell 0, h.cell 1, h.cell 2, h.cell 3, h.cell 4⟩, ⟨h.frozen 0, h.frozen 1, h.frozen 2, h.frozen 3, h.frozen 4⟩, h.lt⟩
end
set_option maxHeartbeats 4000000 in
set_option maxRecDepth 100000 in
theorem rev_ex (x : Lg) (w : World) (h : okE x) : Calls Tryd.prog 65 #[.agg #[.int .i64 x.frm, .int .i64 x.to_, .int .i64 x.tape, .int .i64 x.comp, .int .i64 x.slope]] w fun e w' => ∃ y : Lg, e = .returned (.agg #[.int .i64 y.frm, .int .i64 y.to_, .int .i64 y.tape, .int .i64 y.comp, .int .i64 y.slope]) ∧ okE y ∧ Below w.heap.size w w' := by
  unfold okE at h
  obtain ⟨c, HC⟩ : ∃ c, Hid ((x.comp + 180).tmod 360 = c) := ⟨_, Lib.hid rfl⟩
  have hc := tm_bd (x.comp + 180)
  rw [HC.out] at hc
  have HN := Lib.hid (show okE ⟨x.to_, x.frm, x.tape, c, -x.slope⟩ by unfold okE; simp only []; omega)
  clear hc
  go_enter Tryd.func65, Tryd.ntmps65
  go_wp2_with fail
  try rw [HC.out]
  refine bodyPost_ret (v := .agg #[.int .i64 x.to_, .int .i64 x.frm, .int .i64 x.tape, .int .i64 c, .int .i64 (-x.slope)]) (by simp [results, Tryd.results65, go_sem, HC.out]) rfl ⟨⟨x.to_, x.frm, x.tape, c, -x.slope⟩, rfl, HN.out, ?_⟩
  exact ((Below.refl _ _).alloc (Nat.le_refl _) _).alloc (by simp) _
/-- the drawn pair with its bounds -/
def APo (w : World) (e : Ending) (w' : World) : Prop := ∃ (a b : Lg) (d q : Int), e = .returned (.tuple #[.agg #[.int .i64 a.frm, .int .i64 a.to_, .int .i64 a.tape, .int .i64 a.comp, .int .i64 a.slope], .agg #[.int .i64 b.frm, .int .i64 b.to_, .int .i64 b.tape, .int .i64 b.comp, .int .i64 b.slope], .int .i64 d, .int .i64 q]) ∧ (-1 ≤ d ∧ d ≤ 5) ∧ (-1 ≤ q ∧ q ≤ 5) ∧ Below w.heap.size w w'
set_option maxHeartbeats 8000000 in
set_option maxRecDepth 100000 in
theorem doAgree_draw (A : Option Addr) (n cap : Nat) (zs : List UInt8) (w : World) (h : Hid (curs.Code w A n zs)) : Calls Tryd.prog 41 #[.slice A n cap] w (APo w) := by
  obtain ⟨W0, HW0, hs0, HB0, HR1, HR2⟩ : ∃ W0, Hid ((w.alloc (.cells #[.int .i64 0, .int .i64 0, .int .i64 0, .int .i64 0, .int .i64 0] 41)).alloc (.cells #[.int .i64 0, .int .i64 0, .int .i64 0, .int .i64 0, .int .i64 0] 41) = W0) ∧ W0.heap.size = w.heap.size + 2 ∧ Hid (Below w.heap.size w W0) ∧ Hid (Blk W0 w.heap.size 41 #[.int .i64 0, .int .i64 0, .int .i64 0, .int .i64 0, .int .i64 0]) ∧ Hid (Blk W0 (w.heap.size + 1) 41 #[.int .i64 0, .int .i64 0, .int .i64 0, .int .i64 0, .int .i64 0]) := by
    refine ⟨_, Lib.hid rfl, by simp, Lib.hid (((Below.refl w.heap.size w).alloc (Nat.le_refl _) _).alloc (by simp) _), Lib.hid ((Blk.new w _ _).alloc _), Lib.hid ?_⟩
    have h := Blk.new (w.alloc (.cells #[.int .i64 0, .int .i64 0, .int .i64 0, .int .i64 0, .int .i64 0] 41)) 41 #[.int .i64 0, .int .i64 0, .int .i64 0, .int .i64 0, .int .i64 0]
    rwa [show (w.alloc (.cells #[.int .i64 0, .int .i64 0, .int .i64 0, .int .i64 0, .int .i64 0] 41)).heap.size = w.heap.size + 1 by simp] at h
  have HC0 := Lib.hid (cur_new cap (h.out.below HB0.out))
  rw [hs0] at HC0
  go_enter Tryd.func41, Tryd.ntmps41
  go_upto_region 1 with fail
  rw [HW0.out]
  clear HW0
  go_wp2_with fail
  try rw [hs0]
  refine (leg_any (w.heap.size + 2) (w.heap.size + 2) 0 A n cap zs _ (by omega) HC0).mono ?_
  rintro e w1 ⟨a, rfl, hok, hC, hG⟩
  have HO := Lib.hid hok
  obtain ⟨X, hX⟩ : ∃ X, w1.heap.size = X := ⟨_, rfl⟩
  have hsz := hG.size
  rw [show (W0.alloc (.cells #[.slice A n cap, .int .i64 0, .int .u64 0] 69)).heap.size = W0.heap.size + 1 by simp, hs0, hX] at hsz
  have hbs : w.heap.size ≤ W0.heap.size := by omega
  have HD := Lib.hid (show DA w X (X + 1) A n cap zs 7 a a ((w1.alloc (.cells #[.int .i64 a.frm, .int .i64 a.to_, .int .i64 a.tape, .int .i64 a.comp, .int .i64 a.slope] 41)).alloc (.cells #[.int .i64 a.frm, .int .i64 a.to_, .int .i64 a.tape, .int .i64 a.comp, .int .i64 a.slope] 41)) by
    have hY := Blk.new (w1.alloc (.cells #[.int .i64 a.frm, .int .i64 a.to_, .int .i64 a.tape, .int .i64 a.comp, .int .i64 a.slope] 41)) 41 #[.int .i64 a.frm, .int .i64 a.to_, .int .i64 a.tape, .int .i64 a.comp, .int .i64 a.slope]
    rw [show (w1.alloc (.cells #[.int .i64 a.frm, .int .i64 a.to_, .int .i64 a.tape, .int .i64 a.comp, .int .i64 a.slope] 41)).heap.size = w1.heap.size + 1 by simp, hX] at hY
    have hA := (Blk.new w1 41 #[.int .i64 a.frm, .int .i64 a.to_, .int .i64 a.tape, .int .i64 a.comp, .int .i64 a.slope]).alloc (.cells #[.int .i64 a.frm, .int .i64 a.to_, .int .i64 a.tape, .int .i64 a.comp, .int .i64 a.slope] 41)
    rw [hX] at hA
    refine ⟨cur_alloc (cur_alloc hC (by omega) _) (by simp; omega) _, (((HR1.out.alloc _).grown hG (by intro e; injection e with e; omega)).alloc _).alloc _, (((HR2.out.alloc _).grown hG (by intro e; injection e with e; omega)).alloc _).alloc _, hA, hY, ?_, by omega, by omega⟩
    exact ((((HB0.out.alloc hbs _).grown hG (by simp; omega) (fun k hk => by injection hk with hk; omega)).alloc (by omega) _).alloc (by simp; omega) _))
  clear hC hG hok HC0 HR1 HR2 HB0 hsz hs0 hbs
  go_upto_region 3 with fail
  try simp only [hX]
  go_upto_region 4 with fail
  obtain ⟨W2, HW2⟩ : ∃ W2, Hid ((w1.alloc (.cells #[.int .i64 a.frm, .int .i64 a.to_, .int .i64 a.tape, .int .i64 a.comp, .int .i64 a.slope] 41)).alloc (.cells #[.int .i64 a.frm, .int .i64 a.to_, .int .i64 a.tape, .int .i64 a.comp, .int .i64 a.slope] 41) = W2) := ⟨_, Lib.hid rfl⟩
  obtain ⟨Y, hY⟩ : ∃ Y, X + 1 = Y := ⟨_, rfl⟩
  rw [HW2.out, hY] at HD
  rw [HW2.out]
  try simp only [hY]
  clear HW2 hY hX
  have ha1 := HO.out
  unfold okD at ha1
  have HE := Lib.hid (show okE a by unfold okE; omega)
  have HDd := Lib.hid (HD.out.below (drewN_below _ 1))
  refine wp_region_held_drew (S := (fun v => (v.cell? ⟨X, 0, none⟩ = some (.int .i64 a.frm) ∧ v.cell? ⟨X, 1, none⟩ = some (.int .i64 a.to_) ∧ v.cell? ⟨X, 2, none⟩ = some (.int .i64 a.tape) ∧ v.cell? ⟨X, 3, none⟩ = some (.int .i64 a.comp) ∧ v.cell? ⟨X, 4, none⟩ = some (.int .i64 a.slope)) ∧ ∃ b, okE b ∧ DA w X Y A n cap zs 8 a b v)) (by kernel_rfl) ?_ (fun hHeld => ?_)
  · exact (HDd.out.more (by omega)).mk6 HE.out
  refine' wpAnyH_take (i := 0) (v := ?vr1_0) rfl (by kernel_rfl) (by kernel_rfl) (by kernel_rfl) (fun _ _ _ h => h) (Or.inl ⟨by rfl, ?hyr1_0⟩) (by assumption) ?restr1_0
  case hyr1_0 => (intro w hSw; (try dsimp only at hSw); go_simp; try (with_reducible rfl))
  simp only [Act.put, List.getElem_toArray, List.getElem_cons_succ, List.getElem_cons_zero, List.setIfInBounds_toArray, List.set_cons_zero, List.set_cons_succ]
  refine' wpAnyH_take (i := 1) (v := ?vr1_1) rfl (by kernel_rfl) (by kernel_rfl) (by kernel_rfl) (fun _ _ _ h => h) (Or.inl ⟨by rfl, ?hyr1_1⟩) (by assumption) ?restr1_1
  case hyr1_1 => (intro w hSw; (try dsimp only at hSw); go_simp; try (with_reducible rfl))
  simp only [Act.put, List.getElem_toArray, List.getElem_cons_succ, List.getElem_cons_zero, List.setIfInBounds_toArray, List.set_cons_zero, List.set_cons_succ]
  refine' wpAnyH_take (i := 2) (v := ?vr1_2) rfl (by kernel_rfl) (by kernel_rfl) (by kernel_rfl) (fun _ _ _ h => h) (Or.inl ⟨by rfl, ?hyr1_2⟩) (by assumption) ?restr1_2
  case hyr1_2 => (intro w hSw; (try dsimp only at hSw); go_simp; try (with_reducible rfl))
  simp only [Act.put, List.getElem_toArray, List.getElem_cons_succ, List.getElem_cons_zero, List.setIfInBounds_toArray, List.set_cons_zero, List.set_cons_succ]
  refine wpAnyH_ready (rs := [3]) (by kernel_rfl) (by simp) ?_
  refine AllReadyH.cons rfl (fun K hK => ?_) AllReadyH.nil
  go_simp
  refine (pick_any _ _ 7 A n cap zs _ 5 (by omega) HDd.out.1 (by decide) (by decide)).mono ?_
  rintro e w4 ⟨r, rfl, hr, hC, hg⟩
  refine hK.out _ _ (((HDd.out.step hC hg).mk6 HE.out)) (fun hHeld1 => ?_)
  clear hK K hHeld
  have hHeld := hHeld1
  clear hHeld1
  try simp only [Act.put, List.getElem_toArray, List.getElem_cons_succ, List.getElem_cons_zero, List.setIfInBounds_toArray, List.set_cons_zero, List.set_cons_succ]
  have hr2 : (r : Int) ≤ 4 := by omega
  clear hr hC hg HDd
  refine' wpAnyH_take (i := 4) (v := ?vr1_4) rfl (by kernel_rfl) (by kernel_rfl) (by kernel_rfl) (fun _ _ _ h => h) (Or.inl ⟨by rfl, ?hyr1_4⟩) (by assumption) ?restr1_4
  case hyr1_4 => (intro w hSw; (try dsimp only at hSw); go_simp; try (with_reducible rfl))
  simp only [Act.put, List.getElem_toArray, List.getElem_cons_succ, List.getElem_cons_zero, List.setIfInBounds_toArray, List.set_cons_zero, List.set_cons_succ]
  refine' wpAnyH_take (i := 5) (v := ?vr1_5) rfl (by kernel_rfl) (by kernel_rfl) (by kernel_rfl) (fun _ _ _ h => h) (Or.inl ⟨by rfl, ?hyr1_5⟩) (by assumption) ?restr1_5
  case hyr1_5 => (intro w hSw; (try dsimp only at hSw); go_simp; try (with_reducible rfl))
  simp only [Act.put, List.getElem_toArray, List.getElem_cons_succ, List.getElem_cons_zero, List.setIfInBounds_toArray, List.set_cons_zero, List.set_cons_succ]
  refine' wpAnyH_take (i := 6) (v := ?vr1_6) rfl (by kernel_rfl) (by kernel_rfl) (by kernel_rfl) (fun _ _ _ h => h) (Or.inl ⟨by rfl, ?hyr1_6⟩) (by assumption) ?restr1_6
  case hyr1_6 => (intro w hSw; (try dsimp only at hSw); go_simp; try (with_reducible rfl))
  simp only [Act.put, List.getElem_toArray, List.getElem_cons_succ, List.getElem_cons_zero, List.setIfInBounds_toArray, List.set_cons_zero, List.set_cons_succ]
  obtain ⟨bb, hbb, hDD⟩ := hHeld.2
  obtain ⟨z, HZ⟩ : ∃ z, Hid ((IntKind.i64.wrap (a.comp + (r : Int))).tmod 360 = z) := ⟨_, Lib.hid rfl⟩
  have HN := Lib.hid (show okE ⟨bb.frm, bb.to_, bb.tape, z, bb.slope⟩ by
    have h1 := HZ.out
    have h2 := HO.out
    have h3 := tm_bd (IntKind.i64.wrap (a.comp + (r : Int)))
    unfold okD at h2
    unfold okE at hbb ⊢
    simp only [IntKind.wrap_i64] at h1 h3
    simp only []
    omega)
  have HDD := Lib.hid hDD
  clear hDD hHeld
  obtain ⟨⟨y0, y1, y2, y3, y4⟩, ⟨yf0, yf1, yf2, yf3, yf4⟩, yl⟩ := HDD.out.cb
  refine wpAnyH_ready (rs := [7]) (by kernel_rfl) (by simp) ?_
  refine AllReadyH.cons rfl (fun K hK => ?_) AllReadyH.nil
  go_simp
  simp only [HZ.out]
  have HDN := Lib.hid (HDD.out.put 3 (.int .i64 z) ⟨bb.frm, bb.to_, bb.tape, z, bb.slope⟩ rfl)
  refine hK.out _ _ (HDN.out.mk6 HN.out) (fun hHeld1 => ?_)
  clear hK K hHeld1 y0 y1 y2 y3 y4 yf0 yf1 yf2 yf3 yf4 yl HDD hbb
  try simp only [Act.put, List.getElem_toArray, List.getElem_cons_succ, List.getElem_cons_zero, List.setIfInBounds_toArray, List.set_cons_zero, List.set_cons_succ]
  refine wpAnyH_done (by kernel_rfl) ?_ _
  obtain ⟨V, HV⟩ : ∃ V, Hid (w4.setCell ⟨Y, 3, none⟩ (.int .i64 z) = V) := ⟨_, Lib.hid rfl⟩
  rw [HV.out] at HDN
  rw [HV.out]
  obtain ⟨b, Hb⟩ : ∃ b : Lg, Hid ((⟨bb.frm, bb.to_, bb.tape, z, bb.slope⟩ : Lg) = b) := ⟨_, Lib.hid rfl⟩
  rw [Hb.out] at HDN HN
  clear HD HE HV Hb hr2 HZ
  have HD := HDN
  have HE := HN
  clear HDN HN
  try clear bb
  obtain ⟨W2, HV⟩ : ∃ W, Hid (V = W) := ⟨_, Lib.hid rfl⟩
  rw [HV.out] at HD
  rw [HV.out]
  clear HV V
  go_upto_region 5 with fail
  have HDd := Lib.hid (HD.out.below (drewN_below _ 1))
  refine wp_region_held_drew (S := (fun v => (v.cell? ⟨X, 0, none⟩ = some (.int .i64 a.frm) ∧ v.cell? ⟨X, 1, none⟩ = some (.int .i64 a.to_) ∧ v.cell? ⟨X, 2, none⟩ = some (.int .i64 a.tape) ∧ v.cell? ⟨X, 3, none⟩ = some (.int .i64 a.comp) ∧ v.cell? ⟨X, 4, none⟩ = some (.int .i64 a.slope)) ∧ ∃ b, okE b ∧ DA w X Y A n cap zs 9 a b v)) (by kernel_rfl) ?_ (fun hHeld => ?_)
  · exact (HDd.out.more (by omega)).mk6 HE.out
  refine' wpAnyH_take (i := 0) (v := ?vr2_0) rfl (by kernel_rfl) (by kernel_rfl) (by kernel_rfl) (fun _ _ _ h => h) (Or.inl ⟨by rfl, ?hyr2_0⟩) (by assumption) ?restr2_0
  case hyr2_0 => (intro w hSw; (try dsimp only at hSw); go_simp; try (with_reducible rfl))
  simp only [Act.put, List.getElem_toArray, List.getElem_cons_succ, List.getElem_cons_zero, List.setIfInBounds_toArray, List.set_cons_zero, List.set_cons_succ]
  refine' wpAnyH_take (i := 1) (v := ?vr2_1) rfl (by kernel_rfl) (by kernel_rfl) (by kernel_rfl) (fun _ _ _ h => h) (Or.inl ⟨by rfl, ?hyr2_1⟩) (by assumption) ?restr2_1
  case hyr2_1 => (intro w hSw; (try dsimp only at hSw); go_simp; try (with_reducible rfl))
  simp only [Act.put, List.getElem_toArray, List.getElem_cons_succ, List.getElem_cons_zero, List.setIfInBounds_toArray, List.set_cons_zero, List.set_cons_succ]
  refine' wpAnyH_take (i := 2) (v := ?vr2_2) rfl (by kernel_rfl) (by kernel_rfl) (by kernel_rfl) (fun _ _ _ h => h) (Or.inl ⟨by rfl, ?hyr2_2⟩) (by assumption) ?restr2_2
  case hyr2_2 => (intro w hSw; (try dsimp only at hSw); go_simp; try (with_reducible rfl))
  simp only [Act.put, List.getElem_toArray, List.getElem_cons_succ, List.getElem_cons_zero, List.setIfInBounds_toArray, List.set_cons_zero, List.set_cons_succ]
  refine wpAnyH_ready (rs := [3]) (by kernel_rfl) (by simp) ?_
  refine AllReadyH.cons rfl (fun K hK => ?_) AllReadyH.nil
  go_simp
  refine (pick_any _ _ 8 A n cap zs _ 3 (by omega) HDd.out.1 (by decide) (by decide)).mono ?_
  rintro e w4 ⟨r, rfl, hr, hC, hg⟩
  refine hK.out _ _ (((HDd.out.step hC hg).mk6 HE.out)) (fun hHeld1 => ?_)
  clear hK K hHeld
  have hHeld := hHeld1
  clear hHeld1
  try simp only [Act.put, List.getElem_toArray, List.getElem_cons_succ, List.getElem_cons_zero, List.setIfInBounds_toArray, List.set_cons_zero, List.set_cons_succ]
  have hr2 : (r : Int) ≤ 2 := by omega
  clear hr hC hg HDd
  refine' wpAnyH_take (i := 4) (v := ?vr2_4) rfl (by kernel_rfl) (by kernel_rfl) (by kernel_rfl) (fun _ _ _ h => h) (Or.inl ⟨by rfl, ?hyr2_4⟩) (by assumption) ?restr2_4
  case hyr2_4 => (intro w hSw; (try dsimp only at hSw); go_simp; try (with_reducible rfl))
  simp only [Act.put, List.getElem_toArray, List.getElem_cons_succ, List.getElem_cons_zero, List.setIfInBounds_toArray, List.set_cons_zero, List.set_cons_succ]
  refine' wpAnyH_take (i := 5) (v := ?vr2_5) rfl (by kernel_rfl) (by kernel_rfl) (by kernel_rfl) (fun _ _ _ h => h) (Or.inl ⟨by rfl, ?hyr2_5⟩) (by assumption) ?restr2_5
  case hyr2_5 => (intro w hSw; (try dsimp only at hSw); go_simp; try (with_reducible rfl))
  simp only [Act.put, List.getElem_toArray, List.getElem_cons_succ, List.getElem_cons_zero, List.setIfInBounds_toArray, List.set_cons_zero, List.set_cons_succ]
  refine' wpAnyH_take (i := 6) (v := ?vr2_6) rfl (by kernel_rfl) (by kernel_rfl) (by kernel_rfl) (fun _ _ _ h => h) (Or.inl ⟨by rfl, ?hyr2_6⟩) (by assumption) ?restr2_6
  case hyr2_6 => (intro w hSw; (try dsimp only at hSw); go_simp; try (with_reducible rfl))
  simp only [Act.put, List.getElem_toArray, List.getElem_cons_succ, List.getElem_cons_zero, List.setIfInBounds_toArray, List.set_cons_zero, List.set_cons_succ]
  obtain ⟨bb, hbb, hDD⟩ := hHeld.2
  obtain ⟨z, HZ⟩ : ∃ z, Hid (IntKind.i64.wrap (IntKind.i64.wrap (a.slope + (r : Int)) - 1) = z) := ⟨_, Lib.hid rfl⟩
  have HN := Lib.hid (show okE ⟨bb.frm, bb.to_, bb.tape, bb.comp, z⟩ by
    have h1 := HZ.out
    have h2 := HO.out
    have h3 := tm_bd (IntKind.i64.wrap (a.comp + (r : Int)))
    unfold okD at h2
    unfold okE at hbb ⊢
    simp only [IntKind.wrap_i64] at h1 h3
    simp only []
    omega)
  have HDD := Lib.hid hDD
  clear hDD hHeld
  obtain ⟨⟨y0, y1, y2, y3, y4⟩, ⟨yf0, yf1, yf2, yf3, yf4⟩, yl⟩ := HDD.out.cb
  refine wpAnyH_ready (rs := [7]) (by kernel_rfl) (by simp) ?_
  refine AllReadyH.cons rfl (fun K hK => ?_) AllReadyH.nil
  go_simp
  simp only [HZ.out]
  have HDN := Lib.hid (HDD.out.put 4 (.int .i64 z) ⟨bb.frm, bb.to_, bb.tape, bb.comp, z⟩ rfl)
  refine hK.out _ _ (HDN.out.mk6 HN.out) (fun hHeld1 => ?_)
  clear hK K hHeld1 y0 y1 y2 y3 y4 yf0 yf1 yf2 yf3 yf4 yl HDD hbb
  try simp only [Act.put, List.getElem_toArray, List.getElem_cons_succ, List.getElem_cons_zero, List.setIfInBounds_toArray, List.set_cons_zero, List.set_cons_succ]
  refine wpAnyH_done (by kernel_rfl) ?_ _
  obtain ⟨V, HV⟩ : ∃ V, Hid (w4.setCell ⟨Y, 4, none⟩ (.int .i64 z) = V) := ⟨_, Lib.hid rfl⟩
  rw [HV.out] at HDN
  rw [HV.out]
  obtain ⟨b, Hb⟩ : ∃ b : Lg, Hid ((⟨bb.frm, bb.to_, bb.tape, bb.comp, z⟩ : Lg) = b) := ⟨_, Lib.hid rfl⟩
  rw [Hb.out] at HDN HN
  clear HD HE HV Hb hr2 HZ
  have HD := HDN
  have HE := HN
  clear HDN HN
  try clear bb
  obtain ⟨W2, HV⟩ : ∃ W, Hid (V = W) := ⟨_, Lib.hid rfl⟩
  rw [HV.out] at HD
  rw [HV.out]
  clear HV V
  go_upto_region 6 with fail
  have HDd := Lib.hid (HD.out.below (drewN_below _ 1))
  refine wp_region_held_drew (S := (fun v => (v.cell? ⟨X, 0, none⟩ = some (.int .i64 a.frm) ∧ v.cell? ⟨X, 1, none⟩ = some (.int .i64 a.to_) ∧ v.cell? ⟨X, 2, none⟩ = some (.int .i64 a.tape) ∧ v.cell? ⟨X, 3, none⟩ = some (.int .i64 a.comp) ∧ v.cell? ⟨X, 4, none⟩ = some (.int .i64 a.slope)) ∧ ∃ b, okE b ∧ DA w X Y A n cap zs 10 a b v)) (by kernel_rfl) ?_ (fun hHeld => ?_)
  · exact (HDd.out.more (by omega)).mk6 HE.out
  refine' wpAnyH_take (i := 0) (v := ?vr3_0) rfl (by kernel_rfl) (by kernel_rfl) (by kernel_rfl) (fun _ _ _ h => h) (Or.inl ⟨by rfl, ?hyr3_0⟩) (by assumption) ?restr3_0
  case hyr3_0 => (intro w hSw; (try dsimp only at hSw); go_simp; try (with_reducible rfl))
  simp only [Act.put, List.getElem_toArray, List.getElem_cons_succ, List.getElem_cons_zero, List.setIfInBounds_toArray, List.set_cons_zero, List.set_cons_succ]
  refine' wpAnyH_take (i := 1) (v := ?vr3_1) rfl (by kernel_rfl) (by kernel_rfl) (by kernel_rfl) (fun _ _ _ h => h) (Or.inl ⟨by rfl, ?hyr3_1⟩) (by assumption) ?restr3_1
  case hyr3_1 => (intro w hSw; (try dsimp only at hSw); go_simp; try (with_reducible rfl))
  simp only [Act.put, List.getElem_toArray, List.getElem_cons_succ, List.getElem_cons_zero, List.setIfInBounds_toArray, List.set_cons_zero, List.set_cons_succ]
  refine' wpAnyH_take (i := 2) (v := ?vr3_2) rfl (by kernel_rfl) (by kernel_rfl) (by kernel_rfl) (fun _ _ _ h => h) (Or.inl ⟨by rfl, ?hyr3_2⟩) (by assumption) ?restr3_2
  case hyr3_2 => (intro w hSw; (try dsimp only at hSw); go_simp; try (with_reducible rfl))
  simp only [Act.put, List.getElem_toArray, List.getElem_cons_succ, List.getElem_cons_zero, List.setIfInBounds_toArray, List.set_cons_zero, List.set_cons_succ]
  refine wpAnyH_ready (rs := [3]) (by kernel_rfl) (by simp) ?_
  refine AllReadyH.cons rfl (fun K hK => ?_) AllReadyH.nil
  go_simp
  refine (pick_any _ _ 9 A n cap zs _ 3 (by omega) HDd.out.1 (by decide) (by decide)).mono ?_
  rintro e w4 ⟨r, rfl, hr, hC, hg⟩
  refine hK.out _ _ (((HDd.out.step hC hg).mk6 HE.out)) (fun hHeld1 => ?_)
  clear hK K hHeld
  have hHeld := hHeld1
  clear hHeld1
  try simp only [Act.put, List.getElem_toArray, List.getElem_cons_succ, List.getElem_cons_zero, List.setIfInBounds_toArray, List.set_cons_zero, List.set_cons_succ]
  have hr2 : (r : Int) ≤ 2 := by omega
  clear hr hC hg HDd
  refine' wpAnyH_take (i := 4) (v := ?vr3_4) rfl (by kernel_rfl) (by kernel_rfl) (by kernel_rfl) (fun _ _ _ h => h) (Or.inl ⟨by rfl, ?hyr3_4⟩) (by assumption) ?restr3_4
  case hyr3_4 => (intro w hSw; (try dsimp only at hSw); go_simp; try (with_reducible rfl))
  simp only [Act.put, List.getElem_toArray, List.getElem_cons_succ, List.getElem_cons_zero, List.setIfInBounds_toArray, List.set_cons_zero, List.set_cons_succ]
  refine' wpAnyH_take (i := 5) (v := ?vr3_5) rfl (by kernel_rfl) (by kernel_rfl) (by kernel_rfl) (fun _ _ _ h => h) (Or.inl ⟨by rfl, ?hyr3_5⟩) (by assumption) ?restr3_5
  case hyr3_5 => (intro w hSw; (try dsimp only at hSw); go_simp; try (with_reducible rfl))
  simp only [Act.put, List.getElem_toArray, List.getElem_cons_succ, List.getElem_cons_zero, List.setIfInBounds_toArray, List.set_cons_zero, List.set_cons_succ]
  obtain ⟨bb, hbb, hDD⟩ := hHeld.2
  obtain ⟨z, HZ⟩ : ∃ z, Hid (IntKind.i64.wrap (a.tape + (r : Int)) = z) := ⟨_, Lib.hid rfl⟩
  have HN := Lib.hid (show okE ⟨bb.frm, bb.to_, z, bb.comp, bb.slope⟩ by
    have h1 := HZ.out
    have h2 := HO.out
    have h3 := tm_bd (IntKind.i64.wrap (a.comp + (r : Int)))
    unfold okD at h2
    unfold okE at hbb ⊢
    simp only [IntKind.wrap_i64] at h1 h3
    simp only []
    omega)
  have HDD := Lib.hid hDD
  clear hDD hHeld
  obtain ⟨⟨y0, y1, y2, y3, y4⟩, ⟨yf0, yf1, yf2, yf3, yf4⟩, yl⟩ := HDD.out.cb
  refine wpAnyH_ready (rs := [6]) (by kernel_rfl) (by simp) ?_
  refine AllReadyH.cons rfl (fun K hK => ?_) AllReadyH.nil
  go_simp
  simp only [HZ.out]
  have HDN := Lib.hid (HDD.out.put 2 (.int .i64 z) ⟨bb.frm, bb.to_, z, bb.comp, bb.slope⟩ rfl)
  refine hK.out _ _ (HDN.out.mk6 HN.out) (fun hHeld1 => ?_)
  clear hK K hHeld1 y0 y1 y2 y3 y4 yf0 yf1 yf2 yf3 yf4 yl HDD hbb
  try simp only [Act.put, List.getElem_toArray, List.getElem_cons_succ, List.getElem_cons_zero, List.setIfInBounds_toArray, List.set_cons_zero, List.set_cons_succ]
  refine wpAnyH_done (by kernel_rfl) ?_ _
  obtain ⟨V, HV⟩ : ∃ V, Hid (w4.setCell ⟨Y, 2, none⟩ (.int .i64 z) = V) := ⟨_, Lib.hid rfl⟩
  rw [HV.out] at HDN
  rw [HV.out]
  obtain ⟨b, Hb⟩ : ∃ b : Lg, Hid ((⟨bb.frm, bb.to_, z, bb.comp, bb.slope⟩ : Lg) = b) := ⟨_, Lib.hid rfl⟩
  rw [Hb.out] at HDN HN
  clear HD HE HV Hb hr2 HZ
  have HD := HDN
  have HE := HN
  clear HDN HN
  try clear bb
  obtain ⟨W2, HV⟩ : ∃ W, Hid (V = W) := ⟨_, Lib.hid rfl⟩
  rw [HV.out] at HD
  rw [HV.out]
  clear HV V
  clear ha1
  go_wp2_with fail
  refine (one_any (w.heap.size + 2) (w.heap.size + 2) 10 A n cap zs _ 2 (by omega) HD.out.1 (by decide) (by decide)).mono ?_
  rintro e w5 ⟨q, rfl, hC, hg⟩
  have HD5 := Lib.hid (HD.out.step hC hg)
  clear hC hg HD
  go_upto_if 36 with fail
  go_cut [36] (fun _ wx => ∃ b, Hid (okE b) ∧ Hid (DA w X Y A n cap zs 11 a b wx))
  case first =>
    cases q
    · go_wp2_with fail
      go_meet
      case rel => exact ⟨b, HE, HD5⟩
    · obtain ⟨⟨y0, y1, y2, y3, y4⟩, ⟨yf0, yf1, yf2, yf3, yf4⟩, yl⟩ := HD5.out.cb
      go_wp2_with fail
      refine (rev_ex b _ HE.out).mono ?_
      rintro e w6 ⟨c, rfl, hc, b6⟩
      have HEC := Lib.hid hc
      have HD6 := Lib.hid (HD5.out.below b6)
      clear y0 y1 y2 y3 y4 yf0 yf1 yf2 yf3 yf4 yl hc b6 HD5 HE
      obtain ⟨⟨y0, y1, y2, y3, y4⟩, ⟨yf0, yf1, yf2, yf3, yf4⟩, yl⟩ := HD6.out.cb
      have HD7 := Lib.hid (HD6.out.putAll c)
      go_wp2_with fail
      go_meet
      case rel => exact ⟨c, HEC, HD7⟩
  case rest =>
    obtain ⟨b', HE2, HD6⟩ := hcut
    clear HE HD5
    go_wp2_with fail
    refine (one_any (w.heap.size + 2) (w.heap.size + 2) 11 A n cap zs _ 8 (by omega) HD6.out.1 (by decide) (by decide)).mono ?_
    rintro e w7 ⟨q2, rfl, hC, hg⟩
    have HD7 := Lib.hid (HD6.out.step hC hg)
    clear hC hg HD6
    go_upto_if 40 with fail
    go_cut [40] (fun _ wx => ∃ b, Hid (DA w X Y A n cap zs 20 a b wx))
    case first =>
      cases q2
      · go_wp2_with fail
        go_meet
        case rel => exact ⟨b', Lib.hid (HD7.out.more (by omega))⟩
      · go_wp2_with fail
        refine (leg_any (w.heap.size + 2) (w.heap.size + 2) 12 A n cap zs _ (by omega) (Lib.hid HD7.out.1)).mono ?_
        rintro e w8 ⟨c, rfl, hok, hC, hg⟩
        have HD8 := Lib.hid (HD7.out.step hC hg)
        clear hok hC hg HD7 HE2
        obtain ⟨⟨y0, y1, y2, y3, y4⟩, ⟨yf0, yf1, yf2, yf3, yf4⟩, yl⟩ := HD8.out.cb
        have HD9 := Lib.hid (HD8.out.putAll c)
        go_wp2_with fail
        go_meet
        case rel => exact ⟨c, Lib.hid (HD9.out.more (by omega))⟩
    case rest =>
      obtain ⟨c, HD8⟩ := hcut
      clear HD7 HE2
      go_upto_region 11 with fail
      refine wp_region_held_drew (S := (fun v => (v.cell? ⟨X, 0, none⟩ = some (.int .i64 a.frm) ∧ v.cell? ⟨X, 1, none⟩ = some (.int .i64 a.to_) ∧ v.cell? ⟨X, 2, none⟩ = some (.int .i64 a.tape) ∧ v.cell? ⟨X, 3, none⟩ = some (.int .i64 a.comp) ∧ v.cell? ⟨X, 4, none⟩ = some (.int .i64 a.slope)) ∧ (v.cell? ⟨Y, 0, none⟩ = some (.int .i64 c.frm) ∧ v.cell? ⟨Y, 1, none⟩ = some (.int .i64 c.to_) ∧ v.cell? ⟨Y, 2, none⟩ = some (.int .i64 c.tape) ∧ v.cell? ⟨Y, 3, none⟩ = some (.int .i64 c.comp) ∧ v.cell? ⟨Y, 4, none⟩ = some (.int .i64 c.slope)))) (by kernel_rfl) ?_ (fun hHeld => ?_)
      · exact (HD8.out.below (drewN_below _ 1)).de.mk
      obtain ⟨WD, HWD⟩ : ∃ WD, Hid (wc.drew = WD) := ⟨_, Lib.hid rfl⟩
      have HD := Lib.hid (show DA w X Y A n cap zs 20 a c WD by rw [← HWD.out]; exact HD8.out.below (drewN_below _ 1))
      rw [HWD.out] at hHeld ⊢
      clear HWD HD8
      refine' wpAnyH_take (i := 0) (v := ?vq1_0) rfl (by kernel_rfl) (by kernel_rfl) (by kernel_rfl) (fun _ _ _ h => h) (Or.inl ⟨by rfl, ?hyq1_0⟩) (by assumption) ?restq1_0
      case hyq1_0 => (intro w hSw; (try dsimp only at hSw); go_simp; try (with_reducible rfl))
      simp only [Act.put, List.getElem_toArray, List.getElem_cons_succ, List.getElem_cons_zero, List.setIfInBounds_toArray, List.set_cons_zero, List.set_cons_succ]
      refine' wpAnyH_take (i := 1) (v := ?vq2_1) rfl (by kernel_rfl) (by kernel_rfl) (by kernel_rfl) (fun _ _ _ h => h) (Or.inl ⟨by rfl, ?hyq2_1⟩) (by assumption) ?restq2_1
      case hyq2_1 => (intro w hSw; (try dsimp only at hSw); go_simp; try (with_reducible rfl))
      simp only [Act.put, List.getElem_toArray, List.getElem_cons_succ, List.getElem_cons_zero, List.setIfInBounds_toArray, List.set_cons_zero, List.set_cons_succ]
      refine' wpAnyH_take (i := 2) (v := ?vq3_2) rfl (by kernel_rfl) (by kernel_rfl) (by kernel_rfl) (fun _ _ _ h => h) (Or.inl ⟨by rfl, ?hyq3_2⟩) (by assumption) ?restq3_2
      case hyq3_2 => (intro w hSw; (try dsimp only at hSw); go_simp; try (with_reducible rfl))
      simp only [Act.put, List.getElem_toArray, List.getElem_cons_succ, List.getElem_cons_zero, List.setIfInBounds_toArray, List.set_cons_zero, List.set_cons_succ]
      refine' wpAnyH_take (i := 5) (v := ?vq4_5) rfl (by kernel_rfl) (by kernel_rfl) (by kernel_rfl) (fun _ _ _ h => h) (Or.inl ⟨by rfl, ?hyq4_5⟩) (by assumption) ?restq4_5
      case hyq4_5 => (intro w hSw; (try dsimp only at hSw); go_simp; try (with_reducible rfl))
      simp only [Act.put, List.getElem_toArray, List.getElem_cons_succ, List.getElem_cons_zero, List.setIfInBounds_toArray, List.set_cons_zero, List.set_cons_succ]
      refine wpAnyH_ready (rs := [3, 6]) (by kernel_rfl) (by simp) ?_
      refine AllReadyH.cons rfl (fun K hK => ?_) (AllReadyH.cons rfl (fun K hK => ?_) AllReadyH.nil)
      · go_simp
        refine hK.out _ _ (HD.out.alloc _).de.mk (fun hHeld1 => ?_)
        clear hK K hHeld
        have hHeld := hHeld1
        clear hHeld1
        try simp only [Act.put, List.getElem_toArray, List.getElem_cons_succ, List.getElem_cons_zero, List.setIfInBounds_toArray, List.set_cons_zero, List.set_cons_succ]
        obtain ⟨W3_1, HWx, HP3_1, HB3⟩ : ∃ Wx, Hid (WD.alloc (.cells #[.int .i64 0, .int .i64 1, .int .i64 2, .int .i64 3, .int .i64 5, .int .i64 (-1)] 3) = Wx) ∧ Hid (DA w X Y A n cap zs 20 a c Wx) ∧ Hid (Blk Wx WD.heap.size 3 #[.int .i64 0, .int .i64 1, .int .i64 2, .int .i64 3, .int .i64 5, .int .i64 (-1)]) := ⟨_, Lib.hid rfl, Lib.hid (HD.out.alloc _), Lib.hid (Blk.new _ _ _)⟩
        obtain ⟨G3, HG3⟩ : ∃ G, Hid (WD.heap.size = G) := ⟨_, Lib.hid rfl⟩
        have hne3 : G3 ≠ w.heap.size + 2 := by rw [← HG3.out]; have := cur_lt HD.out.1; omega
        rw [HG3.out] at HB3
        rw [HWx.out] at hHeld ⊢
        try rw [HG3.out]
        clear HWx HD
        refine wpAnyH_ready (rs := [4, 6]) (by kernel_rfl) (by simp) ?_
        refine AllReadyH.cons rfl (fun K hK => ?_) (AllReadyH.cons rfl (fun K hK => ?_) AllReadyH.nil)
        · go_simp
          refine (among_any (w.heap.size + 2) (w.heap.size + 2) 20 A n cap zs _ G3 6 _ [0, 1, 2, 3, 5, -1] (by omega) HP3_1.out.1 HB3.out hne3 rfl (by decide) (by decide)).mono ?_
          rintro e W4_2 ⟨x3, hx3, rfl, hC, hg⟩
          have HP4_2 := Lib.hid (HP3_1.out.step hC hg)
          have bx3 : -1 ≤ x3 ∧ x3 ≤ 5 := by simp at hx3; omega
          clear hx3
          refine hK.out _ _ HP4_2.out.de.mk (fun hHeld1 => ?_)
          clear hK K hHeld
          have hHeld := hHeld1
          clear hHeld1
          try simp only [Act.put, List.getElem_toArray, List.getElem_cons_succ, List.getElem_cons_zero, List.setIfInBounds_toArray, List.set_cons_zero, List.set_cons_succ]
          clear hC hg HP3_1
          refine wpAnyH_ready (rs := [6]) (by kernel_rfl) (by simp) ?_
          refine AllReadyH.cons rfl (fun K hK => ?_) AllReadyH.nil
          go_simp
          refine hK.out _ _ (HP4_2.out.alloc _).de.mk (fun hHeld1 => ?_)
          clear hK K hHeld
          have hHeld := hHeld1
          clear hHeld1
          try simp only [Act.put, List.getElem_toArray, List.getElem_cons_succ, List.getElem_cons_zero, List.setIfInBounds_toArray, List.set_cons_zero, List.set_cons_succ]
          obtain ⟨W6_3, HWx, HP6_3, HB6⟩ : ∃ Wx, Hid (W4_2.alloc (.cells #[.int .i64 0, .int .i64 1, .int .i64 2, .int .i64 5, .int .i64 (-1)] 3) = Wx) ∧ Hid (DA w X Y A n cap zs 21 a c Wx) ∧ Hid (Blk Wx W4_2.heap.size 3 #[.int .i64 0, .int .i64 1, .int .i64 2, .int .i64 5, .int .i64 (-1)]) := ⟨_, Lib.hid rfl, Lib.hid (HP4_2.out.alloc _), Lib.hid (Blk.new _ _ _)⟩
          obtain ⟨G6, HG6⟩ : ∃ G, Hid (W4_2.heap.size = G) := ⟨_, Lib.hid rfl⟩
          have hne6 : G6 ≠ w.heap.size + 2 := by rw [← HG6.out]; have := cur_lt HP4_2.out.1; omega
          rw [HG6.out] at HB6
          rw [HWx.out] at hHeld ⊢
          try rw [HG6.out]
          clear HWx HP4_2
          refine wpAnyH_ready (rs := [7]) (by kernel_rfl) (by simp) ?_
          refine AllReadyH.cons rfl (fun K hK => ?_) AllReadyH.nil
          go_simp
          refine (among_any (w.heap.size + 2) (w.heap.size + 2) 21 A n cap zs _ G6 5 _ [0, 1, 2, 5, -1] (by omega) HP6_3.out.1 HB6.out hne6 rfl (by decide) (by decide)).mono ?_
          rintro e W7_4 ⟨x6, hx6, rfl, hC, hg⟩
          have HP7_4 := Lib.hid (HP6_3.out.step hC hg)
          have bx6 : -1 ≤ x6 ∧ x6 ≤ 5 := by simp at hx6; omega
          clear hx6
          refine hK.out _ _ HP7_4.out.de.mk (fun hHeld1 => ?_)
          clear hK K hHeld
          have hHeld := hHeld1
          clear hHeld1
          try simp only [Act.put, List.getElem_toArray, List.getElem_cons_succ, List.getElem_cons_zero, List.setIfInBounds_toArray, List.set_cons_zero, List.set_cons_succ]
          clear hC hg HP6_3
          have HE0 := Lib.hid HP7_4.out.de
          clear HP7_4
          obtain ⟨⟨r0, r1, r2, r3, r4⟩, ⟨f0, f1, f2, f3, f4⟩, rl⟩ := box5v HE0.out.1
          unfold zLg at r0 r1 r2 r3 r4
          refine wpAnyH_ready (rs := [8]) (by kernel_rfl) (by simp) ?_
          refine AllReadyH.cons rfl (fun K hK => ?_) AllReadyH.nil
          go_simp
          refine hK.out _ _ (HE0.out.put1 a).mk (fun hHeld1 => ?_)
          clear hK K hHeld
          have hHeld := hHeld1
          clear hHeld1
          try simp only [Act.put, List.getElem_toArray, List.getElem_cons_succ, List.getElem_cons_zero, List.setIfInBounds_toArray, List.set_cons_zero, List.set_cons_succ]
          obtain ⟨Z1, HZ1⟩ : ∃ Z, Hid ((((((W7_4.setCell ⟨w.heap.size, 0, none⟩ (.int .i64 a.frm)).setCell ⟨w.heap.size, 1, none⟩ (.int .i64 a.to_)).setCell ⟨w.heap.size, 2, none⟩ (.int .i64 a.tape)).setCell ⟨w.heap.size, 3, none⟩ (.int .i64 a.comp)).setCell ⟨w.heap.size, 4, none⟩ (.int .i64 a.slope)) = Z) := ⟨_, Lib.hid rfl⟩
          have HE1 := Lib.hid (HE0.out.put1 a)
          rw [HZ1.out] at HE1 hHeld ⊢
          clear HZ1 HE0 r0 r1 r2 r3 r4 f0 f1 f2 f3 f4 rl
          obtain ⟨⟨r0, r1, r2, r3, r4⟩, ⟨f0, f1, f2, f3, f4⟩, rl⟩ := box5v HE1.out.2.1
          unfold zLg at r0 r1 r2 r3 r4
          refine wpAnyH_ready (rs := [9]) (by kernel_rfl) (by simp) ?_
          refine AllReadyH.cons rfl (fun K hK => ?_) AllReadyH.nil
          go_simp
          refine hK.out _ _ (HE1.out.put2 c).mk (fun hHeld1 => ?_)
          clear hK K hHeld
          have hHeld := hHeld1
          clear hHeld1
          try simp only [Act.put, List.getElem_toArray, List.getElem_cons_succ, List.getElem_cons_zero, List.setIfInBounds_toArray, List.set_cons_zero, List.set_cons_succ]
          obtain ⟨Z2, HZ2⟩ : ∃ Z, Hid ((((((Z1.setCell ⟨(w.heap.size + 1), 0, none⟩ (.int .i64 c.frm)).setCell ⟨(w.heap.size + 1), 1, none⟩ (.int .i64 c.to_)).setCell ⟨(w.heap.size + 1), 2, none⟩ (.int .i64 c.tape)).setCell ⟨(w.heap.size + 1), 3, none⟩ (.int .i64 c.comp)).setCell ⟨(w.heap.size + 1), 4, none⟩ (.int .i64 c.slope)) = Z) := ⟨_, Lib.hid rfl⟩
          have HE2 := Lib.hid (HE1.out.put2 c)
          rw [HZ2.out] at HE2 hHeld ⊢
          clear HZ2 HE1 r0 r1 r2 r3 r4 f0 f1 f2 f3 f4 rl
          refine' wpAnyH_take (i := 10) (v := ?vq5_10) rfl (by kernel_rfl) (by kernel_rfl) (by kernel_rfl) (fun _ _ _ h => h) (Or.inl ⟨by rfl, ?hyq5_10⟩) (by assumption) ?restq5_10
          case hyq5_10 => (intro w hSw; (try dsimp only at hSw); go_simp; try (with_reducible rfl))
          simp only [Act.put, List.getElem_toArray, List.getElem_cons_succ, List.getElem_cons_zero, List.setIfInBounds_toArray, List.set_cons_zero, List.set_cons_succ]
          refine' wpAnyH_take (i := 11) (v := ?vq6_11) rfl (by kernel_rfl) (by kernel_rfl) (by kernel_rfl) (fun _ _ _ h => h) (Or.inl ⟨by rfl, ?hyq6_11⟩) (by assumption) ?restq6_11
          case hyq6_11 => (intro w hSw; (try dsimp only at hSw); go_simp; try (with_reducible rfl))
          simp only [Act.put, List.getElem_toArray, List.getElem_cons_succ, List.getElem_cons_zero, List.setIfInBounds_toArray, List.set_cons_zero, List.set_cons_succ]
          refine wpAnyH_done (by kernel_rfl) ?_ _
          clear hHeld
          obtain ⟨⟨r0, r1, r2, r3, r4⟩, -, rl⟩ := box5v HE2.out.1
          obtain ⟨⟨s0, s1, s2, s3, s4⟩, -, sl⟩ := box5v HE2.out.2.1
          go_wp2_with fail
          refine bodyPost_ret (v := .tuple #[.agg #[.int .i64 a.frm, .int .i64 a.to_, .int .i64 a.tape, .int .i64 a.comp, .int .i64 a.slope], .agg #[.int .i64 c.frm, .int .i64 c.to_, .int .i64 c.tape, .int .i64 c.comp, .int .i64 c.slope], .int .i64 x3, .int .i64 x6]) (by simp [results, Tryd.results41, go_sem, r0, r1, r2, r3, r4, s0, s1, s2, s3, s4]) rfl ⟨a, c, x3, x6, rfl, bx3, bx6, HE2.out.2.2.2.2.1⟩
        · go_simp
          refine hK.out _ _ (HP3_1.out.alloc _).de.mk (fun hHeld1 => ?_)
          clear hK K hHeld
          have hHeld := hHeld1
          clear hHeld1
          try simp only [Act.put, List.getElem_toArray, List.getElem_cons_succ, List.getElem_cons_zero, List.setIfInBounds_toArray, List.set_cons_zero, List.set_cons_succ]
          obtain ⟨W6_2, HWx, HP6_2, HB6⟩ : ∃ Wx, Hid (W3_1.alloc (.cells #[.int .i64 0, .int .i64 1, .int .i64 2, .int .i64 5, .int .i64 (-1)] 3) = Wx) ∧ Hid (DA w X Y A n cap zs 20 a c Wx) ∧ Hid (Blk Wx W3_1.heap.size 3 #[.int .i64 0, .int .i64 1, .int .i64 2, .int .i64 5, .int .i64 (-1)]) := ⟨_, Lib.hid rfl, Lib.hid (HP3_1.out.alloc _), Lib.hid (Blk.new _ _ _)⟩
          obtain ⟨G6, HG6⟩ : ∃ G, Hid (W3_1.heap.size = G) := ⟨_, Lib.hid rfl⟩
          have hne6 : G6 ≠ w.heap.size + 2 := by rw [← HG6.out]; have := cur_lt HP3_1.out.1; omega
          rw [HG6.out] at HB6
          rw [HWx.out] at hHeld ⊢
          try rw [HG6.out]
          have HB3' := Lib.hid (show Blk W6_2 G3 3 #[.int .i64 0, .int .i64 1, .int .i64 2, .int .i64 3, .int .i64 5, .int .i64 (-1)] by rw [← HWx.out]; exact HB3.out.alloc _)
          clear HB3
          have HB3 := HB3'
          clear HB3'
          clear HWx HP3_1
          refine wpAnyH_ready (rs := [4]) (by kernel_rfl) (by simp) ?_
          refine AllReadyH.cons rfl (fun K hK => ?_) AllReadyH.nil
          go_simp
          refine (among_any (w.heap.size + 2) (w.heap.size + 2) 20 A n cap zs _ G3 6 _ [0, 1, 2, 3, 5, -1] (by omega) HP6_2.out.1 HB3.out hne3 rfl (by decide) (by decide)).mono ?_
          rintro e W4_3 ⟨x3, hx3, rfl, hC, hg⟩
          have HP4_3 := Lib.hid (HP6_2.out.step hC hg)
          have bx3 : -1 ≤ x3 ∧ x3 ≤ 5 := by simp at hx3; omega
          clear hx3
          have HB6' := Lib.hid (HB6.out.grown hg (by intro e; injection e with e; exact hne6 e))
          clear HB6
          have HB6 := HB6'
          clear HB6'
          refine hK.out _ _ HP4_3.out.de.mk (fun hHeld1 => ?_)
          clear hK K hHeld
          have hHeld := hHeld1
          clear hHeld1
          try simp only [Act.put, List.getElem_toArray, List.getElem_cons_succ, List.getElem_cons_zero, List.setIfInBounds_toArray, List.set_cons_zero, List.set_cons_succ]
          clear hC hg HP6_2
          refine wpAnyH_ready (rs := [7]) (by kernel_rfl) (by simp) ?_
          refine AllReadyH.cons rfl (fun K hK => ?_) AllReadyH.nil
          go_simp
          refine (among_any (w.heap.size + 2) (w.heap.size + 2) 21 A n cap zs _ G6 5 _ [0, 1, 2, 5, -1] (by omega) HP4_3.out.1 HB6.out hne6 rfl (by decide) (by decide)).mono ?_
          rintro e W7_4 ⟨x6, hx6, rfl, hC, hg⟩
          have HP7_4 := Lib.hid (HP4_3.out.step hC hg)
          have bx6 : -1 ≤ x6 ∧ x6 ≤ 5 := by simp at hx6; omega
          clear hx6
          refine hK.out _ _ HP7_4.out.de.mk (fun hHeld1 => ?_)
          clear hK K hHeld
          have hHeld := hHeld1
          clear hHeld1
          try simp only [Act.put, List.getElem_toArray, List.getElem_cons_succ, List.getElem_cons_zero, List.setIfInBounds_toArray, List.set_cons_zero, List.set_cons_succ]
          clear hC hg HP4_3
          have HE0 := Lib.hid HP7_4.out.de
          clear HP7_4
          obtain ⟨⟨r0, r1, r2, r3, r4⟩, ⟨f0, f1, f2, f3, f4⟩, rl⟩ := box5v HE0.out.1
          unfold zLg at r0 r1 r2 r3 r4
          refine wpAnyH_ready (rs := [8]) (by kernel_rfl) (by simp) ?_
          refine AllReadyH.cons rfl (fun K hK => ?_) AllReadyH.nil
          go_simp
          refine hK.out _ _ (HE0.out.put1 a).mk (fun hHeld1 => ?_)
          clear hK K hHeld
          have hHeld := hHeld1
          clear hHeld1
          try simp only [Act.put, List.getElem_toArray, List.getElem_cons_succ, List.getElem_cons_zero, List.setIfInBounds_toArray, List.set_cons_zero, List.set_cons_succ]
          obtain ⟨Z1, HZ1⟩ : ∃ Z, Hid ((((((W7_4.setCell ⟨w.heap.size, 0, none⟩ (.int .i64 a.frm)).setCell ⟨w.heap.size, 1, none⟩ (.int .i64 a.to_)).setCell ⟨w.heap.size, 2, none⟩ (.int .i64 a.tape)).setCell ⟨w.heap.size, 3, none⟩ (.int .i64 a.comp)).setCell ⟨w.heap.size, 4, none⟩ (.int .i64 a.slope)) = Z) := ⟨_, Lib.hid rfl⟩
          have HE1 := Lib.hid (HE0.out.put1 a)
          rw [HZ1.out] at HE1 hHeld ⊢
          clear HZ1 HE0 r0 r1 r2 r3 r4 f0 f1 f2 f3 f4 rl
          obtain ⟨⟨r0, r1, r2, r3, r4⟩, ⟨f0, f1, f2, f3, f4⟩, rl⟩ := box5v HE1.out.2.1
          unfold zLg at r0 r1 r2 r3 r4
          refine wpAnyH_ready (rs := [9]) (by kernel_rfl) (by simp) ?_
          refine AllReadyH.cons rfl (fun K hK => ?_) AllReadyH.nil
          go_simp
          refine hK.out _ _ (HE1.out.put2 c).mk (fun hHeld1 => ?_)
          clear hK K hHeld
          have hHeld := hHeld1
          clear hHeld1
          try simp only [Act.put, List.getElem_toArray, List.getElem_cons_succ, List.getElem_cons_zero, List.setIfInBounds_toArray, List.set_cons_zero, List.set_cons_succ]
          obtain ⟨Z2, HZ2⟩ : ∃ Z, Hid ((((((Z1.setCell ⟨(w.heap.size + 1), 0, none⟩ (.int .i64 c.frm)).setCell ⟨(w.heap.size + 1), 1, none⟩ (.int .i64 c.to_)).setCell ⟨(w.heap.size + 1), 2, none⟩ (.int .i64 c.tape)).setCell ⟨(w.heap.size + 1), 3, none⟩ (.int .i64 c.comp)).setCell ⟨(w.heap.size + 1), 4, none⟩ (.int .i64 c.slope)) = Z) := ⟨_, Lib.hid rfl⟩
          have HE2 := Lib.hid (HE1.out.put2 c)
          rw [HZ2.out] at HE2 hHeld ⊢
          clear HZ2 HE1 r0 r1 r2 r3 r4 f0 f1 f2 f3 f4 rl
          refine' wpAnyH_take (i := 10) (v := ?vq7_10) rfl (by kernel_rfl) (by kernel_rfl) (by kernel_rfl) (fun _ _ _ h => h) (Or.inl ⟨by rfl, ?hyq7_10⟩) (by assumption) ?restq7_10
          case hyq7_10 => (intro w hSw; (try dsimp only at hSw); go_simp; try (with_reducible rfl))
          simp only [Act.put, List.getElem_toArray, List.getElem_cons_succ, List.getElem_cons_zero, List.setIfInBounds_toArray, List.set_cons_zero, List.set_cons_succ]
          refine' wpAnyH_take (i := 11) (v := ?vq8_11) rfl (by kernel_rfl) (by kernel_rfl) (by kernel_rfl) (fun _ _ _ h => h) (Or.inl ⟨by rfl, ?hyq8_11⟩) (by assumption) ?restq8_11
          case hyq8_11 => (intro w hSw; (try dsimp only at hSw); go_simp; try (with_reducible rfl))
          simp only [Act.put, List.getElem_toArray, List.getElem_cons_succ, List.getElem_cons_zero, List.setIfInBounds_toArray, List.set_cons_zero, List.set_cons_succ]
          refine wpAnyH_done (by kernel_rfl) ?_ _
          clear hHeld
          obtain ⟨⟨r0, r1, r2, r3, r4⟩, -, rl⟩ := box5v HE2.out.1
          obtain ⟨⟨s0, s1, s2, s3, s4⟩, -, sl⟩ := box5v HE2.out.2.1
          go_wp2_with fail
          refine bodyPost_ret (v := .tuple #[.agg #[.int .i64 a.frm, .int .i64 a.to_, .int .i64 a.tape, .int .i64 a.comp, .int .i64 a.slope], .agg #[.int .i64 c.frm, .int .i64 c.to_, .int .i64 c.tape, .int .i64 c.comp, .int .i64 c.slope], .int .i64 x3, .int .i64 x6]) (by simp [results, Tryd.results41, go_sem, r0, r1, r2, r3, r4, s0, s1, s2, s3, s4]) rfl ⟨a, c, x3, x6, rfl, bx3, bx6, HE2.out.2.2.2.2.1⟩
      · go_simp
        refine hK.out _ _ (HD.out.alloc _).de.mk (fun hHeld1 => ?_)
        clear hK K hHeld
        have hHeld := hHeld1
        clear hHeld1
        try simp only [Act.put, List.getElem_toArray, List.getElem_cons_succ, List.getElem_cons_zero, List.setIfInBounds_toArray, List.set_cons_zero, List.set_cons_succ]
        obtain ⟨W6_1, HWx, HP6_1, HB6⟩ : ∃ Wx, Hid (WD.alloc (.cells #[.int .i64 0, .int .i64 1, .int .i64 2, .int .i64 5, .int .i64 (-1)] 3) = Wx) ∧ Hid (DA w X Y A n cap zs 20 a c Wx) ∧ Hid (Blk Wx WD.heap.size 3 #[.int .i64 0, .int .i64 1, .int .i64 2, .int .i64 5, .int .i64 (-1)]) := ⟨_, Lib.hid rfl, Lib.hid (HD.out.alloc _), Lib.hid (Blk.new _ _ _)⟩
        obtain ⟨G6, HG6⟩ : ∃ G, Hid (WD.heap.size = G) := ⟨_, Lib.hid rfl⟩
        have hne6 : G6 ≠ w.heap.size + 2 := by rw [← HG6.out]; have := cur_lt HD.out.1; omega
        rw [HG6.out] at HB6
        rw [HWx.out] at hHeld ⊢
        try rw [HG6.out]
        clear HWx HD
        refine wpAnyH_ready (rs := [3]) (by kernel_rfl) (by simp) ?_
        refine AllReadyH.cons rfl (fun K hK => ?_) AllReadyH.nil
        go_simp
        refine hK.out _ _ (HP6_1.out.alloc _).de.mk (fun hHeld1 => ?_)
        clear hK K hHeld
        have hHeld := hHeld1
        clear hHeld1
        try simp only [Act.put, List.getElem_toArray, List.getElem_cons_succ, List.getElem_cons_zero, List.setIfInBounds_toArray, List.set_cons_zero, List.set_cons_succ]
        obtain ⟨W3_2, HWx, HP3_2, HB3⟩ : ∃ Wx, Hid (W6_1.alloc (.cells #[.int .i64 0, .int .i64 1, .int .i64 2, .int .i64 3, .int .i64 5, .int .i64 (-1)] 3) = Wx) ∧ Hid (DA w X Y A n cap zs 20 a c Wx) ∧ Hid (Blk Wx W6_1.heap.size 3 #[.int .i64 0, .int .i64 1, .int .i64 2, .int .i64 3, .int .i64 5, .int .i64 (-1)]) := ⟨_, Lib.hid rfl, Lib.hid (HP6_1.out.alloc _), Lib.hid (Blk.new _ _ _)⟩
        obtain ⟨G3, HG3⟩ : ∃ G, Hid (W6_1.heap.size = G) := ⟨_, Lib.hid rfl⟩
        have hne3 : G3 ≠ w.heap.size + 2 := by rw [← HG3.out]; have := cur_lt HP6_1.out.1; omega
        rw [HG3.out] at HB3
        rw [HWx.out] at hHeld ⊢
        try rw [HG3.out]
        have HB6' := Lib.hid (show Blk W3_2 G6 3 #[.int .i64 0, .int .i64 1, .int .i64 2, .int .i64 5, .int .i64 (-1)] by rw [← HWx.out]; exact HB6.out.alloc _)
        clear HB6
        have HB6 := HB6'
        clear HB6'
        clear HWx HP6_1
        refine wpAnyH_ready (rs := [4]) (by kernel_rfl) (by simp) ?_
        refine AllReadyH.cons rfl (fun K hK => ?_) AllReadyH.nil
        go_simp
        refine (among_any (w.heap.size + 2) (w.heap.size + 2) 20 A n cap zs _ G3 6 _ [0, 1, 2, 3, 5, -1] (by omega) HP3_2.out.1 HB3.out hne3 rfl (by decide) (by decide)).mono ?_
        rintro e W4_3 ⟨x3, hx3, rfl, hC, hg⟩
        have HP4_3 := Lib.hid (HP3_2.out.step hC hg)
        have bx3 : -1 ≤ x3 ∧ x3 ≤ 5 := by simp at hx3; omega
        clear hx3
        have HB6' := Lib.hid (HB6.out.grown hg (by intro e; injection e with e; exact hne6 e))
        clear HB6
        have HB6 := HB6'
        clear HB6'
        refine hK.out _ _ HP4_3.out.de.mk (fun hHeld1 => ?_)
        clear hK K hHeld
        have hHeld := hHeld1
        clear hHeld1
        try simp only [Act.put, List.getElem_toArray, List.getElem_cons_succ, List.getElem_cons_zero, List.setIfInBounds_toArray, List.set_cons_zero, List.set_cons_succ]
        clear hC hg HP3_2
        refine wpAnyH_ready (rs := [7]) (by kernel_rfl) (by simp) ?_
        refine AllReadyH.cons rfl (fun K hK => ?_) AllReadyH.nil
        go_simp
        refine (among_any (w.heap.size + 2) (w.heap.size + 2) 21 A n cap zs _ G6 5 _ [0, 1, 2, 5, -1] (by omega) HP4_3.out.1 HB6.out hne6 rfl (by decide) (by decide)).mono ?_
        rintro e W7_4 ⟨x6, hx6, rfl, hC, hg⟩
        have HP7_4 := Lib.hid (HP4_3.out.step hC hg)
        have bx6 : -1 ≤ x6 ∧ x6 ≤ 5 := by simp at hx6; omega
        clear hx6
        refine hK.out _ _ HP7_4.out.de.mk (fun hHeld1 => ?_)
        clear hK K hHeld
        have hHeld := hHeld1
        clear hHeld1
        try simp only [Act.put, List.getElem_toArray, List.getElem_cons_succ, List.getElem_cons_zero, List.setIfInBounds_toArray, List.set_cons_zero, List.set_cons_succ]
        clear hC hg HP4_3
        have HE0 := Lib.hid HP7_4.out.de
        clear HP7_4
        obtain ⟨⟨r0, r1, r2, r3, r4⟩, ⟨f0, f1, f2, f3, f4⟩, rl⟩ := box5v HE0.out.1
        unfold zLg at r0 r1 r2 r3 r4
        refine wpAnyH_ready (rs := [8]) (by kernel_rfl) (by simp) ?_
        refine AllReadyH.cons rfl (fun K hK => ?_) AllReadyH.nil
        go_simp
        refine hK.out _ _ (HE0.out.put1 a).mk (fun hHeld1 => ?_)
        clear hK K hHeld
        have hHeld := hHeld1
        clear hHeld1
        try simp only [Act.put, List.getElem_toArray, List.getElem_cons_succ, List.getElem_cons_zero, List.setIfInBounds_toArray, List.set_cons_zero, List.set_cons_succ]
        obtain ⟨Z1, HZ1⟩ : ∃ Z, Hid ((((((W7_4.setCell ⟨w.heap.size, 0, none⟩ (.int .i64 a.frm)).setCell ⟨w.heap.size, 1, none⟩ (.int .i64 a.to_)).setCell ⟨w.heap.size, 2, none⟩ (.int .i64 a.tape)).setCell ⟨w.heap.size, 3, none⟩ (.int .i64 a.comp)).setCell ⟨w.heap.size, 4, none⟩ (.int .i64 a.slope)) = Z) := ⟨_, Lib.hid rfl⟩
        have HE1 := Lib.hid (HE0.out.put1 a)
        rw [HZ1.out] at HE1 hHeld ⊢
        clear HZ1 HE0 r0 r1 r2 r3 r4 f0 f1 f2 f3 f4 rl
        obtain ⟨⟨r0, r1, r2, r3, r4⟩, ⟨f0, f1, f2, f3, f4⟩, rl⟩ := box5v HE1.out.2.1
        unfold zLg at r0 r1 r2 r3 r4
        refine wpAnyH_ready (rs := [9]) (by kernel_rfl) (by simp) ?_
        refine AllReadyH.cons rfl (fun K hK => ?_) AllReadyH.nil
        go_simp
        refine hK.out _ _ (HE1.out.put2 c).mk (fun hHeld1 => ?_)
        clear hK K hHeld
        have hHeld := hHeld1
        clear hHeld1
        try simp only [Act.put, List.getElem_toArray, List.getElem_cons_succ, List.getElem_cons_zero, List.setIfInBounds_toArray, List.set_cons_zero, List.set_cons_succ]
        obtain ⟨Z2, HZ2⟩ : ∃ Z, Hid ((((((Z1.setCell ⟨(w.heap.size + 1), 0, none⟩ (.int .i64 c.frm)).setCell ⟨(w.heap.size + 1), 1, none⟩ (.int .i64 c.to_)).setCell ⟨(w.heap.size + 1), 2, none⟩ (.int .i64 c.tape)).setCell ⟨(w.heap.size + 1), 3, none⟩ (.int .i64 c.comp)).setCell ⟨(w.heap.size + 1), 4, none⟩ (.int .i64 c.slope)) = Z) := ⟨_, Lib.hid rfl⟩
        have HE2 := Lib.hid (HE1.out.put2 c)
        rw [HZ2.out] at HE2 hHeld ⊢
        clear HZ2 HE1 r0 r1 r2 r3 r4 f0 f1 f2 f3 f4 rl
        refine' wpAnyH_take (i := 10) (v := ?vq9_10) rfl (by kernel_rfl) (by kernel_rfl) (by kernel_rfl) (fun _ _ _ h => h) (Or.inl ⟨by rfl, ?hyq9_10⟩) (by assumption) ?restq9_10
        case hyq9_10 => (intro w hSw; (try dsimp only at hSw); go_simp; try (with_reducible rfl))
        simp only [Act.put, List.getElem_toArray, List.getElem_cons_succ, List.getElem_cons_zero, List.setIfInBounds_toArray, List.set_cons_zero, List.set_cons_succ]
        refine' wpAnyH_take (i := 11) (v := ?vq10_11) rfl (by kernel_rfl) (by kernel_rfl) (by kernel_rfl) (fun _ _ _ h => h) (Or.inl ⟨by rfl, ?hyq10_11⟩) (by assumption) ?restq10_11
        case hyq10_11 => (intro w hSw; (try dsimp only at hSw); go_simp; try (with_reducible rfl))
        simp only [Act.put, List.getElem_toArray, List.getElem_cons_succ, List.getElem_cons_zero, List.setIfInBounds_toArray, List.set_cons_zero, List.set_cons_succ]
        refine wpAnyH_done (by kernel_rfl) ?_ _
        clear hHeld
        obtain ⟨⟨r0, r1, r2, r3, r4⟩, -, rl⟩ := box5v HE2.out.1
        obtain ⟨⟨s0, s1, s2, s3, s4⟩, -, sl⟩ := box5v HE2.out.2.1
        go_wp2_with fail
        refine bodyPost_ret (v := .tuple #[.agg #[.int .i64 a.frm, .int .i64 a.to_, .int .i64 a.tape, .int .i64 a.comp, .int .i64 a.slope], .agg #[.int .i64 c.frm, .int .i64 c.to_, .int .i64 c.tape, .int .i64 c.comp, .int .i64 c.slope], .int .i64 x3, .int .i64 x6]) (by simp [results, Tryd.results41, go_sem, r0, r1, r2, r3, r4, s0, s1, s2, s3, s4]) rfl ⟨a, c, x3, x6, rfl, bx3, bx6, HE2.out.2.2.2.2.1⟩

end Go.Proofs.YtiojgmojnnbpiaaDoor.lgd

namespace Go.Proofs.YtiojgmojnnbpiaaDoor.lgw
open Go.RowKit
open reads base ty lg win lgx pcrd
set_option linter.unusedVariables false
set_option linter.unusedSimpArgs false

def LawPost (w : World) (e : Ending) (w' : World) : Prop := e = .returned (.bool true) ∧ Below w.heap.size w w'
/-- what is live all along: the code, the table, the variables, and nothing old has turned -/
def St (w : World) (A : Option Addr) (n : Nat) (zs : List UInt8) (v : World) : Prop := Below w.heap.size w v ∧ curs.Code v A n zs ∧ Tab v ∧ VarsP v
theorem St.step {w v v' : World} {A : Option Addr} {n : Nat} {zs : List UInt8} (h : St w A n zs v) (hb : Below v.heap.size v v') : St w A n zs v' := ⟨h.1.trans (hb.mono h.1.size), h.2.1.below hb, h.2.2.1.below hb, h.2.2.2.below hb⟩
theorem St.alloc {w v : World} {A : Option Addr} {n : Nat} {zs : List UInt8} (h : St w A n zs v) (o : Obj) : St w A n zs (v.alloc o) := h.step ((Below.refl _ _).alloc (Nat.le_refl _) o)
theorem shift_form (x : Lg) : ∃ (s : Sf) (ok : Bool), ansShift x = .tuple #[.agg #[.int .i64 s.east, .int .i64 s.north, .int .i64 s.up], .bool ok] ∧ okLg x = ok ∧ (ok = true → s = shf x) := by
  unfold ansShift
  cases h : okLg x
  · exact ⟨⟨0, 0, 0⟩, false, rfl, rfl, fun k => by cases k⟩
  · exact ⟨shf x, true, rfl, rfl, fun _ => rfl⟩
theorem rev_form (x : Lg) (ok : Bool) (h : okLg x = ok) : ∃ r : Lg, ansRev x = .tuple #[.agg #[.int .i64 r.frm, .int .i64 r.to_, .int .i64 r.tape, .int .i64 r.comp, .int .i64 r.slope], .bool ok] ∧ (ok = true → r = revLg x) := by
  unfold ansRev
  rw [h]
  cases ok
  · exact ⟨⟨0, 0, 0, 0, 0⟩, rfl, fun k => by cases k⟩
  · exact ⟨revLg x, rfl, fun _ => rfl⟩
theorem text_form (x : Lg) : ∃ (s : ByteArray) (ok : Bool), ansText x = .tuple #[.string s, .bool ok] ∧ s.size ≤ 1000 ∧ (ok = true → IsLT s x) := by
  unfold ansText
  cases h : okLg x
  · exact ⟨⟨#[]⟩, false, rfl, by decide, fun k => by cases k⟩
  · exact ⟨ltx x, true, rfl, by have := ltx_size x h; omega, fun _ => ⟨h, rfl⟩⟩
theorem parse_form (s : ByteArray) : ∃ (x : Lg) (ok : Bool), PL s (x, ok) ∧ (ok = true → IsLT s x) := by
  obtain ⟨⟨x, ok⟩, h⟩ := pl_ex s
  refine ⟨x, ok, h, fun k => ?_⟩
  rcases h with ⟨y, hy, e⟩ | ⟨-, e⟩
  · injection e with e1 e2; subst e1; exact hy
  · injection e with e1 e2; subst e2; cases k
theorem text_of {s : ByteArray} {x : Lg} (h : IsLT s x) : ansText x = .tuple #[.string s, .bool true] := by unfold ansText; rw [h.1, h.2]; rfl
theorem parse_of {s : ByteArray} {x y : Lg} {ok : Bool} (h : PL s (y, ok)) (k : IsLT s x) : y = x ∧ ok = true := by
  have e := pl_yes h k
  injection e with e1 e2
  exact ⟨e1, e2⟩
theorem text_one {z s : ByteArray} {x : Lg} {ok : Bool} (h : IsLT z x) (k : ansText x = .tuple #[.string s, .bool ok]) : s = z ∧ ok = true := by
  rw [text_of h] at k
  simp at k
  obtain ⟨k1, k2⟩ := k
  exact ⟨by first | exact k1 | exact k1.symm, by first | exact k2 | exact k2.symm | (subst k2; rfl)⟩
theorem shift_rev {x r : Lg} {s : Sf} (h : okLg x = true) (hr : r = revLg x) (hs : s = shf x) : ansShift r = .tuple #[.agg #[.int .i64 (-s.east), .int .i64 (-s.north), .int .i64 (-s.up)], .bool true] := by
  subst hr hs
  unfold ansShift
  rw [revLg_ok h, shf_rev h]
  rfl
theorem rev_back {x r : Lg} (h : okLg x = true) (hr : r = revLg x) : ansRev r = .tuple #[.agg #[.int .i64 x.frm, .int .i64 x.to_, .int .i64 x.tape, .int .i64 x.comp, .int .i64 x.slope], .bool true] := by
  subst hr
  unfold ansRev
  rw [revLg_ok h, rev_rev h]
  rfl
end Go.Proofs.YtiojgmojnnbpiaaDoor.lgw
