/-
  ParseLeg: what both walks share, and the walk of the model.
  Conditions: none but those that a theorem names.
-/
import Derived.Test.YtpacgdjbclogoaaDoorLgX
namespace Go.Proofs.YtpacgdjbclogoaaDoor.lgy
open Go.RowKit
open reads base ty lg pow txt strmath iterc readc lgx
set_option linter.unusedVariables false
set_option linter.unusedSimpArgs false

theorem mem_len (c : UInt8) : ∀ (l p : List UInt8), p ∈ strmath.pieces c l → p.length ≤ l.length
  | [], p, h => by simp [strmath.pieces] at h; simp [h]
  | x :: l, p, h => by
    rw [strmath.pieces] at h
    split at h
    · rcases List.mem_cons.1 h with rfl | h
      · simp
      · have := mem_len c l p h; simp; omega
    · cases q : strmath.pieces c l with
      | nil => exact absurd q (strmath.pieces_ne c l)
      | cons a r =>
        rw [q] at h
        simp only at h
        rcases List.mem_cons.1 h with rfl | h
        · have := mem_len c l a (by rw [q]; simp); simp; omega
        · have := mem_len c l p (by rw [q]; simp [h]); simp; omega
theorem pcs_mem (c : UInt8) (s t : ByteArray) (h : t ∈ pcs c s.data.toList) : t.size ≤ s.size := by
  unfold pcs at h
  rw [List.mem_map] at h
  obtain ⟨p, hp, rfl⟩ := h
  have := mem_len c _ p hp
  have e : s.data.toList.length = s.size := rfl
  show p.toArray.size ≤ _
  simp; omega
theorem read_rv (t : ByteArray) (v : Int) (hv : Hid (RV t v)) (w : World) (hs : t.size ≤ 1048576) : Calls Tryd.prog 47 #[.string t] w fun e w' => ∃ ok, e = .returned (.tuple #[.int .i64 v, .bool ok]) ∧ Below w.heap.size w w' := by
  refine (read_any t w hs).mono ?_
  rintro e w' ⟨h, m, rfl⟩
  rcases h with ⟨n, hn, rfl⟩ | ⟨hn, rfl⟩
  · rcases hv.out with k | ⟨k, -⟩
    · rw [isNum_one hn k]; exact ⟨true, rfl, drewN_below w m⟩
    · exact absurd hn (k n)
  · rcases hv.out with k | ⟨-, k⟩
    · exact absurd k (hn v)
    · rw [k]; exact ⟨false, rfl, drewN_below w m⟩
/-- the slope that a word tells, as the model reads it -/
def SL (t : ByteArray) (v : Int) : Prop := ∃ b r, t.data.toList = b :: r ∧ ((b.toNat = 45 ∧ ∃ t' v', t'.data.toList = r ∧ RV t' v' ∧ v = -v') ∨ (b.toNat ≠ 45 ∧ RV t v))
theorem sl_num {t : ByteArray} {n v : Int} (h : SL t v) (e : t = num n) (h0 : -999999 ≤ n) (h1 : n ≤ 999999) : v = n := by
  subst e
  obtain ⟨b, r, hl, h⟩ := h
  by_cases hn : n < 0
  · have hs := slope_neg hn
    rw [hl] at hs
    injection hs with hb hr
    rcases h with ⟨-, t', v', e, hv, rfl⟩ | ⟨hne, -⟩
    · have et : t' = num (-n) := by
        have : t'.data.toList = (num (-n)).data.toList := by rw [e, hr]
        exact ByteArray.ext (Array.toList_inj.1 this)
      have := rv_num hv et (by omega) (by omega)
      omega
    · exact absurd (by rw [hb]; rfl) hne
  · obtain ⟨b', r', e, hb'⟩ := slope_pos (n := n) (by omega)
    rw [hl] at e
    injection e with hb hr
    rcases h with ⟨hb2, -⟩ | ⟨-, hv⟩
    · exact absurd (by rw [← hb]; exact hb2) hb'
    · exact rv_num hv rfl h0 h1
/-- the words of a leg's text tell the leg -/
theorem told {s u0 u1 u2 u3 u4 u5 u6 u7 e0 e1 : ByteArray} {v0 v1 v2 v3 v4 : Int} {y : Lg} (hw : pcs 32 s.data.toList = [u0, u1, u2, u3, u4, u5, u6, u7]) (he : pcs 45 u1.data.toList = [e0, e1])
    (r0 : RV e0 v0) (r1 : RV e1 v1) (r2 : RV u3 v2) (r3 : RV u5 v3) (r4 : SL u7 v4) (hy : IsLT s y) : (⟨v0, v1, v2, v3, v4⟩ : Lg) = y := by
  obtain ⟨⟨a0, a1⟩, ⟨a2, a3⟩, -, ⟨a4, a5⟩, ⟨a6, a7⟩, a8, a9⟩ := okLg_lim hy.1
  have k := ltx_words y hy.1
  rw [hy.2, hw] at k
  simp only [List.cons.injEq, and_true] at k
  obtain ⟨-, k1, -, k3, -, k5, -, k7⟩ := k
  have e := ltx_ends y hy.1
  rw [← k1, he] at e
  simp only [List.cons.injEq, and_true] at e
  have g0 := rv_num r0 e.1 (by omega) (by omega)
  have g1 := rv_num r1 e.2 (by omega) (by omega)
  have g2 := rv_num r2 k3 (by omega) (by omega)
  have g3 := rv_num r3 k5 (by omega) (by omega)
  have g4 := sl_num r4 k7 (by omega) (by omega)
  cases y
  simp only at g0 g1 g2 g3 g4
  subst g0 g1 g2 g3 g4
  rfl
/-- the answer in the making -/
def RB (w v : World) : Prop := Blk v w.heap.size 28 #[.int .i64 0, .int .i64 0, .int .i64 0, .int .i64 0, .int .i64 0] ∧ Below w.heap.size w v
theorem RB.start (w : World) : RB w (w.alloc (.cells #[.int .i64 0, .int .i64 0, .int .i64 0, .int .i64 0, .int .i64 0] 28)) := ⟨Blk.new w _ _, (Below.refl _ _).alloc (Nat.le_refl _) _⟩
theorem RB.step {w v v' : World} (h : RB w v) (hb : Below v.heap.size v v') : RB w v' := ⟨h.1.below hb h.1.lt, h.2.trans (hb.mono h.2.size)⟩
theorem RB.zs {w v : World} (h : RB w v) : v.cell? ⟨w.heap.size, 0, none⟩ = some (.int .i64 0) ∧ v.cell? ⟨w.heap.size, 1, none⟩ = some (.int .i64 0) ∧ v.cell? ⟨w.heap.size, 2, none⟩ = some (.int .i64 0) ∧ v.cell? ⟨w.heap.size, 3, none⟩ = some (.int .i64 0) ∧ v.cell? ⟨w.heap.size, 4, none⟩ = some (.int .i64 0) ∧ v.frozen? ⟨w.heap.size, 0, none⟩ = false ∧ v.frozen? ⟨w.heap.size, 1, none⟩ = false ∧ v.frozen? ⟨w.heap.size, 2, none⟩ = false ∧ v.frozen? ⟨w.heap.size, 3, none⟩ = false ∧ v.frozen? ⟨w.heap.size, 4, none⟩ = false ∧ w.heap.size < v.heap.size := ⟨h.1.cell 0, h.1.cell 1, h.1.cell 2, h.1.cell 3, h.1.cell 4, h.1.frozen 0, h.1.frozen 1, h.1.frozen 2, h.1.frozen 3, h.1.frozen 4, h.1.lt⟩
theorem RB.put {w v : World} (h : RB w v) (a b c d e : Value) : Below w.heap.size w (((((v.setCell ⟨w.heap.size, 0, none⟩ a).setCell ⟨w.heap.size, 1, none⟩ b).setCell ⟨w.heap.size, 2, none⟩ c).setCell ⟨w.heap.size, 3, none⟩ d).setCell ⟨w.heap.size, 4, none⟩ e) :=
  ((((h.2.setCell (Nat.le_refl _) _).setCell (Nat.le_refl _) _).setCell (Nat.le_refl _) _).setCell (Nat.le_refl _) _).setCell (Nat.le_refl _) _
/-- the answer, the words, the ends and a leg in the making -/
def PS (w : World) (g e X : Nat) (us es : List ByteArray) (x : Lg) (v : World) : Prop :=
  RB w v ∧ (∀ k u, us[k]? = some u → v.cell? ⟨g, k, none⟩ = some (.string u)) ∧ (∀ k u, es[k]? = some u → v.cell? ⟨e, k, none⟩ = some (.string u)) ∧ Blk v X 28 #[.int .i64 x.frm, .int .i64 x.to_, .int .i64 x.tape, .int .i64 x.comp, .int .i64 x.slope] ∧ w.heap.size < X ∧ g < X ∧ e < X
section
variable {w v v' : World} {g e X : Nat} {us es : List ByteArray} {x : Lg}
theorem PS.step (h : PS w g e X us es x v) (hb : Below v.heap.size v v') : PS w g e X us es x v' := by
  obtain ⟨h1, h2, h3, h4, h5, h6, h7⟩ := h
  have l := h4.lt
  exact ⟨h1.step hb, fun k u q => (hb.cell (p := ⟨g, k, none⟩) (by show g < _; omega)).trans (h2 k u q), fun k u q => (hb.cell (p := ⟨e, k, none⟩) (by show e < _; omega)).trans (h3 k u q), h4.below hb l, h5, h6, h7⟩
theorem PS.put (h : PS w g e X us es x v) (j : Nat) (y : Value) (x' : Lg) (q : (#[.int .i64 x.frm, .int .i64 x.to_, .int .i64 x.tape, .int .i64 x.comp, .int .i64 x.slope] : Array Value).setIfInBounds j y = #[.int .i64 x'.frm, .int .i64 x'.to_, .int .i64 x'.tape, .int .i64 x'.comp, .int .i64 x'.slope]) : PS w g e X us es x' (v.setCell ⟨X, j, none⟩ y) := by
  obtain ⟨h1, h2, h3, h4, h5, h6, h7⟩ := h
  refine ⟨⟨h1.1.far (by show w.heap.size ≠ X; omega) _, h1.2.setCell (by show w.heap.size ≤ X; omega) _⟩, fun k u r => (World.cell?_setCell_other v _ _ y (by intro c; injection c with c; omega)).trans (h2 k u r), fun k u r => (World.cell?_setCell_other v _ _ y (by intro c; injection c with c; omega)).trans (h3 k u r), ?_, h5, h6, h7⟩
  rw [← q]; exact h4.set_ j _
theorem PS.fx (h : PS w g e X us es x v) : ∀ o, v.frozen? ⟨X, o, none⟩ = false := fun o => h.2.2.2.1.frozen o
theorem PS.cx (h : PS w g e X us es x v) : v.cell? ⟨X, 0, none⟩ = some (.int .i64 x.frm) ∧ v.cell? ⟨X, 1, none⟩ = some (.int .i64 x.to_) ∧ v.cell? ⟨X, 2, none⟩ = some (.int .i64 x.tape) ∧ v.cell? ⟨X, 3, none⟩ = some (.int .i64 x.comp) ∧ v.cell? ⟨X, 4, none⟩ = some (.int .i64 x.slope) ∧ X < v.heap.size := ⟨h.2.2.2.1.cell 0, h.2.2.2.1.cell 1, h.2.2.2.1.cell 2, h.2.2.2.1.cell 3, h.2.2.2.1.cell 4, h.2.2.2.1.lt⟩
end
end Go.Proofs.YtpacgdjbclogoaaDoor.lgy
