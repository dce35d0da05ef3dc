/-
  The extent of places, by the model.
  Depth and extent of a network, by the model.
  What FnResiduals asks of the answers (pure): no residual is greater than the largest one, bridges are exact, without loops the adjusted depth is the depth.
  ResidualOf, by the model and by the program.
  ExactLegs, by the program.
  A list of ints in memory, from the beginning of a block on.
  Conditions: those that each theorem names.
-/
import Derived.Test.YtiimegmaokfpgabGreatDoorKuMq
import Derived.Test.YtiimegmaokfpgabGreatDoorMost
import Derived.Deep.QuietTactic
import Derived.BigQuiet
import Derived.Deep.DeepCutAuto
import Derived.Deep.RegionWith
import Derived.StillTailTactics
import Derived.Test.YtiimegmaokfpgabGreatDoorPhAq
import Derived.Test.YtiimegmaokfpgabGreatDoorBase
import Derived.Test.YtiimegmaokfpgabGreatDoorIntV
namespace Go.Proofs.YtiimegmaokfpgabGreatDoor.nt
open Go.RowKit
open reads base ty lg rowi hs
set_option linter.unusedVariables false
set_option linter.unusedSimpArgs false

def lo3 (a b : Sf) : Sf := ⟨lst.mn a.east b.east, lst.mn a.north b.north, lst.mn a.up b.up⟩
def hi3 (a b : Sf) : Sf := ⟨mst.mx a.east b.east, mst.mx a.north b.north, mst.mx a.up b.up⟩
def lowN (s : Net) : Nat → Sf
  | 0 => zero3
  | k + 1 => match s.ps[k]? with
    | some q => lo3 (lowN s k) (at_ s.pl q)
    | none => lowN s k
def highN (s : Net) : Nat → Sf
  | 0 => zero3
  | k + 1 => match s.ps[k]? with
    | some q => hi3 (highN s k) (at_ s.pl q)
    | none => highN s k
theorem lowN_succ {s : Net} {k : Nat} {q : Int} (h : s.ps[k]? = some q) : lowN s (k + 1) = lo3 (lowN s k) (at_ s.pl q) := by
  show (match s.ps[k]? with | some q => _ | none => _) = _
  rw [h]
theorem highN_succ {s : Net} {k : Nat} {q : Int} (h : s.ps[k]? = some q) : highN s (k + 1) = hi3 (highN s k) (at_ s.pl q) := by
  show (match s.ps[k]? with | some q => _ | none => _) = _
  rw [h]
theorem ext_bd {s : Net} (h : Ok s) : ∀ k, Bd4 (lowN s k) ∧ Bd4 (highN s k)
  | 0 => by constructor <;> (show Bd4 zero3; unfold Bd4 zero3; decide)
  | k + 1 => by
    obtain ⟨i1, i2⟩ := ext_bd h k
    cases e : s.ps[k]? with
    | none =>
      have e1 : lowN s (k + 1) = lowN s k := by show (match s.ps[k]? with | some q => _ | none => _) = _; rw [e]
      have e2 : highN s (k + 1) = highN s k := by show (match s.ps[k]? with | some q => _ | none => _) = _; rw [e]
      rw [e1, e2]; exact ⟨i1, i2⟩
    | some q =>
      rw [lowN_succ e, highN_succ e]
      have b := bd4_at h q
      unfold Bd4 at i1 i2 b ⊢
      unfold lo3 hi3 lst.mn mst.mx
      simp only []
      constructor <;> (refine ⟨?_, ?_, ?_⟩ <;> (constructor <;> (split <;> omega)))
/-- the boxes: the two answers, the lowest and the highest so far; the places -/
def XS6 (w : World) (L H g1 g2 m2 c2 : Nat) (lo hi : Sf) (N : Net) (v : World) : Prop :=
  Blk v w.heap.size 72 #[.int .i64 0, .int .i64 0, .int .i64 0] ∧ Blk v (w.heap.size + 1) 72 #[.int .i64 0, .int .i64 0, .int .i64 0] ∧ Blk v L 72 #[.int .i64 lo.east, .int .i64 lo.north, .int .i64 lo.up] ∧ Blk v H 72 #[.int .i64 hi.east, .int .i64 hi.north, .int .i64 hi.up] ∧ v.ownsRow (w.heap.size + 2) 72 3 (.slice (some ⟨g1, 0, none⟩) 8 8) 8 (flatSf N.pl) ∧ v.ownsRow (w.heap.size + 2) 3 1 (.slice (some ⟨g2, 0, none⟩) m2 c2) m2 (ints.intsV N.ps) ∧ Below w.heap.size w v ∧ (w.heap.size + 1 < L ∧ L < H ∧ g1 < L ∧ g2 < L)
section
variable {w v v' : World} {L H g1 g2 m2 c2 : Nat} {lo hi : Sf} {N : Net}
theorem XS6.step (h : XS6 w L H g1 g2 m2 c2 lo hi N v) (hb : Below v.heap.size v v') : XS6 w L H g1 g2 m2 c2 lo hi N v' := by
  obtain ⟨h1, h2, h3, h4, h5, h6, h7, h8⟩ := h
  exact ⟨h1.below hb h1.lt, h2.below hb h2.lt, h3.below hb h3.lt, h4.below hb h4.lt, row_below h5 hb, row_below h6 hb, h7.trans (hb.mono h7.size), h8⟩
theorem far6 {X : Nat} {bs size n c g : Nat} {e : TypeId} {ys : List Value} (h : v.ownsRow bs e size (.slice (some ⟨g, 0, none⟩) n c) n ys) (hne : ¬ X = g) (i : Nat) (u : Value) : (v.setCell ⟨X, i, none⟩ u).ownsRow bs e size (.slice (some ⟨g, 0, none⟩) n c) n ys :=
  h.kept (row := some X) ⟨rfl, rfl, rfl, by simp [World.setCell], fun j hj hn => Below.heap_setCell v ⟨X, i, none⟩ u j (by rintro rfl; exact hn rfl)⟩ (.inr (by simp [Value.ownBlock]; exact fun q => hne q.symm))
theorem XS6.low (h : XS6 w L H g1 g2 m2 c2 lo hi N v) (z : Sf) : XS6 w L H g1 g2 m2 c2 z hi N (((v.setCell ⟨L, 0, none⟩ (.int .i64 z.east)).setCell ⟨L, 1, none⟩ (.int .i64 z.north)).setCell ⟨L, 2, none⟩ (.int .i64 z.up)) := by
  obtain ⟨h1, h2, h3, h4, h5, h6, h7, h8⟩ := h
  have n1 : w.heap.size ≠ L := by omega
  have n2 : w.heap.size + 1 ≠ L := by omega
  have n3 : H ≠ L := by omega
  have n4 : ¬ L = g1 := by omega
  have n5 : ¬ L = g2 := by omega
  have hw : w.heap.size ≤ L := by omega
  exact ⟨((h1.far n1 _).far n1 _).far n1 _, ((h2.far n2 _).far n2 _).far n2 _, ((h3.set_ 0 _).set_ 1 _).set_ 2 _, ((h4.far n3 _).far n3 _).far n3 _, far6 (far6 (far6 h5 n4 _ _) n4 _ _) n4 _ _, far6 (far6 (far6 h6 n5 _ _) n5 _ _) n5 _ _, ((h7.setCell hw _).setCell hw _).setCell hw _, h8⟩
theorem XS6.high (h : XS6 w L H g1 g2 m2 c2 lo hi N v) (z : Sf) : XS6 w L H g1 g2 m2 c2 lo z N (((v.setCell ⟨H, 0, none⟩ (.int .i64 z.east)).setCell ⟨H, 1, none⟩ (.int .i64 z.north)).setCell ⟨H, 2, none⟩ (.int .i64 z.up)) := by
  obtain ⟨h1, h2, h3, h4, h5, h6, h7, h8⟩ := h
  have n1 : w.heap.size ≠ H := by omega
  have n2 : w.heap.size + 1 ≠ H := by omega
  have n3 : L ≠ H := by omega
  have n4 : ¬ H = g1 := by omega
  have n5 : ¬ H = g2 := by omega
  have hw : w.heap.size ≤ H := by omega
  exact ⟨((h1.far n1 _).far n1 _).far n1 _, ((h2.far n2 _).far n2 _).far n2 _, ((h3.far n3 _).far n3 _).far n3 _, ((h4.set_ 0 _).set_ 1 _).set_ 2 _, far6 (far6 (far6 h5 n4 _ _) n4 _ _) n4 _ _, far6 (far6 (far6 h6 n5 _ _) n5 _ _) n5 _ _, ((h7.setCell hw _).setCell hw _).setCell hw _, h8⟩
theorem box3 {X : Nat} {T : TypeId} {z : Sf} (h : Blk v X T #[.int .i64 z.east, .int .i64 z.north, .int .i64 z.up]) : v.cell? ⟨X, 0, none⟩ = some (.int .i64 z.east) ∧ v.cell? ⟨X, 1, none⟩ = some (.int .i64 z.north) ∧ v.cell? ⟨X, 2, none⟩ = some (.int .i64 z.up) ∧ v.frozen? ⟨X, 0, none⟩ = false ∧ v.frozen? ⟨X, 1, none⟩ = false ∧ v.frozen? ⟨X, 2, none⟩ = false ∧ X < v.heap.size := ⟨h.cell 0, h.cell 1, h.cell 2, h.frozen 0, h.frozen 1, h.frozen 2, h.lt⟩
theorem box0 {X : Nat} {T : TypeId} (h : Blk v X T #[.int .i64 0, .int .i64 0, .int .i64 0]) : v.cell? ⟨X, 0, none⟩ = some (.int .i64 0) ∧ v.cell? ⟨X, 1, none⟩ = some (.int .i64 0) ∧ v.cell? ⟨X, 2, none⟩ = some (.int .i64 0) ∧ v.frozen? ⟨X, 0, none⟩ = false ∧ v.frozen? ⟨X, 1, none⟩ = false ∧ v.frozen? ⟨X, 2, none⟩ = false ∧ X < v.heap.size := ⟨h.cell 0, h.cell 1, h.cell 2, h.frozen 0, h.frozen 1, h.frozen 2, h.lt⟩
end
theorem most_q (a b v : Int) (h : Hid (mst.mx a b = v)) (w : World) : Calls Tryz.prog 89 #[.int .i64 a, .int .i64 b] w fun e w' => e = .returned (.int .i64 v) ∧ w' = w := (mst.most_is a b v h w).mono fun e w' hh => ⟨hh.1, hh.2.symm⟩
def EPost (lo hi : Sf) (w : World) (e : Ending) (w' : World) : Prop := e = .returned (.tuple #[.agg #[.int .i64 lo.east, .int .i64 lo.north, .int .i64 lo.up], .agg #[.int .i64 hi.east, .int .i64 hi.north, .int .i64 hi.up]]) ∧ Below w.heap.size w w'
end Go.Proofs.YtiimegmaokfpgabGreatDoor.nt

namespace Go.Proofs.YtiimegmaokfpgabGreatDoor.nt
open Go.RowKit
open reads base ty lg rowi hs
set_option linter.unusedVariables false
set_option linter.unusedSimpArgs false

section
variable {w v : World} {lo hi : Sf} {T : TypeId}
theorem two_set (h1 : Blk v w.heap.size T #[.int .i64 0, .int .i64 0, .int .i64 0]) (h2 : Blk v (w.heap.size + 1) T #[.int .i64 0, .int .i64 0, .int .i64 0]) (hb : Below w.heap.size w v) : Blk (((((((v.setCell ⟨w.heap.size, 0, none⟩ (.int .i64 lo.east)).setCell ⟨w.heap.size, 1, none⟩ (.int .i64 lo.north)).setCell ⟨w.heap.size, 2, none⟩ (.int .i64 lo.up)).setCell ⟨(w.heap.size + 1), 0, none⟩ (.int .i64 hi.east)).setCell ⟨(w.heap.size + 1), 1, none⟩ (.int .i64 hi.north)).setCell ⟨(w.heap.size + 1), 2, none⟩ (.int .i64 hi.up))) w.heap.size T #[.int .i64 lo.east, .int .i64 lo.north, .int .i64 lo.up] ∧ Blk (((((((v.setCell ⟨w.heap.size, 0, none⟩ (.int .i64 lo.east)).setCell ⟨w.heap.size, 1, none⟩ (.int .i64 lo.north)).setCell ⟨w.heap.size, 2, none⟩ (.int .i64 lo.up)).setCell ⟨(w.heap.size + 1), 0, none⟩ (.int .i64 hi.east)).setCell ⟨(w.heap.size + 1), 1, none⟩ (.int .i64 hi.north)).setCell ⟨(w.heap.size + 1), 2, none⟩ (.int .i64 hi.up))) (w.heap.size + 1) T #[.int .i64 hi.east, .int .i64 hi.north, .int .i64 hi.up] ∧ Below w.heap.size w (((((((v.setCell ⟨w.heap.size, 0, none⟩ (.int .i64 lo.east)).setCell ⟨w.heap.size, 1, none⟩ (.int .i64 lo.north)).setCell ⟨w.heap.size, 2, none⟩ (.int .i64 lo.up)).setCell ⟨(w.heap.size + 1), 0, none⟩ (.int .i64 hi.east)).setCell ⟨(w.heap.size + 1), 1, none⟩ (.int .i64 hi.north)).setCell ⟨(w.heap.size + 1), 2, none⟩ (.int .i64 hi.up))) := by
  have n1 : w.heap.size ≠ w.heap.size + 1 := by omega
  have n2 : w.heap.size + 1 ≠ w.heap.size := by omega
  exact ⟨((((((h1).set_ 0 (.int .i64 lo.east)).set_ 1 (.int .i64 lo.north)).set_ 2 (.int .i64 lo.up)).far (p := ⟨w.heap.size + 1, 0, none⟩) n1 (.int .i64 hi.east)).far (p := ⟨w.heap.size + 1, 1, none⟩) n1 (.int .i64 hi.north)).far (p := ⟨w.heap.size + 1, 2, none⟩) n1 (.int .i64 hi.up), ((((((h2).far (p := ⟨w.heap.size, 0, none⟩) n2 (.int .i64 lo.east)).far (p := ⟨w.heap.size, 1, none⟩) n2 (.int .i64 lo.north)).far (p := ⟨w.heap.size, 2, none⟩) n2 (.int .i64 lo.up)).set_ 0 (.int .i64 hi.east)).set_ 1 (.int .i64 hi.north)).set_ 2 (.int .i64 hi.up), ((((((hb).setCell (p := ⟨w.heap.size, 0, none⟩) (by show _ ≤ w.heap.size; omega) (.int .i64 lo.east)).setCell (p := ⟨w.heap.size, 1, none⟩) (by show _ ≤ w.heap.size; omega) (.int .i64 lo.north)).setCell (p := ⟨w.heap.size, 2, none⟩) (by show _ ≤ w.heap.size; omega) (.int .i64 lo.up)).setCell (p := ⟨w.heap.size + 1, 0, none⟩) (by show _ ≤ w.heap.size + 1; omega) (.int .i64 hi.east)).setCell (p := ⟨w.heap.size + 1, 1, none⟩) (by show _ ≤ w.heap.size + 1; omega) (.int .i64 hi.north)).setCell (p := ⟨w.heap.size + 1, 2, none⟩) (by show _ ≤ w.heap.size + 1; omega) (.int .i64 hi.up)⟩
end
def lowV (ts : List Lg) : Sf := lowN (net ts) (net ts).ps.length
def highV (ts : List Lg) : Sf := highN (net ts) (net ts).ps.length
/-- DepthOf's answer -/
def ansDe (ts : List Lg) : Value := if goodLg ts then .tuple #[.int .i64 ((highV ts).up - (lowV ts).up), .bool true] else .tuple #[.int .i64 0, .bool false]
/-- ExtentOf's answer -/
def ansEx (ts : List Lg) : Value := if goodLg ts then .tuple #[.agg #[.int .i64 (lowV ts).east, .int .i64 (lowV ts).north, .int .i64 (lowV ts).up], .agg #[.int .i64 (highV ts).east, .int .i64 (highV ts).north, .int .i64 (highV ts).up], .bool true] else .tuple #[.agg #[.int .i64 0, .int .i64 0, .int .i64 0], .agg #[.int .i64 0, .int .i64 0, .int .i64 0], .bool false]
end Go.Proofs.YtiimegmaokfpgabGreatDoor.nt

namespace Go.Proofs.YtiimegmaokfpgabGreatDoor.rs9
open Go.RowKit
open reads base ty lg rowi hs nt dt ml ph phx lp bl
set_option linter.unusedVariables false
set_option linter.unusedSimpArgs false

/-! fractions in lowest terms -/
theorem gcd_pos {x d : Int} (hd : 1 ≤ d) : 0 < Nat.gcd x.natAbs d.natAbs := Nat.gcd_pos_of_pos_right _ (by omega)
theorem redN_mul {x d : Int} (hd : 1 ≤ d) : redN x d * (Nat.gcd x.natAbs d.natAbs : Int) = x := by
  unfold redN
  exact Int.tdiv_mul_cancel (Int.ofNat_dvd_left.2 (Nat.gcd_dvd_left _ _))
theorem redD_mul {x d : Int} (hd : 1 ≤ d) : redD x d * (Nat.gcd x.natAbs d.natAbs : Int) = d := by
  unfold redD
  exact Int.tdiv_mul_cancel (Int.ofNat_dvd_left.2 (Nat.gcd_dvd_right _ _))
theorem redD_pos {x d : Int} (hd : 1 ≤ d) : 1 ≤ redD x d := by
  have h := redD_mul (x := x) hd
  have hg := gcd_pos (x := x) hd
  rcases Int.lt_or_le 0 (redD x d) with q | q
  · omega
  · have : redD x d * (Nat.gcd x.natAbs d.natAbs : Int) ≤ 0 := Int.mul_nonpos_of_nonpos_of_nonneg q (by omega)
    omega
theorem redD_le {x d : Int} (hd : 1 ≤ d) : redD x d ≤ d := by
  have h := redD_mul (x := x) hd
  have hg := gcd_pos (x := x) hd
  have hp := redD_pos (x := x) hd
  have h1 : redD x d * 1 ≤ redD x d * (Nat.gcd x.natAbs d.natAbs : Int) := Int.mul_le_mul_of_nonneg_left (by omega) (by omega)
  omega
theorem redN_zero {x d : Int} (hd : 1 ≤ d) : redN x d = 0 ↔ x = 0 := by
  have h := redN_mul (x := x) hd
  constructor
  · intro e; rw [e, Int.zero_mul] at h; exact h.symm
  · intro e
    unfold redN
    rw [e]; exact Int.zero_tdiv _
theorem redN_nn {x d : Int} (hd : 1 ≤ d) (hx : 0 ≤ x) : 0 ≤ redN x d := Int.tdiv_nonneg hx (Int.natCast_nonneg _)
theorem redN_abs {x d : Int} (hd : 1 ≤ d) : ((redN x d).natAbs : Int) * (Nat.gcd x.natAbs d.natAbs : Int) = (x.natAbs : Int) := by
  have h := congrArg Int.natAbs (redN_mul (x := x) hd)
  rw [Int.natAbs_mul, Int.natAbs_natCast] at h
  rw [← Int.natCast_mul, h]
theorem redN_le {x d : Int} (hd : 1 ≤ d) : (redN x d).natAbs ≤ x.natAbs := by
  have h := redN_abs (x := x) hd
  have hg := gcd_pos (x := x) hd
  have h1 : ((redN x d).natAbs : Int) * 1 ≤ ((redN x d).natAbs : Int) * (Nat.gcd x.natAbs d.natAbs : Int) := Int.mul_le_mul_of_nonneg_left (by omega) (by omega)
  omega
/-- of two fractions over one number the one with the smaller numerator is no greater -/
theorem red_cmp {x y d : Int} (hd : 1 ≤ d) (h : x.natAbs ≤ y.natAbs) : ((redN x d).natAbs : Int) * redD y d ≤ ((redN y d).natAbs : Int) * redD x d := by
  have gx := gcd_pos (x := x) hd
  have gy := gcd_pos (x := y) hd
  have a1 := redN_abs (x := x) hd
  have a2 := redN_abs (x := y) hd
  have b1 := redD_mul (x := x) hd
  have b2 := redD_mul (x := y) hd
  obtain ⟨p, hp⟩ : ∃ p : Int, (Nat.gcd x.natAbs d.natAbs : Int) = p := ⟨_, rfl⟩
  obtain ⟨q, hq⟩ : ∃ q : Int, (Nat.gcd y.natAbs d.natAbs : Int) = q := ⟨_, rfl⟩
  rw [hp] at a1 b1
  rw [hq] at a2 b2
  have hp0 : 0 < p := by omega
  have hq0 : 0 < q := by omega
  have hpq : 0 < p * q := Int.mul_pos hp0 hq0
  refine Int.le_of_mul_le_mul_right ?_ hpq
  have e1 : ((redN x d).natAbs : Int) * redD y d * (p * q) = ((redN x d).natAbs * p) * (redD y d * q) := by ac_rfl
  have e2 : ((redN y d).natAbs : Int) * redD x d * (p * q) = ((redN y d).natAbs * q) * (redD x d * p) := by ac_rfl
  rw [e1, e2, a1, a2, b1, b2]
  exact Int.mul_le_mul_of_nonneg_right (by omega) (by omega)
/-! the largest residual -/
theorem bg_all (f : Int → Nat) (U : List Int) : ∀ (k : Nat), k ≤ U.length → ∀ (j : Nat) u, j < k → U[j]? = some u → (f u : Int) ≤ (bg f U k).2
  | 0, _, j, u, hj, _ => absurd hj (by omega)
  | k + 1, hk, j, u, hj, hu => by
    obtain ⟨v, hv⟩ := at_lt rfl (show k < U.length by omega)
    rw [bg_step hv]
    by_cases e : j = k
    · subst e
      rw [hv] at hu
      obtain rfl := Option.some.inj hu
      split
      · exact Int.le_refl _
      · omega
    · have ih := bg_all f U k (by omega) j u (by omega) hu
      split
      · show (f u : Int) ≤ (f v : Int); omega
      · exact ih
theorem lr_form (ts : List Lg) (ax : Int) : ∃ (m : Int) (ok : Bool), ansLr ts ax = .tuple #[.int .i64 m, .bool ok] ∧ (ok = true → axOk ts ax = true ∧ m ∈ plIds ts ∧ (∀ i ∈ plIds ts, (resV ts ax i).natAbs ≤ (resV ts ax m).natAbs)) := by
  unfold ansLr
  split
  · rename_i h
    rw [Bool.and_eq_true] at h
    have hp : 0 < (plIds ts).length := by simpa using h.2
    refine ⟨_, _, rfl, fun _ => ⟨h.1, ?_, fun i hi => ?_⟩⟩
    · have hb := (bg_in (f := absR ts ax) (U := plIds ts) ((plIds ts).length - 1) (by omega)).2
      rwa [show (plIds ts).length - 1 + 1 = (plIds ts).length by omega] at hb
    · obtain ⟨j, hj, e⟩ := List.getElem_of_mem hi
      have h1 := bg_all (absR ts ax) (plIds ts) (plIds ts).length (Nat.le_refl _) j i hj (by rw [List.getElem?_eq_getElem hj, e])
      have h2 := (bg_in (f := absR ts ax) (U := plIds ts) ((plIds ts).length - 1) (by omega)).1
      rw [show (plIds ts).length - 1 + 1 = (plIds ts).length by omega] at h2
      rw [h2] at h1
      have h3 : absR ts ax i ≤ absR ts ax (bg (absR ts ax) (plIds ts) (plIds ts).length).1 := by omega
      exact h3
  · exact ⟨_, _, rfl, fun h => by cases h⟩
/-! the squares -/
theorem ssq_zero : ∀ l : List Int, ssq l = 0 ↔ ∀ x ∈ l, x = 0
  | [] => by simp [ssq]
  | a :: l => by
    have e : ssq (a :: l) = a * a + ssq l := by simp [ssq]
    have h0 := ssq_nn l
    have h1 : 0 ≤ a * a := by
      rcases Int.le_total 0 a with q | q
      · exact Int.mul_nonneg q q
      · exact Int.mul_nonneg_of_nonpos_of_nonpos q q
    have ih := ssq_zero l
    rw [e]
    constructor
    · intro h x hx
      rcases List.mem_cons.1 hx with rfl | hx
      · have : x * x = 0 := by omega
        rcases Int.mul_eq_zero.1 this with q | q <;> exact q
      · exact ih.1 (by omega) x hx
    · intro h
      have ha := h a (List.mem_cons_self ..)
      rw [ih.2 (fun x hx => h x (List.mem_cons_of_mem _ hx)), ha]; rfl
theorem sq_zero {ts : List Lg} {ax m : Int} (hm : m ∈ plIds ts) (hall : ∀ i ∈ plIds ts, (resV ts ax i).natAbs ≤ (resV ts ax m).natAbs) : SQ ts ax = 0 ↔ resV ts ax m = 0 := by
  unfold SQ
  rw [ssq_zero]
  constructor
  · intro h; exact h _ (List.mem_map.2 ⟨m, hm, rfl⟩)
  · intro h x hx
    obtain ⟨i, hi, rfl⟩ := List.mem_map.1 hx
    have := hall i hi
    omega
theorem sq_form (ts : List Lg) (ax : Int) : ∃ (a b : Int), ansSq ts ax = .tuple #[.int .i64 a, .int .i64 b, .bool (axOk ts ax)] ∧ 0 ≤ a ∧ (axOk ts ax = true → (a = 0 ↔ SQ ts ax = 0)) := by
  unfold ansSq
  cases h : axOk ts ax
  · exact ⟨0, 0, rfl, Int.le_refl _, fun h => by cases h⟩
  · have hg : goodLg ts = true := by unfold axOk at h; rw [Bool.and_eq_true] at h; exact h.1
    have hd := (tt_bd hg).1
    exact ⟨_, _, rfl, redN_nn hd (SQ_bd hg ax).1, fun _ => redN_zero hd⟩
/-- a residual's answer -/
theorem rs_form (ts : List Lg) (ax i : Int) : ∃ (a b : Int) (ok : Bool), ansRs ts ax i = .tuple #[.int .i64 a, .int .i64 b, .bool ok] ∧ (ok = true → axOk ts ax = true ∧ i ∈ plIds ts ∧ a = redN (resV ts ax i) (TC ts) ∧ b = redD (resV ts ax i) (TC ts)) := by
  unfold ansRs
  split
  · rename_i h
    rw [Bool.and_eq_true] at h
    exact ⟨_, _, _, rfl, fun _ => ⟨h.1, mem_iff.1 h.2, rfl, rfl⟩⟩
  · exact ⟨_, _, _, rfl, fun h => by cases h⟩
theorem rs_yes {ts : List Lg} {ax i : Int} (h : axOk ts ax = true) (hi : i ∈ plIds ts) : ansRs ts ax i = .tuple #[.int .i64 (redN (resV ts ax i) (TC ts)), .int .i64 (redD (resV ts ax i) (TC ts)), .bool true] := by
  unfold ansRs; rw [h, mem_iff.2 hi]; rfl
/-! bridges are exact -/
theorem brN_mem {ts : List Lg} : ∀ {n : Nat} {i : Int}, i ∈ brN ts n → ∃ k : Nat, i = (k : Int) ∧ k < n ∧ brAt ts (k : Int) = true ∧ brB ts k = true
  | 0, i, h => by simp [brN] at h
  | n + 1, i, h => by
    cases hb : (brAt ts (n : Int) && brB ts n)
    · rw [brN_no hb] at h
      obtain ⟨k, e, hk, h1⟩ := brN_mem h
      exact ⟨k, e, by omega, h1⟩
    · rw [Bool.and_eq_true] at hb
      rw [brN_yes hb.1 hb.2] at h
      rcases List.mem_append.1 h with h | h
      · obtain ⟨k, e, hk, h1⟩ := brN_mem h
        exact ⟨k, e, by omega, h1⟩
      · exact ⟨n, by simpa using h, by omega, hb.1, hb.2⟩
theorem br_exact {ts : List Lg} {i : Int} (h : i ∈ brIds ts) : i ∈ exIds ts := by
  unfold brIds at h
  unfold exIds
  cases hg : goodLg ts
  · rw [hg] at h; simp at h
  · rw [hg] at h
    obtain ⟨k, rfl, hk, h1, h2⟩ := brN_mem (by simpa using h)
    obtain ⟨x, hx⟩ := at_lt rfl hk
    have hm : mem (net ts).ps x.frm = true := by
      unfold brAt at h1
      rw [Int.toNat_natCast, hx] at h1
      exact h1
    have hf : x.frm ∈ (net ts).ps := mem_iff.1 hm
    rw [if_pos rfl]
    refine List.mem_filter.2 ⟨pl_all hx hm, ?_⟩
    have r := fun ax => res_bridge hg hx hf h2 ax
    unfold exB
    have e : ∀ ax, rA ts ax (k : Int) = 0 := fun ax => r ax
    rw [e 0, e 1, e 2]; rfl
/-! the depth -/
theorem top_of {F v : Nat → Int} (h0 : F 0 = 0) : ∀ n, (∀ k, k < n → F (k + 1) = mst.mx (F k) (v k)) → 0 ≤ F n ∧ (∀ j, j < n → v j ≤ F n) ∧ (F n = 0 ∨ ∃ j, j < n ∧ F n = v j)
  | 0, _ => ⟨by omega, fun j hj => absurd hj (by omega), .inl h0⟩
  | n + 1, h => by
    obtain ⟨a, b, c⟩ := top_of h0 n (fun k hk => h k (by omega))
    have e := h n (by omega)
    have m : F n ≤ mst.mx (F n) (v n) ∧ v n ≤ mst.mx (F n) (v n) ∧ (mst.mx (F n) (v n) = F n ∨ mst.mx (F n) (v n) = v n) := by unfold mst.mx; split <;> omega
    rw [← e] at m
    refine ⟨by omega, fun j hj => ?_, ?_⟩
    · by_cases q : j = n
      · subst q; exact m.2.1
      · have := b j (by omega); omega
    · rcases m.2.2 with q | q
      · rcases c with c | ⟨j, hj, c⟩
        · exact .inl (by omega)
        · exact .inr ⟨j, by omega, by omega⟩
      · exact .inr ⟨n, by omega, q⟩
theorem bot_of {F v : Nat → Int} {g : Int → Int → Int} (hg : ∀ a b, g a b ≤ a ∧ g a b ≤ b ∧ (g a b = a ∨ g a b = b)) (h0 : F 0 = 0) : ∀ n, (∀ k, k < n → F (k + 1) = g (F k) (v k)) → F n ≤ 0 ∧ (∀ j, j < n → F n ≤ v j) ∧ (F n = 0 ∨ ∃ j, j < n ∧ F n = v j)
  | 0, _ => ⟨by omega, fun j hj => absurd hj (by omega), .inl h0⟩
  | n + 1, h => by
    obtain ⟨a, b, c⟩ := bot_of hg h0 n (fun k hk => h k (by omega))
    have e := h n (by omega)
    have m := hg (F n) (v n)
    rw [← e] at m
    refine ⟨by omega, fun j hj => ?_, ?_⟩
    · by_cases q : j = n
      · subst q; exact m.2.1
      · have := b j (by omega); omega
    · rcases m.2.2 with q | q
      · rcases c with c | ⟨j, hj, c⟩
        · exact .inl (by omega)
        · exact .inr ⟨j, by omega, by omega⟩
      · exact .inr ⟨n, by omega, q⟩
theorem xcN_at (ts : List Lg) (ax : Int) {k : Nat} (h : k < 8) : (xcN ts ax)[k]? = some (XC ts ax k) := by
  unfold xcN; rw [List.getElem?_map, List.getElem?_range h]; rfl
theorem ps_at {ts : List Lg} {k : Nat} (h : k < (net ts).ps.length) : (net ts).ps[k]? = some (((net ts).ps[k]?).getD 0) := by
  rw [List.getElem?_eq_getElem h]; rfl
/-- a coordinate is a place's, or 0 -/
theorem xc_place {ts : List Lg} (hg : goodLg ts = true) (hc : clIds ts = []) (s : Nat) : XC ts 2 s = 0 ∨ ∃ j : Nat, j < (net ts).ps.length ∧ XC ts 2 s = (at_ (net ts).pl (((net ts).ps[j]?).getD 0)).up := by
  rw [XC_places hg hc]
  unfold plc
  by_cases h : s ∈ stN ts
  · right
    have hu : (s : Int) ∈ unk ts := by
      have := (mem_stN hg (s := (s : Int)) (by omega)).1
      rw [Int.toNat_natCast] at this
      exact this h
    have hp : (s : Int) ∈ (net ts).ps := by rw [(ps_split hg).1]; exact List.mem_cons_of_mem _ hu
    obtain ⟨j, hj, e⟩ := List.getElem_of_mem hp
    refine ⟨j, hj, ?_⟩
    rw [List.getElem?_eq_getElem hj, e]
    rw [if_pos h, if_neg (by decide), if_neg (by decide)]; rfl
  · exact .inl (if_neg h)
theorem place_xc {ts : List Lg} (hg : goodLg ts = true) (hc : clIds ts = []) {j : Nat} (hj : j < (net ts).ps.length) : ∃ s : Nat, s < 8 ∧ (at_ (net ts).pl (((net ts).ps[j]?).getD 0)).up = XC ts 2 s := by
  have hs : ((net ts).ps[j]?).getD 0 ∈ (net ts).ps := by rw [List.getElem?_eq_getElem hj]; exact List.getElem_mem hj
  have b := (ok_net hg).2.2.1 _ hs
  refine ⟨(((net ts).ps[j]?).getD 0).toNat, by omega, ?_⟩
  rw [XC_places hg hc, plc_at hg 2 hs, if_neg (by decide), if_neg (by decide)]
theorem high_is {ts : List Lg} (hg : goodLg ts = true) (hc : clIds ts = []) : hiF (xcN ts 2) 8 = (highV ts).up := by
  obtain ⟨a1, a2, a3⟩ := top_of (F := hiF (xcN ts 2)) (v := fun k => XC ts 2 k) rfl 8 (fun k hk => hiF_step (xcN_at ts 2 hk))
  obtain ⟨b1, b2, b3⟩ := top_of (F := fun k => (highN (net ts) k).up) (v := fun k => (at_ (net ts).pl (((net ts).ps[k]?).getD 0)).up) rfl (net ts).ps.length (fun k hk => by show (highN (net ts) (k + 1)).up = _; rw [highN_succ (ps_at hk)]; rfl)
  have h1 : hiF (xcN ts 2) 8 ≤ (highN (net ts) (net ts).ps.length).up := by
    rcases a3 with q | ⟨j, hj, q⟩
    · rw [q]; exact b1
    · rw [q]
      rcases xc_place hg hc j with e | ⟨i, hi, e⟩
      · show XC ts 2 j ≤ _; rw [e]; exact b1
      · show XC ts 2 j ≤ _; rw [e]; exact b2 i hi
  have h2 : (highN (net ts) (net ts).ps.length).up ≤ hiF (xcN ts 2) 8 := by
    rcases b3 with q | ⟨j, hj, q⟩
    · have q : (highN (net ts) (net ts).ps.length).up = 0 := q
      rw [q]; exact a1
    · have q : (highN (net ts) (net ts).ps.length).up = _ := q
      rw [q]
      obtain ⟨s, hs, e⟩ := place_xc hg hc hj
      show (at_ (net ts).pl (((net ts).ps[j]?).getD 0)).up ≤ _
      rw [e]; exact a2 s hs
  unfold highV
  omega
theorem low_is {ts : List Lg} (hg : goodLg ts = true) (hc : clIds ts = []) : loF (xcN ts 2) 8 = (lowV ts).up := by
  obtain ⟨a1, a2, a3⟩ := bot_of (g := ph.mn) (by intro a b; unfold ph.mn; split <;> omega) (F := loF (xcN ts 2)) (v := fun k => XC ts 2 k) rfl 8 (fun k hk => loF_step (xcN_at ts 2 hk))
  obtain ⟨b1, b2, b3⟩ := bot_of (g := lst.mn) (by intro a b; unfold lst.mn; split <;> omega) (F := fun k => (lowN (net ts) k).up) (v := fun k => (at_ (net ts).pl (((net ts).ps[k]?).getD 0)).up) rfl (net ts).ps.length (fun k hk => by show (lowN (net ts) (k + 1)).up = _; rw [lowN_succ (ps_at hk)]; rfl)
  have h1 : (lowN (net ts) (net ts).ps.length).up ≤ loF (xcN ts 2) 8 := by
    rcases a3 with q | ⟨j, hj, q⟩
    · rw [q]; exact b1
    · rw [q]
      rcases xc_place hg hc j with e | ⟨i, hi, e⟩
      · show _ ≤ XC ts 2 j; rw [e]; exact b1
      · show _ ≤ XC ts 2 j; rw [e]; exact b2 i hi
  have h2 : loF (xcN ts 2) 8 ≤ (lowN (net ts) (net ts).ps.length).up := by
    rcases b3 with q | ⟨j, hj, q⟩
    · have q : (lowN (net ts) (net ts).ps.length).up = 0 := q
      rw [q]; exact a1
    · have q : (lowN (net ts) (net ts).ps.length).up = _ := q
      rw [q]
      obtain ⟨s, hs, e⟩ := place_xc hg hc hj
      show _ ≤ (at_ (net ts).pl (((net ts).ps[j]?).getD 0)).up
      rw [e]; exact a2 s hs
  unfold lowV
  omega
theorem red_one (x : Int) : redN x 1 = x ∧ redD x 1 = 1 := by
  have e : Nat.gcd x.natAbs (1 : Int).natAbs = 1 := by rw [show (1 : Int).natAbs = 1 from rfl, Nat.gcd_one_right]
  unfold redN redD
  rw [e]
  exact ⟨Int.tdiv_one x, rfl⟩
/-- the adjusted depth's answer, and without loops the depth's -/
theorem dp_form (ts : List Lg) : ∃ (a d : Int), ansDp ts = .tuple #[.int .i64 a, .int .i64 d, .bool (goodLg ts)] := by
  unfold ansDp; cases goodLg ts
  · exact ⟨0, 0, rfl⟩
  · exact ⟨_, _, rfl⟩
theorem de_form (ts : List Lg) : ∃ a : Int, ansDe ts = .tuple #[.int .i64 a, .bool (goodLg ts)] := by
  unfold ansDe; cases goodLg ts
  · exact ⟨0, rfl⟩
  · exact ⟨_, rfl⟩
theorem dp_none {ts : List Lg} {a d q : Int} (hg : goodLg ts = true) (hc : (clIds ts).length = 0) (h : ansDp ts = .tuple #[.int .i64 a, .int .i64 d, .bool (goodLg ts)]) (h2 : ansDe ts = .tuple #[.int .i64 q, .bool (goodLg ts)]) : a = q ∧ d = 1 := by
  have hc : clIds ts = [] := List.length_eq_zero_iff.1 hc
  unfold ansDp at h
  unfold ansDe at h2
  rw [hg, if_pos rfl] at h h2
  rw [high_is hg hc, low_is hg hc, TC_one hg hc, (red_one _).1, (red_one _).2] at h
  simp at h h2
  omega
end Go.Proofs.YtiimegmaokfpgabGreatDoor.rs9

namespace Go.Proofs.YtiimegmaokfpgabGreatDoor.ph
open Go.RowKit
open reads base ty lg lgi win hs nt nq rowi sn mt ml dt pg
set_option linter.unusedVariables false
set_option linter.unusedSimpArgs false
set_option maxHeartbeats 16000000 in
set_option maxRecDepth 100000 in
theorem residualOf_impl (A : Option Addr) (n cap : Nat) (ts : List Lg) (ax i : Int) (w : World) (hn : n ≤ 2000000) (hts : Hid (LgAt w w.heap.size A n ts)) (hT : Hid (Tab w)) :
    Calls Tryz.prog 18 #[.slice A n cap, .int .i64 ax, .int .i64 i] w (APost (ansRs ts ax i) w) := by
  have HL := Lib.hid hts.out.1
  obtain ⟨t, HTT⟩ : ∃ t, Hid (axOk ts ax = t) := ⟨_, Lib.hid rfl⟩
  cases t
  · have HF := Lib.hid (show ansRs ts ax i = .tuple #[.int .i64 0, .int .i64 0, .bool false] by unfold ansRs; rw [HTT.out]; rfl)
    go_enter Tryz.func18, Tryz.ntmps18
    go_wp2_with fail
    refine (adjOf_no A n cap ts ax _ hn hts hT HTT).mono ?_
    rintro e w1 ⟨rfl, b1⟩
    have HB := Lib.hid b1
    clear b1
    go_wp2_with fail
    go_ret3
    exact ⟨by rw [HF.out]; rfl, HB.out.alloc HB.out.size _⟩
  have HGA := Lib.hid (show goodLg ts = true ∧ btw 0 ax 2 = true by have := HTT.out; unfold axOk at this; rwa [Bool.and_eq_true] at this)
  have HG := Lib.hid HGA.out.1
  obtain ⟨U, HU⟩ : ∃ q, Hid (plIds ts = q) := ⟨_, Lib.hid rfl⟩
  obtain ⟨nu, HNU⟩ : ∃ q, Hid (U.length = q) := ⟨_, Lib.hid rfl⟩
  have hn12 := len12 HL.out HG.out
  have hnu : nu ≤ 12 := by rw [← HNU.out, ← HU.out]; have := plIds_len' ts; rw [HL.out] at this; omega
  obtain ⟨p, HP⟩ : ∃ t, Hid (mem U i = t) := ⟨_, Lib.hid rfl⟩
  obtain ⟨tr, HTR⟩ : ∃ q, Hid (TC ts = q) := ⟨_, Lib.hid rfl⟩
  cases p
  · have HF := Lib.hid (show ansRs ts ax i = .tuple #[.int .i64 0, .int .i64 0, .bool false] by unfold ansRs; rw [HTT.out, HU.out, HP.out]; rfl)
    go_enter Tryz.func18, Tryz.ntmps18
    go_wp2_with fail
    refine (adjOf_yes A n cap ts ax _ hn hts hT HTT).mono ?_
    rintro e w1 ⟨AU, cU, Ax, cx, Ar, cr, rfl, hOU, -, -, b1⟩
    rw [HU.out, HNU.out] at hOU
    rw [HU.out, HNU.out, HTR.out]
    have HB := Lib.hid b1
    have HI := Lib.hid (ints.IL.of_own (hOU.alloc (.cells #[.slice AU nu cU, .int .i64 tr, .slice Ax 8 cx, .slice Ar ts.length cr] 64)))
    clear b1 hOU
    go_wp2_with fail
    refine (contains_int AU nu cU U i false HP _ (by omega) HI).mono ?_
    rintro e w3 ⟨rfl, rfl⟩
    go_wp2_with fail
    go_ret3
    exact ⟨by rw [HF.out]; rfl, HB.out.alloc HB.out.size _⟩
  · obtain ⟨j, rfl, x, hx, -⟩ := plIds_at (by rw [HU.out]; exact mem_iff.1 HP.out)
    have hjn : j < n := by have := lt_at hx; rw [HL.out] at this; exact this
    have hji : (j : Int) < (n : Int) := by omega
    have hj0 : (0 : Int) ≤ (j : Int) := by omega
    have bR := resV_bd HG.out ax hx
    have btr := tc_bd HG.out
    have ltr1 := TC_pos HG.out
    obtain ⟨R, HRR⟩ : ∃ q, Hid (resV ts ax (j : Int) = q) := ⟨_, Lib.hid rfl⟩
    have HRL := Lib.hid (show (rsL ts ax (xcN ts ax) (TC ts))[j]? = some R by
      unfold rsL
      rw [List.getElem?_map, List.getElem?_range (by rw [HL.out]; exact hjn)]
      show some (rsF ts ax (xcN ts ax) (TC ts) (plIds ts) j) = some R
      unfold rsF
      rw [if_pos (by rw [HU.out]; exact mem_iff.1 HP.out)]
      exact congrArg some HRR.out)
    rw [HRR.out] at bR
    rw [HTR.out] at btr ltr1
    have lR : lim62 R := by unfold lim62; omega
    have ltr : lim62 tr := by unfold lim62; omega
    obtain ⟨rn, HRN⟩ : ∃ q, Hid (redN R tr = q) := ⟨_, Lib.hid rfl⟩
    obtain ⟨rd, HRD⟩ : ∃ q, Hid (redD R tr = q) := ⟨_, Lib.hid rfl⟩
    have HF := Lib.hid (show ansRs ts ax (j : Int) = .tuple #[.int .i64 rn, .int .i64 rd, .bool true] by unfold ansRs; rw [HTT.out, HU.out, HP.out, HRR.out, HTR.out, HRN.out, HRD.out]; rfl)
    clear hx bR
    go_enter Tryz.func18, Tryz.ntmps18
    go_wp2_with fail
    refine (adjOf_yes A n cap ts ax _ hn hts hT HTT).mono ?_
    rintro e w1 ⟨AU, cU, Ax, cx, Ar, cr, rfl, hOU, -, hOR, b1⟩
    rw [HU.out, HNU.out] at hOU
    rw [HU.out, HNU.out, HTR.out]
    rw [HTR.out] at HRL hOR
    have HB := Lib.hid b1
    have HI := Lib.hid (ints.IL.of_own (hOU.alloc (.cells #[.slice AU nu cU, .int .i64 tr, .slice Ax 8 cx, .slice Ar ts.length cr] 64)))
    have HXB := Lib.hid (Blk.new w1 64 #[.slice AU nu cU, .int .i64 tr, .slice Ax 8 cx, .slice Ar ts.length cr])
    obtain ⟨gR, eAr, er⟩ := (ints.IL.of_own (hOR.alloc (.cells #[.slice AU nu cU, .int .i64 tr, .slice Ax 8 cx, .slice Ar ts.length cr] 64))).2 j R HRL.out
    subst eAr
    have hgR := (hOR.lt gR rfl).2
    have HBA := Lib.hid (HB.out.alloc HB.out.size (.cells #[.slice AU nu cU, .int .i64 tr, .slice Ax 8 cx, .slice (some ⟨gR, 0, none⟩) ts.length cr] 64))
    clear b1 hOU hOR HRL
    go_wp2_with fail
    refine (contains_int AU nu cU U (j : Int) true HP _ (by omega) HI).mono ?_
    rintro e w3 ⟨rfl, rfl⟩
    go_upto_region 4 with fail
    obtain ⟨W0, HW0⟩ : ∃ W, Hid (w1.alloc (.cells #[.slice AU nu cU, .int .i64 tr, .slice Ax 8 cx, .slice (some ⟨gR, 0, none⟩) ts.length cr] 64) = W) := ⟨_, Lib.hid rfl⟩
    obtain ⟨X, HXX⟩ : ∃ X, Hid (w1.heap.size = X) := ⟨_, Lib.hid rfl⟩
    rw [HXX.out] at HXB hgR
    rw [HW0.out] at HXB HBA er ⊢
    try simp only [HXX.out]
    clear HW0 HI HB
    have q1 := HXB.out.cell 1
    have q3 := HXB.out.cell 3
    have qX := HXB.out.lt
    simp at q1 q3
    obtain ⟨B, HBB⟩ : ∃ B, Hid (W0.heap.size = B) := ⟨_, Lib.hid rfl⟩
    have HWB := Lib.hid (show B ≤ W0.heap.size by rw [HBB.out]; exact Nat.le_refl _)
    rw [HBB.out] at qX
    have hgB : gR < B := by omega
    have hjl : j < ts.length := by rw [HL.out]; exact hjn
    have hjli : (j : Int) < (ts.length : Int) := by omega
    refine wp_region_held_drew (S := (fun v => (∀ b o, b < B → v.cell? ⟨b, o, none⟩ = W0.cell? ⟨b, o, none⟩) ∧ Below B W0 v)) (by kernel_rfl) ?_ (fun hHeld => ?_)
    · exact sb_start (Below.refl _ _)
    refine' wpAnyH_take (i := 0) (v := ?vr2_0) rfl (by kernel_rfl) (by kernel_rfl) (by kernel_rfl) (fun _ _ _ h => h) (Or.inl ⟨by rfl, ?hyr2_0⟩) (by assumption) ?restr2_0
    case hyr2_0 => (intro w hSw; (try dsimp only at hSw); go_simp; try (with_reducible rfl))
    simp only [Act.put, List.getElem_toArray, List.getElem_cons_succ, List.getElem_cons_zero, List.setIfInBounds_toArray, List.set_cons_zero, List.set_cons_succ]
    refine' wpAnyH_take (i := 1) (v := ?vr2_1) rfl (by kernel_rfl) (by kernel_rfl) (by kernel_rfl) (fun _ _ _ h => h) (Or.inl ⟨by rfl, ?hyr2_1⟩) (by assumption) ?restr2_1
    case hyr2_1 => (intro w hSw; (try dsimp only at hSw); go_simp; try (with_reducible rfl))
    simp only [Act.put, List.getElem_toArray, List.getElem_cons_succ, List.getElem_cons_zero, List.setIfInBounds_toArray, List.set_cons_zero, List.set_cons_succ]
    refine' wpAnyH_take (i := 2) (v := ?vr2_2) rfl (by kernel_rfl) (by kernel_rfl) (by kernel_rfl) (fun _ _ _ h => h) (Or.inl ⟨by rfl, ?hyr2_2⟩) (by assumption) ?restr2_2
    case hyr2_2 => (intro w hSw; (try dsimp only at hSw); go_simp; try (with_reducible rfl))
    simp only [Act.put, List.getElem_toArray, List.getElem_cons_succ, List.getElem_cons_zero, List.setIfInBounds_toArray, List.set_cons_zero, List.set_cons_succ]
    refine' wpAnyH_take (i := 3) (v := ?vr2_3) rfl (by kernel_rfl) (by kernel_rfl) (by kernel_rfl) (fun _ _ _ h => h) (Or.inl ⟨by rfl, ?hyr2_3⟩) (by assumption) ?restr2_3
    case hyr2_3 => (intro w hSw; (try dsimp only at hSw); go_simp; try (with_reducible rfl))
    simp only [Act.put, List.getElem_toArray, List.getElem_cons_succ, List.getElem_cons_zero, List.setIfInBounds_toArray, List.set_cons_zero, List.set_cons_succ]
    refine' wpAnyH_take (i := 4) (v := ?vr2_4) rfl (by kernel_rfl) (by kernel_rfl) (by kernel_rfl) (fun _ _ _ h => h) (Or.inl ⟨by rfl, ?hyr2_4⟩) (by assumption) ?restr2_4
    case hyr2_4 => (intro w hSw; (try dsimp only at hSw); go_simp; try (with_reducible rfl))
    simp only [Act.put, List.getElem_toArray, List.getElem_cons_succ, List.getElem_cons_zero, List.setIfInBounds_toArray, List.set_cons_zero, List.set_cons_succ]
    refine' wpAnyH_take (i := 5) (v := ?vr2_5) rfl (by kernel_rfl) (by kernel_rfl) (by kernel_rfl) (fun _ _ _ h => h) (Or.inl ⟨by rfl, ?hyr2_5⟩) (by assumption) ?restr2_5
    case hyr2_5 => (intro w hSw; (try dsimp only at hSw); go_simp; try (with_reducible rfl))
    simp only [Act.put, List.getElem_toArray, List.getElem_cons_succ, List.getElem_cons_zero, List.setIfInBounds_toArray, List.set_cons_zero, List.set_cons_succ]
    refine' wpAnyH_take (i := 6) (v := ?vr2_6) rfl (by kernel_rfl) (by kernel_rfl) (by kernel_rfl) (fun _ _ _ h => h) (Or.inl ⟨by rfl, ?hyr2_6⟩) (by assumption) ?restr2_6
    case hyr2_6 => (intro w hSw; (try dsimp only at hSw); go_simp; try (with_reducible rfl))
    simp only [Act.put, List.getElem_toArray, List.getElem_cons_succ, List.getElem_cons_zero, List.setIfInBounds_toArray, List.set_cons_zero, List.set_cons_succ]
    refine wpAnyH_ready (rs := [7]) (by kernel_rfl) (by simp) ?_
    refine AllReadyH.cons rfl (fun K hK => ?_) AllReadyH.nil
    go_simp
    refine (ph.reduced_any R tr rn rd _ lR ltr ltr1 HRN HRD).mono ?_
    rintro e w9 ⟨rfl, b9⟩
    refine hK.out _ _ (sb_step hHeld HWB.out b9) (fun hHeld1 => ?_)
    clear hK K hHeld
    have hHeld := hHeld1
    clear hHeld1
    try simp only [Act.put, List.getElem_toArray, List.getElem_cons_succ, List.getElem_cons_zero, List.setIfInBounds_toArray, List.set_cons_zero, List.set_cons_succ]
    refine' wpAnyH_take (i := 8) (v := ?vr2_8) rfl (by kernel_rfl) (by kernel_rfl) (by kernel_rfl) (fun _ _ _ h => h) (Or.inl ⟨by rfl, ?hyr2_8⟩) (by assumption) ?restr2_8
    case hyr2_8 => (intro w hSw; (try dsimp only at hSw); go_simp; try (with_reducible rfl))
    simp only [Act.put, List.getElem_toArray, List.getElem_cons_succ, List.getElem_cons_zero, List.setIfInBounds_toArray, List.set_cons_zero, List.set_cons_succ]
    refine' wpAnyH_take (i := 9) (v := ?vr2_9) rfl (by kernel_rfl) (by kernel_rfl) (by kernel_rfl) (fun _ _ _ h => h) (Or.inl ⟨by rfl, ?hyr2_9⟩) (by assumption) ?restr2_9
    case hyr2_9 => (intro w hSw; (try dsimp only at hSw); go_simp; try (with_reducible rfl))
    simp only [Act.put, List.getElem_toArray, List.getElem_cons_succ, List.getElem_cons_zero, List.setIfInBounds_toArray, List.set_cons_zero, List.set_cons_succ]
    refine' wpAnyH_take (i := 10) (v := ?vr2_10) rfl (by kernel_rfl) (by kernel_rfl) (by kernel_rfl) (fun _ _ _ h => h) (Or.inl ⟨by rfl, ?hyr2_10⟩) (by assumption) ?restr2_10
    case hyr2_10 => (intro w hSw; (try dsimp only at hSw); go_simp; try (with_reducible rfl))
    simp only [Act.put, List.getElem_toArray, List.getElem_cons_succ, List.getElem_cons_zero, List.setIfInBounds_toArray, List.set_cons_zero, List.set_cons_succ]
    refine' wpAnyH_take (i := 11) (v := ?vr2_11) rfl (by kernel_rfl) (by kernel_rfl) (by kernel_rfl) (fun _ _ _ h => h) (Or.inl ⟨by rfl, ?hyr2_11⟩) (by assumption) ?restr2_11
    case hyr2_11 => (intro w hSw; (try dsimp only at hSw); go_simp; try (with_reducible rfl))
    simp only [Act.put, List.getElem_toArray, List.getElem_cons_succ, List.getElem_cons_zero, List.setIfInBounds_toArray, List.set_cons_zero, List.set_cons_succ]
    refine' wpAnyH_take (i := 12) (v := ?vr2_12) rfl (by kernel_rfl) (by kernel_rfl) (by kernel_rfl) (fun _ _ _ h => h) (Or.inl ⟨by rfl, ?hyr2_12⟩) (by assumption) ?restr2_12
    case hyr2_12 => (intro w hSw; (try dsimp only at hSw); go_simp; try (with_reducible rfl))
    simp only [Act.put, List.getElem_toArray, List.getElem_cons_succ, List.getElem_cons_zero, List.setIfInBounds_toArray, List.set_cons_zero, List.set_cons_succ]
    refine wpAnyH_done (by kernel_rfl) ?_ _
    go_wp2_with fail
    go_ret3
    exact ⟨by rw [HF.out]; rfl, HBA.out.trans (hHeld.2.mono (by rw [← HBB.out]; exact HBA.out.size))⟩
end Go.Proofs.YtiimegmaokfpgabGreatDoor.ph

namespace Go.Proofs.YtiimegmaokfpgabGreatDoor.phx
open Go.RowKit
open reads base ty lg lgi win hs nt nq rowi sn mt ml dt pg
set_option linter.unusedVariables false
set_option linter.unusedSimpArgs false

def updB (f : Nat → Bool) (j : Nat) (x : Bool) : Nat → Bool := fun i => if i = j then x else f i
/-- twelve marks in a block -/
def cb (f : Nat → Bool) : Array Value := ((List.range 12).map (fun j => Value.bool (f j))).toArray
theorem cb_size (f : Nat → Bool) : (cb f).size = 12 := by simp [cb]
theorem cb_at {j : Nat} (f : Nat → Bool) (h : j < 12) : (cb f)[j]? = some (.bool (f j)) := by simp [cb, h]
theorem cb_set {j : Nat} (f : Nat → Bool) (x : Bool) (h : j < 12) : (cb f).setIfInBounds j (.bool x) = cb (updB f j x) := by
  apply Array.ext_getElem?
  intro i
  rw [Array.getElem?_setIfInBounds]
  by_cases hi : i < 12
  · rw [cb_at (updB f j x) hi]
    by_cases e : j = i
    · subst e; rw [if_pos rfl, cb_size, if_pos h]; simp [updB]
    · rw [if_neg e, cb_at _ hi]; simp [updB, show ¬ i = j from fun q => e q.symm]
  · rw [Array.getElem?_eq_none (by rw [cb_size]; omega)]
    by_cases e : j = i
    · omega
    · rw [if_neg e, Array.getElem?_eq_none (by rw [cb_size]; omega)]
theorem cb_congr {f g : Nat → Bool} (h : ∀ j, j < 12 → f j = g j) : cb f = cb g := by
  unfold cb
  rw [List.map_congr_left (fun j hj => by rw [h j (List.mem_range.1 hj)])]
def ArL (w : World) (p : Nat) (f : Nat → Bool) : Prop := Blk w p 74 (cb f)
theorem ArL.at_ {w : World} {p : Nat} {f : Nat → Bool} (h : ArL w p f) {j : Nat} (hj : j < 12) : w.cell? ⟨p, j, none⟩ = some (.bool (f j)) := by rw [Blk.cell h, cb_at f hj]
theorem ArL.fro {w : World} {p : Nat} {f : Nat → Bool} (h : ArL w p f) (j : Nat) : w.frozen? ⟨p, j, none⟩ = false := Blk.frozen h j
theorem ArL.lt {w : World} {p : Nat} {f : Nat → Bool} (h : ArL w p f) : p < w.heap.size := Blk.lt h
theorem ArL.set {w : World} {p : Nat} {f : Nat → Bool} (h : ArL w p f) {j : Nat} (hj : j < 12) (x : Bool) : ArL (w.setCell ⟨p, j, none⟩ (.bool x)) p (updB f j x) := by
  have := Blk.set_ h j (.bool x)
  rw [cb_set f x hj] at this; exact this
theorem ArL.below {w w' : World} {p : Nat} {f : Nat → Bool} (h : ArL w p f) {B : Nat} (hb : Below B w w') (hp : p < B) : ArL w' p f := Blk.below h hb hp
theorem ArL.congr {w : World} {p : Nat} {f g : Nat → Bool} (h : ArL w p f) (e : ∀ j, j < 12 → f j = g j) : ArL w p g := by unfold ArL; rw [← cb_congr e]; exact h
theorem IO_far {w : World} {n R : Nat} {A : Option Addr} {xs : List Int} (h : IO w w.heap.size A n xs) (hne : ∀ g o, A = some ⟨g, o, none⟩ → ¬ g = R) (i : Nat) (v : Value) : IO (w.setCell ⟨R, i, none⟩ v) (w.setCell ⟨R, i, none⟩ v).heap.size A n xs := by
  refine ⟨h.1, fun q x hx => ?_⟩
  obtain ⟨g, o, e, hg9, hc⟩ := h.2 q x hx
  refine ⟨g, o, e, by simpa [World.setCell] using hg9, ?_⟩
  refine (World.cell?_setCell_other w _ _ _ (fun z => ?_)).trans hc
  injection z with z1 _
  exact hne g o e z1.symm
theorem own_ne {w : World} {base n c R : Nat} {A : Option Addr} {e : TypeId} {xs : List Value} (h : w.ownsRow base e 1 (.slice A n c) n xs) (hR : R < base) : ∀ g o, A = some ⟨g, o, none⟩ → ¬ g = R := fun g o ea z => by
  rcases h.2 with ⟨z1, -⟩ | ⟨g1, c1, u1, z1, z2, -⟩
  · injection z1 with z1 _ _; rw [ea] at z1; cases z1
  · injection z1 with z1 _ _; rw [ea] at z1; injection z1 with z1; injection z1 with z1 _; omega
/-- a leg's residual is 0, or it is not placed -/
def zr (ts : List Lg) (a i : Nat) : Bool := rsF ts (a : Int) (xcN ts (a : Int)) (TC ts) (plIds ts) i == 0
/-- the marks behind some axes -/
def st (ts : List Lg) (a i : Nat) : Bool := mem (plIds ts) (i : Int) && (List.range a).all (fun b => zr ts b i)
def inn (ts : List Lg) (a k i : Nat) : Bool := if i < k then st ts (a + 1) i else st ts a i
theorem st_step (ts : List Lg) (a i : Nat) : st ts (a + 1) i = (st ts a i && zr ts a i) := by
  unfold st; rw [List.range_succ, List.all_append]; simp [Bool.and_assoc]
theorem inn_step {ts : List Lg} {a k : Nat} {v : Bool} (h : v = (st ts a k && zr ts a k)) (i : Nat) : updB (inn ts a k) k v i = inn ts a (k + 1) i := by
  unfold updB inn
  by_cases e : i = k
  · subst e; rw [if_pos rfl, if_pos (Nat.lt_succ_self _), st_step]; exact h
  · rw [if_neg e]
    by_cases q : i < k
    · rw [if_pos q, if_pos (by omega)]
    · rw [if_neg q, if_neg (by omega)]
theorem st_out {ts : List Lg} {a i : Nat} (h : ¬ i < ts.length) : st ts a i = false := by
  unfold st
  cases e : mem (plIds ts) (i : Int)
  · rfl
  · obtain ⟨j, e1, x, hx, -⟩ := plIds_at (mem_iff.1 e)
    obtain rfl : i = j := by omega
    exact absurd (lt_at hx) h
theorem inn_end (ts : List Lg) (a i : Nat) : inn ts a ts.length i = st ts (a + 1) i := by
  unfold inn
  split
  · rfl
  · rename_i h; rw [st_out h, st_out h]
theorem st_three (ts : List Lg) {k : Nat} (h : (k : Int) ∈ plIds ts) : st ts 3 k = exB ts (k : Int) := by
  unfold st exB zr rA rsF
  simp only [if_pos h]
  rw [mem_iff.2 h, show List.range 3 = [0, 1, 2] from rfl]
  simp
  try rfl
theorem tru_st (ts : List Lg) : ∀ k, k ≤ 12 → tru ((List.range 12).map (st ts 3)) k = (plN ts k).filter (exB ts)
  | 0, _ => rfl
  | k + 1, hk => by
    have ih := tru_st ts k (by omega)
    have e : ((List.range 12).map (st ts 3))[k]? = some (st ts 3 k) := by rw [List.getElem?_map, List.getElem?_range (by omega)]; rfl
    cases hx : ts[k]? with
    | none =>
      have hs : st ts 3 k = false := st_out (fun h => by rw [List.getElem?_eq_none_iff] at hx; omega)
      rw [hs] at e
      rw [tru_no e, ih, show plN ts (k + 1) = plN ts k by unfold plN; rw [rowi.idxs, hx]]
    | some x =>
      cases q : mem (net ts).ps x.frm
      · have hn : ¬ (k : Int) ∈ plIds ts := fun z => by
          obtain ⟨j, e, y, hy, hm⟩ := plIds_at z
          obtain rfl : k = j := by omega
          rw [hx] at hy
          obtain rfl := Option.some.inj hy
          rw [q] at hm; cases hm
        have hs : st ts 3 k = false := by
          unfold st
          cases e9 : mem (plIds ts) (k : Int)
          · rfl
          · exact absurd (mem_iff.1 e9) hn
        rw [hs] at e
        rw [tru_no e, ih, show plN ts (k + 1) = plN ts k from rowi.idxs_no hx q]
      · have hp := pl_all hx q
        rw [st_three ts hp] at e
        rw [show plN ts (k + 1) = plN ts k ++ [(k : Int)] from rowi.idxs_yes hx q, List.filter_append]
        cases b : exB ts (k : Int)
        · rw [b] at e; rw [tru_no e, ih]; simp [b]
        · rw [b] at e; rw [tru_yes e, ih]; simp [b]
theorem plN_more (ts : List Lg) : ∀ d, plN ts (ts.length + d) = plIds ts
  | 0 => rfl
  | d + 1 => by
    have h : ts[ts.length + d]? = none := List.getElem?_eq_none (by omega)
    rw [← plN_more ts d]
    show plN ts (ts.length + d + 1) = _
    unfold plN; rw [rowi.idxs, h]
theorem tru_ex {ts : List Lg} (hg : goodLg ts = true) (h : ts.length ≤ 12) : tru ((List.range 12).map (st ts 3)) 12 = exIds ts := by
  rw [tru_st ts 12 (Nat.le_refl _)]
  have := plN_more ts (12 - ts.length)
  rw [show ts.length + (12 - ts.length) = 12 by omega] at this
  unfold exIds
  rw [this, hg, if_pos rfl]
theorem fld3 (a : Option Addr) (b c : Nat) (d : Int) (x : Option Addr) (y z : Nat) (p : Option Addr) (q r : Nat) (W : World) : (Instr.field 64 (.agg #[.slice a b c, .int .i64 d, .slice x y z, .slice p q r]) 3).run Tryz.prog W = .ok (.slice p q r) W := by kernel_rfl
set_option maxHeartbeats 16000000 in
set_option maxRecDepth 100000 in
theorem exact_impl (A : Option Addr) (n cap : Nat) (ts : List Lg) (w : World) (hn : n ≤ 2000000) (hts : Hid (LgAt w w.heap.size A n ts)) (hT : Hid (Tab w)) :
    Calls Tryz.prog 30 #[.slice A n cap] w (LPost (exIds ts) (goodLg ts) w) := by
  have HL := Lib.hid hts.out.1
  obtain ⟨C, HC⟩ : ∃ C, Hid (nv (netS ts) (clS ts) = C) := ⟨_, Lib.hid rfl⟩
  have hcz : C.size = 56 := by rw [← HC.out]; exact nv_size (nok_S ts)
  have HC1 := Lib.hid (show C.all (·.oneCell') = true by rw [← HC.out]; exact nv_one)
  obtain ⟨g, HG⟩ : ∃ g, Hid (goodLg ts = g) := ⟨_, Lib.hid rfl⟩
  rw [HG.out]
  go_enter Tryz.func30, Tryz.ntmps30
  go_wp2_with fail
  refine (net_any A n cap ts C g HC HG _ hn hts hT).mono ?_
  rintro e w1 ⟨rfl, b1⟩
  have HB1 := Lib.hid b1
  clear b1
  have hst := lay_net hcz HC1.out w1
  have HB2 := Lib.hid (HB1.out.alloc HB1.out.size (.cells C 76))
  have HG2 := Lib.hid (Blk.new w1 76 C)
  go_upto_region 2 with fail
  clear hst
  obtain ⟨W, HW⟩ : ∃ W, Hid (w1.alloc (.cells C 76) = W) := ⟨_, Lib.hid rfl⟩
  obtain ⟨G, HGG⟩ : ∃ q, Hid (w1.heap.size = q) := ⟨_, Lib.hid rfl⟩
  rw [HGG.out] at HG2
  rw [HW.out] at HB2 HG2 ⊢
  try simp only [HGG.out]
  clear HW HB1 HGG
  cases g
  · have HF := Lib.hid (show exIds ts = [] by unfold exIds; rw [HG.out]; rfl)
    rw [HF.out]
    have HR := Lib.hid (show (W.alloc (.cells #[] 3)).ownsRow w.heap.size 3 1 (.slice (some ⟨W.heap.size, 0, none⟩) 0 0) 0 [] from World.ownsRow_made W #[] 0 HB2.out.size (by decide) (by simp))
    go_wp2_with fail
    go_ret2
    exact ⟨.slice (some ⟨W.heap.size, 0, none⟩) 0 0, rfl, by rw [HF.out]; exact HR.out, HB2.out.alloc HB2.out.size _⟩
  have HCN := Lib.hid (show nv (net ts) (clS ts) = C by rw [← HC.out]; unfold netS; rw [HG.out]; rfl)
  have hcl12 : (clS ts).length = 12 := (nok_S ts).2
  have hn12 := len12 HL.out HG.out
  go_upto_region 5 with fail
  obtain ⟨W7, HW7⟩ : ∃ Q, Hid (W.alloc (.cells #[.bool false, .bool false, .bool false, .bool false, .bool false, .bool false, .bool false, .bool false, .bool false, .bool false, .bool false, .bool false] 74) = Q) := ⟨_, Lib.hid rfl⟩
  obtain ⟨Sb, HSb⟩ : ∃ q, Hid (W.heap.size = q) := ⟨_, Lib.hid rfl⟩
  have HS7 := Lib.hid (show ArL W7 Sb (fun _ => false) by rw [← HW7.out, ← HSb.out]; exact Blk.new _ _ _)
  have HB7 := Lib.hid (HB2.out.alloc HB2.out.size (.cells #[.bool false, .bool false, .bool false, .bool false, .bool false, .bool false, .bool false, .bool false, .bool false, .bool false, .bool false, .bool false] 74))
  have HG7 := Lib.hid (HG2.out.alloc (.cells #[.bool false, .bool false, .bool false, .bool false, .bool false, .bool false, .bool false, .bool false, .bool false, .bool false, .bool false, .bool false] 74))
  have hwS : w.heap.size ≤ Sb := by rw [← HSb.out]; exact HB2.out.size
  have hGS : ¬ G = Sb := fun z => by have := HG2.out.lt; have e := HSb.out; omega
  rw [HW7.out] at HB7 HG7 ⊢
  try simp only [HSb.out]
  clear HW7 HSb HB2 HG2
  refine wp_region_list ?_
  refine step_move _ rfl _ rfl _ rfl ?_
  simp only [Act.put, List.getElem_toArray, List.getElem_cons_succ, List.getElem_cons_zero, List.setIfInBounds_toArray, List.set_cons_zero, List.set_cons_succ]
  refine step_load _ rfl _ rfl G _ rfl HG7.out hcz ?_
  simp only [Act.put, List.getElem_toArray, List.getElem_cons_succ, List.getElem_cons_zero, List.setIfInBounds_toArray, List.set_cons_zero, List.set_cons_succ]
  go_wp2_with fail
  refine (placedLegs_any A n cap ts (clS ts) C _ HCN hcl12 HG (Lib.hid (hts.out.step HB7.out))).mono ?_
  rintro e w8 ⟨vU, rfl, hOU, b8⟩
  obtain ⟨U, HU⟩ : ∃ q, Hid (plIds ts = q) := ⟨_, Lib.hid rfl⟩
  obtain ⟨nu, HNU⟩ : ∃ q, Hid (U.length = q) := ⟨_, Lib.hid rfl⟩
  have hnu : nu ≤ 12 := by rw [← HNU.out, ← HU.out]; have := plIds_len' ts; rw [HL.out] at this; omega
  rw [HU.out, HNU.out] at hOU
  obtain ⟨AU, cU, rfl⟩ := row_slice hOU
  have HUG := Lib.hid (own_ne hOU HS7.out.lt)
  have HU8 := Lib.hid (IO.of_own hOU)
  have HS8 := Lib.hid (HS7.out.below b8 HS7.out.lt)
  have HG8 := Lib.hid (HG7.out.below b8 HG7.out.lt)
  have HB8 := Lib.hid (HB7.out.trans (b8.mono HB7.out.size))
  clear hOU b8 HS7 HB7 HG7
  go_wp2_with fail
  go_loopw [25] (fun i wr => ∃ k : Nat, k ≤ nu ∧ i = .int .i64 (k : Nat) ∧ ArL wr Sb (fun i => mem (U.take k) (i : Int)) ∧ IO wr wr.heap.size AU nu U ∧ Blk wr G 76 C ∧ Below w.heap.size w wr) (fun i _ => nu - (intOf i).toNat)
  case atStart => exact ⟨0, Nat.zero_le _, rfl, HS8.out, HU8.out, HG8.out, HB8.out⟩
  case round =>
    obtain ⟨k, hk, rfl, hS, hR, hN, hB⟩ := hrel
    have HSQ := Lib.hid hS
    have HRQ := Lib.hid hR
    have HGQ := Lib.hid hN
    have HBQ := Lib.hid hB
    clear hR hS hB hN HS8 HU8 HB8 HG8
    have hk0 : (0 : Int) ≤ (k : Int) := by omega
    by_cases hlt : k < nu
    · have hki : (k : Int) < (nu : Int) := by omega
      have hkd : decide (k < nu) = true := by simpa using hlt
      obtain ⟨q, hq⟩ := at_lt HNU.out hlt
      obtain ⟨j, rfl, x, hx, -⟩ := plIds_at (by rw [HU.out]; exact List.mem_of_getElem? hq)
      have hj12 : j < 12 := by have := lt_at hx; rw [HL.out] at this; omega
      have hji : (j : Int) < 12 := by omega
      have hj0 : (0 : Int) ≤ (j : Int) := by omega
      have HTK := Lib.hid (take_snoc hq)
      obtain ⟨gU, oU, rfl, hgU, eU⟩ := HRQ.out.2 k _ hq
      have fz := HSQ.out.fro j
      have lz := HSQ.out.lt
      have dz := HSQ.out.at_ hj12
      have HS2 := Lib.hid (HSQ.out.set hj12 true)
      have HR2 := Lib.hid (IO_far HRQ.out HUG.out j (.bool true))
      have HB2 := Lib.hid (HBQ.out.setCell (p := ⟨Sb, j, none⟩) hwS (.bool true))
      have HG2 := Lib.hid (HGQ.out.far (p := ⟨Sb, j, none⟩) hGS (.bool true))
      clear hq hx
      go_wp2_with fail
      go_roundw
      case rel => exact ⟨k + 1, by omega, by go_num, HS2.out.congr (fun i _ => by
        show (if i = j then true else mem (U.take k) (i : Int)) = mem (U.take (k + 1)) (i : Int)
        rw [HTK.out]
        by_cases e : i = j
        · rw [if_pos e, e]; exact (mem_iff.2 (List.mem_append_right _ (by simp))).symm
        · rw [if_neg e, Bool.eq_iff_iff, mem_iff, mem_iff, List.mem_append]
          exact ⟨fun h => Or.inl h, fun h => h.elim id (fun h => absurd (show i = j by have h := List.mem_singleton.1 h; omega) e)⟩), HR2.out, HG2.out, HB2.out⟩
      case measure => simp [intOf]; omega
    · have hkd : decide (k < nu) = false := by simpa using hlt
      obtain rfl : k = nu := by omega
      have HS9 := Lib.hid (HSQ.out.congr (g := st ts 0) (fun i _ => by
        show mem (U.take k) (i : Int) = st ts 0 i
        unfold st
        rw [List.take_of_length_le (by rw [HNU.out]; exact Nat.le_refl _), HU.out]; simp))
      clear HSQ HRQ
      go_wp2_with fail
      go_loopw [9] (fun i wr => ∃ a : Nat, a ≤ 3 ∧ i = .int .i64 (a : Nat) ∧ ArL wr Sb (st ts a) ∧ Blk wr G 76 C ∧ Below w.heap.size w wr) (fun i _ => 3 - (intOf i).toNat)
      case atStart => exact ⟨0, by omega, rfl, HS9.out, HGQ.out, HBQ.out⟩
      case round =>
        clear HS9 HGQ HBQ hk0 hlt hkd
        obtain ⟨a, ha, rfl, hS, hN, hB⟩ := hrel
        have HSQ := Lib.hid hS
        have HGQ := Lib.hid hN
        have HBQ := Lib.hid hB
        clear hS hB hN
        have ha0 : (0 : Int) ≤ (a : Int) := by omega
        by_cases hlt : a ≤ 2
        · have hki : (a : Int) ≤ 2 := by omega
          have hkd : decide (a ≤ 2) = true := by simpa using hlt
          have hkd2 : decide ((a : Int) ≤ 2) = true := by simpa using hki
          have xa : IntKind.i64.wrap ((a : Int) + 1) = (a : Int) + 1 := IntWalk.i64_in _ (by omega)
          go_upto_region 13 with fail
          refine wp_region_list ?_
          refine step_move _ rfl _ rfl _ rfl ?_
          simp only [Act.put, List.getElem_toArray, List.getElem_cons_succ, List.getElem_cons_zero, List.setIfInBounds_toArray, List.set_cons_zero, List.set_cons_succ]
          refine step_load _ rfl _ rfl G _ rfl HGQ.out hcz ?_
          simp only [Act.put, List.getElem_toArray, List.getElem_cons_succ, List.getElem_cons_zero, List.setIfInBounds_toArray, List.set_cons_zero, List.set_cons_succ]
          go_wp2_with fail
          refine (adjOn_any A n cap ts (clS ts) C (a : Int) _ ha0 hki HCN hcl12 HG (Lib.hid (hts.out.step HBQ.out)) (Lib.hid (hT.out.below HBQ.out))).mono ?_
          rintro e w6 ⟨AU2, cU2, Ax, cx, Ar, cr, rfl, -, -, hOR, b6⟩
          rw [HL.out] at hOR ⊢
          have HUG2 := Lib.hid (own_ne hOR HSQ.out.lt)
          have HR6 := Lib.hid (IO.of_own hOR)
          have HS6 := Lib.hid (HSQ.out.below b6 HSQ.out.lt)
          have HG6 := Lib.hid (HGQ.out.below b6 HGQ.out.lt)
          have HB6 := Lib.hid (HBQ.out.trans (b6.mono HBQ.out.size))
          clear hOR b6 HSQ HGQ HBQ
          have hfd := fld3 AU2 (plIds ts).length cU2 (TC ts) Ax 8 cx Ar n cr w6
          go_wp2_with fail
          clear hfd
          go_loopw [42] (fun i wr => ∃ k : Nat, k ≤ n ∧ i = .int .i64 (k : Nat) ∧ ArL wr Sb (inn ts a k) ∧ IO wr wr.heap.size Ar n (rsL ts (a : Int) (xcN ts (a : Int)) (TC ts)) ∧ Blk wr G 76 C ∧ Below w.heap.size w wr) (fun i _ => n - (intOf i).toNat)
          case atStart => exact ⟨0, Nat.zero_le _, rfl, HS6.out.congr (fun i _ => by unfold inn; rw [if_neg (Nat.not_lt_zero _)]), HR6.out, HG6.out, HB6.out⟩
          case round =>
            clear HS6 HR6 HG6 HB6
            obtain ⟨k, hk, rfl, hS, hR, hN, hB⟩ := hrel
            have HSQ2 := Lib.hid hS
            have HRQ2 := Lib.hid hR
            have HGQ2 := Lib.hid hN
            have HBQ2 := Lib.hid hB
            clear hR hS hB hN
            have hk0 : (0 : Int) ≤ (k : Int) := by omega
            by_cases hlt2 : k < n
            · have hki2 : (k : Int) < (n : Int) := by omega
              have hkd2 : decide (k < n) = true := by simpa using hlt2
              have hk12 : k < 12 := by omega
              have hk12i : (k : Int) < 12 := by omega
              have hrl : (rsL ts (a : Int) (xcN ts (a : Int)) (TC ts))[k]? = some (rsF ts (a : Int) (xcN ts (a : Int)) (TC ts) (plIds ts) k) := by
                unfold rsL; rw [List.getElem?_map, List.getElem?_range (by rw [HL.out]; exact hlt2)]; rfl
              have HZR := Lib.hid (show zr ts a k = (rsF ts (a : Int) (xcN ts (a : Int)) (TC ts) (plIds ts) k == 0) from rfl)
              obtain ⟨r, HRV⟩ : ∃ q, Hid (rsF ts (a : Int) (xcN ts (a : Int)) (TC ts) (plIds ts) k = q) := ⟨_, Lib.hid rfl⟩
              rw [HRV.out] at hrl HZR
              obtain ⟨gR, oR, rfl, hgR, eR⟩ := HRQ2.out.2 k _ hrl
              obtain ⟨b, HBV⟩ : ∃ q, Hid (st ts a k = q) := ⟨_, Lib.hid rfl⟩
              have fz := HSQ2.out.fro k
              have lz := HSQ2.out.lt
              have dz := HSQ2.out.at_ hk12
              rw [show inn ts a k k = b by unfold inn; rw [if_neg (Nat.lt_irrefl _)]; exact HBV.out] at dz
              clear hrl
              cases b
              · skip
                have HS2 := Lib.hid (HSQ2.out.set hk12 false)
                have HR2 := Lib.hid (IO_far HRQ2.out HUG2.out k (.bool false))
                have HB2 := Lib.hid (HBQ2.out.setCell (p := ⟨Sb, k, none⟩) hwS (.bool false))
                have HG2 := Lib.hid (HGQ2.out.far (p := ⟨Sb, k, none⟩) hGS (.bool false))
                have HST := Lib.hid (show ∀ i, updB (inn ts a k) k false i = inn ts a (k + 1) i from inn_step (by rw [HBV.out]; rfl))
                go_wp2_with fail
                go_roundw
                case rel => exact ⟨k + 1, by omega, by go_num, HS2.out.congr (fun i _ => HST.out i), HR2.out, HG2.out, HB2.out⟩
                case measure => simp [intOf]; omega
              · by_cases hr : r = 0
                · subst hr
                  have HS2 := Lib.hid (HSQ2.out.set hk12 true)
                  have HR2 := Lib.hid (IO_far HRQ2.out HUG2.out k (.bool true))
                  have HB2 := Lib.hid (HBQ2.out.setCell (p := ⟨Sb, k, none⟩) hwS (.bool true))
                  have HG2 := Lib.hid (HGQ2.out.far (p := ⟨Sb, k, none⟩) hGS (.bool true))
                  have HST := Lib.hid (show ∀ i, updB (inn ts a k) k true i = inn ts a (k + 1) i from inn_step (by rw [HBV.out, HZR.out]; rfl))
                  go_wp2_with fail
                  go_roundw
                  case rel => exact ⟨k + 1, by omega, by go_num, HS2.out.congr (fun i _ => HST.out i), HR2.out, HG2.out, HB2.out⟩
                  case measure => simp [intOf]; omega
                · have q1 : decide (r = 0) = false := decide_eq_false hr
                  have q2 : (r == 0) = false := by simpa using hr
                  have HS2 := Lib.hid (HSQ2.out.set hk12 false)
                  have HR2 := Lib.hid (IO_far HRQ2.out HUG2.out k (.bool false))
                  have HB2 := Lib.hid (HBQ2.out.setCell (p := ⟨Sb, k, none⟩) hwS (.bool false))
                  have HG2 := Lib.hid (HGQ2.out.far (p := ⟨Sb, k, none⟩) hGS (.bool false))
                  have HST := Lib.hid (show ∀ i, updB (inn ts a k) k false i = inn ts a (k + 1) i from inn_step (by rw [HBV.out, HZR.out, q2]; rfl))
                  go_wp2_with fail
                  go_roundw
                  case rel => exact ⟨k + 1, by omega, by go_num, HS2.out.congr (fun i _ => HST.out i), HR2.out, HG2.out, HB2.out⟩
                  case measure => simp [intOf]; omega
            · have hkd2 : decide (k < n) = false := by simpa using hlt2
              obtain rfl : k = n := by omega
              have HS9 := Lib.hid (HSQ2.out.congr (g := st ts (a + 1)) (fun i _ => by rw [← HL.out]; exact inn_end ts a i))
              go_wp2_with fail
              go_roundw
              case rel => exact ⟨a + 1, by omega, by go_num, HS9.out, HGQ2.out, HBQ2.out⟩
              case measure => simp [intOf]; omega
        · have hkd : decide (a ≤ 2) = false := by simpa using hlt
          have hkd2 : decide ((a : Int) ≤ 2) = false := by simp; omega
          obtain rfl : a = 3 := by omega
          have HBS := Lib.hid (show BsAt wr Sb 0 ((List.range 12).map (st ts 3)) from fun i b hi => by
            have h12 : i < 12 := by have := lt_at hi; simpa using this
            rw [List.getElem?_map, List.getElem?_range h12] at hi
            obtain rfl := Option.some.inj hi
            exact ⟨HSQ.out.lt, by rw [Nat.zero_add]; exact HSQ.out.at_ h12⟩)
          go_wp2_with fail
          refine (marked_any Sb 0 12 _ _ (Lib.hid (by simp)) (by decide) HBS).mono ?_
          rintro e w9 ⟨A9, c9, rfl, hO, b9⟩
          rw [tru_ex HG.out (by rw [HL.out]; exact hn12)] at hO ⊢
          have HO := Lib.hid (own_mono hO HBQ.out.size)
          have HB9 := Lib.hid (HBQ.out.trans (b9.mono HBQ.out.size))
          clear hO b9
          go_wp2_with fail
          go_ret2
          exact ⟨_, rfl, HO.out, HB9.out⟩
end Go.Proofs.YtiimegmaokfpgabGreatDoor.phx

namespace Go.Proofs.YtiimegmaokfpgabGreatDoor.ty
open Go.RowKit
open reads base
set_option linter.unusedVariables false

/-- a list of ints in memory, from the beginning of a block on -/
def InAt (w : World) (B : Nat) (A : Option Addr) (n : Nat) (xs : List Int) : Prop :=
  xs.length = n ∧ ∀ (k : Nat) x, xs[k]? = some x → ∃ g, A = some ⟨g, 0, none⟩ ∧ g < B ∧ w.cell? ⟨g, k, none⟩ = some (.int .i64 x)
theorem InAt.below {w w' : World} {B : Nat} {A : Option Addr} {n : Nat} {xs : List Int} (h : InAt w B A n xs) (hb : Below B w w') : InAt w' B A n xs :=
  ⟨h.1, fun k x hx => by
    obtain ⟨g, e, hg, h0⟩ := h.2 k x hx
    exact ⟨g, e, hg, (hb.cell (p := ⟨g, k, none⟩) hg).trans h0⟩⟩
theorem InAt.more {w : World} {B B' : Nat} {A : Option Addr} {n : Nat} {xs : List Int} (h : InAt w B A n xs) (hB : B ≤ B') : InAt w B' A n xs :=
  ⟨h.1, fun k x hx => by
    obtain ⟨g, e, hg, h0⟩ := h.2 k x hx
    exact ⟨g, e, by omega, h0⟩⟩
theorem InAt.step {w w' : World} {A : Option Addr} {n : Nat} {xs : List Int} (h : InAt w w.heap.size A n xs) (hb : Below w.heap.size w w') : InAt w' w'.heap.size A n xs := (h.below hb).more hb.size
theorem InAt.alloc {w : World} {A : Option Addr} {n : Nat} {xs : List Int} (h : InAt w w.heap.size A n xs) (o : Obj) : InAt (w.alloc o) (w.alloc o).heap.size A n xs := h.step ((Below.refl _ _).alloc (Nat.le_refl _) o)
theorem InAt.il {w : World} {B : Nat} {A : Option Addr} {n : Nat} {xs : List Int} (h : InAt w B A n xs) : ints.IL w A n xs :=
  ⟨h.1, fun k x hx => by
    obtain ⟨g, e, hg, h0⟩ := h.2 k x hx
    exact ⟨g, e, h0⟩⟩
theorem own_In {w : World} {base c n : Nat} {e : TypeId} {A : Option Addr} {xs : List Int} (hn : xs.length = n) (h : w.ownsRow base e 1 (.slice A n c) n (ints.intsV xs)) : InAt w w.heap.size A n xs := by
  refine ⟨hn, fun k x hx => ?_⟩
  have hk : k < xs.length := (List.getElem?_eq_some_iff.1 hx).1
  obtain ⟨g, cap, hv, -, hg⟩ := h.form (by omega)
  injection hv with hA _ hc
  subst hA hc
  exact ⟨g, rfl, hg, by rw [h.cellAt k (by omega)]; simp [ints.intsV, hx]⟩
end Go.Proofs.YtiimegmaokfpgabGreatDoor.ty
