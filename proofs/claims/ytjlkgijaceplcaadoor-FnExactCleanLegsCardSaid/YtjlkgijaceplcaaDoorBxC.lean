/-
  The reverse of a leg by the program; its shift is the opposite one.
  Ways in memory; whether one begins a step at a station, its legs, its length, by the program.
  The search for a way, by the program.
  The exits of all stations, by the program.
  A way from the one end of a leg to the other one by open legs, by the program.
  The loop of a closing leg, and whether a leg is needed, by the program.
  LoopOf, LoopLegs and LoopLength, by the program.
  Placed ends and a number between bounds under a name, by the program; a leg and a network in memory.
  IsBridge and BridgesOf, by the program.
  Copies of legs, the strain without a leg, by the program.
  SuspectLeg by the program.
  Conditions: those that each theorem names.
-/
import Derived.Test.YtjlkgijaceplcaaDoorLgRa
import Derived.Test.YtjlkgijaceplcaaDoorLgI
import Derived.Test.YtjlkgijaceplcaaDoorLgD
import Derived.Test.YtjlkgijaceplcaaDoorBear
import Derived.Deep.DeepCutAuto
import Derived.Deep.RegionWith
import Derived.Deep.QuietTactic
import Derived.BigQuiet
import Derived.Test.YtjlkgijaceplcaaDoorBxB
import Derived.OwnWalk
import Derived.LoopTactic
import Derived.Deep.LoopGhost
import Derived.Deep.RegionHeld3
import Derived.Test.YtjlkgijaceplcaaDoorLgA
import Derived.Deep.MidRow
import Derived.Test.YtjlkgijaceplcaaDoorNqZ
import Derived.Test.YtjlkgijaceplcaaDoorBlA
import Derived.Test.YtjlkgijaceplcaaDoorBxE
import Derived.Lib.SliceRun
import Derived.Laws.AppendOwnNone
namespace Go.Proofs.YtjlkgijaceplcaaDoor.lpi
open Go.RowKit
open reads base ty win lg lgi
set_option linter.unusedVariables false
set_option linter.unusedSimpArgs false

end Go.Proofs.YtjlkgijaceplcaaDoor.lpi

namespace Go.Proofs.YtjlkgijaceplcaaDoor.lpi
open Go.RowKit
open reads base ty lg rowi hs nt lp
set_option linter.unusedVariables false
set_option linter.unusedSimpArgs false

/-- a way in memory, each step in a block of its own -/
def WayAt (w : World) (B : Nat) : Option Addr → List (Int × Int) → Prop
  | a, [] => a = none
  | a, (s, i) :: W => ∃ g u, a = some ⟨g, 0, none⟩ ∧ g < B ∧ Blk w g 137 #[.int .i64 s, .int .i64 i, .pointer u] ∧ WayAt w B u W
theorem WayAt.below {w w' : World} {B : Nat} (hb : Below B w w') : ∀ {W : List (Int × Int)} {a : Option Addr}, WayAt w B a W → WayAt w' B a W
  | [], _, h => h
  | (s, i) :: W, a, h => by
    obtain ⟨g, u, e, hg, hk, h2⟩ := h
    exact ⟨g, u, e, hg, hk.below hb hg, WayAt.below hb h2⟩
theorem WayAt.more {w : World} {B B' : Nat} (hB : B ≤ B') : ∀ {W : List (Int × Int)} {a : Option Addr}, WayAt w B a W → WayAt w B' a W
  | [], _, h => h
  | (s, i) :: W, a, h => by
    obtain ⟨g, u, e, hg, hk, h2⟩ := h
    exact ⟨g, u, e, by omega, hk, WayAt.more hB h2⟩
theorem WayAt.step {w w' : World} {W : List (Int × Int)} {a : Option Addr} (h : WayAt w w.heap.size a W) (hb : Below w.heap.size w w') : WayAt w' w'.heap.size a W := (h.below hb).more hb.size
theorem WayAt.alloc {w : World} {W : List (Int × Int)} {a : Option Addr} (h : WayAt w w.heap.size a W) (o : Obj) : WayAt (w.alloc o) (w.alloc o).heap.size a W := h.step ((Below.refl _ _).alloc (Nat.le_refl _) o)
/-- a step put ahead -/
theorem WayAt.cons {w : World} {W : List (Int × Int)} {a : Option Addr} (h : WayAt w w.heap.size a W) (s i : Int) : WayAt (w.alloc (.cells #[.int .i64 s, .int .i64 i, .pointer a] 137)) (w.alloc (.cells #[.int .i64 s, .int .i64 i, .pointer a] 137)).heap.size (some ⟨w.heap.size, 0, none⟩) ((s, i) :: W) :=
  ⟨w.heap.size, a, rfl, by simp, Blk.new _ _ _, h.alloc _⟩
end Go.Proofs.YtjlkgijaceplcaaDoor.lpi

namespace Go.Proofs.YtjlkgijaceplcaaDoor.lpi
open Go.RowKit
open reads base ty lg rowi hs nt lp
set_option linter.unusedVariables false
set_option linter.unusedSimpArgs false

/-- exits of a station in memory -/
def RowEx (w : World) (B : Nat) (A : Option Addr) (m : Nat) (xs : List (Int × Int)) : Prop :=
  xs.length = m ∧ ∀ k j t, xs[k]? = some (j, t) → ∃ h, A = some ⟨h, 0, none⟩ ∧ h < B ∧ w.cell? ⟨h, k * 2, none⟩ = some (.int .i64 j) ∧ w.cell? ⟨h, k * 2 + 1, none⟩ = some (.int .i64 t)
/-- the exits of all stations in memory -/
def ExAt (w : World) (B g : Nat) (R : Int → List (Int × Int)) : Prop :=
  g < B ∧ ∀ s : Nat, s < 8 → ∃ A m c, w.cell? ⟨g, s, none⟩ = some (.slice A m c) ∧ m ≤ 12 ∧ RowEx w B A m (R (s : Int))
theorem RowEx.below {w w' : World} {B : Nat} {A : Option Addr} {m : Nat} {xs : List (Int × Int)} (h : RowEx w B A m xs) (hb : Below B w w') : RowEx w' B A m xs :=
  ⟨h.1, fun k j t hk => by
    obtain ⟨g, e, hg, h0, h1⟩ := h.2 k j t hk
    exact ⟨g, e, hg, (hb.cell (p := ⟨g, k * 2, none⟩) hg).trans h0, (hb.cell (p := ⟨g, k * 2 + 1, none⟩) hg).trans h1⟩⟩
theorem RowEx.more {w : World} {B B' : Nat} {A : Option Addr} {m : Nat} {xs : List (Int × Int)} (h : RowEx w B A m xs) (hB : B ≤ B') : RowEx w B' A m xs :=
  ⟨h.1, fun k j t hk => by
    obtain ⟨g, e, hg, h0⟩ := h.2 k j t hk
    exact ⟨g, e, by omega, h0⟩⟩
theorem ExAt.below {w w' : World} {B g : Nat} {R : Int → List (Int × Int)} (h : ExAt w B g R) (hb : Below B w w') : ExAt w' B g R :=
  ⟨h.1, fun s hs => by
    obtain ⟨A, m, c, e, hm, hr⟩ := h.2 s hs
    exact ⟨A, m, c, (hb.cell (p := ⟨g, s, none⟩) h.1).trans e, hm, hr.below hb⟩⟩
theorem ExAt.more {w : World} {B B' g : Nat} {R : Int → List (Int × Int)} (h : ExAt w B g R) (hB : B ≤ B') : ExAt w B' g R :=
  ⟨by have := h.1; omega, fun s hs => by
    obtain ⟨A, m, c, e, hm, hr⟩ := h.2 s hs
    exact ⟨A, m, c, e, hm, hr.more hB⟩⟩
theorem ExAt.step {w w' : World} {g : Nat} {R : Int → List (Int × Int)} (h : ExAt w w.heap.size g R) (hb : Below w.heap.size w w') : ExAt w' w'.heap.size g R := (h.below hb).more hb.size
/-- a way with the first station that is asked for, or none if there is none -/
def FPo (ts : List Lg) (O : Int → Prop) (z e st : Int) (P : List (Int × Int)) (w : World) (en : Ending) (w' : World) : Prop :=
  ∃ a', en = .returned (.pointer a') ∧ Below w.heap.size w w' ∧ ((∃ W g, a' = some ⟨g, 0, none⟩ ∧ WayAt w' w'.heap.size a' W ∧ Wy ts O z e W ∧ hd W = st) ∨ (a' = none ∧ NoWay ts O z e st P))
end Go.Proofs.YtjlkgijaceplcaaDoor.lpi

namespace Go.Proofs.YtjlkgijaceplcaaDoor.lpi
open Go.RowKit
open reads base ty lg rowi hs nt lp
set_option linter.unusedVariables false
set_option linter.unusedSimpArgs false

/-- exits as values -/
def flatEx (xs : List (Int × Int)) : List Value := xs.flatMap fun p => [.int .i64 p.1, .int .i64 p.2]
theorem flatEx_app (xs : List (Int × Int)) (j t : Int) : flatEx (xs ++ [(j, t)]) = flatEx xs ++ [.int .i64 j, .int .i64 t] := by simp [flatEx]
theorem flatEx_at : ∀ (xs : List (Int × Int)) (k : Nat) (j t : Int), xs[k]? = some (j, t) → (flatEx xs)[k * 2]? = some (.int .i64 j) ∧ (flatEx xs)[k * 2 + 1]? = some (.int .i64 t)
  | [], k, j, t, h => by simp at h
  | d :: xs, 0, j, t, h => by
    simp at h
    subst h
    exact ⟨rfl, rfl⟩
  | d :: xs, k + 1, j, t, h => by
    obtain ⟨k0, k1⟩ := flatEx_at xs k j t (by simpa using h)
    have e : flatEx (d :: xs) = .int .i64 d.1 :: .int .i64 d.2 :: flatEx xs := rfl
    rw [e, show (k + 1) * 2 = k * 2 + 1 + 1 by omega, show k * 2 + 1 + 1 + 1 = (k * 2 + 1) + 1 + 1 by omega]
    exact ⟨by simpa using k0, by simpa using k1⟩
def arr8 (F : Nat → Value) : Array Value := #[F 0, F 1, F 2, F 3, F 4, F 5, F 6, F 7]
def upd {α : Type} (F : Nat → α) (s : Nat) (v : α) : Nat → α := fun q => if q = s then v else F q
theorem upd_same {α : Type} (F : Nat → α) (s : Nat) (v : α) : upd F s v s = v := if_pos rfl
theorem upd_ne {α : Type} (F : Nat → α) {s q : Nat} (v : α) (h : ¬ q = s) : upd F s v q = F q := if_neg h
theorem arr8_get (F : Nat → Value) {s : Nat} (h : s < 8) : (arr8 F)[s]? = some (F s) := by
  have : s = 0 ∨ s = 1 ∨ s = 2 ∨ s = 3 ∨ s = 4 ∨ s = 5 ∨ s = 6 ∨ s = 7 := by omega
  rcases this with rfl | rfl | rfl | rfl | rfl | rfl | rfl | rfl <;> rfl
theorem arr8_set (F : Nat → Value) (v : Value) {s : Nat} (h : s < 8) : (arr8 F).setIfInBounds s v = arr8 (upd F s v) := by
  have : s = 0 ∨ s = 1 ∨ s = 2 ∨ s = 3 ∨ s = 4 ∨ s = 5 ∨ s = 6 ∨ s = 7 := by omega
  rcases this with rfl | rfl | rfl | rfl | rfl | rfl | rfl | rfl <;> rfl
/-- the table of exits while it grows: the marks' box, the table's cells, a row for each station, each in a block of its own -/
def EXb (w : World) (g Bx : Nat) (C : Array Value) (F : Nat → Value) (R : Nat → List (Int × Int)) (v : World) : Prop :=
  Below w.heap.size w v ∧ Blk v Bx 71 C ∧ Blk v g 146 (arr8 F) ∧ (∀ s, s < 8 → ∃ A m c, F s = .slice A m c ∧ (R s).length = m ∧ v.ownsRow w.heap.size 148 2 (.slice A m c) m (flatEx (R s))) ∧ (∀ s t, s < 8 → t < 8 → ¬ s = t → ∀ b, (F s).ownBlock = some b → ¬ (F t).ownBlock = some b) ∧ w.heap.size ≤ g
section
variable {w v v' : World} {g Bx : Nat} {C : Array Value} {F : Nat → Value} {R R' : Nat → List (Int × Int)}
theorem EXb.step (h : EXb w g Bx C F R v) (hb : Below v.heap.size v v') : EXb w g Bx C F R v' := by
  obtain ⟨h1, h2, h3, h4, h5, h6⟩ := h
  refine ⟨h1.trans (hb.mono h1.size), h2.below hb h2.lt, h3.below hb h3.lt, fun s hs => ?_, h5, h6⟩
  obtain ⟨A, m, c, e1, e2, e3⟩ := h4 s hs
  exact ⟨A, m, c, e1, e2, row_below e3 hb⟩
theorem EXb.congr (h : EXb w g Bx C F R v) (he : ∀ s, s < 8 → R' s = R s) : EXb w g Bx C F R' v := by
  obtain ⟨h1, h2, h3, h4, h5, h6⟩ := h
  refine ⟨h1, h2, h3, fun s hs => ?_, h5, h6⟩
  rw [he s hs]; exact h4 s hs
theorem EXb.row (h : EXb w g Bx C F R v) (s : Nat) (hs : s < 8) : ∃ A m c, F s = .slice A m c ∧ (R s).length = m ∧ v.ownsRow w.heap.size 148 2 (.slice A m c) m (flatEx (R s)) := h.2.2.2.1 s hs
theorem EXb.cell (h : EXb w g Bx C F R v) (s : Nat) (hs : s < 8) : v.cell? ⟨g, s, none⟩ = some (F s) := (h.2.2.1.cell s).trans (arr8_get F hs)
/-- an exit put behind the others of a station -/
theorem EXb.put (h : EXb w g Bx C F R v) {s : Nat} (hs : s < 8) {A : Option Addr} {m c g8 c8 : Nat} {j t : Int} (hF : F s = .slice A m c) (hl : (R s).length = m) (ho : v'.ownsRow w.heap.size 148 2 (.slice (some ⟨g8, 0, none⟩) (m + 1) c8) (m + 1) (flatEx (R s) ++ [.int .i64 j, .int .i64 t])) (hg : v.grownBy v' (Value.slice A m c).ownBlock) (hat : (Value.slice A m c).ownBlock = some g8 ∨ g8 = v.heap.size) :
    EXb w g Bx C (upd F s (.slice (some ⟨g8, 0, none⟩) (m + 1) c8)) (upd R s (R s ++ [(j, t)])) (v'.setCell ⟨g, s, none⟩ (.slice (some ⟨g8, 0, none⟩) (m + 1) c8)) := by
  obtain ⟨h1, h2, h3, h4, h5, h6⟩ := h
  obtain ⟨A0, m0, c0, e1, e2, e3⟩ := h4 s hs
  have e0 : Value.slice A0 m0 c0 = .slice A m c := by rw [← e1, hF]
  rw [e0] at e3
  have m0m : m0 = m := by injection e0
  rw [m0m] at e3
  have hB1 : Below w.heap.size w v' := h1.grown hg h1.size (fun b e => (e3.lt b e).1)
  have n2 : some Bx ≠ (Value.slice A m c).ownBlock := fun q => own_blk_ne e3 h2 (by decide) q.symm
  have n3 : some g ≠ (Value.slice A m c).ownBlock := fun q => own_blk_ne e3 h3 (by decide) q.symm
  have k2 := h2.grown hg n2
  have k3 := h3.grown hg n3
  have far : ∀ {A1 : Option Addr} {m1 c1 : Nat} {us : List Value}, v'.ownsRow w.heap.size 148 2 (.slice A1 m1 c1) m1 us → (v'.setCell ⟨g, s, none⟩ (.slice (some ⟨g8, 0, none⟩) (m + 1) c8)).ownsRow w.heap.size 148 2 (.slice A1 m1 c1) m1 us := fun {A1 m1 c1 us} hr =>
    hr.kept (row := some g) ⟨rfl, rfl, rfl, by simp [World.setCell], fun j hj hn => Below.heap_setCell v' ⟨g, s, none⟩ _ j (by rintro rfl; exact hn rfl)⟩ (.inr (own_blk_ne hr k3 (by decide)))
  refine ⟨hB1.setCell h6 _, k2.far (Blk.ne_ k2 k3 (by decide)) _, ?_, fun q hq => ?_, fun p q hp hq hpq b e => ?_, h6⟩
  · rw [← arr8_set F _ hs]; exact k3.set_ s _
  · by_cases e : q = s
    · subst e
      rw [upd_same, upd_same]
      exact ⟨_, _, _, rfl, by rw [List.length_append, hl]; rfl, by rw [flatEx_app]; exact far ho⟩
    · rw [upd_ne F _ e, upd_ne R _ e]
      obtain ⟨A2, m2, c2, f1, f2, f3⟩ := h4 q hq
      refine ⟨A2, m2, c2, f1, f2, far (f3.kept hg ?_)⟩
      cases ob : (Value.slice A2 m2 c2).ownBlock with
      | none => exact .inl rfl
      | some b => exact .inr (fun e2 => h5 s q hs hq (fun q2 => e q2.symm) b (by rw [hF]; exact e2.symm) (by rw [f1]; exact ob))
  · have old : ∀ r, r < 8 → ¬ r = s → ∀ b, (F r).ownBlock = some b → ¬ b = g8 := fun r hr hrs b eb e8 => by
      rcases hat with z | z
      · exact h5 s r hs hr (fun q2 => hrs q2.symm) b (by rw [hF, e8]; exact z) eb
      · obtain ⟨A2, m2, c2, f1, f2, f3⟩ := h4 r hr
        rw [f1] at eb
        have := (f3.lt b eb).2
        omega
    by_cases e1 : p = s
    · by_cases e2 : q = s
      · exact absurd (e1.trans e2.symm) hpq
      · rw [e1, upd_same] at e
        have e8 : g8 = b := by simpa [Value.ownBlock] using e
        rw [upd_ne F _ e2]
        exact fun eq => old q hq e2 b eq e8.symm
    · rw [upd_ne F _ e1] at e
      by_cases e2 : q = s
      · rw [e2, upd_same]
        intro eq
        have e8 : g8 = b := by simpa [Value.ownBlock] using eq
        exact old p hp e1 b e e8.symm
      · rw [upd_ne F _ e2]; exact h5 p q hp hq hpq b e
/-- the table as it is read -/
theorem EXb.at_ (h : EXb w g Bx C F R v) (hm : ∀ s, s < 8 → (R s).length ≤ 12) : ExAt v v.heap.size g (fun s => R s.toNat) := by
  refine ⟨h.2.2.1.lt, fun s hs => ?_⟩
  obtain ⟨A, m, c, e1, e2, e3⟩ := h.row s hs
  refine ⟨A, m, c, by rw [h.cell s hs, e1], by rw [← e2]; exact hm s hs, by show (R ((s : Int).toNat)).length = m; rw [Int.toNat_natCast]; exact e2, fun k j t hk => ?_⟩
  have hk : (R ((s : Int).toNat))[k]? = some (j, t) := hk
  rw [Int.toNat_natCast] at hk
  have hkm : k < m := by have := lt_at hk; rw [e2] at this; exact this
  obtain ⟨b, cap, hv, -, hlt⟩ := e3.form (by omega)
  injection hv with hA _ _
  subst hA
  obtain ⟨f0, f1⟩ := flatEx_at (R s) k j t hk
  have hsz := e3.1
  exact ⟨b, rfl, hlt, by rw [e3.cellAt (k * 2) (by omega)]; exact f0, by rw [e3.cellAt (k * 2 + 1) (by omega)]; exact f1⟩
end
end Go.Proofs.YtjlkgijaceplcaaDoor.lpi

namespace Go.Proofs.YtjlkgijaceplcaaDoor.lpi
open Go.RowKit
open reads base ty lg rowi hs nt lp
set_option linter.unusedVariables false
set_option linter.unusedSimpArgs false

end Go.Proofs.YtjlkgijaceplcaaDoor.lpi

namespace Go.Proofs.YtjlkgijaceplcaaDoor.lpi
open Go.RowKit
open reads base ty lg lgi win rowi hs nt nq sn lp
set_option linter.unusedVariables false
set_option linter.unusedSimpArgs false

end Go.Proofs.YtjlkgijaceplcaaDoor.lpi

namespace Go.Proofs.YtjlkgijaceplcaaDoor.lpi
open Go.RowKit
open reads base ty lg lgi win rowi hs nt nq sn lp
set_option linter.unusedVariables false
set_option linter.unusedSimpArgs false

end Go.Proofs.YtjlkgijaceplcaaDoor.lpi

namespace Go.Proofs.YtjlkgijaceplcaaDoor.nq
open Go.RowKit
open reads base ty lg lgi win hs nt rowi sn
set_option linter.unusedVariables false
set_option linter.unusedSimpArgs false

/-- a leg in a list, a network -/
def LW (gL k G : Nat) (x : Lg) (C : Array Value) (v : World) : Prop := (v.cell? ⟨gL, k * 5, none⟩ = some (.int .i64 x.frm) ∧ v.cell? ⟨gL, k * 5 + 1, none⟩ = some (.int .i64 x.to_) ∧ v.cell? ⟨gL, k * 5 + 2, none⟩ = some (.int .i64 x.tape) ∧ v.cell? ⟨gL, k * 5 + 3, none⟩ = some (.int .i64 x.comp) ∧ v.cell? ⟨gL, k * 5 + 4, none⟩ = some (.int .i64 x.slope)) ∧ gL < v.heap.size ∧ Blk v G 73 C
theorem LW.step {gL k G : Nat} {x : Lg} {C : Array Value} {v v' : World} (h : LW gL k G x C v) (hb : Below v.heap.size v v') : LW gL k G x C v' := by
  obtain ⟨⟨q0, q1, q2, q3, q4⟩, l, B⟩ := h
  have A : ∀ o, v'.cell? ⟨gL, o, none⟩ = v.cell? ⟨gL, o, none⟩ := fun o => hb.cell (p := ⟨gL, o, none⟩) l
  exact ⟨⟨(A _).trans q0, (A _).trans q1, (A _).trans q2, (A _).trans q3, (A _).trans q4⟩, by have := hb.size; omega, B.below hb B.lt⟩
/-- a leg in a box, a network -/
def LB (X G : Nat) (x : Lg) (C : Array Value) (v : World) : Prop := Blk v X 54 #[.int .i64 x.frm, .int .i64 x.to_, .int .i64 x.tape, .int .i64 x.comp, .int .i64 x.slope] ∧ Blk v G 73 C
theorem LB.step {X G : Nat} {x : Lg} {C : Array Value} {v v' : World} (h : LB X G x C v) (hb : Below v.heap.size v v') : LB X G x C v' := ⟨h.1.below hb h.1.lt, h.2.below hb h.2.lt⟩
end Go.Proofs.YtjlkgijaceplcaaDoor.nq

namespace Go.Proofs.YtjlkgijaceplcaaDoor.lpi
open Go.RowKit
open reads base ty lg lgi win rowi hs nt nq sn lp
set_option linter.unusedVariables false
set_option linter.unusedSimpArgs false

end Go.Proofs.YtjlkgijaceplcaaDoor.lpi

namespace Go.Proofs.YtjlkgijaceplcaaDoor.bl
open Go.RowKit
open reads base ty lg lgi win hs nt nq rowi sn mt ml dt pg ph lp
set_option linter.unusedVariables false
set_option linter.unusedSimpArgs false

set_option maxHeartbeats 4000000 in
set_option maxRecDepth 100000 in
theorem clone_any (A : Option Addr) (n c : Nat) (ts : List Lg) (w : World) (hn : n ≤ 2000000) (hts : Hid (LgAt w w.heap.size A n ts)) :
    Calls Tryd.prog 66 #[.slice A n c] w (QLo ts w) := by
  obtain ⟨i0, hi, hz0, hz1, hz2⟩ := info_parts infoLg
  have HL := Lib.hid hts.out.1
  have HFL := Lib.hid (show (flatLg ts).length = n * 5 by rw [flatLg_len, HL.out])
  have q22 : ∀ (W : World) (a : Option Addr) (n c n' c' : Nat), (binOp .eql 26 (.slice a n c) (.slice none n' c')).run Tryd.prog W = .ok (.bool a.isNone) W := fun W a n c n' c' => Lib.run_eql_slice_nil W _ _ a n c n' c' Tryd.underlying26
  cases A with
  | none =>
    have hn0 := nil_cap hts.out rfl
    have ht : ts = [] := List.length_eq_zero_iff.1 (by rw [HL.out]; exact hn0)
    subst ht
    clear HFL hts HL
    go_enter Tryd.func66, Tryd.ntmps66
    go_wp2_with fail
    go_ret
    exact ⟨none, 0, rfl, World.ownsRow_nil _ _ _ _, Below.refl _ _⟩
  | some ad =>
    have HRow := Lib.hid (show (w.alloc (.cells #[] 54)).ownsRow w.heap.size 54 5 (.slice (some ⟨w.heap.size, 0, none⟩) 0 0) 0 [] from World.ownsRow_made w #[] 0 (Nat.le_refl _) (by decide) (by simp))
    have HB0 := Lib.hid ((Below.refl w.heap.size w).alloc (Nat.le_refl _) (.cells #[] 54))
    have HC := Lib.hid (flat_src (hts.out.below HB0.out))
    go_enter Tryd.func66, Tryd.ntmps66
    go_wp2_with (at_builtin; refine wpList_append_own _ rfl _ _ 26 rfl w.heap.size 54 i0 (.agg #[.int .i64 0, .int .i64 0, .int .i64 0, .int .i64 0, .int .i64 0]) 5 40 Tryd.underlying26 hi hz0 hz1 hz2 rfl (by decide) _ _ _ rfl HRow.out ad n c (flatLg ts) rfl HFL.out HC.out (flat_one ts) (by unfold maxLen; omega) (by omega) (by simp) ?_; intro v' w3 hown' hgrow _)
    rw [Nat.zero_add, List.nil_append] at hown'
    have HB3 := Lib.hid (HB0.out.grown hgrow (by simp) (fun j ej => (HRow.out.lt j ej).1))
    obtain ⟨A3, c3, rfl⟩ := row_slice hown'
    have HO := Lib.hid hown'
    clear hown' hgrow
    go_wp2_with fail
    go_ret
    exact ⟨A3, c3, by rw [HL.out]; rfl, by rw [HL.out]; exact HO.out, HB3.out⟩
end Go.Proofs.YtjlkgijaceplcaaDoor.bl

namespace Go.Proofs.YtjlkgijaceplcaaDoor.bl
open Go.RowKit
open reads base ty lg lgi win hs nt nq rowi sn mt ml dt pg ph lp
set_option linter.unusedVariables false
set_option linter.unusedSimpArgs false

theorem run_load_legs {w : World} {g : Nat} {v : Value} (h : w.cell? ⟨g, 0, none⟩ = some v) : (Instr.loadAt 26 (.pointer (some ⟨g, 0, none⟩))).run Tryd.prog w = .ok v w := by
  go_simp
theorem step_loadl {ops : Array Oper} {rest : List Oper} {o : Oper} {a : Act} {Q : Exit → Act → World → Prop} (w : World) (hg : o.guard = none) (p : Operand) (hop : o.op = .load 26 p) (g : Nat) (v : Value) (hp : a.eval p = .pointer (some ⟨g, 0, none⟩)) (hB : w.cell? ⟨g, 0, none⟩ = some v)
    (hK : wpList Tryd.prog ops Q rest (a.put o.dst v) w) : wpList Tryd.prog ops Q (o :: rest) a w := by
  refine wpList_plain hg fun K hK' => ?_
  unfold Oper.wp execOp
  simp only [hop, hp, Sem.run_bind, run_load_legs hB, Result.andThen, Sem.run_pure, Oper.upon]
  exact hK' _ _ hK
end Go.Proofs.YtjlkgijaceplcaaDoor.bl
