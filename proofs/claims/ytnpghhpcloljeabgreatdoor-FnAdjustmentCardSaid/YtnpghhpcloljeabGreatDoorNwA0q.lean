/-
  A law over code: what is live all along; lists of ints compared.
  FnResiduals: the contracts in letters.
  FnAdjustment: the contracts in letters.
  Conditions: those that each theorem names.
-/
import Derived.Test.YtnpghhpcloljeabGreatDoorTyLegq
import Derived.Test.YtnpghhpcloljeabGreatDoorReadsq
import Derived.Test.YtnpghhpcloljeabGreatDoorCursq
import Derived.Test.YtnpghhpcloljeabGreatDoorLgIq
import Derived.Test.YtnpghhpcloljeabGreatDoorRsAq
import Derived.Test.YtnpghhpcloljeabGreatDoorPhR
import Derived.Test.YtnpghhpcloljeabGreatDoorPgU
import Derived.Test.YtnpghhpcloljeabGreatDoorKiJ
import Derived.Test.YtnpghhpcloljeabGreatDoorKiN
import Derived.Test.YtnpghhpcloljeabGreatDoorKuMq
import Derived.Test.YtnpghhpcloljeabGreatDoorNqG0q
import Derived.Deep.RegionHeld3
import Derived.Deep.DeepCutAuto
import Derived.OwnWalk
import Derived.Test.YtnpghhpcloljeabGreatDoorNtCq
import Derived.Test.YtnpghhpcloljeabGreatDoorLgRaq
import Derived.Deep.QuietTactic
import Derived.BigQuiet
import Derived.Deep.RegionWith
import Derived.Test.YtnpghhpcloljeabGreatDoorNqAq
import Derived.LoopTactic
import Derived.Test.YtnpghhpcloljeabGreatDoorMostq
import Derived.StillTailTactics
import Derived.Test.YtnpghhpcloljeabGreatDoorPhC
import Derived.Test.YtnpghhpcloljeabGreatDoorMlGq
namespace Go.Proofs.YtnpghhpcloljeabGreatDoor.nw
open Go.RowKit
open reads base ty win rowi
set_option linter.unusedVariables false
set_option linter.unusedSimpArgs false

def LawPost (w : World) (e : Ending) (w' : World) : Prop := e = .returned (.bool true) ∧ Below w.heap.size w w'
/-- what is live all along: the code, the table, and nothing old has turned -/
def St (w : World) (A : Option Addr) (n : Nat) (zs : List UInt8) (v : World) : Prop := Below w.heap.size w v ∧ curs.Code v A n zs ∧ win.Tab v
theorem St.step {w v v' : World} {A : Option Addr} {n : Nat} {zs : List UInt8} (h : St w A n zs v) (hb : Below v.heap.size v v') : St w A n zs v' := ⟨h.1.trans (hb.mono h.1.size), h.2.1.below hb, h.2.2.below hb⟩
theorem St.alloc {w v : World} {A : Option Addr} {n : Nat} {zs : List UInt8} (h : St w A n zs v) (o : Obj) : St w A n zs (v.alloc o) := h.step ((Below.refl _ _).alloc (Nat.le_refl _) o)
theorem own_cap {w : World} {base size n c : Nat} {e : TypeId} {A : Option Addr} {xs : List Value} (h : w.ownsRow base e size (.slice A n c) n xs) : n ≤ c := by
  rcases h.2 with ⟨e1, e2⟩ | ⟨g, cp, cur, e1, _, _, h2, _⟩
  · injection e1 with _ e1 e3; omega
  · injection e1 with _ e1 e3; subst e3; exact h2
theorem vints_b {A A' : Option Addr} {n c c' : Nat} {xs : List Int} {w : World} (hn : n ≤ 2000000) (h : Hid (ints.IL w A n xs)) (h' : Hid (ints.IL w A' n xs)) :
    Calls Tryz.prog 11 #[.slice A n c, .slice A' n c'] w (APost (.bool true) w) :=
  (vs.vints_any A A' n c c' xs w hn h h').mono (by rintro e w' ⟨rfl, m, rfl⟩; exact ⟨rfl, ends.below_drewN (Below.refl _ _) m⟩)
end Go.Proofs.YtnpghhpcloljeabGreatDoor.nw

namespace Go.Proofs.YtnpghhpcloljeabGreatDoor.rsb
open Go.RowKit
open reads base ty win lg rowi hs nt nq dt ml pg ph lp lpi bl nw rs9
set_option linter.unusedVariables false
set_option linter.unusedSimpArgs false
section
variable {A : Option Addr} {n cap : Nat} {ts : List Lg} {I : List Int} {G : Bool} {v : Value} {q i : Int} {w : World}
theorem tc_i (h0 : Hid (ansTc ts = v)) (hn : n ≤ 2000000) (hts : Hid (LgAt w w.heap.size A n ts)) (hT : Hid (win.Tab w)) : Calls Tryz.prog 12 #[.slice A n cap] w (APost v w) := by
  rw [← h0.out]; exact pg.treeCount_impl A n cap ts w hn hts hT
theorem rs_i (h0 : Hid (ansRs ts q i = v)) (hn : n ≤ 2000000) (hts : Hid (LgAt w w.heap.size A n ts)) (hT : Hid (win.Tab w)) : Calls Tryz.prog 18 #[.slice A n cap, .int .i64 q, .int .i64 i] w (APost v w) := by
  rw [← h0.out]; exact residualOf_impl A n cap ts q i w hn hts hT
theorem br_i (h0 : Hid (brIds ts = I)) (h1 : Hid (goodLg ts = G)) (hn : n ≤ 2000000) (hts : Hid (LgAt w w.heap.size A n ts)) (hT : Hid (win.Tab w)) : Calls Tryz.prog 17 #[.slice A n cap] w (LPost I G w) := by
  rw [← h0.out, ← h1.out]; exact bridgesOf_impl A n cap ts w hn hts hT
end
end Go.Proofs.YtnpghhpcloljeabGreatDoor.rsb

namespace Go.Proofs.YtnpghhpcloljeabGreatDoor.adb
open Go.RowKit
open reads base ty win lg rowi hs nt nq dt mt ml pg ph phb lp lpi bl nw rs9 ad9
set_option linter.unusedVariables false
set_option linter.unusedSimpArgs false

section
variable {A A2 : Option Addr} {n cap n2 c2 : Nat} {ts : List Lg} {I cs : List Int} {G : Bool} {v : Value} {q i d den : Int} {w : World}
theorem ax_i (h0 : Hid (axL ts q = I)) (h1 : Hid (axD ts q = d)) (h2 : Hid (axOk ts q = G)) (hn : n ≤ 2000000) (hts : Hid (LgAt w w.heap.size A n ts)) (hT : Hid (win.Tab w)) : Calls Tryz.prog 9 #[.slice A n cap, .int .i64 q] w (A3Post I d G w) := by
  rw [← h0.out, ← h1.out, ← h2.out]; exact pg.adjustAxis_impl A n cap ts q w hn hts hT
theorem ax_m (h0 : Hid (axL ts q = I)) (h1 : Hid (axD ts q = d)) (h2 : Hid (axOk ts q = G)) (hn : n ≤ 2000000) (hts : Hid (LgAt w w.heap.size A n ts)) : Calls Tryz.prog 10 #[.slice A n cap, .int .i64 q] w (A3Post I d G w) := by
  rw [← h0.out, ← h1.out, ← h2.out]; exact ml.adjustAxis_model A n cap ts q w hn hts
theorem ps_i (h0 : Hid (psIds ts = I)) (h1 : Hid (goodLg ts = G)) (hn : n ≤ 2000000) (hts : Hid (LgAt w w.heap.size A n ts)) (hT : Hid (win.Tab w)) : Calls Tryz.prog 13 #[.slice A n cap] w (LPost I G w) := by
  rw [← h0.out, ← h1.out]; exact nq.placed_impl A n cap ts w hn hts hT
theorem cl_i (h0 : Hid (clIds ts = I)) (h1 : Hid (goodLg ts = G)) (hn : n ≤ 2000000) (hts : Hid (LgAt w w.heap.size A n ts)) (hT : Hid (win.Tab w)) : Calls Tryz.prog 14 #[.slice A n cap] w (LPost I G w) := by
  rw [← h0.out, ← h1.out]; exact nq.closing_impl A n cap ts w hn hts hT
theorem bl_i (h0 : Hid (ansBl ts q cs den = v)) (hn : n ≤ 2000000) (hn2 : n2 ≤ 2000000) (hts : Hid (LgAt w w.heap.size A n ts)) (hcs : Hid (InAt w w.heap.size A2 n2 cs)) (hT : Hid (win.Tab w)) : Calls Tryz.prog 16 #[.slice A n cap, .int .i64 q, .slice A2 n2 c2, .int .i64 den] w (APost v w) := by
  rw [← h0.out]; exact phb.balanced_impl A n cap ts q A2 n2 c2 cs den w hn hn2 hts hcs hT
theorem bl_m (h0 : Hid (ansBl ts q cs den = v)) (hn : n ≤ 2000000) (hn2 : n2 ≤ 2000000) (hts : Hid (LgAt w w.heap.size A n ts)) (hcs : Hid (InAt w w.heap.size A2 n2 cs)) : Calls Tryz.prog 22 #[.slice A n cap, .int .i64 q, .slice A2 n2 c2, .int .i64 den] w (APost v w) := by
  rw [← h0.out]; exact phb.balanced_model A n cap ts q A2 n2 c2 cs den w hn hn2 hts hcs
theorem rs_m (h0 : Hid (ansRs ts q i = v)) (hn : n ≤ 2000000) (hts : Hid (LgAt w w.heap.size A n ts)) : Calls Tryz.prog 20 #[.slice A n cap, .int .i64 q, .int .i64 i] w (APost v w) := by
  rw [← h0.out]; exact residualOf_model A n cap ts q i w hn hts
end
end Go.Proofs.YtnpghhpcloljeabGreatDoor.adb
