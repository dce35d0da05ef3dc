/-
  The reverse of a leg by the program; its shift is the opposite one.
  Ways in memory; whether one begins a step at a station, its legs, its length, by the program.
  The search for a way, by the program.
  The exits of all stations, by the program.
  A way from the one end of a leg to the other one by open legs, by the program.
  The loop of a closing leg, and whether a leg is needed, by the program.
  LoopOf, LoopLegs and LoopLength, by the program.
  Placed ends and a number between bounds under a name, by the program; a leg and a network in memory.
  IsBridge and BridgesOf, by the program.
  Copies of legs, the strain without a leg, by the program.
  SuspectLeg by the program.
  Conditions: those that each theorem names.
-/
import Derived.Test.YtiimegmaokfpgabGreatDoorLgRa
import Derived.Test.YtiimegmaokfpgabGreatDoorLgI
import Derived.Test.YtiimegmaokfpgabGreatDoorLgD
import Derived.Test.YtiimegmaokfpgabGreatDoorBear
import Derived.Deep.DeepCutAuto
import Derived.Deep.RegionWith
import Derived.Deep.QuietTactic
import Derived.BigQuiet
import Derived.Test.YtiimegmaokfpgabGreatDoorBlB
import Derived.OwnWalk
import Derived.LoopTactic
import Derived.Deep.LoopGhost
import Derived.Deep.RegionHeld3
import Derived.Test.YtiimegmaokfpgabGreatDoorLgA
import Derived.Deep.MidRow
import Derived.Test.YtiimegmaokfpgabGreatDoorNqZ
import Derived.Test.YtiimegmaokfpgabGreatDoorBlA
import Derived.Test.YtiimegmaokfpgabGreatDoorBlE
import Derived.Lib.SliceRun
import Derived.Laws.AppendOwnNone
namespace Go.Proofs.YtiimegmaokfpgabGreatDoor.lpi
open Go.RowKit
open reads base ty win lg lgi
set_option linter.unusedVariables false
set_option linter.unusedSimpArgs false
end Go.Proofs.YtiimegmaokfpgabGreatDoor.lpi
namespace Go.Proofs.YtiimegmaokfpgabGreatDoor.lpi
open Go.RowKit
open reads base ty lg rowi hs nt lp
set_option linter.unusedVariables false
set_option linter.unusedSimpArgs false
end Go.Proofs.YtiimegmaokfpgabGreatDoor.lpi
namespace Go.Proofs.YtiimegmaokfpgabGreatDoor.lpi
open Go.RowKit
open reads base ty lg rowi hs nt lp
set_option linter.unusedVariables false
set_option linter.unusedSimpArgs false
end Go.Proofs.YtiimegmaokfpgabGreatDoor.lpi
namespace Go.Proofs.YtiimegmaokfpgabGreatDoor.lpi
open Go.RowKit
open reads base ty lg rowi hs nt lp
set_option linter.unusedVariables false
set_option linter.unusedSimpArgs false
section
variable {w v v' : World} {g Bx : Nat} {C : Array Value} {F : Nat → Value} {R R' : Nat → List (Int × Int)}
end
end Go.Proofs.YtiimegmaokfpgabGreatDoor.lpi
namespace Go.Proofs.YtiimegmaokfpgabGreatDoor.lpi
open Go.RowKit
open reads base ty lg rowi hs nt lp
set_option linter.unusedVariables false
set_option linter.unusedSimpArgs false
end Go.Proofs.YtiimegmaokfpgabGreatDoor.lpi
namespace Go.Proofs.YtiimegmaokfpgabGreatDoor.lpi
open Go.RowKit
open reads base ty lg lgi win rowi hs nt nq sn lp
set_option linter.unusedVariables false
set_option linter.unusedSimpArgs false
end Go.Proofs.YtiimegmaokfpgabGreatDoor.lpi
namespace Go.Proofs.YtiimegmaokfpgabGreatDoor.lpi
open Go.RowKit
open reads base ty lg lgi win rowi hs nt nq sn lp
set_option linter.unusedVariables false
set_option linter.unusedSimpArgs false
end Go.Proofs.YtiimegmaokfpgabGreatDoor.lpi
namespace Go.Proofs.YtiimegmaokfpgabGreatDoor.nq
open Go.RowKit
open reads base ty lg lgi win hs nt rowi sn
set_option linter.unusedVariables false
set_option linter.unusedSimpArgs false
def LB (X G : Nat) (x : Lg) (C : Array Value) (v : World) : Prop := Blk v X 87 #[.int .i64 x.frm, .int .i64 x.to_, .int .i64 x.tape, .int .i64 x.comp, .int .i64 x.slope] ∧ Blk v G 76 C
end Go.Proofs.YtiimegmaokfpgabGreatDoor.nq
namespace Go.Proofs.YtiimegmaokfpgabGreatDoor.lpi
open Go.RowKit
open reads base ty lg lgi win rowi hs nt nq sn lp
set_option linter.unusedVariables false
set_option linter.unusedSimpArgs false
end Go.Proofs.YtiimegmaokfpgabGreatDoor.lpi
namespace Go.Proofs.YtiimegmaokfpgabGreatDoor.bl
open Go.RowKit
open reads base ty lg lgi win hs nt nq rowi sn mt ml dt pg ph lp
set_option linter.unusedVariables false
set_option linter.unusedSimpArgs false
set_option maxHeartbeats 4000000 in
set_option maxRecDepth 100000 in
theorem clone_any (A : Option Addr) (n c : Nat) (ts : List Lg) (w : World) (hn : n ≤ 2000000) (hts : Hid (LgAt w w.heap.size A n ts)) :
    Calls Tryz.prog 111 #[.slice A n c] w (QLo ts w) := by
  obtain ⟨i0, hi, hz0, hz1, hz2⟩ := info_parts infoLg
  have HL := Lib.hid hts.out.1
  have HFL := Lib.hid (show (flatLg ts).length = n * 5 by rw [flatLg_len, HL.out])
  have q22 : ∀ (W : World) (a : Option Addr) (n c n' c' : Nat), (binOp .eql 24 (.slice a n c) (.slice none n' c')).run Tryz.prog W = .ok (.bool a.isNone) W := fun W a n c n' c' => Lib.run_eql_slice_nil W _ _ a n c n' c' Tryz.underlying24
  cases A with
  | none =>
    have hn0 := nil_cap hts.out rfl
    have ht : ts = [] := List.length_eq_zero_iff.1 (by rw [HL.out]; exact hn0)
    subst ht
    clear HFL hts HL
    go_enter Tryz.func111, Tryz.ntmps111
    go_wp2_with fail
    go_ret
    exact ⟨none, 0, rfl, World.ownsRow_nil _ _ _ _, Below.refl _ _⟩
  | some ad =>
    have HRow := Lib.hid (show (w.alloc (.cells #[] 87)).ownsRow w.heap.size 87 5 (.slice (some ⟨w.heap.size, 0, none⟩) 0 0) 0 [] from World.ownsRow_made w #[] 0 (Nat.le_refl _) (by decide) (by simp))
    have HB0 := Lib.hid ((Below.refl w.heap.size w).alloc (Nat.le_refl _) (.cells #[] 87))
    have HC := Lib.hid (flat_src (hts.out.below HB0.out))
    go_enter Tryz.func111, Tryz.ntmps111
    go_wp2_with (at_builtin; refine wpList_append_own _ rfl _ _ 24 rfl w.heap.size 87 i0 (.agg #[.int .i64 0, .int .i64 0, .int .i64 0, .int .i64 0, .int .i64 0]) 5 40 Tryz.underlying24 hi hz0 hz1 hz2 rfl (by decide) _ _ _ rfl HRow.out ad n c (flatLg ts) rfl HFL.out HC.out (flat_one ts) (by unfold maxLen; omega) (by omega) (by simp) ?_; intro v' w3 hown' hgrow _)
    rw [Nat.zero_add, List.nil_append] at hown'
    have HB3 := Lib.hid (HB0.out.grown hgrow (by simp) (fun j ej => (HRow.out.lt j ej).1))
    obtain ⟨A3, c3, rfl⟩ := row_slice hown'
    have HO := Lib.hid hown'
    clear hown' hgrow
    go_wp2_with fail
    go_ret
    exact ⟨A3, c3, by rw [HL.out]; rfl, by rw [HL.out]; exact HO.out, HB3.out⟩
end Go.Proofs.YtiimegmaokfpgabGreatDoor.bl
namespace Go.Proofs.YtiimegmaokfpgabGreatDoor.bl
open Go.RowKit
open reads base ty lg lgi win hs nt nq rowi sn mt ml dt pg ph lp
set_option linter.unusedVariables false
set_option linter.unusedSimpArgs false
theorem run_load_legs {w : World} {g : Nat} {v : Value} (h : w.cell? ⟨g, 0, none⟩ = some v) : (Instr.loadAt 24 (.pointer (some ⟨g, 0, none⟩))).run Tryz.prog w = .ok v w := by
  go_simp
theorem step_loadl {ops : Array Oper} {rest : List Oper} {o : Oper} {a : Act} {Q : Exit → Act → World → Prop} (w : World) (hg : o.guard = none) (p : Operand) (hop : o.op = .load 24 p) (g : Nat) (v : Value) (hp : a.eval p = .pointer (some ⟨g, 0, none⟩)) (hB : w.cell? ⟨g, 0, none⟩ = some v)
    (hK : wpList Tryz.prog ops Q rest (a.put o.dst v) w) : wpList Tryz.prog ops Q (o :: rest) a w := by
  refine wpList_plain hg fun K hK' => ?_
  unfold Oper.wp execOp
  simp only [hop, hp, Sem.run_bind, run_load_legs hB, Result.andThen, Sem.run_pure, Oper.upon]
  exact hK' _ _ hK
end Go.Proofs.YtiimegmaokfpgabGreatDoor.bl
