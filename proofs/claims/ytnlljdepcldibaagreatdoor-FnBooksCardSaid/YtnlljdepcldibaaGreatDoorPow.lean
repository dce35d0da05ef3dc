/-
  The table of the powers of ten that strconv reads, and the text of a number by the program.
  Conditions: the table is laid.
-/
import Derived.Test.YtnlljdepcldibaaGreatDoorBase
import Derived.Test.YtnlljdepcldibaaGreatDoorShelfItoa
import Derived.Test.YtnlljdepcldibaaGreatDoorCards
import Derived.Test.YtnlljdepcldibaaGreatDoorTie
import Derived.Test.YtnlljdepcldibaaGreatDoorEnd
import Derived.WalkKit
import Derived.ProofKit
import Derived.OpenShut
import Derived.ChangeVars
import Derived.Deep.DeepHandedRow
import Derived.Deep.DeepWitnessRowRef
import Derived.Lib.LaidTab
import Derived.Lib.AppendIntMem
import Derived.LaidMore
import Derived.WalkSmall
namespace Go.Proofs.YtnlljdepcldibaaGreatDoor.pow
open Go.ChangeShapes Go.WideShapes Go.ChangeAt Go.RowKit
open base
set_option linter.unusedVariables false

theorem own : ownKnob Tryz.prog.godebug = none := by kernel_rfl
def LawPost (w : World) (e : Ending) (w' : World) : Prop := e = .returned (.bool true) ∧ Below w.heap.size w w'
theorem gTab10 : Tryz.prog.globalNamed "internal/strconv.uint64pow10" = some 1 := by kernel_rfl
theorem gTab10Type : (Tryz.prog.globals[1]?).map (·.type) = some 104 := by kernel_rfl
theorem cellsTab10 : Tryz.prog.cellsOf 104 = 20 := by kernel_rfl
theorem cellsOne10 : Tryz.prog.cellsOf 55 = 1 := by kernel_rfl
def TabP (w : World) : Prop := Lib.TabIs Tryz.prog w "internal/strconv.uint64pow10" .u64 Lib.pow10Tab
theorem var_lt {w : World} {n : String} {g : Nat} {cs : Array Value} (hg : Tryz.prog.globalNamed n = some g) (h : w.var? Tryz.prog n = some cs) : g < w.heap.size := by
  rcases Nat.lt_or_ge g w.heap.size with hlt | hge
  · exact hlt
  · unfold World.var? at h
    simp only [hg, Option.bind_some, Array.getElem?_eq_none hge] at h
    simp at h
theorem TabP.below {w w' : World} (h : TabP w) (hb : Below w.heap.size w w') : TabP w' := var?_below hb gTab10 (var_lt gTab10 h) h
theorem TabP.alloc {w : World} (h : TabP w) (o : Obj) : TabP (w.alloc o) := h.below ((Below.refl _ w).alloc (Nat.le_refl _) o)
/-- what the list of a row gives: the table of the powers of ten -/
theorem given10 {row : OpenClaim} {W : World} (e : (row.laid.filter fun x => x.1 == "internal/strconv.uint64pow10") = [("internal/strconv.uint64pow10", Lib.tabData .u64 Lib.pow10Tab)]) (h : laidMetH Tryz.prog row.laid W) : TabP W := by
  have h1 := h.filter fun x => x.1 == "internal/strconv.uint64pow10"
  rw [e] at h1
  exact Lib.tabIs_of_head (rest := []) gTab10 gTab10Type Tryz.underlying104 Tryz.underlying55 cellsOne10 cellsTab10 h1
theorem none_open {H : Type} {enc : TypeId × Value → H} {W : World} {sp : Nat → Bool} {gs : List (DataW H)} {q : List MemPlace} (hT : TabP W) (hV : DataW.TrodVars enc Tryz.prog W sp [] gs q) : gs = [] ∧ q = [] := trodVars_none hV
theorem none_shut {H : Type} {enc : TypeId × Value → H} {W : World} (hT : TabP W) (sp : Nat → Bool) : DataW.TrodVars enc Tryz.prog W sp [] [] [] := rfl
/-- the text of a number -/
def num (n : Int) : ByteArray := ⟨(Lib.itoa n).toArray⟩
theorem itoa_is (n : Int) (s : ByteArray) (h : Hid (num n = s)) (w : World) (h0 : -999999 ≤ n) (h1 : n ≤ 999999) (hT : Hid (TabP w)) : Calls Tryz.prog 20 #[.int .i64 n] w (APost (.string s) w) := by
  refine (Tryz.strconv_Itoa n (by omega) (by omega) w hT.out).mono ?_
  rintro e w' ⟨rfl, k, os, rfl⟩
  exact ⟨by rw [← h.out]; rfl, Lib.below_grow _ _ (Nat.le_refl _) _ _⟩
end Go.Proofs.YtnlljdepcldibaaGreatDoor.pow
