/-
  What the cards of the laws over the sines share: the table as the row lists it, opened and shut.
  Conditions: those that each theorem names.
-/
import Derived.Test.YtnpghhpcloljeabGreatDoorLgIq
import Derived.Test.YtnpghhpcloljeabGreatDoorCards
import Derived.Test.YtnpghhpcloljeabGreatDoorTie
import Derived.Test.YtnpghhpcloljeabGreatDoorCursq
import Derived.WalkKit
import Derived.ProofKit
import Derived.OpenShut
import Derived.ChangeVars
import Derived.Deep.DeepHandedRow
import Derived.Deep.DeepWitnessRowRef
import Derived.Lib.LaidTab
import Derived.LaidMore
namespace Go.Proofs.YtnpghhpcloljeabGreatDoor.sinc
open Go.ChangeShapes Go.WideShapes Go.ChangeAt Go.RowKit
open base sn win
set_option linter.unusedVariables false

theorem own : ownKnob Tryz.prog.godebug = none := by kernel_rfl
def LawPost (w : World) (e : Ending) (w' : World) : Prop := e = .returned (.bool true) ∧ Below w.heap.size w w'
theorem gTabType : (Tryz.prog.globals[0]?).map (·.type) = some 176 := by kernel_rfl
theorem cellsTab : Tryz.prog.cellsOf 176 = 91 := by kernel_rfl
theorem cellsOne : Tryz.prog.cellsOf 3 = 1 := by kernel_rfl

/-- what the list of a row gives: the table of the sines -/
theorem given {row : OpenClaim} {W : World} (e : row.laid = [("loop.example/g00933/impl.sines", Lib.tabData .i64 tbl)]) (h : laidMetH Tryz.prog row.laid W) : Tab W := by
  rw [e] at h
  exact Lib.tabIs_of_head (rest := []) gTab gTabType Tryz.underlying176 Tryz.underlying3 cellsOne cellsTab h

/-- the table as data -/
def tabH {H : Type} : DataW H := Lib.tabData .i64 tbl
def tabC : Array Value := (tbl.map fun z => Value.int .i64 z).toArray
theorem reads_tab {H : Type} (enc : TypeId × Value → H) (W : World) (sp : Nat → Bool) : DataW.trod enc Tryz.prog W 0 sp true 3 176 tabC.toList = some (tabH, []) := by kernel_rfl
/-- the cells of the table -/
def tabP : List MemPlace := MemPlace.row ⟨0, 0, none⟩ tabC.size
theorem var_open {H : Type} {enc : TypeId × Value → H} {W : World} {sp : Nat → Bool} {gs : List (DataW H)} {q : List MemPlace} (hT : Tab W) (hV : DataW.TrodVars enc Tryz.prog W sp ["loop.example/g00933/impl.sines"] gs q) : gs = [tabH] ∧ q = tabP := by
  obtain ⟨g, t, cs, fuel, d, p', rfl, hg, ht, hvar, hd, rfl⟩ := trodVars_one hV
  obtain rfl := Option.some.inj (gTab.symm.trans hg)
  obtain rfl := Option.some.inj (gTabType.symm.trans ht)
  obtain rfl : cs = tabC := Option.some.inj (hvar.symm.trans hT)
  obtain ⟨rfl, rfl⟩ := DataW.Trod.unique (v := .agg tabC) ⟨fuel, hd⟩ ⟨3, reads_tab enc W _⟩
  exact ⟨rfl, by simp [tabP]⟩
theorem var_shut {H : Type} {enc : TypeId × Value → H} {W : World} (hT : Tab W) (sp : Nat → Bool) : DataW.TrodVars enc Tryz.prog W sp ["loop.example/g00933/impl.sines"] [tabH] tabP :=
  ⟨0, 176, tabC, 3, [], [], gTab, gTabType, hT, reads_tab enc W sp, rfl, by simp [tabP]⟩
end Go.Proofs.YtnpghhpcloljeabGreatDoor.sinc
