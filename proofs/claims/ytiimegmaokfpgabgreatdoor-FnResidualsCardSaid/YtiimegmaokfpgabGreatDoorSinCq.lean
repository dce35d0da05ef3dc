/-
  What the cards of the laws over the sines share: the table as the row lists it, opened and shut.
  A slice of bytes that came in reads as a list of bytes.
  Conditions: those that each theorem names.
-/
import Derived.Test.YtiimegmaokfpgabGreatDoorSinI
import Derived.Test.YtiimegmaokfpgabGreatDoorCards
import Derived.Test.YtiimegmaokfpgabGreatDoorTie
import Derived.Test.YtiimegmaokfpgabGreatDoorNqJq
import Derived.WalkKit
import Derived.ProofKit
import Derived.OpenShut
import Derived.ChangeVars
import Derived.Deep.DeepHandedRow
import Derived.Deep.DeepWitnessRowRef
import Derived.Lib.LaidTab
import Derived.LaidMore
import Derived.Test.YtiimegmaokfpgabGreatDoorRows
import Derived.Test.YtiimegmaokfpgabGreatDoorCurs
namespace Go.Proofs.YtiimegmaokfpgabGreatDoor.sinc
open Go.ChangeShapes Go.WideShapes Go.ChangeAt Go.RowKit
open base sn win
set_option linter.unusedVariables false

theorem own : ownKnob Tryz.prog.godebug = none := by kernel_rfl
def LawPost (w : World) (e : Ending) (w' : World) : Prop := e = .returned (.bool true) ∧ Below w.heap.size w w'
theorem gTabType : (Tryz.prog.globals[0]?).map (·.type) = some 176 := by kernel_rfl
theorem cellsTab : Tryz.prog.cellsOf 176 = 91 := by kernel_rfl
theorem cellsOne : Tryz.prog.cellsOf 3 = 1 := by kernel_rfl

/-- what the list of a row gives: the table of the sines -/
theorem given {row : OpenClaim} {W : World} (e : row.laid = [("loop.example/g00933/impl.sines", Lib.tabData .i64 tbl)]) (h : laidMetH Tryz.prog row.laid W) : Tab W := by
  rw [e] at h
  exact Lib.tabIs_of_head (rest := []) gTab gTabType Tryz.underlying176 Tryz.underlying3 cellsOne cellsTab h

/-- the table as data -/
def tabH {H : Type} : DataW H := Lib.tabData .i64 tbl
def tabC : Array Value := (tbl.map fun z => Value.int .i64 z).toArray
theorem reads_tab {H : Type} (enc : TypeId × Value → H) (W : World) (sp : Nat → Bool) : DataW.trod enc Tryz.prog W 0 sp true 3 176 tabC.toList = some (tabH, []) := by kernel_rfl
/-- the cells of the table -/
def tabP : List MemPlace := MemPlace.row ⟨0, 0, none⟩ tabC.size
theorem var_open {H : Type} {enc : TypeId × Value → H} {W : World} {sp : Nat → Bool} {gs : List (DataW H)} {q : List MemPlace} (hT : Tab W) (hV : DataW.TrodVars enc Tryz.prog W sp ["loop.example/g00933/impl.sines"] gs q) : gs = [tabH] ∧ q = tabP := by
  obtain ⟨g, t, cs, fuel, d, p', rfl, hg, ht, hvar, hd, rfl⟩ := trodVars_one hV
  obtain rfl := Option.some.inj (gTab.symm.trans hg)
  obtain rfl := Option.some.inj (gTabType.symm.trans ht)
  obtain rfl : cs = tabC := Option.some.inj (hvar.symm.trans hT)
  obtain ⟨rfl, rfl⟩ := DataW.Trod.unique (v := .agg tabC) ⟨fuel, hd⟩ ⟨3, reads_tab enc W _⟩
  exact ⟨rfl, by simp [tabP]⟩
theorem var_shut {H : Type} {enc : TypeId × Value → H} {W : World} (hT : Tab W) (sp : Nat → Bool) : DataW.TrodVars enc Tryz.prog W sp ["loop.example/g00933/impl.sines"] [tabH] tabP :=
  ⟨0, 176, tabC, 3, [], [], gTab, gTabType, hT, reads_tab enc W sp, rfl, by simp [tabP]⟩
end Go.Proofs.YtiimegmaokfpgabGreatDoor.sinc

namespace Go.Proofs.YtiimegmaokfpgabGreatDoor.opens
open Go.ChangeShapes Go.WideShapes Go.ChangeAt Go.RowKit
open curs
set_option linter.unusedVariables false
set_option maxRecDepth 100000

theorem byte_of (z : Int) (h : (Lit.int .u8 z).wf = true) : Value.int .u8 z = .int .u8 (((UInt8.ofNat z.toNat).toNat : Nat) : Int) := by
  have hx : 0 ≤ z ∧ z ≤ 255 := by simpa [Lit.wf, IntKind.min, IntKind.max, IntKind.signed, IntKind.bits] using h
  rw [UInt8.toNat_ofNat_of_lt' (by show z.toNat < 256; omega)]
  congr 1; omega

set_option maxRecDepth 100000 in
theorem opened {H : Type} {enc : TypeId × Value → H} {W : World} {base : Nat} {v : Value} {d : DataW H} {p : List MemPlace}
    (hv : Value.okWide Tryz.prog W .any base 22 v) (h : DataW.Trod enc Tryz.prog W 0 (fun _ => true) true 22 v d p) :
    ∃ (A : Option Addr) (n cap : Nat) (zs : List UInt8), v = .slice A n cap ∧ reads.Reads W W.heap.size 1 A n (bytesV zs) ∧ n ≤ maxLen := by
  obtain ⟨a0, len0, cap0, rfl⟩ := okWide_slice Tryz.underlying22 hv
  obtain ⟨fuel, hf⟩ := h
  rcases open_ints Tryz.underlying22 Tryz.underlying5 (by kernel_rfl) hf with ⟨hcs, _⟩ | ⟨x, l, c, zs, hcs, _, hl, hm, hz, _, hcell, hwz⟩
  · simp [Value.cells] at hcs
    obtain ⟨rfl, rfl, rfl⟩ := hcs
    exact ⟨none, 0, 0, [], rfl, reads.Reads.none_, by simp⟩
  · simp [Value.cells] at hcs
    obtain ⟨rfl, rfl, rfl⟩ := hcs
    have hz' : zs.length = cap0 := by simpa using hz
    refine ⟨some x, len0, cap0, (zs.take len0).map fun z => UInt8.ofNat z.toNat, rfl, ?_, by omega⟩
    refine ⟨by simp [bytesV]; omega, fun h0 => ⟨x, rfl, ?_, fun j u hu => ?_⟩⟩
    · have hc0 := hcell 0 (by omega)
      have hb : (x.add 0).block < W.heap.size := by
        rcases Nat.lt_or_ge (x.add 0).block W.heap.size with hlt | hge
        · exact hlt
        · simp [World.cell?, Array.getElem?_eq_none hge] at hc0
      rwa [reads.block_of_add] at hb
    · simp only [bytesV, List.getElem?_map, Option.map_eq_some_iff] at hu
      obtain ⟨y, ⟨z, hz1, rfl⟩, rfl⟩ := hu
      have hj : j < len0 := by have := (List.getElem?_eq_some_iff.1 hz1).1; simp at this; omega
      have hz2 : zs[j]? = some z := by rw [List.getElem?_take, if_pos hj] at hz1; exact hz1
      rw [hcell j (by omega), List.getD_eq_getElem?_getD, hz2]
      show some (Value.int .u8 z) = _
      rw [byte_of z (hwz z (List.mem_of_getElem? hz2))]
end Go.Proofs.YtiimegmaokfpgabGreatDoor.opens
