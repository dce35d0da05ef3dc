/-
  The variables that strconv.Atoi reads, in cards: the table of the powers of ten and the two errors.
  Conditions: they are laid.
-/
import Derived.Test.YtnlljdepcldibaaGreatDoorParB0
import Derived.Test.YtnlljdepcldibaaGreatDoorPow
namespace Go.Proofs.YtnlljdepcldibaaGreatDoor.pcrd
open Go.ChangeShapes Go.WideShapes Go.ChangeAt Go.RowKit
open base pow parc
set_option linter.unusedVariables false

theorem star : "*" ++ "errors.errorString" = "*errors.errorString" := by decide
theorem rowErr (u : TypeId) (h : Tryz.prog.typeName? 3 u = some "*errors.errorString") : u = 125 :=
  typeName_ptr_named (nm := "errors.errorString") (by rw [star]; kernel_rfl) (by kernel_rfl) (by decide) u (by rw [star]; exact h)
theorem gES : Tryz.prog.globalNamed "strconv.ErrSyntax" = some 2 := by kernel_rfl
theorem gESType : (Tryz.prog.globals[2]?).map (·.type) = some 70 := by kernel_rfl
theorem gER : Tryz.prog.globalNamed "strconv.ErrRange" = some 3 := by kernel_rfl
theorem gERType : (Tryz.prog.globals[3]?).map (·.type) = some 70 := by kernel_rfl
theorem cellsES : Tryz.prog.cellsOf 127 = 1 := by kernel_rfl
theorem cellsS : Tryz.prog.cellsOf 9 = 1 := by kernel_rfl
/-- what the list of a row gives -/
theorem givenV {row : OpenClaim} {W : World} (e1 : (row.laid.filter fun x => x.1 == "internal/strconv.uint64pow10") = [("internal/strconv.uint64pow10", Lib.tabData .u64 Lib.pow10Tab)]) (e2 : (row.laid.filter fun x => x.1 == "strconv.ErrSyntax") = [("strconv.ErrSyntax", Rows.laid_strconv_ErrSyntax)]) (e3 : (row.laid.filter fun x => x.1 == "strconv.ErrRange") = [("strconv.ErrRange", Rows.laid_strconv_ErrRange)]) (h : laidMetH Tryz.prog row.laid W) : Vars W := by
  refine ⟨given10 e1 h, ?_, ?_⟩
  · have h1 := h.filter fun x => x.1 == "strconv.ErrSyntax"
    rw [e2] at h1
    obtain ⟨a0, s0, hv0, -, -, -⟩ := laid_sentinel (r := []) h1 gES gESType Tryz.underlying70 rowErr Tryz.underlying125 Tryz.underlying127 rfl rfl Tryz.underlying9 cellsES cellsS
    exact ⟨_, _, hv0⟩
  · have h1 := h.filter fun x => x.1 == "strconv.ErrRange"
    rw [e3] at h1
    obtain ⟨a0, s0, hv0, -, -, -⟩ := laid_sentinel (r := []) h1 gER gERType Tryz.underlying70 rowErr Tryz.underlying125 Tryz.underlying127 rfl rfl Tryz.underlying9 cellsES cellsS
    exact ⟨_, _, hv0⟩
theorem vars_below {w w' : World} (h : Vars w) (hb : Below w.heap.size w w') : Vars w' := by
  obtain ⟨h1, ⟨t2, p2, h2⟩, ⟨t3, p3, h3⟩⟩ := h
  exact ⟨TabP.below h1 hb, ⟨t2, p2, var?_below hb gES (pow.var_lt gES h2) h2⟩, ⟨t3, p3, var?_below hb gER (pow.var_lt gER h3) h3⟩⟩
def VarsP (w : World) : Prop := Vars w
theorem VarsP.below {w w' : World} (h : VarsP w) (hb : Below w.heap.size w w') : VarsP w' := vars_below h hb
theorem nv_open {H : Type} {enc : TypeId × Value → H} {W : World} {sp : Nat → Bool} {gs : List (DataW H)} {q : List MemPlace} (hT : VarsP W) (hV : DataW.TrodVars enc Tryz.prog W sp [] gs q) : gs = [] ∧ q = [] := trodVars_none hV
theorem nv_shut {H : Type} {enc : TypeId × Value → H} {W : World} (hT : VarsP W) (sp : Nat → Bool) : DataW.TrodVars enc Tryz.prog W sp [] [] [] := rfl
end Go.Proofs.YtnlljdepcldibaaGreatDoor.pcrd
