/-
  A slice of bytes that came in reads as a list of bytes.
  Conditions: none.
-/
import Derived.Test.YtnpghhpcloljeaaDoorRows
import Derived.Test.YtnpghhpcloljeaaDoorCurs
import Derived.WalkKit
import Derived.ProofKit
import Derived.OpenShut
namespace Go.Proofs.YtnpghhpcloljeaaDoor.opens
open Go.ChangeShapes Go.WideShapes Go.ChangeAt Go.RowKit
open curs
set_option linter.unusedVariables false
set_option maxRecDepth 100000

theorem byte_of (z : Int) (h : (Lit.int .u8 z).wf = true) : Value.int .u8 z = .int .u8 (((UInt8.ofNat z.toNat).toNat : Nat) : Int) := by
  have hx : 0 ≤ z ∧ z ≤ 255 := by simpa [Lit.wf, IntKind.min, IntKind.max, IntKind.signed, IntKind.bits] using h
  rw [UInt8.toNat_ofNat_of_lt' (by show z.toNat < 256; omega)]
  congr 1; omega

set_option maxRecDepth 100000 in
theorem opened {H : Type} {enc : TypeId × Value → H} {W : World} {base : Nat} {v : Value} {d : DataW H} {p : List MemPlace}
    (hv : Value.okWide Tryd.prog W .any base 38 v) (h : DataW.Trod enc Tryd.prog W 0 (fun _ => true) true 38 v d p) :
    ∃ (A : Option Addr) (n cap : Nat) (zs : List UInt8), v = .slice A n cap ∧ reads.Reads W W.heap.size 1 A n (bytesV zs) ∧ n ≤ maxLen := by
  obtain ⟨a0, len0, cap0, rfl⟩ := okWide_slice Tryd.underlying38 hv
  obtain ⟨fuel, hf⟩ := h
  rcases open_ints Tryd.underlying38 Tryd.underlying5 (by kernel_rfl) hf with ⟨hcs, _⟩ | ⟨x, l, c, zs, hcs, _, hl, hm, hz, _, hcell, hwz⟩
  · simp [Value.cells] at hcs
    obtain ⟨rfl, rfl, rfl⟩ := hcs
    exact ⟨none, 0, 0, [], rfl, reads.Reads.none_, by simp⟩
  · simp [Value.cells] at hcs
    obtain ⟨rfl, rfl, rfl⟩ := hcs
    have hz' : zs.length = cap0 := by simpa using hz
    refine ⟨some x, len0, cap0, (zs.take len0).map fun z => UInt8.ofNat z.toNat, rfl, ?_, by omega⟩
    refine ⟨by simp [bytesV]; omega, fun h0 => ⟨x, rfl, ?_, fun j u hu => ?_⟩⟩
    · have hc0 := hcell 0 (by omega)
      have hb : (x.add 0).block < W.heap.size := by
        rcases Nat.lt_or_ge (x.add 0).block W.heap.size with hlt | hge
        · exact hlt
        · simp [World.cell?, Array.getElem?_eq_none hge] at hc0
      rwa [reads.block_of_add] at hb
    · simp only [bytesV, List.getElem?_map, Option.map_eq_some_iff] at hu
      obtain ⟨y, ⟨z, hz1, rfl⟩, rfl⟩ := hu
      have hj : j < len0 := by have := (List.getElem?_eq_some_iff.1 hz1).1; simp at this; omega
      have hz2 : zs[j]? = some z := by rw [List.getElem?_take, if_pos hj] at hz1; exact hz1
      rw [hcell j (by omega), List.getD_eq_getElem?_getD, hz2]
      show some (Value.int .u8 z) = _
      rw [byte_of z (hwz z (List.mem_of_getElem? hz2))]
end Go.Proofs.YtnpghhpcloljeaaDoor.opens
