/-
  No cell of these rows narrows 'for every input' (looked for: loops, veiled, ifaces, maps, wideKeys, modest, calm, conditions, laid).
  DERIVED. THE GIVEN ROWS OF THIS SEAT. 9 by the template 'for every input the law returns true; each argument reads behind the call as it read before'; 0 by the template 'total and deterministic' (their statements: YtnpghhpcloljeaaTotals.lean).
  GIVEN WITH THE SEED: the statements are not yours to turn. If you find one false, say at which input.
  Laid BY PROGRAM, IN A SANDBOX (cutbox-rows.mjs): the forced cells as the released guide's own fill.sh prints them over the translation 233cb83ce95c21da… (all of the seat's roots in one cut). By AI agents, Wed Nov 11 2026. No macro, syntax, notation, axiom, sorry.
-/
import Derived.Test.YtnpghhpcloljeaaChecked
import GoSem.Claim
import GoSem.ClaimJoined
import GoSem.ClaimMapViews
import Derived.JoinedTies
import Derived.KernelRfl
namespace Go.Proofs.Ytnpghhpcloljeaa
/- THE CELL 'sum', in the pinned program and in every row, IS THE sha256 OF THE DUMP (.gsa) THAT YtnpghhpcloljeaaProg.lean LOADS. Nothing in Lean hashes anything: it is a label: what it is worth is what the hold of that sum in a sandbox is worth. -/
noncomputable def Try.pinned : Pinned := { name := "ytnpghhpcloljeaa", sum := "233cb83ce95c21dae8d8120b7b64f1416d5657407814f4c1613da4700e0c47cb", checked := Try.checked }
namespace Rows
def none {H : Type} : Left H := { results := [], args := [] }

/-- 'laws.FnExactArePassages': WHATEVER THE INPUT: true; the input reads as it did. -/
def fnExactArePassagesSpec : ChangeSpec := { name := "fnExactArePassages", fn := fun _ => fun
  | [d] => { results := [.lit (.bool true)], args := [d] }
  | _ => none }
def fnExactArePassagesRow : OpenClaim := { program := "ytnpghhpcloljeaa", sum := "233cb83ce95c21dae8d8120b7b64f1416d5657407814f4c1613da4700e0c47cb", func := "loop.example/g00933/laws.FnExactArePassages", spec := "fnExactArePassages", apart := false }
def FnExactArePassagesSaid : Prop := fnExactArePassagesRow.holds Try.pinned (OpenSpec.ofChange fnExactArePassagesSpec)

/-- ITS FALSE NEIGHBOUR: 'it returns false'. Refute it at one input. -/
def fnExactArePassagesWrong : ChangeSpec := { name := "fnExactArePassages", fn := fun _ => fun
  | [d] => { results := [.lit (.bool false)], args := [d] }
  | _ => none }
def FnExactArePassagesWrongFalsely : Prop := fnExactArePassagesRow.holds Try.pinned (OpenSpec.ofChange fnExactArePassagesWrong)

/-- 'laws.FnExactAreaAt': WHATEVER THE INPUT: true; the input reads as it did. -/
def fnExactAreaAtSpec : ChangeSpec := { name := "fnExactAreaAt", fn := fun _ => fun
  | [d1, d2] => { results := [.lit (.bool true)], args := [d1, d2] }
  | _ => none }
def fnExactAreaAtRow : OpenClaim := { program := "ytnpghhpcloljeaa", sum := "233cb83ce95c21dae8d8120b7b64f1416d5657407814f4c1613da4700e0c47cb", func := "loop.example/g00933/laws.FnExactAreaAt", spec := "fnExactAreaAt", unfollowed := true, recurses := true, apart := false }
def FnExactAreaAtSaid : Prop := fnExactAreaAtRow.holds Try.pinned (OpenSpec.ofChange fnExactAreaAtSpec)

/-- ITS FALSE NEIGHBOUR: 'it returns false'. Refute it at one input. -/
def fnExactAreaAtWrong : ChangeSpec := { name := "fnExactAreaAt", fn := fun _ => fun
  | [d1, d2] => { results := [.lit (.bool false)], args := [d1, d2] }
  | _ => none }
def FnExactAreaAtWrongFalsely : Prop := fnExactAreaAtRow.holds Try.pinned (OpenSpec.ofChange fnExactAreaAtWrong)

/-- 'laws.FnExactVolumeOf': WHATEVER THE INPUT: true; the input reads as it did. -/
def fnExactVolumeOfSpec : ChangeSpec := { name := "fnExactVolumeOf", fn := fun _ => fun
  | [d1, d2] => { results := [.lit (.bool true)], args := [d1, d2] }
  | _ => none }
def fnExactVolumeOfRow : OpenClaim := { program := "ytnpghhpcloljeaa", sum := "233cb83ce95c21dae8d8120b7b64f1416d5657407814f4c1613da4700e0c47cb", func := "loop.example/g00933/laws.FnExactVolumeOf", spec := "fnExactVolumeOf", unfollowed := true, recurses := true, apart := false }
def FnExactVolumeOfSaid : Prop := fnExactVolumeOfRow.holds Try.pinned (OpenSpec.ofChange fnExactVolumeOfSpec)

/-- ITS FALSE NEIGHBOUR: 'it returns false'. Refute it at one input. -/
def fnExactVolumeOfWrong : ChangeSpec := { name := "fnExactVolumeOf", fn := fun _ => fun
  | [d1, d2] => { results := [.lit (.bool false)], args := [d1, d2] }
  | _ => none }
def FnExactVolumeOfWrongFalsely : Prop := fnExactVolumeOfRow.holds Try.pinned (OpenSpec.ofChange fnExactVolumeOfWrong)

/-- 'laws.FnExactWidestPassage': WHATEVER THE INPUT: true; the input reads as it did. -/
def fnExactWidestPassageSpec : ChangeSpec := { name := "fnExactWidestPassage", fn := fun _ => fun
  | [d] => { results := [.lit (.bool true)], args := [d] }
  | _ => none }
def fnExactWidestPassageRow : OpenClaim := { program := "ytnpghhpcloljeaa", sum := "233cb83ce95c21dae8d8120b7b64f1416d5657407814f4c1613da4700e0c47cb", func := "loop.example/g00933/laws.FnExactWidestPassage", spec := "fnExactWidestPassage", unfollowed := true, recurses := true, apart := false }
def FnExactWidestPassageSaid : Prop := fnExactWidestPassageRow.holds Try.pinned (OpenSpec.ofChange fnExactWidestPassageSpec)

/-- ITS FALSE NEIGHBOUR: 'it returns false'. Refute it at one input. -/
def fnExactWidestPassageWrong : ChangeSpec := { name := "fnExactWidestPassage", fn := fun _ => fun
  | [d] => { results := [.lit (.bool false)], args := [d] }
  | _ => none }
def FnExactWidestPassageWrongFalsely : Prop := fnExactWidestPassageRow.holds Try.pinned (OpenSpec.ofChange fnExactWidestPassageWrong)

/-- 'laws.FnExactFittingStations': WHATEVER THE INPUT: true; the input reads as it did. -/
def fnExactFittingStationsSpec : ChangeSpec := { name := "fnExactFittingStations", fn := fun _ => fun
  | [d1, d2, d3] => { results := [.lit (.bool true)], args := [d1, d2, d3] }
  | _ => none }
def fnExactFittingStationsRow : OpenClaim := { program := "ytnpghhpcloljeaa", sum := "233cb83ce95c21dae8d8120b7b64f1416d5657407814f4c1613da4700e0c47cb", func := "loop.example/g00933/laws.FnExactFittingStations", spec := "fnExactFittingStations", apart := false }
def FnExactFittingStationsSaid : Prop := fnExactFittingStationsRow.holds Try.pinned (OpenSpec.ofChange fnExactFittingStationsSpec)

/-- ITS FALSE NEIGHBOUR: 'it returns false'. Refute it at one input. -/
def fnExactFittingStationsWrong : ChangeSpec := { name := "fnExactFittingStations", fn := fun _ => fun
  | [d1, d2, d3] => { results := [.lit (.bool false)], args := [d1, d2, d3] }
  | _ => none }
def FnExactFittingStationsWrongFalsely : Prop := fnExactFittingStationsRow.holds Try.pinned (OpenSpec.ofChange fnExactFittingStationsWrong)

/-- 'laws.FnExactMergePassages': WHATEVER THE INPUT: true; the input reads as it did. -/
def fnExactMergePassagesSpec : ChangeSpec := { name := "fnExactMergePassages", fn := fun _ => fun
  | [d1, d2] => { results := [.lit (.bool true)], args := [d1, d2] }
  | _ => none }
def fnExactMergePassagesRow : OpenClaim := { program := "ytnpghhpcloljeaa", sum := "233cb83ce95c21dae8d8120b7b64f1416d5657407814f4c1613da4700e0c47cb", func := "loop.example/g00933/laws.FnExactMergePassages", spec := "fnExactMergePassages", inPlace := ["slices.overlaps[loop.example/g00933/impl.Passage]"], unfollowed := true, recurses := true, apart := false }
def FnExactMergePassagesSaid : Prop := fnExactMergePassagesRow.holds Try.pinned (OpenSpec.ofChange fnExactMergePassagesSpec)

/-- ITS FALSE NEIGHBOUR: 'it returns false'. Refute it at one input. -/
def fnExactMergePassagesWrong : ChangeSpec := { name := "fnExactMergePassages", fn := fun _ => fun
  | [d1, d2] => { results := [.lit (.bool false)], args := [d1, d2] }
  | _ => none }
def FnExactMergePassagesWrongFalsely : Prop := fnExactMergePassagesRow.holds Try.pinned (OpenSpec.ofChange fnExactMergePassagesWrong)

/-- 'laws.FnExactMirrorPassage': WHATEVER THE INPUT: true; the input reads as it did. -/
def fnExactMirrorPassageSpec : ChangeSpec := { name := "fnExactMirrorPassage", fn := fun _ => fun
  | [d] => { results := [.lit (.bool true)], args := [d] }
  | _ => none }
def fnExactMirrorPassageRow : OpenClaim := { program := "ytnpghhpcloljeaa", sum := "233cb83ce95c21dae8d8120b7b64f1416d5657407814f4c1613da4700e0c47cb", func := "loop.example/g00933/laws.FnExactMirrorPassage", spec := "fnExactMirrorPassage", apart := false }
def FnExactMirrorPassageSaid : Prop := fnExactMirrorPassageRow.holds Try.pinned (OpenSpec.ofChange fnExactMirrorPassageSpec)

/-- ITS FALSE NEIGHBOUR: 'it returns false'. Refute it at one input. -/
def fnExactMirrorPassageWrong : ChangeSpec := { name := "fnExactMirrorPassage", fn := fun _ => fun
  | [d] => { results := [.lit (.bool false)], args := [d] }
  | _ => none }
def FnExactMirrorPassageWrongFalsely : Prop := fnExactMirrorPassageRow.holds Try.pinned (OpenSpec.ofChange fnExactMirrorPassageWrong)

/-- 'laws.FnExactMeanArea': WHATEVER THE INPUT: true; the input reads as it did. -/
def fnExactMeanAreaSpec : ChangeSpec := { name := "fnExactMeanArea", fn := fun _ => fun
  | [d] => { results := [.lit (.bool true)], args := [d] }
  | _ => none }
def fnExactMeanAreaRow : OpenClaim := { program := "ytnpghhpcloljeaa", sum := "233cb83ce95c21dae8d8120b7b64f1416d5657407814f4c1613da4700e0c47cb", func := "loop.example/g00933/laws.FnExactMeanArea", spec := "fnExactMeanArea", apart := false }
def FnExactMeanAreaSaid : Prop := fnExactMeanAreaRow.holds Try.pinned (OpenSpec.ofChange fnExactMeanAreaSpec)

/-- ITS FALSE NEIGHBOUR: 'it returns false'. Refute it at one input. -/
def fnExactMeanAreaWrong : ChangeSpec := { name := "fnExactMeanArea", fn := fun _ => fun
  | [d] => { results := [.lit (.bool false)], args := [d] }
  | _ => none }
def FnExactMeanAreaWrongFalsely : Prop := fnExactMeanAreaRow.holds Try.pinned (OpenSpec.ofChange fnExactMeanAreaWrong)

/-- 'laws.FnPassages': WHATEVER THE INPUT: true; the input reads as it did. -/
def fnPassagesSpec : ChangeSpec := { name := "fnPassages", fn := fun _ => fun
  | [d] => { results := [.lit (.bool true)], args := [d] }
  | _ => none }
def fnPassagesRow : OpenClaim := { program := "ytnpghhpcloljeaa", sum := "233cb83ce95c21dae8d8120b7b64f1416d5657407814f4c1613da4700e0c47cb", func := "loop.example/g00933/laws.FnPassages", spec := "fnPassages", inPlace := ["slices.overlaps[loop.example/g00933/impl.Passage]"], unfollowed := true, recurses := true, apart := false }
def FnPassagesSaid : Prop := fnPassagesRow.holds Try.pinned (OpenSpec.ofChange fnPassagesSpec)

/-- ITS FALSE NEIGHBOUR: 'it returns false'. Refute it at one input. -/
def fnPassagesWrong : ChangeSpec := { name := "fnPassages", fn := fun _ => fun
  | [d] => { results := [.lit (.bool false)], args := [d] }
  | _ => none }
def FnPassagesWrongFalsely : Prop := fnPassagesRow.holds Try.pinned (OpenSpec.ofChange fnPassagesWrong)

/- THE SECOND FORM. 'bulk': how many values and letters a reading holds, each counted each time it is reached (what is shared counts as often as it is met; a slice's spare places count too). A statement '..UptoSaid' is the law's where the arguments, and the package variables that the reading takes, are together of bulk at most 1048576: NARROWER than '..Said'. Prove '..Said' where nothing that the law and all that it calls make is longer than what came in: it says more and counts as full. Else prove '..UptoSaid'. A law counts once. -/
mutual
def uptoBulk {H : Type} : DataW H → Nat
  | .lit (.string bytes) => bytes.length + 1
  | .lit _ => 1
  | .nil => 1
  | .ptr d => uptoBulk d + 1
  | .slice elems spare => uptoBulkAll elems + uptoBulkAll spare + 1
  | .agg parts => uptoBulkAll parts + 1
  | .iface _ d => uptoBulk d + 1
  | .map entries => uptoBulkEntries entries + 1
  | .held _ => 1
def uptoBulkAll {H : Type} : List (DataW H) → Nat
  | [] => 0
  | d :: r => uptoBulk d + uptoBulkAll r
def uptoBulkEntries {H : Type} : List (Lit × DataW H) → Nat
  | [] => 0
  | x :: r => uptoBulkEntry x + uptoBulkEntries r
def uptoBulkEntry {H : Type} : Lit × DataW H → Nat
  | (.string bytes, d) => bytes.length + uptoBulk d + 1
  | (_, d) => uptoBulk d + 1
 end
def uptoSmall : (H : Type) → List (DataW H) → Bool := fun _ ds => decide (uptoBulkAll ds ≤ 1048576)
def OpenSpec.upto (s : _root_.Go.ChangeSpec) : _root_.Go.OpenSpec := { _root_.Go.OpenSpec.ofChange s with cond := some uptoSmall }

/-- 'laws.FnExactArePassages', WHERE WHAT IT READS IS OF BULK AT MOST 1048576: true; the input reads as it did. -/
def fnExactArePassagesUptoRow : OpenClaim := { program := "ytnpghhpcloljeaa", sum := "233cb83ce95c21dae8d8120b7b64f1416d5657407814f4c1613da4700e0c47cb", func := "loop.example/g00933/laws.FnExactArePassages", spec := "fnExactArePassages", apart := false, narrowed := true }
def FnExactArePassagesUptoSaid : Prop := fnExactArePassagesUptoRow.holds Try.pinned (OpenSpec.upto fnExactArePassagesSpec)

/-- 'laws.FnExactAreaAt', WHERE WHAT IT READS IS OF BULK AT MOST 1048576: true; the input reads as it did. -/
def fnExactAreaAtUptoRow : OpenClaim := { program := "ytnpghhpcloljeaa", sum := "233cb83ce95c21dae8d8120b7b64f1416d5657407814f4c1613da4700e0c47cb", func := "loop.example/g00933/laws.FnExactAreaAt", spec := "fnExactAreaAt", unfollowed := true, recurses := true, apart := false, narrowed := true }
def FnExactAreaAtUptoSaid : Prop := fnExactAreaAtUptoRow.holds Try.pinned (OpenSpec.upto fnExactAreaAtSpec)

/-- 'laws.FnExactVolumeOf', WHERE WHAT IT READS IS OF BULK AT MOST 1048576: true; the input reads as it did. -/
def fnExactVolumeOfUptoRow : OpenClaim := { program := "ytnpghhpcloljeaa", sum := "233cb83ce95c21dae8d8120b7b64f1416d5657407814f4c1613da4700e0c47cb", func := "loop.example/g00933/laws.FnExactVolumeOf", spec := "fnExactVolumeOf", unfollowed := true, recurses := true, apart := false, narrowed := true }
def FnExactVolumeOfUptoSaid : Prop := fnExactVolumeOfUptoRow.holds Try.pinned (OpenSpec.upto fnExactVolumeOfSpec)

/-- 'laws.FnExactWidestPassage', WHERE WHAT IT READS IS OF BULK AT MOST 1048576: true; the input reads as it did. -/
def fnExactWidestPassageUptoRow : OpenClaim := { program := "ytnpghhpcloljeaa", sum := "233cb83ce95c21dae8d8120b7b64f1416d5657407814f4c1613da4700e0c47cb", func := "loop.example/g00933/laws.FnExactWidestPassage", spec := "fnExactWidestPassage", unfollowed := true, recurses := true, apart := false, narrowed := true }
def FnExactWidestPassageUptoSaid : Prop := fnExactWidestPassageUptoRow.holds Try.pinned (OpenSpec.upto fnExactWidestPassageSpec)

/-- 'laws.FnExactFittingStations', WHERE WHAT IT READS IS OF BULK AT MOST 1048576: true; the input reads as it did. -/
def fnExactFittingStationsUptoRow : OpenClaim := { program := "ytnpghhpcloljeaa", sum := "233cb83ce95c21dae8d8120b7b64f1416d5657407814f4c1613da4700e0c47cb", func := "loop.example/g00933/laws.FnExactFittingStations", spec := "fnExactFittingStations", apart := false, narrowed := true }
def FnExactFittingStationsUptoSaid : Prop := fnExactFittingStationsUptoRow.holds Try.pinned (OpenSpec.upto fnExactFittingStationsSpec)

/-- 'laws.FnExactMergePassages', WHERE WHAT IT READS IS OF BULK AT MOST 1048576: true; the input reads as it did. -/
def fnExactMergePassagesUptoRow : OpenClaim := { program := "ytnpghhpcloljeaa", sum := "233cb83ce95c21dae8d8120b7b64f1416d5657407814f4c1613da4700e0c47cb", func := "loop.example/g00933/laws.FnExactMergePassages", spec := "fnExactMergePassages", inPlace := ["slices.overlaps[loop.example/g00933/impl.Passage]"], unfollowed := true, recurses := true, apart := false, narrowed := true }
def FnExactMergePassagesUptoSaid : Prop := fnExactMergePassagesUptoRow.holds Try.pinned (OpenSpec.upto fnExactMergePassagesSpec)

/-- 'laws.FnExactMirrorPassage', WHERE WHAT IT READS IS OF BULK AT MOST 1048576: true; the input reads as it did. -/
def fnExactMirrorPassageUptoRow : OpenClaim := { program := "ytnpghhpcloljeaa", sum := "233cb83ce95c21dae8d8120b7b64f1416d5657407814f4c1613da4700e0c47cb", func := "loop.example/g00933/laws.FnExactMirrorPassage", spec := "fnExactMirrorPassage", apart := false, narrowed := true }
def FnExactMirrorPassageUptoSaid : Prop := fnExactMirrorPassageUptoRow.holds Try.pinned (OpenSpec.upto fnExactMirrorPassageSpec)

/-- 'laws.FnExactMeanArea', WHERE WHAT IT READS IS OF BULK AT MOST 1048576: true; the input reads as it did. -/
def fnExactMeanAreaUptoRow : OpenClaim := { program := "ytnpghhpcloljeaa", sum := "233cb83ce95c21dae8d8120b7b64f1416d5657407814f4c1613da4700e0c47cb", func := "loop.example/g00933/laws.FnExactMeanArea", spec := "fnExactMeanArea", apart := false, narrowed := true }
def FnExactMeanAreaUptoSaid : Prop := fnExactMeanAreaUptoRow.holds Try.pinned (OpenSpec.upto fnExactMeanAreaSpec)

/-- 'laws.FnPassages', WHERE WHAT IT READS IS OF BULK AT MOST 1048576: true; the input reads as it did. -/
def fnPassagesUptoRow : OpenClaim := { program := "ytnpghhpcloljeaa", sum := "233cb83ce95c21dae8d8120b7b64f1416d5657407814f4c1613da4700e0c47cb", func := "loop.example/g00933/laws.FnPassages", spec := "fnPassages", inPlace := ["slices.overlaps[loop.example/g00933/impl.Passage]"], unfollowed := true, recurses := true, apart := false, narrowed := true }
def FnPassagesUptoSaid : Prop := fnPassagesUptoRow.holds Try.pinned (OpenSpec.upto fnPassagesSpec)

end Rows
end Go.Proofs.Ytnpghhpcloljeaa
