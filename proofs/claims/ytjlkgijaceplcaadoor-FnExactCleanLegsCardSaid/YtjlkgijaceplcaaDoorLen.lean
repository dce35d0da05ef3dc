/-
  The model of the angles: the length of three parts.
  Conditions: none but those that a theorem names.
-/
import Derived.Test.YtjlkgijaceplcaaDoorLenM
import Derived.Test.YtjlkgijaceplcaaDoorIn
namespace Go.Proofs.YtjlkgijaceplcaaDoor.len
open Go.RowKit
open reads
set_option linter.unusedVariables false

end Go.Proofs.YtjlkgijaceplcaaDoor.len
