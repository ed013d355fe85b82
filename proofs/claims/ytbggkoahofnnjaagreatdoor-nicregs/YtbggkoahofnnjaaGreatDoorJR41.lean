/-
  A slice of arrays of integers that came in, opened: the numbers that each element holds.
-/
import Derived.Test.YtbggkoahofnnjaaGreatDoorRows
import Derived.ProofKit
import Derived.OpenShut
import Derived.WideShapes
import Derived.ChangeSlices
set_option linter.unusedVariables false
set_option linter.unusedSimpArgs false
namespace Go.Proofs.YtbggkoahofnnjaaGreatDoor
open Go.ChangeShapes Go.WideShapes Go.ChangeAt Go.RowKit
end Go.Proofs.YtbggkoahofnnjaaGreatDoor
