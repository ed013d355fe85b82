/-
  What a package-level array of integers or of strings holds, where it reads as the text lays it.
-/
import Derived.Test.YtbggkoahofnnjaaDoorRows
import Derived.ProofKit
import Derived.OpenShut
import Derived.LaidMore
import Derived.LaidLaws
namespace Go.Proofs.YtbggkoahofnnjaaDoor
open Go.ChangeShapes Go.WideShapes Go.ChangeAt Go.RowKit

end Go.Proofs.YtbggkoahofnnjaaDoor
