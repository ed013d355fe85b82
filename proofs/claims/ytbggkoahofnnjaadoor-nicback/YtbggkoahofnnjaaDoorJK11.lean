/-
  What the law's own num answers: 0 of nil, an Errno's number; nothing that lay is turned.
-/
import Derived.Test.YtbggkoahofnnjaaDoorJK10
import Derived.Test.YtbggkoahofnnjaaDoorJK1
namespace Go.Proofs.YtbggkoahofnnjaaDoor
open Go.RowKit Go.Extern.Stop Go.Stop Go.Extern
set_option linter.unusedVariables false

end Go.Proofs.YtbggkoahofnnjaaDoor
