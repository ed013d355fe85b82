/-
  What the law's own num answers: 0 of nil, an Errno's number; nothing that lay is turned.
-/
import Derived.Test.YtbggkoahofnnjaaGreatDoorJH12
import Derived.Test.YtbggkoahofnnjaaGreatDoorJH2
namespace Go.Proofs.YtbggkoahofnnjaaGreatDoor
open Go.RowKit Go.Extern.Stop Go.Stop Go.Extern
set_option linter.unusedVariables false

end Go.Proofs.YtbggkoahofnnjaaGreatDoor
