/-
  What the law's own num answers: 0 of nil, an Errno's number; nothing that lay is turned.
-/
import Derived.Test.YtaaiockiojejeaaGreatDoorJW10
import Derived.Test.YtaaiockiojejeaaGreatDoorJW1
namespace Go.Proofs.YtaaiockiojejeaaGreatDoor
open Go.RowKit Go.Extern.Stop Go.Stop Go.Extern
set_option linter.unusedVariables false

end Go.Proofs.YtaaiockiojejeaaGreatDoor
