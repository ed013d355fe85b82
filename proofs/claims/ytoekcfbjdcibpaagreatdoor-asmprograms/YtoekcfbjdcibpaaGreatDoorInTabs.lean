/-
  The tables of package inst, all three.
-/
import Derived.Test.YtoekcfbjdcibpaaGreatDoorInDec
import Derived.Test.YtoekcfbjdcibpaaGreatDoorInName
import Derived.Test.YtoekcfbjdcibpaaGreatDoorInEq
namespace Go.Proofs.YtoekcfbjdcibpaaGreatDoor
open Go.RowKit
set_option linter.unusedVariables false

def TabsAt (w : World) : Prop := (KindsAt w ∧ WordsAt w) ∧ NamesAt w
theorem TabsAt.below {w w' : World} (h : TabsAt w) (hb : Below w.heap.size w w') : TabsAt w' := ⟨⟨h.1.1.below hb, h.1.2.below hb⟩, h.2.below hb⟩

end Go.Proofs.YtoekcfbjdcibpaaGreatDoor
