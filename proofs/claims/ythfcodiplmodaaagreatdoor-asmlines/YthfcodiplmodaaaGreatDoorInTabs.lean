/-
  The tables of package inst, all three.
-/
import Derived.Test.YthfcodiplmodaaaGreatDoorInDec
import Derived.Test.YthfcodiplmodaaaGreatDoorInName
import Derived.Test.YthfcodiplmodaaaGreatDoorInEq
namespace Go.Proofs.YthfcodiplmodaaaGreatDoor
open Go.RowKit
set_option linter.unusedVariables false

def TabsAt (w : World) : Prop := (KindsAt w ∧ WordsAt w) ∧ NamesAt w
theorem TabsAt.below {w w' : World} (h : TabsAt w) (hb : Below w.heap.size w w') : TabsAt w' := ⟨⟨h.1.1.below hb, h.1.2.below hb⟩, h.2.below hb⟩

end Go.Proofs.YthfcodiplmodaaaGreatDoor
