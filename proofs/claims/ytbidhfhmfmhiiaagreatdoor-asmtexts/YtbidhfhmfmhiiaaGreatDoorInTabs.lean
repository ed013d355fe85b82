/-
  The tables of package inst, all three.
-/
import Derived.Test.YtbidhfhmfmhiiaaGreatDoorInDec
import Derived.Test.YtbidhfhmfmhiiaaGreatDoorInName
import Derived.Test.YtbidhfhmfmhiiaaGreatDoorInEq
namespace Go.Proofs.YtbidhfhmfmhiiaaGreatDoor
open Go.RowKit
set_option linter.unusedVariables false

def TabsAt (w : World) : Prop := (KindsAt w ∧ WordsAt w) ∧ NamesAt w
theorem TabsAt.below {w w' : World} (h : TabsAt w) (hb : Below w.heap.size w w') : TabsAt w' := ⟨⟨h.1.1.below hb, h.1.2.below hb⟩, h.2.below hb⟩

end Go.Proofs.YtbidhfhmfmhiiaaGreatDoor
