/-
  Small laws that the walks share.
-/
import Derived.Test.YtkahkkcbigifiaaDoorRows
import Derived.Test.YtkahkkcbigifiaaDoorMath
import Derived.WalkKit
import Derived.WalkLawsBesides
import Derived.WalkSpells
import Derived.Laws.Rows
namespace Go.Proofs.YtkahkkcbigifiaaDoor
open Go.RowKit

theorem ret_int {k : IntKind} {a b : Int} (h : a = b) : Ending.returned (.int k a) = .returned (.int k b) := by rw [h]

theorem hide {p : Prop} (h : p) : Hid p := h
end Go.Proofs.YtkahkkcbigifiaaDoor
