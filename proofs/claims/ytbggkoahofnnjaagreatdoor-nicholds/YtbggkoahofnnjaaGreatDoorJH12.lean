/-
  What errors.As answers of an Errno, and what the law's own num answers of nil and of an Errno: its number.
-/
import Derived.Test.YtbggkoahofnnjaaGreatDoorRows
import Derived.WalkKit
import Derived.WalkLawsBesides
import Derived.LaidEql
import Derived.Stop.Asserts
import Derived.RowKitTokens
import Derived.Below
namespace Go.Proofs.YtbggkoahofnnjaaGreatDoor
open Go.RowKit Go.Extern.Stop Go.Stop Go.Extern

/-- What the listed variable holds. -/
def HandleAt (w : World) : Prop := w.cell? ⟨0, 0, none⟩ = some (.iface 201 (.agg #[.pointer (some ⟨3, 44, none⟩)]))

end Go.Proofs.YtbggkoahofnnjaaGreatDoor
