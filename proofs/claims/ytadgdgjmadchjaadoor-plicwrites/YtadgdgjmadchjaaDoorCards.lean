/-
  DERIVED. GIVEN WITH THE SEED: THE CARDS: each row of YtadgdgjmadchjaaDoorRows.lean that lists a variable, with what it lists TIED to the program's text (the seventh form; the later family's looks); each row that meets fmt, with fmt's text TOLD by the authors' own Lean function (tested against real Go, not proved from fmt's source: count such statements apart). THE CARD IS WHAT COUNTS. Prove the row's statement (the work); the ties are given (YtadgdgjmadchjaaDoorTie.lean); close each card by the builder's one call (the guide's Derived/Test/ToyasCard.lean, 'card_holds'). Laid BY PROGRAM, IN A SANDBOX (cutbox-door.mjs). By AI agents, Wed Nov 11 2026. No macro, syntax, notation, axiom, sorry.
-/
import Derived.Test.YtadgdgjmadchjaaDoorRows
import GoSem.ClaimSeven
namespace Go.Proofs.YtadgdgjmadchjaaDoor
namespace Rows

/-- THE TIED CARD OF 'pinnacelaw09.PlicReads'. -/
def plicReadsCard : Claim7 := { stood := { row := plicReadsRow, standIns := [], harness := (true, "445dd00ab013f6cb7789bd90a5b2532d927bcf93a0ddc32462bd4f0dfbce1cc5"), looks := true }, kinds := [], alts := [], laidByText := true, laidKinds := [.handle], laidTests := true, laidLooks := .later }
def PlicReadsCardSaid : Prop := Claim7.holds Tryd.pinned (.plain (OpenSpec.ofChange plicReadsSpec)) plicReadsCard

/-- THE TIED CARD OF 'pinnacelaw09.PlicWrites'. -/
def plicWritesCard : Claim7 := { stood := { row := plicWritesRow, standIns := [], harness := (true, "445dd00ab013f6cb7789bd90a5b2532d927bcf93a0ddc32462bd4f0dfbce1cc5"), looks := true }, kinds := [], alts := [], laidByText := true, laidKinds := [.handle], laidTests := true, laidLooks := .later }
def PlicWritesCardSaid : Prop := Claim7.holds Tryd.pinned (.plain (OpenSpec.ofChange plicWritesSpec)) plicWritesCard

/-- THE SECOND FORM's CARD OF 'pinnacelaw09.PlicReads'. -/
def plicReadsUptoCard : Claim7 := { stood := { row := plicReadsUptoRow, standIns := [], harness := (true, "445dd00ab013f6cb7789bd90a5b2532d927bcf93a0ddc32462bd4f0dfbce1cc5"), looks := true }, kinds := [], alts := [], laidByText := true, laidKinds := [.handle], laidTests := true, laidLooks := .later }
def PlicReadsUptoCardSaid : Prop := Claim7.holds Tryd.pinned (.plain (OpenSpec.upto plicReadsSpec)) plicReadsUptoCard

/-- THE SECOND FORM's CARD OF 'pinnacelaw09.PlicWrites'. -/
def plicWritesUptoCard : Claim7 := { stood := { row := plicWritesUptoRow, standIns := [], harness := (true, "445dd00ab013f6cb7789bd90a5b2532d927bcf93a0ddc32462bd4f0dfbce1cc5"), looks := true }, kinds := [], alts := [], laidByText := true, laidKinds := [.handle], laidTests := true, laidLooks := .later }
def PlicWritesUptoCardSaid : Prop := Claim7.holds Tryd.pinned (.plain (OpenSpec.upto plicWritesSpec)) plicWritesUptoCard
end Rows
end Go.Proofs.YtadgdgjmadchjaaDoor
