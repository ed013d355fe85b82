/-
  DERIVED. GIVEN WITH THE SEED: THE CARDS: each row of YtjibjginafjpcaaDoorRows.lean that lists a variable, with what it lists TIED to the program's text (the seventh form; the later family's looks); each row that meets fmt, with fmt's text TOLD by the authors' own Lean function (tested against real Go, not proved from fmt's source: count such statements apart). THE CARD IS WHAT COUNTS. Prove the row's statement (the work); the ties are given (YtjibjginafjpcaaDoorTie.lean); close each card by the builder's one call (the guide's Derived/Test/ToyasCard.lean, 'card_holds'). Laid BY PROGRAM, IN A SANDBOX (cutbox-door.mjs). By AI agents, Wed Nov 11 2026. No macro, syntax, notation, axiom, sorry.
-/
import Derived.Test.YtjibjginafjpcaaDoorRows
import GoSem.ClaimSeven
namespace Go.Proofs.YtjibjginafjpcaaDoor
namespace Rows

/-- THE TIED CARD OF 'pinnacelaw10.ClintReads'. -/
def clintReadsCard : Claim7 := { stood := { row := clintReadsRow, standIns := [], harness := (true, "be195018d35c91a8eaa228ce616203cb5b8f79f8baf1bc8daccaa715cdd23674"), looks := true }, kinds := [], alts := [], laidByText := true, laidKinds := [.handle], laidTests := true, laidLooks := .later }
def ClintReadsCardSaid : Prop := Claim7.holds Tryd.pinned (.plain (OpenSpec.ofChange clintReadsSpec)) clintReadsCard

/-- THE TIED CARD OF 'pinnacelaw10.ClintWrites'. -/
def clintWritesCard : Claim7 := { stood := { row := clintWritesRow, standIns := [], harness := (true, "be195018d35c91a8eaa228ce616203cb5b8f79f8baf1bc8daccaa715cdd23674"), looks := true }, kinds := [], alts := [], laidByText := true, laidKinds := [.handle], laidTests := true, laidLooks := .later }
def ClintWritesCardSaid : Prop := Claim7.holds Tryd.pinned (.plain (OpenSpec.ofChange clintWritesSpec)) clintWritesCard

/-- THE SECOND FORM's CARD OF 'pinnacelaw10.ClintReads'. -/
def clintReadsUptoCard : Claim7 := { stood := { row := clintReadsUptoRow, standIns := [], harness := (true, "be195018d35c91a8eaa228ce616203cb5b8f79f8baf1bc8daccaa715cdd23674"), looks := true }, kinds := [], alts := [], laidByText := true, laidKinds := [.handle], laidTests := true, laidLooks := .later }
def ClintReadsUptoCardSaid : Prop := Claim7.holds Tryd.pinned (.plain (OpenSpec.upto clintReadsSpec)) clintReadsUptoCard

/-- THE SECOND FORM's CARD OF 'pinnacelaw10.ClintWrites'. -/
def clintWritesUptoCard : Claim7 := { stood := { row := clintWritesUptoRow, standIns := [], harness := (true, "be195018d35c91a8eaa228ce616203cb5b8f79f8baf1bc8daccaa715cdd23674"), looks := true }, kinds := [], alts := [], laidByText := true, laidKinds := [.handle], laidTests := true, laidLooks := .later }
def ClintWritesUptoCardSaid : Prop := Claim7.holds Tryd.pinned (.plain (OpenSpec.upto clintWritesSpec)) clintWritesUptoCard
end Rows
end Go.Proofs.YtjibjginafjpcaaDoor
