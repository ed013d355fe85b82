/-
  DERIVED. GIVEN WITH THE SEED: THE CARDS: each row of YthopfecjnbfnmaaDoorRows.lean that lists a variable, with what it lists TIED to the program's text (the seventh form; the later family's looks); each row that meets fmt, with fmt's text TOLD by the authors' own Lean function (tested against real Go, not proved from fmt's source: count such statements apart). THE CARD IS WHAT COUNTS. Prove the row's statement (the work); the ties are given (YthopfecjnbfnmaaDoorTie.lean); close each card by the builder's one call (the guide's Derived/Test/ToyasCard.lean, 'card_holds'). Laid BY PROGRAM, IN A SANDBOX (cutbox-door.mjs). By AI agents, Wed Nov 11 2026. No macro, syntax, notation, axiom, sorry.
-/
import Derived.Test.YthopfecjnbfnmaaDoorRows
import GoSem.ClaimSeven
namespace Go.Proofs.YthopfecjnbfnmaaDoor
namespace Rows

/-- THE TIED CARD OF 'pinnacelaw11.UartReads'. -/
def uartReadsCard : Claim7 := { stood := { row := uartReadsRow, standIns := [], harness := (true, "9f65d26a24ac6f0f41cbaf7824ef5ff793113f292d977f6df304476efd46f9ef"), looks := true }, kinds := [], alts := [], laidByText := true, laidKinds := [.handle], laidTests := true, laidLooks := .later }
def UartReadsCardSaid : Prop := Claim7.holds Tryd.pinned (.plain (OpenSpec.ofChange uartReadsSpec)) uartReadsCard

/-- THE TIED CARD OF 'pinnacelaw11.UartWrites'. -/
def uartWritesCard : Claim7 := { stood := { row := uartWritesRow, standIns := [], harness := (true, "9f65d26a24ac6f0f41cbaf7824ef5ff793113f292d977f6df304476efd46f9ef"), looks := true }, kinds := [], alts := [], laidByText := true, laidKinds := [.handle], laidTests := true, laidLooks := .later }
def UartWritesCardSaid : Prop := Claim7.holds Tryd.pinned (.plain (OpenSpec.ofChange uartWritesSpec)) uartWritesCard

/-- THE SECOND FORM's CARD OF 'pinnacelaw11.UartReads'. -/
def uartReadsUptoCard : Claim7 := { stood := { row := uartReadsUptoRow, standIns := [], harness := (true, "9f65d26a24ac6f0f41cbaf7824ef5ff793113f292d977f6df304476efd46f9ef"), looks := true }, kinds := [], alts := [], laidByText := true, laidKinds := [.handle], laidTests := true, laidLooks := .later }
def UartReadsUptoCardSaid : Prop := Claim7.holds Tryd.pinned (.plain (OpenSpec.upto uartReadsSpec)) uartReadsUptoCard

/-- THE SECOND FORM's CARD OF 'pinnacelaw11.UartWrites'. -/
def uartWritesUptoCard : Claim7 := { stood := { row := uartWritesUptoRow, standIns := [], harness := (true, "9f65d26a24ac6f0f41cbaf7824ef5ff793113f292d977f6df304476efd46f9ef"), looks := true }, kinds := [], alts := [], laidByText := true, laidKinds := [.handle], laidTests := true, laidLooks := .later }
def UartWritesUptoCardSaid : Prop := Claim7.holds Tryd.pinned (.plain (OpenSpec.upto uartWritesSpec)) uartWritesUptoCard
end Rows
end Go.Proofs.YthopfecjnbfnmaaDoor
