/-
  DERIVED. GIVEN WITH THE SEED: THE CARDS: each row of YtchlomnkjilmeaaDoorRows.lean that lists a variable, with what it lists TIED to the program's text (the seventh form; the later family's looks); each row that meets fmt, with fmt's text TOLD by the authors' own Lean function (tested against real Go, not proved from fmt's source: count such statements apart). THE CARD IS WHAT COUNTS. Prove the row's statement (the work); the ties are given (YtchlomnkjilmeaaDoorTie.lean); close each card by the builder's one call (the guide's Derived/Test/ToyasCard.lean, 'card_holds'). Laid BY PROGRAM, IN A SANDBOX (cutbox-door.mjs). By AI agents, Wed Nov 11 2026. No macro, syntax, notation, axiom, sorry.
-/
import Derived.Test.YtchlomnkjilmeaaDoorRows
import GoSem.ClaimSeven
namespace Go.Proofs.YtchlomnkjilmeaaDoor
namespace Rows

/-- THE TIED CARD OF 'pinnacelaw05.CsrReads'. -/
def csrReadsCard : Claim7 := { stood := { row := csrReadsRow, standIns := [], harness := (true, "5ea5c516a6e7fe293f7fa5cfccb887323184e59607eb396b0c241bb97107b748"), looks := true }, kinds := [], alts := [], laidByText := true, laidKinds := [.handle], laidTests := true, laidLooks := .later }
def CsrReadsCardSaid : Prop := Claim7.holds Tryd.pinned (.plain (OpenSpec.ofChange csrReadsSpec)) csrReadsCard

/-- THE TIED CARD OF 'pinnacelaw05.CsrWrites'. -/
def csrWritesCard : Claim7 := { stood := { row := csrWritesRow, standIns := [], harness := (true, "5ea5c516a6e7fe293f7fa5cfccb887323184e59607eb396b0c241bb97107b748"), looks := true }, kinds := [], alts := [], laidByText := true, laidKinds := [.handle], laidTests := true, laidLooks := .later }
def CsrWritesCardSaid : Prop := Claim7.holds Tryd.pinned (.plain (OpenSpec.ofChange csrWritesSpec)) csrWritesCard

/-- THE TIED CARD OF 'pinnacelaw05.CsrReturns'. -/
def csrReturnsCard : Claim7 := { stood := { row := csrReturnsRow, standIns := [], harness := (true, "5ea5c516a6e7fe293f7fa5cfccb887323184e59607eb396b0c241bb97107b748"), looks := true }, kinds := [], alts := [], laidByText := true, laidKinds := [.data], laidTests := true, laidLooks := .later }
def CsrReturnsCardSaid : Prop := Claim7.holds Tryd.pinned (.plain (OpenSpec.ofChange csrReturnsSpec)) csrReturnsCard

/-- THE TIED CARD OF 'pinnacelaw05.CsrHolds'. -/
def csrHoldsCard : Claim7 := { stood := { row := csrHoldsRow, standIns := [], harness := (true, "5ea5c516a6e7fe293f7fa5cfccb887323184e59607eb396b0c241bb97107b748"), looks := true }, kinds := [], alts := [], laidByText := true, laidKinds := [.data], laidTests := true, laidLooks := .later }
def CsrHoldsCardSaid : Prop := Claim7.holds Tryd.pinned (.plain (OpenSpec.ofChange csrHoldsSpec)) csrHoldsCard

/-- THE SECOND FORM's CARD OF 'pinnacelaw05.CsrReads'. -/
def csrReadsUptoCard : Claim7 := { stood := { row := csrReadsUptoRow, standIns := [], harness := (true, "5ea5c516a6e7fe293f7fa5cfccb887323184e59607eb396b0c241bb97107b748"), looks := true }, kinds := [], alts := [], laidByText := true, laidKinds := [.handle], laidTests := true, laidLooks := .later }
def CsrReadsUptoCardSaid : Prop := Claim7.holds Tryd.pinned (.plain (OpenSpec.upto csrReadsSpec)) csrReadsUptoCard

/-- THE SECOND FORM's CARD OF 'pinnacelaw05.CsrWrites'. -/
def csrWritesUptoCard : Claim7 := { stood := { row := csrWritesUptoRow, standIns := [], harness := (true, "5ea5c516a6e7fe293f7fa5cfccb887323184e59607eb396b0c241bb97107b748"), looks := true }, kinds := [], alts := [], laidByText := true, laidKinds := [.handle], laidTests := true, laidLooks := .later }
def CsrWritesUptoCardSaid : Prop := Claim7.holds Tryd.pinned (.plain (OpenSpec.upto csrWritesSpec)) csrWritesUptoCard

/-- THE SECOND FORM's CARD OF 'pinnacelaw05.CsrReturns'. -/
def csrReturnsUptoCard : Claim7 := { stood := { row := csrReturnsUptoRow, standIns := [], harness := (true, "5ea5c516a6e7fe293f7fa5cfccb887323184e59607eb396b0c241bb97107b748"), looks := true }, kinds := [], alts := [], laidByText := true, laidKinds := [.data], laidTests := true, laidLooks := .later }
def CsrReturnsUptoCardSaid : Prop := Claim7.holds Tryd.pinned (.plain (OpenSpec.upto csrReturnsSpec)) csrReturnsUptoCard

/-- THE SECOND FORM's CARD OF 'pinnacelaw05.CsrHolds'. -/
def csrHoldsUptoCard : Claim7 := { stood := { row := csrHoldsUptoRow, standIns := [], harness := (true, "5ea5c516a6e7fe293f7fa5cfccb887323184e59607eb396b0c241bb97107b748"), looks := true }, kinds := [], alts := [], laidByText := true, laidKinds := [.data], laidTests := true, laidLooks := .later }
def CsrHoldsUptoCardSaid : Prop := Claim7.holds Tryd.pinned (.plain (OpenSpec.upto csrHoldsSpec)) csrHoldsUptoCard
end Rows
end Go.Proofs.YtchlomnkjilmeaaDoor
