/-
  DERIVED. GIVEN WITH THE SEED: THE CARDS: each row of YtchlomnkjilmeabDoorRows.lean that lists a variable, with what it lists TIED to the program's text (the seventh form; the later family's looks); each row that meets fmt, with fmt's text TOLD by the authors' own Lean function (tested against real Go, not proved from fmt's source: count such statements apart). THE CARD IS WHAT COUNTS. Prove the row's statement (the work); the ties are given (YtchlomnkjilmeabDoorTie.lean); close each card by the builder's one call (the guide's Derived/Test/ToyasCard.lean, 'card_holds'). Laid BY PROGRAM, IN A SANDBOX (cutbox-door.mjs). By AI agents, Wed Nov 11 2026. No macro, syntax, notation, axiom, sorry.
-/
import Derived.Test.YtchlomnkjilmeabDoorRows
import GoSem.ClaimSeven
namespace Go.Proofs.YtchlomnkjilmeabDoor
namespace Rows

/-- THE TIED CARD OF 'pinnacelaw05.CsrAsks'. -/
def csrAsksCard : Claim7 := { stood := { row := csrAsksRow, standIns := [], harness := (true, "21d67511b61cb7ea9856172149474515b7f00cf8092f7eb348af5a2a1d3e4e09"), looks := false }, kinds := [], alts := [], laidByText := true, laidKinds := [.data], laidTests := true, laidLooks := .later }
def CsrAsksCardSaid : Prop := Claim7.holds Tryd.pinned (.plain (OpenSpec.ofChange csrAsksSpec)) csrAsksCard

/-- THE SECOND FORM's CARD OF 'pinnacelaw05.CsrAsks'. -/
def csrAsksUptoCard : Claim7 := { stood := { row := csrAsksUptoRow, standIns := [], harness := (true, "21d67511b61cb7ea9856172149474515b7f00cf8092f7eb348af5a2a1d3e4e09"), looks := false }, kinds := [], alts := [], laidByText := true, laidKinds := [.data], laidTests := true, laidLooks := .later }
def CsrAsksUptoCardSaid : Prop := Claim7.holds Tryd.pinned (.plain (OpenSpec.upto csrAsksSpec)) csrAsksUptoCard
end Rows
end Go.Proofs.YtchlomnkjilmeabDoor
