/-
  DERIVED. GIVEN WITH THE SEED: THE CARDS: each row of YtcgnkkkeoeoenabDoorRows.lean that lists a variable, with what it lists TIED to the program's text (the seventh form; the later family's looks); each row that meets fmt, with fmt's text TOLD by the authors' own Lean function (tested against real Go, not proved from fmt's source: count such statements apart). THE CARD IS WHAT COUNTS. Prove the row's statement (the work); the ties are given (YtcgnkkkeoeoenabDoorTie.lean); close each card by the builder's one call (the guide's Derived/Test/ToyasCard.lean, 'card_holds'). Laid BY PROGRAM, IN A SANDBOX (cutbox-door.mjs). By AI agents, Wed Nov 11 2026. No macro, syntax, notation, axiom, sorry.
-/
import Derived.Test.YtcgnkkkeoeoenabDoorRows
import GoSem.ClaimSeven
namespace Go.Proofs.YtcgnkkkeoeoenabDoor
namespace Rows

/-- THE TIED CARD OF 'pinnacelaw01.WordHex'. -/
def wordHexCard : Claim7 := { stood := { row := wordHexRow, standIns := [], harness := (true, "8a1a6e7b2f54f706e67ec795f462a9cf3e9735ccf745dd176e7073844d5c7c39"), looks := true }, kinds := [], alts := [], laidByText := true, laidKinds := [.handle], laidTests := true, laidLooks := .later }
def WordHexCardSaid : Prop := Claim7.holds Tryd.pinned (.plain (OpenSpec.ofChange wordHexSpec)) wordHexCard

/-- THE SECOND FORM's CARD OF 'pinnacelaw01.WordHex'. -/
def wordHexUptoCard : Claim7 := { stood := { row := wordHexUptoRow, standIns := [], harness := (true, "8a1a6e7b2f54f706e67ec795f462a9cf3e9735ccf745dd176e7073844d5c7c39"), looks := true }, kinds := [], alts := [], laidByText := true, laidKinds := [.handle], laidTests := true, laidLooks := .later }
def WordHexUptoCardSaid : Prop := Claim7.holds Tryd.pinned (.plain (OpenSpec.upto wordHexSpec)) wordHexUptoCard
end Rows
end Go.Proofs.YtcgnkkkeoeoenabDoor
