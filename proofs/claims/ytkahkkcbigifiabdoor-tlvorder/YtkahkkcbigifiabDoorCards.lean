/-
  DERIVED. GIVEN WITH THE SEED: THE CARDS: each row of YtkahkkcbigifiabDoorRows.lean that lists a variable, with what it lists TIED to the program's text (the seventh form; the later family's looks); each row that meets fmt, with fmt's text TOLD by the authors' own Lean function (tested against real Go, not proved from fmt's source: count such statements apart). THE CARD IS WHAT COUNTS. Prove the row's statement (the work); the ties are given (YtkahkkcbigifiabDoorTie.lean); close each card by the builder's one call (the guide's Derived/Test/ToyasCard.lean, 'card_holds'). Laid BY PROGRAM, IN A SANDBOX (cutbox-door.mjs). By AI agents, Wed Nov 11 2026. No macro, syntax, notation, axiom, sorry.
-/
import Derived.Test.YtkahkkcbigifiabDoorRows
import GoSem.ClaimSeven
namespace Go.Proofs.YtkahkkcbigifiabDoor
namespace Rows

/-- THE TIED CARD OF 'pinnacelaw19.TlvOrder'. -/
def tlvOrderCard : Claim7 := { stood := { row := tlvOrderRow, standIns := [], harness := (true, "f5db0c47d216ee81a32c6e997726df36422085eaee03a1e31d5f197c34ab3ee0"), looks := true }, kinds := [], alts := [], laidByText := true, laidKinds := [.handle, .data], laidTests := true, laidLooks := .later }
def TlvOrderCardSaid : Prop := Claim7.holds Tryd.pinned (.plain (OpenSpec.ofChange tlvOrderSpec)) tlvOrderCard

/-- THE SECOND FORM's CARD OF 'pinnacelaw19.TlvOrder'. -/
def tlvOrderUptoCard : Claim7 := { stood := { row := tlvOrderUptoRow, standIns := [], harness := (true, "f5db0c47d216ee81a32c6e997726df36422085eaee03a1e31d5f197c34ab3ee0"), looks := true }, kinds := [], alts := [], laidByText := true, laidKinds := [.handle, .data], laidTests := true, laidLooks := .later }
def TlvOrderUptoCardSaid : Prop := Claim7.holds Tryd.pinned (.plain (OpenSpec.upto tlvOrderSpec)) tlvOrderUptoCard
end Rows
end Go.Proofs.YtkahkkcbigifiabDoor
