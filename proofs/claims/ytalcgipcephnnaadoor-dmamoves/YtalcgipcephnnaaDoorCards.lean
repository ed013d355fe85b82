/-
  DERIVED. GIVEN WITH THE SEED: THE CARDS: each row of YtalcgipcephnnaaDoorRows.lean that lists a variable, with what it lists TIED to the program's text (the seventh form; the later family's looks); each row that meets fmt, with fmt's text TOLD by the authors' own Lean function (tested against real Go, not proved from fmt's source: count such statements apart). THE CARD IS WHAT COUNTS. Prove the row's statement (the work); the ties are given (YtalcgipcephnnaaDoorTie.lean); close each card by the builder's one call (the guide's Derived/Test/ToyasCard.lean, 'card_holds'). Laid BY PROGRAM, IN A SANDBOX (cutbox-door.mjs). By AI agents, Wed Nov 11 2026. No macro, syntax, notation, axiom, sorry.
-/
import Derived.Test.YtalcgipcephnnaaDoorRows
import GoSem.ClaimSeven
namespace Go.Proofs.YtalcgipcephnnaaDoor
namespace Rows

/-- THE TIED CARD OF 'pinnacelaw12.DmaRegs'. -/
def dmaRegsCard : Claim7 := { stood := { row := dmaRegsRow, standIns := [], harness := (true, "d1af6ef15ad84275b8b7023fca5e799187f0d4a3b4c8ce5f5e664cbbf7753002"), looks := true }, kinds := [], alts := [], laidByText := true, laidKinds := [.handle, .data], laidTests := true, laidLooks := .later }
def DmaRegsCardSaid : Prop := Claim7.holds Tryd.pinned (.plain (OpenSpec.ofChange dmaRegsSpec)) dmaRegsCard

/-- THE TIED CARD OF 'pinnacelaw12.DmaTicks'. -/
def dmaTicksCard : Claim7 := { stood := { row := dmaTicksRow, standIns := [], harness := (true, "d1af6ef15ad84275b8b7023fca5e799187f0d4a3b4c8ce5f5e664cbbf7753002"), looks := true }, kinds := [], alts := [], laidByText := true, laidKinds := [.data], laidTests := true, laidLooks := .later }
def DmaTicksCardSaid : Prop := Claim7.holds Tryd.pinned (.plain (OpenSpec.ofChange dmaTicksSpec)) dmaTicksCard

/-- THE TIED CARD OF 'pinnacelaw12.DmaHolds'. -/
def dmaHoldsCard : Claim7 := { stood := { row := dmaHoldsRow, standIns := [], harness := (true, "d1af6ef15ad84275b8b7023fca5e799187f0d4a3b4c8ce5f5e664cbbf7753002"), looks := true }, kinds := [], alts := [], laidByText := true, laidKinds := [.data], laidTests := true, laidLooks := .later }
def DmaHoldsCardSaid : Prop := Claim7.holds Tryd.pinned (.plain (OpenSpec.ofChange dmaHoldsSpec)) dmaHoldsCard

/-- THE TIED CARD OF 'pinnacelaw12.DmaMoves'. -/
def dmaMovesCard : Claim7 := { stood := { row := dmaMovesRow, standIns := [], harness := (true, "d1af6ef15ad84275b8b7023fca5e799187f0d4a3b4c8ce5f5e664cbbf7753002"), looks := true }, kinds := [], alts := [], laidByText := true, laidKinds := [.data], laidTests := true, laidLooks := .later }
def DmaMovesCardSaid : Prop := Claim7.holds Tryd.pinned (.plain (OpenSpec.ofChange dmaMovesSpec)) dmaMovesCard

/-- THE TIED CARD OF 'pinnacelaw12.DmaRound'. -/
def dmaRoundCard : Claim7 := { stood := { row := dmaRoundRow, standIns := [], harness := (true, "d1af6ef15ad84275b8b7023fca5e799187f0d4a3b4c8ce5f5e664cbbf7753002"), looks := true }, kinds := [], alts := [], laidByText := true, laidKinds := [.data], laidTests := true, laidLooks := .later }
def DmaRoundCardSaid : Prop := Claim7.holds Tryd.pinned (.plain (OpenSpec.ofChange dmaRoundSpec)) dmaRoundCard

/-- THE TIED CARD OF 'pinnacelaw12.DmaStops'. -/
def dmaStopsCard : Claim7 := { stood := { row := dmaStopsRow, standIns := [], harness := (true, "d1af6ef15ad84275b8b7023fca5e799187f0d4a3b4c8ce5f5e664cbbf7753002"), looks := true }, kinds := [], alts := [], laidByText := true, laidKinds := [.data], laidTests := true, laidLooks := .later }
def DmaStopsCardSaid : Prop := Claim7.holds Tryd.pinned (.plain (OpenSpec.ofChange dmaStopsSpec)) dmaStopsCard

/-- THE SECOND FORM's CARD OF 'pinnacelaw12.DmaRegs'. -/
def dmaRegsUptoCard : Claim7 := { stood := { row := dmaRegsUptoRow, standIns := [], harness := (true, "d1af6ef15ad84275b8b7023fca5e799187f0d4a3b4c8ce5f5e664cbbf7753002"), looks := true }, kinds := [], alts := [], laidByText := true, laidKinds := [.handle, .data], laidTests := true, laidLooks := .later }
def DmaRegsUptoCardSaid : Prop := Claim7.holds Tryd.pinned (.plain (OpenSpec.upto dmaRegsSpec)) dmaRegsUptoCard

/-- THE SECOND FORM's CARD OF 'pinnacelaw12.DmaTicks'. -/
def dmaTicksUptoCard : Claim7 := { stood := { row := dmaTicksUptoRow, standIns := [], harness := (true, "d1af6ef15ad84275b8b7023fca5e799187f0d4a3b4c8ce5f5e664cbbf7753002"), looks := true }, kinds := [], alts := [], laidByText := true, laidKinds := [.data], laidTests := true, laidLooks := .later }
def DmaTicksUptoCardSaid : Prop := Claim7.holds Tryd.pinned (.plain (OpenSpec.upto dmaTicksSpec)) dmaTicksUptoCard

/-- THE SECOND FORM's CARD OF 'pinnacelaw12.DmaHolds'. -/
def dmaHoldsUptoCard : Claim7 := { stood := { row := dmaHoldsUptoRow, standIns := [], harness := (true, "d1af6ef15ad84275b8b7023fca5e799187f0d4a3b4c8ce5f5e664cbbf7753002"), looks := true }, kinds := [], alts := [], laidByText := true, laidKinds := [.data], laidTests := true, laidLooks := .later }
def DmaHoldsUptoCardSaid : Prop := Claim7.holds Tryd.pinned (.plain (OpenSpec.upto dmaHoldsSpec)) dmaHoldsUptoCard

/-- THE SECOND FORM's CARD OF 'pinnacelaw12.DmaMoves'. -/
def dmaMovesUptoCard : Claim7 := { stood := { row := dmaMovesUptoRow, standIns := [], harness := (true, "d1af6ef15ad84275b8b7023fca5e799187f0d4a3b4c8ce5f5e664cbbf7753002"), looks := true }, kinds := [], alts := [], laidByText := true, laidKinds := [.data], laidTests := true, laidLooks := .later }
def DmaMovesUptoCardSaid : Prop := Claim7.holds Tryd.pinned (.plain (OpenSpec.upto dmaMovesSpec)) dmaMovesUptoCard

/-- THE SECOND FORM's CARD OF 'pinnacelaw12.DmaRound'. -/
def dmaRoundUptoCard : Claim7 := { stood := { row := dmaRoundUptoRow, standIns := [], harness := (true, "d1af6ef15ad84275b8b7023fca5e799187f0d4a3b4c8ce5f5e664cbbf7753002"), looks := true }, kinds := [], alts := [], laidByText := true, laidKinds := [.data], laidTests := true, laidLooks := .later }
def DmaRoundUptoCardSaid : Prop := Claim7.holds Tryd.pinned (.plain (OpenSpec.upto dmaRoundSpec)) dmaRoundUptoCard

/-- THE SECOND FORM's CARD OF 'pinnacelaw12.DmaStops'. -/
def dmaStopsUptoCard : Claim7 := { stood := { row := dmaStopsUptoRow, standIns := [], harness := (true, "d1af6ef15ad84275b8b7023fca5e799187f0d4a3b4c8ce5f5e664cbbf7753002"), looks := true }, kinds := [], alts := [], laidByText := true, laidKinds := [.data], laidTests := true, laidLooks := .later }
def DmaStopsUptoCardSaid : Prop := Claim7.holds Tryd.pinned (.plain (OpenSpec.upto dmaStopsSpec)) dmaStopsUptoCard
end Rows
end Go.Proofs.YtalcgipcephnnaaDoor
