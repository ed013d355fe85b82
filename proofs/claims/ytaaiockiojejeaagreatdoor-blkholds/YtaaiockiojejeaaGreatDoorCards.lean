/-
  DERIVED. GIVEN WITH THE SEED: THE CARDS: each row of YtaaiockiojejeaaGreatDoorRows.lean that lists a variable, with what it lists TIED to the program's text (the seventh form; the later family's looks); each row that meets fmt, with fmt's text TOLD by the authors' own Lean function (tested against real Go, not proved from fmt's source: count such statements apart). THE CARD IS WHAT COUNTS. Prove the row's statement (the work); the ties are given (YtaaiockiojejeaaGreatDoorTie.lean); close each card by the builder's one call (the guide's Derived/Test/ToyasCard.lean, 'card_holds'). Laid BY PROGRAM, IN A SANDBOX (cutbox-door.mjs). By AI agents, Wed Nov 11 2026. No macro, syntax, notation, axiom, sorry.
-/
import Derived.Test.YtaaiockiojejeaaGreatDoorRows
import GoSem.ClaimSeven
namespace Go.Proofs.YtaaiockiojejeaaGreatDoor
namespace Rows

/-- THE TIED CARD OF 'pinnacelaw15.BlkPolls'. -/
def blkPollsCard : Claim7 := { stood := { row := blkPollsRow, standIns := [], harness := (true, "2f455350fbb82755557b3c8cb56ab2e3f5cc16ade0081c890046dcb508a0232b"), looks := true }, kinds := [], alts := [], laidByText := true, laidKinds := [.data], laidTests := true, laidLooks := .later }
def BlkPollsCardSaid : Prop := Claim7.holds Tryz.pinned (.plain (OpenSpec.ofChange blkPollsSpec)) blkPollsCard

/-- THE TIED CARD OF 'pinnacelaw15.BlkFinishes'. -/
def blkFinishesCard : Claim7 := { stood := { row := blkFinishesRow, standIns := [], harness := (true, "2f455350fbb82755557b3c8cb56ab2e3f5cc16ade0081c890046dcb508a0232b"), looks := true }, kinds := [], alts := [], laidByText := true, laidKinds := [.handle, .data], laidTests := true, laidLooks := .later }
def BlkFinishesCardSaid : Prop := Claim7.holds Tryz.pinned (.plain (OpenSpec.ofChange blkFinishesSpec)) blkFinishesCard

/-- THE TIED CARD OF 'pinnacelaw15.BlkHolds'. -/
def blkHoldsCard : Claim7 := { stood := { row := blkHoldsRow, standIns := [], harness := (true, "2f455350fbb82755557b3c8cb56ab2e3f5cc16ade0081c890046dcb508a0232b"), looks := true }, kinds := [], alts := [], laidByText := true, laidKinds := [.handle, .data, .data], laidTests := true, laidLooks := .later }
def BlkHoldsCardSaid : Prop := Claim7.holds Tryz.pinned (.plain (OpenSpec.ofChange blkHoldsSpec)) blkHoldsCard

/-- THE TIED CARD OF 'pinnacelaw15.BlkReads'. -/
def blkReadsCard : Claim7 := { stood := { row := blkReadsRow, standIns := [], harness := (true, "2f455350fbb82755557b3c8cb56ab2e3f5cc16ade0081c890046dcb508a0232b"), looks := true }, kinds := [], alts := [], laidByText := true, laidKinds := [.data], laidTests := true, laidLooks := .later }
def BlkReadsCardSaid : Prop := Claim7.holds Tryz.pinned (.plain (OpenSpec.ofChange blkReadsSpec)) blkReadsCard

/-- THE TIED CARD OF 'pinnacelaw15.BlkWrites'. -/
def blkWritesCard : Claim7 := { stood := { row := blkWritesRow, standIns := [], harness := (true, "2f455350fbb82755557b3c8cb56ab2e3f5cc16ade0081c890046dcb508a0232b"), looks := true }, kinds := [], alts := [], laidByText := true, laidKinds := [.data], laidTests := true, laidLooks := .later }
def BlkWritesCardSaid : Prop := Claim7.holds Tryz.pinned (.plain (OpenSpec.ofChange blkWritesSpec)) blkWritesCard

/-- THE SECOND FORM's CARD OF 'pinnacelaw15.BlkPolls'. -/
def blkPollsUptoCard : Claim7 := { stood := { row := blkPollsUptoRow, standIns := [], harness := (true, "2f455350fbb82755557b3c8cb56ab2e3f5cc16ade0081c890046dcb508a0232b"), looks := true }, kinds := [], alts := [], laidByText := true, laidKinds := [.data], laidTests := true, laidLooks := .later }
def BlkPollsUptoCardSaid : Prop := Claim7.holds Tryz.pinned (.plain (OpenSpec.upto blkPollsSpec)) blkPollsUptoCard

/-- THE SECOND FORM's CARD OF 'pinnacelaw15.BlkFinishes'. -/
def blkFinishesUptoCard : Claim7 := { stood := { row := blkFinishesUptoRow, standIns := [], harness := (true, "2f455350fbb82755557b3c8cb56ab2e3f5cc16ade0081c890046dcb508a0232b"), looks := true }, kinds := [], alts := [], laidByText := true, laidKinds := [.handle, .data], laidTests := true, laidLooks := .later }
def BlkFinishesUptoCardSaid : Prop := Claim7.holds Tryz.pinned (.plain (OpenSpec.upto blkFinishesSpec)) blkFinishesUptoCard

/-- THE SECOND FORM's CARD OF 'pinnacelaw15.BlkHolds'. -/
def blkHoldsUptoCard : Claim7 := { stood := { row := blkHoldsUptoRow, standIns := [], harness := (true, "2f455350fbb82755557b3c8cb56ab2e3f5cc16ade0081c890046dcb508a0232b"), looks := true }, kinds := [], alts := [], laidByText := true, laidKinds := [.handle, .data, .data], laidTests := true, laidLooks := .later }
def BlkHoldsUptoCardSaid : Prop := Claim7.holds Tryz.pinned (.plain (OpenSpec.upto blkHoldsSpec)) blkHoldsUptoCard

/-- THE SECOND FORM's CARD OF 'pinnacelaw15.BlkReads'. -/
def blkReadsUptoCard : Claim7 := { stood := { row := blkReadsUptoRow, standIns := [], harness := (true, "2f455350fbb82755557b3c8cb56ab2e3f5cc16ade0081c890046dcb508a0232b"), looks := true }, kinds := [], alts := [], laidByText := true, laidKinds := [.data], laidTests := true, laidLooks := .later }
def BlkReadsUptoCardSaid : Prop := Claim7.holds Tryz.pinned (.plain (OpenSpec.upto blkReadsSpec)) blkReadsUptoCard

/-- THE SECOND FORM's CARD OF 'pinnacelaw15.BlkWrites'. -/
def blkWritesUptoCard : Claim7 := { stood := { row := blkWritesUptoRow, standIns := [], harness := (true, "2f455350fbb82755557b3c8cb56ab2e3f5cc16ade0081c890046dcb508a0232b"), looks := true }, kinds := [], alts := [], laidByText := true, laidKinds := [.data], laidTests := true, laidLooks := .later }
def BlkWritesUptoCardSaid : Prop := Claim7.holds Tryz.pinned (.plain (OpenSpec.upto blkWritesSpec)) blkWritesUptoCard
end Rows
end Go.Proofs.YtaaiockiojejeaaGreatDoor
