/-
  DERIVED. GIVEN WITH THE SEED: THE CARDS: each row of YtficoenanfnijaaGreatDoorRows.lean that lists a variable, with what it lists TIED to the program's text (the seventh form; the later family's looks); each row that meets fmt, with fmt's text TOLD by the authors' own Lean function (tested against real Go, not proved from fmt's source: count such statements apart). THE CARD IS WHAT COUNTS. Prove the row's statement (the work); the ties are given (YtficoenanfnijaaGreatDoorTie.lean); close each card by the builder's one call (the guide's Derived/Test/ToyasCard.lean, 'card_holds'). Laid BY PROGRAM, IN A SANDBOX (cutbox-door.mjs). By AI agents, Wed Nov 11 2026. No macro, syntax, notation, axiom, sorry.
-/
import Derived.Test.YtficoenanfnijaaGreatDoorRows
import GoSem.ClaimSeven
namespace Go.Proofs.YtficoenanfnijaaGreatDoor
namespace Rows

/-- THE TIED CARD OF 'pinnacelaw06.MemDirty'. -/
def memDirtyCard : Claim7 := { stood := { row := memDirtyRow, standIns := [], harness := (true, "65b345c0455c39cacb54a84110528a4cde09a70adff4deb29b0724f65e2ebdc5"), looks := true }, kinds := [], alts := [], laidByText := true, laidKinds := [.handle], laidTests := true, laidLooks := .later }
def MemDirtyCardSaid : Prop := Claim7.holds Tryz.pinned (.plain (OpenSpec.ofChange memDirtySpec)) memDirtyCard

/-- THE TIED CARD OF 'pinnacelaw06.MemAlone'. -/
def memAloneCard : Claim7 := { stood := { row := memAloneRow, standIns := [], harness := (true, "65b345c0455c39cacb54a84110528a4cde09a70adff4deb29b0724f65e2ebdc5"), looks := true }, kinds := [], alts := [], laidByText := true, laidKinds := [.handle], laidTests := true, laidLooks := .later }
def MemAloneCardSaid : Prop := Claim7.holds Tryz.pinned (.plain (OpenSpec.ofChange memAloneSpec)) memAloneCard

/-- THE SECOND FORM's CARD OF 'pinnacelaw06.MemDirty'. -/
def memDirtyUptoCard : Claim7 := { stood := { row := memDirtyUptoRow, standIns := [], harness := (true, "65b345c0455c39cacb54a84110528a4cde09a70adff4deb29b0724f65e2ebdc5"), looks := true }, kinds := [], alts := [], laidByText := true, laidKinds := [.handle], laidTests := true, laidLooks := .later }
def MemDirtyUptoCardSaid : Prop := Claim7.holds Tryz.pinned (.plain (OpenSpec.upto memDirtySpec)) memDirtyUptoCard

/-- THE SECOND FORM's CARD OF 'pinnacelaw06.MemAlone'. -/
def memAloneUptoCard : Claim7 := { stood := { row := memAloneUptoRow, standIns := [], harness := (true, "65b345c0455c39cacb54a84110528a4cde09a70adff4deb29b0724f65e2ebdc5"), looks := true }, kinds := [], alts := [], laidByText := true, laidKinds := [.handle], laidTests := true, laidLooks := .later }
def MemAloneUptoCardSaid : Prop := Claim7.holds Tryz.pinned (.plain (OpenSpec.upto memAloneSpec)) memAloneUptoCard
end Rows
end Go.Proofs.YtficoenanfnijaaGreatDoor
