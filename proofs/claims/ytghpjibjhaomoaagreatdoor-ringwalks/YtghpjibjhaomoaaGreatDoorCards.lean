/-
  DERIVED. GIVEN WITH THE SEED: THE CARDS: each row of YtghpjibjhaomoaaGreatDoorRows.lean that lists a variable, with what it lists TIED to the program's text (the seventh form; the later family's looks); each row that meets fmt, with fmt's text TOLD by the authors' own Lean function (tested against real Go, not proved from fmt's source: count such statements apart). THE CARD IS WHAT COUNTS. Prove the row's statement (the work); the ties are given (YtghpjibjhaomoaaGreatDoorTie.lean); close each card by the builder's one call (the guide's Derived/Test/ToyasCard.lean, 'card_holds'). Laid BY PROGRAM, IN A SANDBOX (cutbox-door.mjs). By AI agents, Wed Nov 11 2026. No macro, syntax, notation, axiom, sorry.
-/
import Derived.Test.YtghpjibjhaomoaaGreatDoorRows
import GoSem.ClaimSeven
namespace Go.Proofs.YtghpjibjhaomoaaGreatDoor
namespace Rows

/-- THE TIED CARD OF 'pinnacelaw13.RingNexts'. -/
def ringNextsCard : Claim7 := { stood := { row := ringNextsRow, standIns := [], harness := (true, "f6517e7136d5f796609e92083b0973b9242e7d5e2773e9b0dd9158b162624495"), looks := true }, kinds := [], alts := [], laidByText := true, laidKinds := [.handle, .data], laidTests := true, laidLooks := .later }
def RingNextsCardSaid : Prop := Claim7.holds Tryz.pinned (.plain (OpenSpec.ofChange ringNextsSpec)) ringNextsCard

/-- THE TIED CARD OF 'pinnacelaw13.RingWalks'. -/
def ringWalksCard : Claim7 := { stood := { row := ringWalksRow, standIns := [], harness := (true, "f6517e7136d5f796609e92083b0973b9242e7d5e2773e9b0dd9158b162624495"), looks := true }, kinds := [], alts := [], laidByText := true, laidKinds := [.handle, .data], laidTests := true, laidLooks := .later }
def RingWalksCardSaid : Prop := Claim7.holds Tryz.pinned (.plain (OpenSpec.ofChange ringWalksSpec)) ringWalksCard

/-- THE TIED CARD OF 'pinnacelaw13.RingGives'. -/
def ringGivesCard : Claim7 := { stood := { row := ringGivesRow, standIns := [], harness := (true, "f6517e7136d5f796609e92083b0973b9242e7d5e2773e9b0dd9158b162624495"), looks := true }, kinds := [], alts := [], laidByText := true, laidKinds := [.handle, .data], laidTests := true, laidLooks := .later }
def RingGivesCardSaid : Prop := Claim7.holds Tryz.pinned (.plain (OpenSpec.ofChange ringGivesSpec)) ringGivesCard

/-- THE TIED CARD OF 'pinnacelaw13.RingBack'. -/
def ringBackCard : Claim7 := { stood := { row := ringBackRow, standIns := [], harness := (true, "f6517e7136d5f796609e92083b0973b9242e7d5e2773e9b0dd9158b162624495"), looks := true }, kinds := [], alts := [], laidByText := true, laidKinds := [.handle, .data], laidTests := true, laidLooks := .later }
def RingBackCardSaid : Prop := Claim7.holds Tryz.pinned (.plain (OpenSpec.ofChange ringBackSpec)) ringBackCard

/-- THE SECOND FORM's CARD OF 'pinnacelaw13.RingNexts'. -/
def ringNextsUptoCard : Claim7 := { stood := { row := ringNextsUptoRow, standIns := [], harness := (true, "f6517e7136d5f796609e92083b0973b9242e7d5e2773e9b0dd9158b162624495"), looks := true }, kinds := [], alts := [], laidByText := true, laidKinds := [.handle, .data], laidTests := true, laidLooks := .later }
def RingNextsUptoCardSaid : Prop := Claim7.holds Tryz.pinned (.plain (OpenSpec.upto ringNextsSpec)) ringNextsUptoCard

/-- THE SECOND FORM's CARD OF 'pinnacelaw13.RingWalks'. -/
def ringWalksUptoCard : Claim7 := { stood := { row := ringWalksUptoRow, standIns := [], harness := (true, "f6517e7136d5f796609e92083b0973b9242e7d5e2773e9b0dd9158b162624495"), looks := true }, kinds := [], alts := [], laidByText := true, laidKinds := [.handle, .data], laidTests := true, laidLooks := .later }
def RingWalksUptoCardSaid : Prop := Claim7.holds Tryz.pinned (.plain (OpenSpec.upto ringWalksSpec)) ringWalksUptoCard

/-- THE SECOND FORM's CARD OF 'pinnacelaw13.RingGives'. -/
def ringGivesUptoCard : Claim7 := { stood := { row := ringGivesUptoRow, standIns := [], harness := (true, "f6517e7136d5f796609e92083b0973b9242e7d5e2773e9b0dd9158b162624495"), looks := true }, kinds := [], alts := [], laidByText := true, laidKinds := [.handle, .data], laidTests := true, laidLooks := .later }
def RingGivesUptoCardSaid : Prop := Claim7.holds Tryz.pinned (.plain (OpenSpec.upto ringGivesSpec)) ringGivesUptoCard

/-- THE SECOND FORM's CARD OF 'pinnacelaw13.RingBack'. -/
def ringBackUptoCard : Claim7 := { stood := { row := ringBackUptoRow, standIns := [], harness := (true, "f6517e7136d5f796609e92083b0973b9242e7d5e2773e9b0dd9158b162624495"), looks := true }, kinds := [], alts := [], laidByText := true, laidKinds := [.handle, .data], laidTests := true, laidLooks := .later }
def RingBackUptoCardSaid : Prop := Claim7.holds Tryz.pinned (.plain (OpenSpec.upto ringBackSpec)) ringBackUptoCard
end Rows
end Go.Proofs.YtghpjibjhaomoaaGreatDoor
