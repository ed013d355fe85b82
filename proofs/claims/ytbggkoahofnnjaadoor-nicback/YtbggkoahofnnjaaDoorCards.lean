/-
  DERIVED. GIVEN WITH THE SEED: THE CARDS: each row of YtbggkoahofnnjaaDoorRows.lean that lists a variable, with what it lists TIED to the program's text (the seventh form; the later family's looks); each row that meets fmt, with fmt's text TOLD by the authors' own Lean function (tested against real Go, not proved from fmt's source: count such statements apart). THE CARD IS WHAT COUNTS. Prove the row's statement (the work); the ties are given (YtbggkoahofnnjaaDoorTie.lean); close each card by the builder's one call (the guide's Derived/Test/ToyasCard.lean, 'card_holds'). Laid BY PROGRAM, IN A SANDBOX (cutbox-door.mjs). By AI agents, Wed Nov 11 2026. No macro, syntax, notation, axiom, sorry.
-/
import Derived.Test.YtbggkoahofnnjaaDoorRows
import GoSem.ClaimSeven
namespace Go.Proofs.YtbggkoahofnnjaaDoor
namespace Rows

/-- THE TIED CARD OF 'pinnacelaw16.NicBack'. -/
def nicBackCard : Claim7 := { stood := { row := nicBackRow, standIns := [], harness := (true, "261b79bdbcb3cc32e786a50408e54d1f698c0314ced6b1342061bf7cccb452bb"), looks := false }, kinds := [], alts := [], laidByText := true, laidKinds := [.data], laidTests := true, laidLooks := .later }
def NicBackCardSaid : Prop := Claim7.holds Tryd.pinned (.plain (OpenSpec.ofChange nicBackSpec)) nicBackCard

/-- THE SECOND FORM's CARD OF 'pinnacelaw16.NicBack'. -/
def nicBackUptoCard : Claim7 := { stood := { row := nicBackUptoRow, standIns := [], harness := (true, "261b79bdbcb3cc32e786a50408e54d1f698c0314ced6b1342061bf7cccb452bb"), looks := false }, kinds := [], alts := [], laidByText := true, laidKinds := [.data], laidTests := true, laidLooks := .later }
def NicBackUptoCardSaid : Prop := Claim7.holds Tryd.pinned (.plain (OpenSpec.upto nicBackSpec)) nicBackUptoCard
end Rows
end Go.Proofs.YtbggkoahofnnjaaDoor
