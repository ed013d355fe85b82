/-
  DERIVED. GIVEN WITH THE SEED: THE CARDS: each row of YtelakpogochifabDoorRows.lean that lists a variable, with what it lists TIED to the program's text (the seventh form; the later family's looks); each row that meets fmt, with fmt's text TOLD by the authors' own Lean function (tested against real Go, not proved from fmt's source: count such statements apart). THE CARD IS WHAT COUNTS. Prove the row's statement (the work); the ties are given (YtelakpogochifabDoorTie.lean); close each card by the builder's one call (the guide's Derived/Test/ToyasCard.lean, 'card_holds'). Laid BY PROGRAM, IN A SANDBOX (cutbox-door.mjs). By AI agents, Wed Nov 11 2026. No macro, syntax, notation, axiom, sorry.
-/
import Derived.Test.YtelakpogochifabDoorRows
import GoSem.ClaimSeven
namespace Go.Proofs.YtelakpogochifabDoor
namespace Rows

/-- THE TIED CARD OF 'pinnacelaw08.HartMakes'. -/
def hartMakesCard : Claim7 := { stood := { row := hartMakesRow, standIns := [], harness := (true, "112fe3bee90460b1e35931a4c9ee8566fdf72f1422caac06efdf78136fc467c3"), looks := false }, kinds := [], alts := [], laidByText := true, laidKinds := [.data, .data, .data, .data], laidTests := true, laidLooks := .later }
def HartMakesCardSaid : Prop := Claim7.holds Tryd.pinned (.plain (OpenSpec.ofChange hartMakesSpec)) hartMakesCard

/-- THE SECOND FORM's CARD OF 'pinnacelaw08.HartMakes'. -/
def hartMakesUptoCard : Claim7 := { stood := { row := hartMakesUptoRow, standIns := [], harness := (true, "112fe3bee90460b1e35931a4c9ee8566fdf72f1422caac06efdf78136fc467c3"), looks := false }, kinds := [], alts := [], laidByText := true, laidKinds := [.data, .data, .data, .data], laidTests := true, laidLooks := .later }
def HartMakesUptoCardSaid : Prop := Claim7.holds Tryd.pinned (.plain (OpenSpec.upto hartMakesSpec)) hartMakesUptoCard
end Rows
end Go.Proofs.YtelakpogochifabDoor
