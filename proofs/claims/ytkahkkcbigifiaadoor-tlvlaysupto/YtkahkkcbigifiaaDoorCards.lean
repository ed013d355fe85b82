/-
  DERIVED. GIVEN WITH THE SEED: THE CARDS: each row of YtkahkkcbigifiaaDoorRows.lean that lists a variable, with what it lists TIED to the program's text (the seventh form; the later family's looks); each row that meets fmt, with fmt's text TOLD by the authors' own Lean function (tested against real Go, not proved from fmt's source: count such statements apart). THE CARD IS WHAT COUNTS. Prove the row's statement (the work); the ties are given (YtkahkkcbigifiaaDoorTie.lean); close each card by the builder's one call (the guide's Derived/Test/ToyasCard.lean, 'card_holds'). Laid BY PROGRAM, IN A SANDBOX (cutbox-door.mjs). By AI agents, Wed Nov 11 2026. No macro, syntax, notation, axiom, sorry.
-/
import Derived.Test.YtkahkkcbigifiaaDoorRows
import GoSem.ClaimSeven
namespace Go.Proofs.YtkahkkcbigifiaaDoor
namespace Rows

/-- THE TIED CARD OF 'pinnacelaw19.TlvEncodes'. -/
def tlvEncodesCard : Claim7 := { stood := { row := tlvEncodesRow, standIns := [], harness := (true, "98acf496ffd8c2990cd1c12ba7740680cc79c35c8dcbf9d5f2477f2d57a7866c"), looks := true }, kinds := [], alts := [], laidByText := true, laidKinds := [.handle, .data], laidTests := true, laidLooks := .later }
def TlvEncodesCardSaid : Prop := Claim7.holds Tryd.pinned (.plain (OpenSpec.ofChange tlvEncodesSpec)) tlvEncodesCard

/-- THE TIED CARD OF 'pinnacelaw19.TlvDecodes'. -/
def tlvDecodesCard : Claim7 := { stood := { row := tlvDecodesRow, standIns := [], harness := (true, "98acf496ffd8c2990cd1c12ba7740680cc79c35c8dcbf9d5f2477f2d57a7866c"), looks := true }, kinds := [], alts := [], laidByText := true, laidKinds := [.handle, .data], laidTests := true, laidLooks := .later }
def TlvDecodesCardSaid : Prop := Claim7.holds Tryd.pinned (.plain (OpenSpec.ofChange tlvDecodesSpec)) tlvDecodesCard

/-- THE TIED CARD OF 'pinnacelaw19.TlvTakes'. -/
def tlvTakesCard : Claim7 := { stood := { row := tlvTakesRow, standIns := [], harness := (true, "98acf496ffd8c2990cd1c12ba7740680cc79c35c8dcbf9d5f2477f2d57a7866c"), looks := true }, kinds := [], alts := [], laidByText := true, laidKinds := [.handle, .data], laidTests := true, laidLooks := .later }
def TlvTakesCardSaid : Prop := Claim7.holds Tryd.pinned (.plain (OpenSpec.ofChange tlvTakesSpec)) tlvTakesCard

/-- THE TIED CARD OF 'pinnacelaw19.TlvLays'. -/
def tlvLaysCard : Claim7 := { stood := { row := tlvLaysRow, standIns := [], harness := (true, "98acf496ffd8c2990cd1c12ba7740680cc79c35c8dcbf9d5f2477f2d57a7866c"), looks := true }, kinds := [], alts := [], laidByText := true, laidKinds := [.data], laidTests := true, laidLooks := .later }
def TlvLaysCardSaid : Prop := Claim7.holds Tryd.pinned (.plain (OpenSpec.ofChange tlvLaysSpec)) tlvLaysCard

/-- THE TIED CARD OF 'pinnacelaw19.TlvBack'. -/
def tlvBackCard : Claim7 := { stood := { row := tlvBackRow, standIns := [], harness := (true, "98acf496ffd8c2990cd1c12ba7740680cc79c35c8dcbf9d5f2477f2d57a7866c"), looks := true }, kinds := [], alts := [], laidByText := true, laidKinds := [.data], laidTests := true, laidLooks := .later }
def TlvBackCardSaid : Prop := Claim7.holds Tryd.pinned (.plain (OpenSpec.ofChange tlvBackSpec)) tlvBackCard

/-- THE TIED CARD OF 'pinnacelaw19.TlvSpoilt'. -/
def tlvSpoiltCard : Claim7 := { stood := { row := tlvSpoiltRow, standIns := [], harness := (true, "98acf496ffd8c2990cd1c12ba7740680cc79c35c8dcbf9d5f2477f2d57a7866c"), looks := true }, kinds := [], alts := [], laidByText := true, laidKinds := [.data], laidTests := true, laidLooks := .later }
def TlvSpoiltCardSaid : Prop := Claim7.holds Tryd.pinned (.plain (OpenSpec.ofChange tlvSpoiltSpec)) tlvSpoiltCard

/-- THE SECOND FORM's CARD OF 'pinnacelaw19.TlvEncodes'. -/
def tlvEncodesUptoCard : Claim7 := { stood := { row := tlvEncodesUptoRow, standIns := [], harness := (true, "98acf496ffd8c2990cd1c12ba7740680cc79c35c8dcbf9d5f2477f2d57a7866c"), looks := true }, kinds := [], alts := [], laidByText := true, laidKinds := [.handle, .data], laidTests := true, laidLooks := .later }
def TlvEncodesUptoCardSaid : Prop := Claim7.holds Tryd.pinned (.plain (OpenSpec.upto tlvEncodesSpec)) tlvEncodesUptoCard

/-- THE SECOND FORM's CARD OF 'pinnacelaw19.TlvDecodes'. -/
def tlvDecodesUptoCard : Claim7 := { stood := { row := tlvDecodesUptoRow, standIns := [], harness := (true, "98acf496ffd8c2990cd1c12ba7740680cc79c35c8dcbf9d5f2477f2d57a7866c"), looks := true }, kinds := [], alts := [], laidByText := true, laidKinds := [.handle, .data], laidTests := true, laidLooks := .later }
def TlvDecodesUptoCardSaid : Prop := Claim7.holds Tryd.pinned (.plain (OpenSpec.upto tlvDecodesSpec)) tlvDecodesUptoCard

/-- THE SECOND FORM's CARD OF 'pinnacelaw19.TlvTakes'. -/
def tlvTakesUptoCard : Claim7 := { stood := { row := tlvTakesUptoRow, standIns := [], harness := (true, "98acf496ffd8c2990cd1c12ba7740680cc79c35c8dcbf9d5f2477f2d57a7866c"), looks := true }, kinds := [], alts := [], laidByText := true, laidKinds := [.handle, .data], laidTests := true, laidLooks := .later }
def TlvTakesUptoCardSaid : Prop := Claim7.holds Tryd.pinned (.plain (OpenSpec.upto tlvTakesSpec)) tlvTakesUptoCard

/-- THE SECOND FORM's CARD OF 'pinnacelaw19.TlvLays'. -/
def tlvLaysUptoCard : Claim7 := { stood := { row := tlvLaysUptoRow, standIns := [], harness := (true, "98acf496ffd8c2990cd1c12ba7740680cc79c35c8dcbf9d5f2477f2d57a7866c"), looks := true }, kinds := [], alts := [], laidByText := true, laidKinds := [.data], laidTests := true, laidLooks := .later }
def TlvLaysUptoCardSaid : Prop := Claim7.holds Tryd.pinned (.plain (OpenSpec.upto tlvLaysSpec)) tlvLaysUptoCard

/-- THE SECOND FORM's CARD OF 'pinnacelaw19.TlvBack'. -/
def tlvBackUptoCard : Claim7 := { stood := { row := tlvBackUptoRow, standIns := [], harness := (true, "98acf496ffd8c2990cd1c12ba7740680cc79c35c8dcbf9d5f2477f2d57a7866c"), looks := true }, kinds := [], alts := [], laidByText := true, laidKinds := [.data], laidTests := true, laidLooks := .later }
def TlvBackUptoCardSaid : Prop := Claim7.holds Tryd.pinned (.plain (OpenSpec.upto tlvBackSpec)) tlvBackUptoCard

/-- THE SECOND FORM's CARD OF 'pinnacelaw19.TlvSpoilt'. -/
def tlvSpoiltUptoCard : Claim7 := { stood := { row := tlvSpoiltUptoRow, standIns := [], harness := (true, "98acf496ffd8c2990cd1c12ba7740680cc79c35c8dcbf9d5f2477f2d57a7866c"), looks := true }, kinds := [], alts := [], laidByText := true, laidKinds := [.data], laidTests := true, laidLooks := .later }
def TlvSpoiltUptoCardSaid : Prop := Claim7.holds Tryd.pinned (.plain (OpenSpec.upto tlvSpoiltSpec)) tlvSpoiltUptoCard
end Rows
end Go.Proofs.YtkahkkcbigifiaaDoor
