/-
  DERIVED. GIVEN WITH THE SEED: THE CARDS: each row of YtcojghmanpcedaaDoorRows.lean that lists a variable, with what it lists TIED to the program's text (the seventh form; the later family's looks); each row that meets fmt, with fmt's text TOLD by the authors' own Lean function (tested against real Go, not proved from fmt's source: count such statements apart). THE CARD IS WHAT COUNTS. Prove the row's statement (the work); the ties are given (YtcojghmanpcedaaDoorTie.lean); close each card by the builder's one call (the guide's Derived/Test/ToyasCard.lean, 'card_holds'). Laid BY PROGRAM, IN A SANDBOX (cutbox-door.mjs). By AI agents, Wed Nov 11 2026. No macro, syntax, notation, axiom, sorry.
-/
import Derived.Test.YtcojghmanpcedaaDoorRows
import GoSem.ClaimSeven
namespace Go.Proofs.YtcojghmanpcedaaDoor
namespace Rows

/-- THE TIED CARD OF 'pinnacelaw02.AluDoes'. -/
def aluDoesCard : Claim7 := { stood := { row := aluDoesRow, standIns := [], harness := (true, "6589c202ff330fa69ed7744f3af974f122effe11aa0d340d4e93cde36e48d1ed"), looks := true }, kinds := [], alts := [], laidByText := true, laidKinds := [.handle], laidTests := true, laidLooks := .later }
def AluDoesCardSaid : Prop := Claim7.holds Tryd.pinned (.plain (OpenSpec.ofChange aluDoesSpec)) aluDoesCard

/-- THE TIED CARD OF 'pinnacelaw02.AluHolds'. -/
def aluHoldsCard : Claim7 := { stood := { row := aluHoldsRow, standIns := [], harness := (true, "6589c202ff330fa69ed7744f3af974f122effe11aa0d340d4e93cde36e48d1ed"), looks := true }, kinds := [], alts := [], laidByText := true, laidKinds := [.handle], laidTests := true, laidLooks := .later }
def AluHoldsCardSaid : Prop := Claim7.holds Tryd.pinned (.plain (OpenSpec.ofChange aluHoldsSpec)) aluHoldsCard

/-- THE SECOND FORM's CARD OF 'pinnacelaw02.AluDoes'. -/
def aluDoesUptoCard : Claim7 := { stood := { row := aluDoesUptoRow, standIns := [], harness := (true, "6589c202ff330fa69ed7744f3af974f122effe11aa0d340d4e93cde36e48d1ed"), looks := true }, kinds := [], alts := [], laidByText := true, laidKinds := [.handle], laidTests := true, laidLooks := .later }
def AluDoesUptoCardSaid : Prop := Claim7.holds Tryd.pinned (.plain (OpenSpec.upto aluDoesSpec)) aluDoesUptoCard

/-- THE SECOND FORM's CARD OF 'pinnacelaw02.AluHolds'. -/
def aluHoldsUptoCard : Claim7 := { stood := { row := aluHoldsUptoRow, standIns := [], harness := (true, "6589c202ff330fa69ed7744f3af974f122effe11aa0d340d4e93cde36e48d1ed"), looks := true }, kinds := [], alts := [], laidByText := true, laidKinds := [.handle], laidTests := true, laidLooks := .later }
def AluHoldsUptoCardSaid : Prop := Claim7.holds Tryd.pinned (.plain (OpenSpec.upto aluHoldsSpec)) aluHoldsUptoCard
end Rows
end Go.Proofs.YtcojghmanpcedaaDoor
