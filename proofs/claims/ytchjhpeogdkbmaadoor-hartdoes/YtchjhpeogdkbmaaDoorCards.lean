/-
  DERIVED. GIVEN WITH THE SEED: THE CARDS: each row of YtchjhpeogdkbmaaDoorRows.lean that lists a variable, with what it lists TIED to the program's text (the seventh form; the later family's looks); each row that meets fmt, with fmt's text TOLD by the authors' own Lean function (tested against real Go, not proved from fmt's source: count such statements apart). THE CARD IS WHAT COUNTS. Prove the row's statement (the work); the ties are given (YtchjhpeogdkbmaaDoorTie.lean); close each card by the builder's one call (the guide's Derived/Test/ToyasCard.lean, 'card_holds'). Laid BY PROGRAM, IN A SANDBOX (cutbox-door.mjs). By AI agents, Wed Nov 11 2026. No macro, syntax, notation, axiom, sorry.
-/
import Derived.Test.YtchjhpeogdkbmaaDoorRows
import GoSem.ClaimSeven
namespace Go.Proofs.YtchjhpeogdkbmaaDoor
namespace Rows

/-- THE TIED CARD OF 'pinnacelaw08.HartDoes'. -/
def hartDoesCard : Claim7 := { stood := { row := hartDoesRow, standIns := [], harness := (true, "9b8d3b12b0cf3918b4e2dc8ef2e603fbca73158cf774431451e5baba7a0cac7b"), looks := true }, kinds := [], alts := [], laidByText := true, laidKinds := [.data, .data, .data, .data], laidTests := true, laidLooks := .later }
def HartDoesCardSaid : Prop := Claim7.holds Tryd.pinned (.plain (OpenSpec.ofChange hartDoesSpec)) hartDoesCard

/-- THE TIED CARD OF 'pinnacelaw08.HartBegins'. -/
def hartBeginsCard : Claim7 := { stood := { row := hartBeginsRow, standIns := [], harness := (true, "9b8d3b12b0cf3918b4e2dc8ef2e603fbca73158cf774431451e5baba7a0cac7b"), looks := true }, kinds := [], alts := [], laidByText := true, laidKinds := [.handle, .data, .data, .data, .data, .data], laidTests := true, laidLooks := .later }
def HartBeginsCardSaid : Prop := Claim7.holds Tryd.pinned (.plain (OpenSpec.ofChange hartBeginsSpec)) hartBeginsCard

/-- THE TIED CARD OF 'pinnacelaw08.HartHolds'. -/
def hartHoldsCard : Claim7 := { stood := { row := hartHoldsRow, standIns := [], harness := (true, "9b8d3b12b0cf3918b4e2dc8ef2e603fbca73158cf774431451e5baba7a0cac7b"), looks := true }, kinds := [], alts := [], laidByText := true, laidKinds := [.data, .data, .data, .data, .data], laidTests := true, laidLooks := .later }
def HartHoldsCardSaid : Prop := Claim7.holds Tryd.pinned (.plain (OpenSpec.ofChange hartHoldsSpec)) hartHoldsCard

/-- THE TIED CARD OF 'pinnacelaw08.HartTraps'. -/
def hartTrapsCard : Claim7 := { stood := { row := hartTrapsRow, standIns := [], harness := (true, "9b8d3b12b0cf3918b4e2dc8ef2e603fbca73158cf774431451e5baba7a0cac7b"), looks := true }, kinds := [], alts := [], laidByText := true, laidKinds := [.data, .data, .data, .data], laidTests := true, laidLooks := .later }
def HartTrapsCardSaid : Prop := Claim7.holds Tryd.pinned (.plain (OpenSpec.ofChange hartTrapsSpec)) hartTrapsCard

/-- THE TIED CARD OF 'pinnacelaw08.HartSums'. -/
def hartSumsCard : Claim7 := { stood := { row := hartSumsRow, standIns := [], harness := (true, "9b8d3b12b0cf3918b4e2dc8ef2e603fbca73158cf774431451e5baba7a0cac7b"), looks := true }, kinds := [], alts := [], laidByText := true, laidKinds := [.data, .data, .data, .data], laidTests := true, laidLooks := .later }
def HartSumsCardSaid : Prop := Claim7.holds Tryd.pinned (.plain (OpenSpec.ofChange hartSumsSpec)) hartSumsCard

/-- THE SECOND FORM's CARD OF 'pinnacelaw08.HartDoes'. -/
def hartDoesUptoCard : Claim7 := { stood := { row := hartDoesUptoRow, standIns := [], harness := (true, "9b8d3b12b0cf3918b4e2dc8ef2e603fbca73158cf774431451e5baba7a0cac7b"), looks := true }, kinds := [], alts := [], laidByText := true, laidKinds := [.data, .data, .data, .data], laidTests := true, laidLooks := .later }
def HartDoesUptoCardSaid : Prop := Claim7.holds Tryd.pinned (.plain (OpenSpec.upto hartDoesSpec)) hartDoesUptoCard

/-- THE SECOND FORM's CARD OF 'pinnacelaw08.HartBegins'. -/
def hartBeginsUptoCard : Claim7 := { stood := { row := hartBeginsUptoRow, standIns := [], harness := (true, "9b8d3b12b0cf3918b4e2dc8ef2e603fbca73158cf774431451e5baba7a0cac7b"), looks := true }, kinds := [], alts := [], laidByText := true, laidKinds := [.handle, .data, .data, .data, .data, .data], laidTests := true, laidLooks := .later }
def HartBeginsUptoCardSaid : Prop := Claim7.holds Tryd.pinned (.plain (OpenSpec.upto hartBeginsSpec)) hartBeginsUptoCard

/-- THE SECOND FORM's CARD OF 'pinnacelaw08.HartHolds'. -/
def hartHoldsUptoCard : Claim7 := { stood := { row := hartHoldsUptoRow, standIns := [], harness := (true, "9b8d3b12b0cf3918b4e2dc8ef2e603fbca73158cf774431451e5baba7a0cac7b"), looks := true }, kinds := [], alts := [], laidByText := true, laidKinds := [.data, .data, .data, .data, .data], laidTests := true, laidLooks := .later }
def HartHoldsUptoCardSaid : Prop := Claim7.holds Tryd.pinned (.plain (OpenSpec.upto hartHoldsSpec)) hartHoldsUptoCard

/-- THE SECOND FORM's CARD OF 'pinnacelaw08.HartTraps'. -/
def hartTrapsUptoCard : Claim7 := { stood := { row := hartTrapsUptoRow, standIns := [], harness := (true, "9b8d3b12b0cf3918b4e2dc8ef2e603fbca73158cf774431451e5baba7a0cac7b"), looks := true }, kinds := [], alts := [], laidByText := true, laidKinds := [.data, .data, .data, .data], laidTests := true, laidLooks := .later }
def HartTrapsUptoCardSaid : Prop := Claim7.holds Tryd.pinned (.plain (OpenSpec.upto hartTrapsSpec)) hartTrapsUptoCard

/-- THE SECOND FORM's CARD OF 'pinnacelaw08.HartSums'. -/
def hartSumsUptoCard : Claim7 := { stood := { row := hartSumsUptoRow, standIns := [], harness := (true, "9b8d3b12b0cf3918b4e2dc8ef2e603fbca73158cf774431451e5baba7a0cac7b"), looks := true }, kinds := [], alts := [], laidByText := true, laidKinds := [.data, .data, .data, .data], laidTests := true, laidLooks := .later }
def HartSumsUptoCardSaid : Prop := Claim7.holds Tryd.pinned (.plain (OpenSpec.upto hartSumsSpec)) hartSumsUptoCard
end Rows
end Go.Proofs.YtchjhpeogdkbmaaDoor
