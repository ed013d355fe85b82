/-
  DERIVED. GIVEN WITH THE SEED: THE CARDS: each row of YtbggkoahofnnjaaGreatDoorRows.lean that lists a variable, with what it lists TIED to the program's text (the seventh form; the later family's looks); each row that meets fmt, with fmt's text TOLD by the authors' own Lean function (tested against real Go, not proved from fmt's source: count such statements apart). THE CARD IS WHAT COUNTS. Prove the row's statement (the work); the ties are given (YtbggkoahofnnjaaGreatDoorTie.lean); close each card by the builder's one call (the guide's Derived/Test/ToyasCard.lean, 'card_holds'). Laid BY PROGRAM, IN A SANDBOX (cutbox-door.mjs). By AI agents, Wed Nov 11 2026. No macro, syntax, notation, axiom, sorry.
-/
import Derived.Test.YtbggkoahofnnjaaGreatDoorRows
import GoSem.ClaimSeven
namespace Go.Proofs.YtbggkoahofnnjaaGreatDoor
namespace Rows

/-- THE TIED CARD OF 'pinnacelaw16.NicRegs'. -/
def nicRegsCard : Claim7 := { stood := { row := nicRegsRow, standIns := [], harness := (true, "cfb479668aa5bd6d7fd16f0f8f1e9fa4837aac2ca9822cf20f1254bf128a5416"), looks := true }, kinds := [], alts := [], laidByText := true, laidKinds := [.handle, .data, .data], laidTests := true, laidLooks := .later }
def NicRegsCardSaid : Prop := Claim7.holds Tryz.pinned (.plain (OpenSpec.ofChange nicRegsSpec)) nicRegsCard

/-- THE TIED CARD OF 'pinnacelaw16.NicSends'. -/
def nicSendsCard : Claim7 := { stood := { row := nicSendsRow, standIns := [], harness := (true, "cfb479668aa5bd6d7fd16f0f8f1e9fa4837aac2ca9822cf20f1254bf128a5416"), looks := true }, kinds := [], alts := [], laidByText := true, laidKinds := [.data], laidTests := true, laidLooks := .later }
def NicSendsCardSaid : Prop := Claim7.holds Tryz.pinned (.plain (OpenSpec.ofChange nicSendsSpec)) nicSendsCard

/-- THE TIED CARD OF 'pinnacelaw16.NicTakes'. -/
def nicTakesCard : Claim7 := { stood := { row := nicTakesRow, standIns := [], harness := (true, "cfb479668aa5bd6d7fd16f0f8f1e9fa4837aac2ca9822cf20f1254bf128a5416"), looks := true }, kinds := [], alts := [], laidByText := true, laidKinds := [.handle, .data], laidTests := true, laidLooks := .later }
def NicTakesCardSaid : Prop := Claim7.holds Tryz.pinned (.plain (OpenSpec.ofChange nicTakesSpec)) nicTakesCard

/-- THE TIED CARD OF 'pinnacelaw16.NicHolds'. -/
def nicHoldsCard : Claim7 := { stood := { row := nicHoldsRow, standIns := [], harness := (true, "cfb479668aa5bd6d7fd16f0f8f1e9fa4837aac2ca9822cf20f1254bf128a5416"), looks := true }, kinds := [], alts := [], laidByText := true, laidKinds := [.data, .data], laidTests := true, laidLooks := .later }
def NicHoldsCardSaid : Prop := Claim7.holds Tryz.pinned (.plain (OpenSpec.ofChange nicHoldsSpec)) nicHoldsCard

/-- THE SECOND FORM's CARD OF 'pinnacelaw16.NicRegs'. -/
def nicRegsUptoCard : Claim7 := { stood := { row := nicRegsUptoRow, standIns := [], harness := (true, "cfb479668aa5bd6d7fd16f0f8f1e9fa4837aac2ca9822cf20f1254bf128a5416"), looks := true }, kinds := [], alts := [], laidByText := true, laidKinds := [.handle, .data, .data], laidTests := true, laidLooks := .later }
def NicRegsUptoCardSaid : Prop := Claim7.holds Tryz.pinned (.plain (OpenSpec.upto nicRegsSpec)) nicRegsUptoCard

/-- THE SECOND FORM's CARD OF 'pinnacelaw16.NicSends'. -/
def nicSendsUptoCard : Claim7 := { stood := { row := nicSendsUptoRow, standIns := [], harness := (true, "cfb479668aa5bd6d7fd16f0f8f1e9fa4837aac2ca9822cf20f1254bf128a5416"), looks := true }, kinds := [], alts := [], laidByText := true, laidKinds := [.data], laidTests := true, laidLooks := .later }
def NicSendsUptoCardSaid : Prop := Claim7.holds Tryz.pinned (.plain (OpenSpec.upto nicSendsSpec)) nicSendsUptoCard

/-- THE SECOND FORM's CARD OF 'pinnacelaw16.NicTakes'. -/
def nicTakesUptoCard : Claim7 := { stood := { row := nicTakesUptoRow, standIns := [], harness := (true, "cfb479668aa5bd6d7fd16f0f8f1e9fa4837aac2ca9822cf20f1254bf128a5416"), looks := true }, kinds := [], alts := [], laidByText := true, laidKinds := [.handle, .data], laidTests := true, laidLooks := .later }
def NicTakesUptoCardSaid : Prop := Claim7.holds Tryz.pinned (.plain (OpenSpec.upto nicTakesSpec)) nicTakesUptoCard

/-- THE SECOND FORM's CARD OF 'pinnacelaw16.NicHolds'. -/
def nicHoldsUptoCard : Claim7 := { stood := { row := nicHoldsUptoRow, standIns := [], harness := (true, "cfb479668aa5bd6d7fd16f0f8f1e9fa4837aac2ca9822cf20f1254bf128a5416"), looks := true }, kinds := [], alts := [], laidByText := true, laidKinds := [.data, .data], laidTests := true, laidLooks := .later }
def NicHoldsUptoCardSaid : Prop := Claim7.holds Tryz.pinned (.plain (OpenSpec.upto nicHoldsSpec)) nicHoldsUptoCard
end Rows
end Go.Proofs.YtbggkoahofnnjaaGreatDoor
