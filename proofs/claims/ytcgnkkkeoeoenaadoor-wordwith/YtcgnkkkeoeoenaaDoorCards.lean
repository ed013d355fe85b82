/-
  DERIVED. GIVEN WITH THE SEED: THE CARDS: each row of YtcgnkkkeoeoenaaDoorRows.lean that lists a variable, with what it lists TIED to the program's text (the seventh form; the later family's looks); each row that meets fmt, with fmt's text TOLD by the authors' own Lean function (tested against real Go, not proved from fmt's source: count such statements apart). THE CARD IS WHAT COUNTS. Prove the row's statement (the work); the ties are given (YtcgnkkkeoeoenaaDoorTie.lean); close each card by the builder's one call (the guide's Derived/Test/ToyasCard.lean, 'card_holds'). Laid BY PROGRAM, IN A SANDBOX (cutbox-door.mjs). By AI agents, Wed Nov 11 2026. No macro, syntax, notation, axiom, sorry.
-/
import Derived.Test.YtcgnkkkeoeoenaaDoorRows
import GoSem.ClaimSeven
namespace Go.Proofs.YtcgnkkkeoeoenaaDoor
namespace Rows

/-- THE TIED CARD OF 'pinnacelaw01.WordGets'. -/
def wordGetsCard : Claim7 := { stood := { row := wordGetsRow, standIns := [], harness := (true, "79fc767e82b9738558770dd277ee1dac5c300d5855edc72093435b0af7d9f8aa"), looks := true }, kinds := [], alts := [], laidByText := true, laidKinds := [.handle], laidTests := true, laidLooks := .later }
def WordGetsCardSaid : Prop := Claim7.holds Tryd.pinned (.plain (OpenSpec.ofChange wordGetsSpec)) wordGetsCard

/-- THE TIED CARD OF 'pinnacelaw01.WordWith'. -/
def wordWithCard : Claim7 := { stood := { row := wordWithRow, standIns := [], harness := (true, "79fc767e82b9738558770dd277ee1dac5c300d5855edc72093435b0af7d9f8aa"), looks := true }, kinds := [], alts := [], laidByText := true, laidKinds := [.handle], laidTests := true, laidLooks := .later }
def WordWithCardSaid : Prop := Claim7.holds Tryd.pinned (.plain (OpenSpec.ofChange wordWithSpec)) wordWithCard

/-- THE TIED CARD OF 'pinnacelaw01.WordBits'. -/
def wordBitsCard : Claim7 := { stood := { row := wordBitsRow, standIns := [], harness := (true, "79fc767e82b9738558770dd277ee1dac5c300d5855edc72093435b0af7d9f8aa"), looks := true }, kinds := [], alts := [], laidByText := true, laidKinds := [.data], laidTests := true, laidLooks := .later }
def WordBitsCardSaid : Prop := Claim7.holds Tryd.pinned (.plain (OpenSpec.ofChange wordBitsSpec)) wordBitsCard

/-- THE SECOND FORM's CARD OF 'pinnacelaw01.WordGets'. -/
def wordGetsUptoCard : Claim7 := { stood := { row := wordGetsUptoRow, standIns := [], harness := (true, "79fc767e82b9738558770dd277ee1dac5c300d5855edc72093435b0af7d9f8aa"), looks := true }, kinds := [], alts := [], laidByText := true, laidKinds := [.handle], laidTests := true, laidLooks := .later }
def WordGetsUptoCardSaid : Prop := Claim7.holds Tryd.pinned (.plain (OpenSpec.upto wordGetsSpec)) wordGetsUptoCard

/-- THE SECOND FORM's CARD OF 'pinnacelaw01.WordWith'. -/
def wordWithUptoCard : Claim7 := { stood := { row := wordWithUptoRow, standIns := [], harness := (true, "79fc767e82b9738558770dd277ee1dac5c300d5855edc72093435b0af7d9f8aa"), looks := true }, kinds := [], alts := [], laidByText := true, laidKinds := [.handle], laidTests := true, laidLooks := .later }
def WordWithUptoCardSaid : Prop := Claim7.holds Tryd.pinned (.plain (OpenSpec.upto wordWithSpec)) wordWithUptoCard

/-- THE SECOND FORM's CARD OF 'pinnacelaw01.WordBits'. -/
def wordBitsUptoCard : Claim7 := { stood := { row := wordBitsUptoRow, standIns := [], harness := (true, "79fc767e82b9738558770dd277ee1dac5c300d5855edc72093435b0af7d9f8aa"), looks := true }, kinds := [], alts := [], laidByText := true, laidKinds := [.data], laidTests := true, laidLooks := .later }
def WordBitsUptoCardSaid : Prop := Claim7.holds Tryd.pinned (.plain (OpenSpec.upto wordBitsSpec)) wordBitsUptoCard
end Rows
end Go.Proofs.YtcgnkkkeoeoenaaDoor
