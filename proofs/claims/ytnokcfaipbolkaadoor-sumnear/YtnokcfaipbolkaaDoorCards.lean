/-
  DERIVED. GIVEN WITH THE SEED: THE CARDS: each row of YtnokcfaipbolkaaDoorRows.lean that lists a variable, with what it lists TIED to the program's text (the seventh form; the later family's looks); each row that meets fmt, with fmt's text TOLD by the authors' own Lean function (tested against real Go, not proved from fmt's source: count such statements apart). THE CARD IS WHAT COUNTS. Prove the row's statement (the work); the ties are given (YtnokcfaipbolkaaDoorTie.lean); close each card by the builder's one call (the guide's Derived/Test/ToyasCard.lean, 'card_holds'). Laid BY PROGRAM, IN A SANDBOX (cutbox-door.mjs). By AI agents, Wed Nov 11 2026. No macro, syntax, notation, axiom, sorry.
-/
import Derived.Test.YtnokcfaipbolkaaDoorRows
import GoSem.ClaimSeven
namespace Go.Proofs.YtnokcfaipbolkaaDoor
namespace Rows

/-- THE TIED CARD OF 'pinnacelaw18.SumSums'. -/
def sumSumsCard : Claim7 := { stood := { row := sumSumsRow, standIns := [], harness := (true, "ee5b198110105c39b6f0b4df9fe8bc68e211d9f0d9dedc7acb6218cce3e130e5"), looks := true }, kinds := [], alts := [], laidByText := true, laidKinds := [.data], laidTests := true, laidLooks := .later }
def SumSumsCardSaid : Prop := Claim7.holds Tryd.pinned (.plain (OpenSpec.ofChange sumSumsSpec)) sumSumsCard

/-- THE TIED CARD OF 'pinnacelaw18.SumTails'. -/
def sumTailsCard : Claim7 := { stood := { row := sumTailsRow, standIns := [], harness := (true, "ee5b198110105c39b6f0b4df9fe8bc68e211d9f0d9dedc7acb6218cce3e130e5"), looks := true }, kinds := [], alts := [], laidByText := true, laidKinds := [.handle, .data], laidTests := true, laidLooks := .later }
def SumTailsCardSaid : Prop := Claim7.holds Tryd.pinned (.plain (OpenSpec.ofChange sumTailsSpec)) sumTailsCard

/-- THE TIED CARD OF 'pinnacelaw18.SumNoughts'. -/
def sumNoughtsCard : Claim7 := { stood := { row := sumNoughtsRow, standIns := [], harness := (true, "ee5b198110105c39b6f0b4df9fe8bc68e211d9f0d9dedc7acb6218cce3e130e5"), looks := true }, kinds := [], alts := [], laidByText := true, laidKinds := [.handle, .data], laidTests := true, laidLooks := .later }
def SumNoughtsCardSaid : Prop := Claim7.holds Tryd.pinned (.plain (OpenSpec.ofChange sumNoughtsSpec)) sumNoughtsCard

/-- THE TIED CARD OF 'pinnacelaw18.SumNear'. -/
def sumNearCard : Claim7 := { stood := { row := sumNearRow, standIns := [], harness := (true, "ee5b198110105c39b6f0b4df9fe8bc68e211d9f0d9dedc7acb6218cce3e130e5"), looks := true }, kinds := [], alts := [], laidByText := true, laidKinds := [.data], laidTests := true, laidLooks := .later }
def SumNearCardSaid : Prop := Claim7.holds Tryd.pinned (.plain (OpenSpec.ofChange sumNearSpec)) sumNearCard

/-- THE TIED CARD OF 'pinnacelaw18.SumThree'. -/
def sumThreeCard : Claim7 := { stood := { row := sumThreeRow, standIns := [], harness := (true, "ee5b198110105c39b6f0b4df9fe8bc68e211d9f0d9dedc7acb6218cce3e130e5"), looks := true }, kinds := [], alts := [], laidByText := true, laidKinds := [.data], laidTests := true, laidLooks := .later }
def SumThreeCardSaid : Prop := Claim7.holds Tryd.pinned (.plain (OpenSpec.ofChange sumThreeSpec)) sumThreeCard

/-- THE SECOND FORM's CARD OF 'pinnacelaw18.SumSums'. -/
def sumSumsUptoCard : Claim7 := { stood := { row := sumSumsUptoRow, standIns := [], harness := (true, "ee5b198110105c39b6f0b4df9fe8bc68e211d9f0d9dedc7acb6218cce3e130e5"), looks := true }, kinds := [], alts := [], laidByText := true, laidKinds := [.data], laidTests := true, laidLooks := .later }
def SumSumsUptoCardSaid : Prop := Claim7.holds Tryd.pinned (.plain (OpenSpec.upto sumSumsSpec)) sumSumsUptoCard

/-- THE SECOND FORM's CARD OF 'pinnacelaw18.SumTails'. -/
def sumTailsUptoCard : Claim7 := { stood := { row := sumTailsUptoRow, standIns := [], harness := (true, "ee5b198110105c39b6f0b4df9fe8bc68e211d9f0d9dedc7acb6218cce3e130e5"), looks := true }, kinds := [], alts := [], laidByText := true, laidKinds := [.handle, .data], laidTests := true, laidLooks := .later }
def SumTailsUptoCardSaid : Prop := Claim7.holds Tryd.pinned (.plain (OpenSpec.upto sumTailsSpec)) sumTailsUptoCard

/-- THE SECOND FORM's CARD OF 'pinnacelaw18.SumNoughts'. -/
def sumNoughtsUptoCard : Claim7 := { stood := { row := sumNoughtsUptoRow, standIns := [], harness := (true, "ee5b198110105c39b6f0b4df9fe8bc68e211d9f0d9dedc7acb6218cce3e130e5"), looks := true }, kinds := [], alts := [], laidByText := true, laidKinds := [.handle, .data], laidTests := true, laidLooks := .later }
def SumNoughtsUptoCardSaid : Prop := Claim7.holds Tryd.pinned (.plain (OpenSpec.upto sumNoughtsSpec)) sumNoughtsUptoCard

/-- THE SECOND FORM's CARD OF 'pinnacelaw18.SumNear'. -/
def sumNearUptoCard : Claim7 := { stood := { row := sumNearUptoRow, standIns := [], harness := (true, "ee5b198110105c39b6f0b4df9fe8bc68e211d9f0d9dedc7acb6218cce3e130e5"), looks := true }, kinds := [], alts := [], laidByText := true, laidKinds := [.data], laidTests := true, laidLooks := .later }
def SumNearUptoCardSaid : Prop := Claim7.holds Tryd.pinned (.plain (OpenSpec.upto sumNearSpec)) sumNearUptoCard

/-- THE SECOND FORM's CARD OF 'pinnacelaw18.SumThree'. -/
def sumThreeUptoCard : Claim7 := { stood := { row := sumThreeUptoRow, standIns := [], harness := (true, "ee5b198110105c39b6f0b4df9fe8bc68e211d9f0d9dedc7acb6218cce3e130e5"), looks := true }, kinds := [], alts := [], laidByText := true, laidKinds := [.data], laidTests := true, laidLooks := .later }
def SumThreeUptoCardSaid : Prop := Claim7.holds Tryd.pinned (.plain (OpenSpec.upto sumThreeSpec)) sumThreeUptoCard
end Rows
end Go.Proofs.YtnokcfaipbolkaaDoor
