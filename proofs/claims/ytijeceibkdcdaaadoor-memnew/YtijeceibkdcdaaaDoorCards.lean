/-
  DERIVED. GIVEN WITH THE SEED: THE CARDS: each row of YtijeceibkdcdaaaDoorRows.lean that lists a variable, with what it lists TIED to the program's text (the seventh form; the later family's looks); each row that meets fmt, with fmt's text TOLD by the authors' own Lean function (tested against real Go, not proved from fmt's source: count such statements apart). THE CARD IS WHAT COUNTS. Prove the row's statement (the work); the ties are given (YtijeceibkdcdaaaDoorTie.lean); close each card by the builder's one call (the guide's Derived/Test/ToyasCard.lean, 'card_holds'). Laid BY PROGRAM, IN A SANDBOX (cutbox-door.mjs). By AI agents, Wed Nov 11 2026. No macro, syntax, notation, axiom, sorry.
-/
import Derived.Test.YtijeceibkdcdaaaDoorRows
import GoSem.ClaimSeven
namespace Go.Proofs.YtijeceibkdcdaaaDoor
namespace Rows

/-- THE TIED CARD OF 'pinnacelaw06.MemNew'. -/
def memNewCard : Claim7 := { stood := { row := memNewRow, standIns := [], harness := (true, "ba59cbbf4002a8ea00b7bfb7d06764e2d734a8bee6494ef1c9e8c743c7edb023"), looks := true }, kinds := [], alts := [], laidByText := true, laidKinds := [.handle], laidTests := true, laidLooks := .later }
def MemNewCardSaid : Prop := Claim7.holds Tryd.pinned (.plain (OpenSpec.ofChange memNewSpec)) memNewCard

/-- THE SECOND FORM's CARD OF 'pinnacelaw06.MemNew'. -/
def memNewUptoCard : Claim7 := { stood := { row := memNewUptoRow, standIns := [], harness := (true, "ba59cbbf4002a8ea00b7bfb7d06764e2d734a8bee6494ef1c9e8c743c7edb023"), looks := true }, kinds := [], alts := [], laidByText := true, laidKinds := [.handle], laidTests := true, laidLooks := .later }
def MemNewUptoCardSaid : Prop := Claim7.holds Tryd.pinned (.plain (OpenSpec.upto memNewSpec)) memNewUptoCard
end Rows
end Go.Proofs.YtijeceibkdcdaaaDoor
