/-
  DERIVED. GIVEN WITH THE SEED: THE CARDS: each row of YtahgacdkofmbmaaDoorRows.lean that lists a variable, with what it lists TIED to the program's text (the seventh form; the later family's looks); each row that meets fmt, with fmt's text TOLD by the authors' own Lean function (tested against real Go, not proved from fmt's source: count such statements apart). THE CARD IS WHAT COUNTS. Prove the row's statement (the work); the ties are given (YtahgacdkofmbmaaDoorTie.lean); close each card by the builder's one call (the guide's Derived/Test/ToyasCard.lean, 'card_holds'). Laid BY PROGRAM, IN A SANDBOX (cutbox-door.mjs). By AI agents, Wed Nov 11 2026. No macro, syntax, notation, axiom, sorry.
-/
import Derived.Test.YtahgacdkofmbmaaDoorRows
import GoSem.ClaimSeven
namespace Go.Proofs.YtahgacdkofmbmaaDoor
namespace Rows

/-- THE TIED CARD OF 'pinnacelaw14.VirtioReads'. -/
def virtioReadsCard : Claim7 := { stood := { row := virtioReadsRow, standIns := [], harness := (true, "1708027ac90ff29c298a53a2de916855fd559e2174c774ed3fe8a560aed80c3b"), looks := true }, kinds := [], alts := [], laidByText := true, laidKinds := [.handle, .data], laidTests := true, laidLooks := .later }
def VirtioReadsCardSaid : Prop := Claim7.holds Tryd.pinned (.plain (OpenSpec.ofChange virtioReadsSpec)) virtioReadsCard

/-- THE TIED CARD OF 'pinnacelaw14.VirtioWrites'. -/
def virtioWritesCard : Claim7 := { stood := { row := virtioWritesRow, standIns := [], harness := (true, "1708027ac90ff29c298a53a2de916855fd559e2174c774ed3fe8a560aed80c3b"), looks := true }, kinds := [], alts := [], laidByText := true, laidKinds := [.handle, .data], laidTests := true, laidLooks := .later }
def VirtioWritesCardSaid : Prop := Claim7.holds Tryd.pinned (.plain (OpenSpec.ofChange virtioWritesSpec)) virtioWritesCard

/-- THE TIED CARD OF 'pinnacelaw14.VirtioRuns'. -/
def virtioRunsCard : Claim7 := { stood := { row := virtioRunsRow, standIns := [], harness := (true, "1708027ac90ff29c298a53a2de916855fd559e2174c774ed3fe8a560aed80c3b"), looks := true }, kinds := [], alts := [], laidByText := true, laidKinds := [.handle, .data], laidTests := true, laidLooks := .later }
def VirtioRunsCardSaid : Prop := Claim7.holds Tryd.pinned (.plain (OpenSpec.ofChange virtioRunsSpec)) virtioRunsCard

/-- THE TIED CARD OF 'pinnacelaw14.VirtioHolds'. -/
def virtioHoldsCard : Claim7 := { stood := { row := virtioHoldsRow, standIns := [], harness := (true, "1708027ac90ff29c298a53a2de916855fd559e2174c774ed3fe8a560aed80c3b"), looks := true }, kinds := [], alts := [], laidByText := true, laidKinds := [.data], laidTests := true, laidLooks := .later }
def VirtioHoldsCardSaid : Prop := Claim7.holds Tryd.pinned (.plain (OpenSpec.ofChange virtioHoldsSpec)) virtioHoldsCard

/-- THE TIED CARD OF 'pinnacelaw14.VirtioReady'. -/
def virtioReadyCard : Claim7 := { stood := { row := virtioReadyRow, standIns := [], harness := (true, "1708027ac90ff29c298a53a2de916855fd559e2174c774ed3fe8a560aed80c3b"), looks := true }, kinds := [], alts := [], laidByText := true, laidKinds := [.data], laidTests := true, laidLooks := .later }
def VirtioReadyCardSaid : Prop := Claim7.holds Tryd.pinned (.plain (OpenSpec.ofChange virtioReadySpec)) virtioReadyCard

/-- THE SECOND FORM's CARD OF 'pinnacelaw14.VirtioReads'. -/
def virtioReadsUptoCard : Claim7 := { stood := { row := virtioReadsUptoRow, standIns := [], harness := (true, "1708027ac90ff29c298a53a2de916855fd559e2174c774ed3fe8a560aed80c3b"), looks := true }, kinds := [], alts := [], laidByText := true, laidKinds := [.handle, .data], laidTests := true, laidLooks := .later }
def VirtioReadsUptoCardSaid : Prop := Claim7.holds Tryd.pinned (.plain (OpenSpec.upto virtioReadsSpec)) virtioReadsUptoCard

/-- THE SECOND FORM's CARD OF 'pinnacelaw14.VirtioWrites'. -/
def virtioWritesUptoCard : Claim7 := { stood := { row := virtioWritesUptoRow, standIns := [], harness := (true, "1708027ac90ff29c298a53a2de916855fd559e2174c774ed3fe8a560aed80c3b"), looks := true }, kinds := [], alts := [], laidByText := true, laidKinds := [.handle, .data], laidTests := true, laidLooks := .later }
def VirtioWritesUptoCardSaid : Prop := Claim7.holds Tryd.pinned (.plain (OpenSpec.upto virtioWritesSpec)) virtioWritesUptoCard

/-- THE SECOND FORM's CARD OF 'pinnacelaw14.VirtioRuns'. -/
def virtioRunsUptoCard : Claim7 := { stood := { row := virtioRunsUptoRow, standIns := [], harness := (true, "1708027ac90ff29c298a53a2de916855fd559e2174c774ed3fe8a560aed80c3b"), looks := true }, kinds := [], alts := [], laidByText := true, laidKinds := [.handle, .data], laidTests := true, laidLooks := .later }
def VirtioRunsUptoCardSaid : Prop := Claim7.holds Tryd.pinned (.plain (OpenSpec.upto virtioRunsSpec)) virtioRunsUptoCard

/-- THE SECOND FORM's CARD OF 'pinnacelaw14.VirtioHolds'. -/
def virtioHoldsUptoCard : Claim7 := { stood := { row := virtioHoldsUptoRow, standIns := [], harness := (true, "1708027ac90ff29c298a53a2de916855fd559e2174c774ed3fe8a560aed80c3b"), looks := true }, kinds := [], alts := [], laidByText := true, laidKinds := [.data], laidTests := true, laidLooks := .later }
def VirtioHoldsUptoCardSaid : Prop := Claim7.holds Tryd.pinned (.plain (OpenSpec.upto virtioHoldsSpec)) virtioHoldsUptoCard

/-- THE SECOND FORM's CARD OF 'pinnacelaw14.VirtioReady'. -/
def virtioReadyUptoCard : Claim7 := { stood := { row := virtioReadyUptoRow, standIns := [], harness := (true, "1708027ac90ff29c298a53a2de916855fd559e2174c774ed3fe8a560aed80c3b"), looks := true }, kinds := [], alts := [], laidByText := true, laidKinds := [.data], laidTests := true, laidLooks := .later }
def VirtioReadyUptoCardSaid : Prop := Claim7.holds Tryd.pinned (.plain (OpenSpec.upto virtioReadySpec)) virtioReadyUptoCard
end Rows
end Go.Proofs.YtahgacdkofmbmaaDoor
