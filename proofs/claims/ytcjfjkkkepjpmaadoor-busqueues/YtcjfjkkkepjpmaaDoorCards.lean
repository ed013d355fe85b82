/-
  DERIVED. GIVEN WITH THE SEED: THE CARDS: each row of YtcjfjkkkepjpmaaDoorRows.lean that lists a variable, with what it lists TIED to the program's text (the seventh form; the later family's looks); each row that meets fmt, with fmt's text TOLD by the authors' own Lean function (tested against real Go, not proved from fmt's source: count such statements apart). THE CARD IS WHAT COUNTS. Prove the row's statement (the work); the ties are given (YtcjfjkkkepjpmaaDoorTie.lean); close each card by the builder's one call (the guide's Derived/Test/ToyasCard.lean, 'card_holds'). Laid BY PROGRAM, IN A SANDBOX (cutbox-door.mjs). By AI agents, Wed Nov 11 2026. No macro, syntax, notation, axiom, sorry.
-/
import Derived.Test.YtcjfjkkkepjpmaaDoorRows
import GoSem.ClaimSeven
namespace Go.Proofs.YtcjfjkkkepjpmaaDoor
namespace Rows

/-- THE TIED CARD OF 'pinnacelaw07.BusFinds'. -/
def busFindsCard : Claim7 := { stood := { row := busFindsRow, standIns := [], harness := (true, "1531e30ffd08b99bee05882f673357eeb4cb156a6439d5bb00e1f82261768331"), looks := true }, kinds := [], alts := [], laidByText := true, laidKinds := [.handle, .data], laidTests := true, laidLooks := .later }
def BusFindsCardSaid : Prop := Claim7.holds Tryd.pinned (.plain (OpenSpec.ofChange busFindsSpec)) busFindsCard

/-- THE TIED CARD OF 'pinnacelaw07.BusBases'. -/
def busBasesCard : Claim7 := { stood := { row := busBasesRow, standIns := [], harness := (true, "1531e30ffd08b99bee05882f673357eeb4cb156a6439d5bb00e1f82261768331"), looks := true }, kinds := [], alts := [], laidByText := true, laidKinds := [.handle, .data], laidTests := true, laidLooks := .later }
def BusBasesCardSaid : Prop := Claim7.holds Tryd.pinned (.plain (OpenSpec.ofChange busBasesSpec)) busBasesCard

/-- THE TIED CARD OF 'pinnacelaw07.BusQueues'. -/
def busQueuesCard : Claim7 := { stood := { row := busQueuesRow, standIns := [], harness := (true, "1531e30ffd08b99bee05882f673357eeb4cb156a6439d5bb00e1f82261768331"), looks := true }, kinds := [], alts := [], laidByText := true, laidKinds := [.handle, .data], laidTests := true, laidLooks := .later }
def BusQueuesCardSaid : Prop := Claim7.holds Tryd.pinned (.plain (OpenSpec.ofChange busQueuesSpec)) busQueuesCard

/-- THE TIED CARD OF 'pinnacelaw07.BusApart'. -/
def busApartCard : Claim7 := { stood := { row := busApartRow, standIns := [], harness := (true, "1531e30ffd08b99bee05882f673357eeb4cb156a6439d5bb00e1f82261768331"), looks := true }, kinds := [], alts := [], laidByText := true, laidKinds := [.handle, .data], laidTests := true, laidLooks := .later }
def BusApartCardSaid : Prop := Claim7.holds Tryd.pinned (.plain (OpenSpec.ofChange busApartSpec)) busApartCard

/-- THE TIED CARD OF 'pinnacelaw07.BusOrder'. -/
def busOrderCard : Claim7 := { stood := { row := busOrderRow, standIns := [], harness := (true, "1531e30ffd08b99bee05882f673357eeb4cb156a6439d5bb00e1f82261768331"), looks := true }, kinds := [], alts := [], laidByText := true, laidKinds := [.handle, .data], laidTests := true, laidLooks := .later }
def BusOrderCardSaid : Prop := Claim7.holds Tryd.pinned (.plain (OpenSpec.ofChange busOrderSpec)) busOrderCard

/-- THE SECOND FORM's CARD OF 'pinnacelaw07.BusFinds'. -/
def busFindsUptoCard : Claim7 := { stood := { row := busFindsUptoRow, standIns := [], harness := (true, "1531e30ffd08b99bee05882f673357eeb4cb156a6439d5bb00e1f82261768331"), looks := true }, kinds := [], alts := [], laidByText := true, laidKinds := [.handle, .data], laidTests := true, laidLooks := .later }
def BusFindsUptoCardSaid : Prop := Claim7.holds Tryd.pinned (.plain (OpenSpec.upto busFindsSpec)) busFindsUptoCard

/-- THE SECOND FORM's CARD OF 'pinnacelaw07.BusBases'. -/
def busBasesUptoCard : Claim7 := { stood := { row := busBasesUptoRow, standIns := [], harness := (true, "1531e30ffd08b99bee05882f673357eeb4cb156a6439d5bb00e1f82261768331"), looks := true }, kinds := [], alts := [], laidByText := true, laidKinds := [.handle, .data], laidTests := true, laidLooks := .later }
def BusBasesUptoCardSaid : Prop := Claim7.holds Tryd.pinned (.plain (OpenSpec.upto busBasesSpec)) busBasesUptoCard

/-- THE SECOND FORM's CARD OF 'pinnacelaw07.BusQueues'. -/
def busQueuesUptoCard : Claim7 := { stood := { row := busQueuesUptoRow, standIns := [], harness := (true, "1531e30ffd08b99bee05882f673357eeb4cb156a6439d5bb00e1f82261768331"), looks := true }, kinds := [], alts := [], laidByText := true, laidKinds := [.handle, .data], laidTests := true, laidLooks := .later }
def BusQueuesUptoCardSaid : Prop := Claim7.holds Tryd.pinned (.plain (OpenSpec.upto busQueuesSpec)) busQueuesUptoCard

/-- THE SECOND FORM's CARD OF 'pinnacelaw07.BusApart'. -/
def busApartUptoCard : Claim7 := { stood := { row := busApartUptoRow, standIns := [], harness := (true, "1531e30ffd08b99bee05882f673357eeb4cb156a6439d5bb00e1f82261768331"), looks := true }, kinds := [], alts := [], laidByText := true, laidKinds := [.handle, .data], laidTests := true, laidLooks := .later }
def BusApartUptoCardSaid : Prop := Claim7.holds Tryd.pinned (.plain (OpenSpec.upto busApartSpec)) busApartUptoCard

/-- THE SECOND FORM's CARD OF 'pinnacelaw07.BusOrder'. -/
def busOrderUptoCard : Claim7 := { stood := { row := busOrderUptoRow, standIns := [], harness := (true, "1531e30ffd08b99bee05882f673357eeb4cb156a6439d5bb00e1f82261768331"), looks := true }, kinds := [], alts := [], laidByText := true, laidKinds := [.handle, .data], laidTests := true, laidLooks := .later }
def BusOrderUptoCardSaid : Prop := Claim7.holds Tryd.pinned (.plain (OpenSpec.upto busOrderSpec)) busOrderUptoCard
end Rows
end Go.Proofs.YtcjfjkkkepjpmaaDoor
