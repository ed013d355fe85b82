/-
  DERIVED. GIVEN WITH THE SEED: THE PROGRAM's TIES (one call each: nine closed facts by the kernel) AND EACH ROW's TIE, after the 31st guide's Derived/Test/Toyas{Tie, Card}.lean. No idea stands in it: it is a product of the set-up. Laid BY PROGRAM, IN A SANDBOX (cutbox-door.mjs). By AI agents, Wed Nov 11 2026. No macro, syntax, notation, axiom, sorry.
-/
import Derived.Test.YtbggkoahofnnjaaGreatDoorRows
import Derived.LaidByTextLater
import Derived.SevenTiedAt
import Derived.LaidSub
import Derived.LaidOnce
namespace Go.Proofs.YtbggkoahofnnjaaGreatDoor
open Go
set_option maxRecDepth 100000
theorem seatTie1 : Tryz.prog.laidByTextLater [("errors.errorType", Rows.laid_errors_errorType), ("pinnace/bus.areas", Rows.laid_pinnace_bus_areas), ("pinnace/virtio.offered", Rows.laid_pinnace_virtio_offered)] [.handle, .data, .data] true :=
  Program.laidByTextLater_by_one 33 8 25 (by kernel_rfl) (by kernel_rfl) (by kernel_rfl) (by kernel_rfl) (by kernel_rfl) (by kernel_rfl) (fun _ _ => by kernel_rfl)
theorem noOwnUnsafe : Tryz.pinned.checked.prog.headLifts.contains "ownunsafe" = false := by kernel_rfl
theorem tie : Tryz.prog.laidByTextLater [("errors.errorType", Rows.laid_errors_errorType), ("pinnace/bus.areas", Rows.laid_pinnace_bus_areas), ("pinnace/virtio.offered", Rows.laid_pinnace_virtio_offered)] [.handle, .data, .data] true :=
  Program.laidByTextLater.sub seatTie1 ["errors.errorType", "pinnace/bus.areas", "pinnace/virtio.offered"] (by kernel_rfl) (by kernel_rfl)
theorem nicRegs_row_tie : Rows.nicRegsRow.laidByTextAt .later Tryz.pinned [.handle, .data, .data] true :=
  OpenClaim.laidByTextAt_later rfl rfl tie noOwnUnsafe
theorem tie2 : Tryz.prog.laidByTextLater [("pinnace/bus.areas", Rows.laid_pinnace_bus_areas)] [.data] true :=
  Program.laidByTextLater.sub seatTie1 ["pinnace/bus.areas"] (by kernel_rfl) (by kernel_rfl)
theorem nicSends_row_tie : Rows.nicSendsRow.laidByTextAt .later Tryz.pinned [.data] true :=
  OpenClaim.laidByTextAt_later rfl rfl tie2 noOwnUnsafe
theorem tie3 : Tryz.prog.laidByTextLater [("errors.errorType", Rows.laid_errors_errorType), ("pinnace/bus.areas", Rows.laid_pinnace_bus_areas)] [.handle, .data] true :=
  Program.laidByTextLater.sub seatTie1 ["errors.errorType", "pinnace/bus.areas"] (by kernel_rfl) (by kernel_rfl)
theorem nicTakes_row_tie : Rows.nicTakesRow.laidByTextAt .later Tryz.pinned [.handle, .data] true :=
  OpenClaim.laidByTextAt_later rfl rfl tie3 noOwnUnsafe
theorem tie4 : Tryz.prog.laidByTextLater [("pinnace/bus.areas", Rows.laid_pinnace_bus_areas), ("pinnace/virtio.offered", Rows.laid_pinnace_virtio_offered)] [.data, .data] true :=
  Program.laidByTextLater.sub seatTie1 ["pinnace/bus.areas", "pinnace/virtio.offered"] (by kernel_rfl) (by kernel_rfl)
theorem nicHolds_row_tie : Rows.nicHoldsRow.laidByTextAt .later Tryz.pinned [.data, .data] true :=
  OpenClaim.laidByTextAt_later rfl rfl tie4 noOwnUnsafe
theorem nicRegsUpto_row_tie : Rows.nicRegsUptoRow.laidByTextAt .later Tryz.pinned [.handle, .data, .data] true :=
  OpenClaim.laidByTextAt_later rfl rfl tie noOwnUnsafe
theorem nicSendsUpto_row_tie : Rows.nicSendsUptoRow.laidByTextAt .later Tryz.pinned [.data] true :=
  OpenClaim.laidByTextAt_later rfl rfl tie2 noOwnUnsafe
theorem nicTakesUpto_row_tie : Rows.nicTakesUptoRow.laidByTextAt .later Tryz.pinned [.handle, .data] true :=
  OpenClaim.laidByTextAt_later rfl rfl tie3 noOwnUnsafe
theorem nicHoldsUpto_row_tie : Rows.nicHoldsUptoRow.laidByTextAt .later Tryz.pinned [.data, .data] true :=
  OpenClaim.laidByTextAt_later rfl rfl tie4 noOwnUnsafe
end Go.Proofs.YtbggkoahofnnjaaGreatDoor
