/-
  DERIVED. GIVEN WITH THE SEED: THE PROGRAM's TIES (one call each: nine closed facts by the kernel) AND EACH ROW's TIE, after the 31st guide's Derived/Test/Toyas{Tie, Card}.lean. No idea stands in it: it is a product of the set-up. Laid BY PROGRAM, IN A SANDBOX (cutbox-door.mjs). By AI agents, Wed Nov 11 2026. No macro, syntax, notation, axiom, sorry.
-/
import Derived.Test.YtchjhpeogdkbmaaDoorRows
import Derived.LaidByTextLater
import Derived.SevenTiedAt
import Derived.LaidSub
import Derived.LaidOnce
namespace Go.Proofs.YtchjhpeogdkbmaaDoor
open Go
set_option maxRecDepth 100000
theorem seatTie1 : Tryd.prog.laidByTextLater [("errors.errorType", Rows.laid_errors_errorType), ("pinnace/csr.order", Rows.laid_pinnace_csr_order), ("pinnace/inst.kinds", Rows.laid_pinnace_inst_kinds), ("pinnace/inst.words", Rows.laid_pinnace_inst_words), ("pinnace/hart.onNumbers", Rows.laid_pinnace_hart_onNumbers), ("pinnace/hart.widths", Rows.laid_pinnace_hart_widths)] [.handle, .data, .data, .data, .data, .data] true :=
  Program.laidByTextLater_by_one 41 8 58 (by kernel_rfl) (by kernel_rfl) (by kernel_rfl) (by kernel_rfl) (by kernel_rfl) (by kernel_rfl) (fun _ _ => by kernel_rfl)
theorem noOwnUnsafe : Tryd.pinned.checked.prog.headLifts.contains "ownunsafe" = false := by kernel_rfl
theorem tie : Tryd.prog.laidByTextLater [("pinnace/inst.kinds", Rows.laid_pinnace_inst_kinds), ("pinnace/inst.words", Rows.laid_pinnace_inst_words), ("pinnace/hart.onNumbers", Rows.laid_pinnace_hart_onNumbers), ("pinnace/hart.widths", Rows.laid_pinnace_hart_widths)] [.data, .data, .data, .data] true :=
  Program.laidByTextLater.sub seatTie1 ["pinnace/inst.kinds", "pinnace/inst.words", "pinnace/hart.onNumbers", "pinnace/hart.widths"] (by kernel_rfl) (by kernel_rfl)
theorem hartDoes_row_tie : Rows.hartDoesRow.laidByTextAt .later Tryd.pinned [.data, .data, .data, .data] true :=
  OpenClaim.laidByTextAt_later rfl rfl tie noOwnUnsafe
theorem hartTraps_row_tie : Rows.hartTrapsRow.laidByTextAt .later Tryd.pinned [.data, .data, .data, .data] true :=
  OpenClaim.laidByTextAt_later rfl rfl tie noOwnUnsafe
theorem hartSums_row_tie : Rows.hartSumsRow.laidByTextAt .later Tryd.pinned [.data, .data, .data, .data] true :=
  OpenClaim.laidByTextAt_later rfl rfl tie noOwnUnsafe
theorem tie2 : Tryd.prog.laidByTextLater [("errors.errorType", Rows.laid_errors_errorType), ("pinnace/csr.order", Rows.laid_pinnace_csr_order), ("pinnace/inst.kinds", Rows.laid_pinnace_inst_kinds), ("pinnace/inst.words", Rows.laid_pinnace_inst_words), ("pinnace/hart.onNumbers", Rows.laid_pinnace_hart_onNumbers), ("pinnace/hart.widths", Rows.laid_pinnace_hart_widths)] [.handle, .data, .data, .data, .data, .data] true :=
  Program.laidByTextLater.sub seatTie1 ["errors.errorType", "pinnace/csr.order", "pinnace/inst.kinds", "pinnace/inst.words", "pinnace/hart.onNumbers", "pinnace/hart.widths"] (by kernel_rfl) (by kernel_rfl)
theorem hartBegins_row_tie : Rows.hartBeginsRow.laidByTextAt .later Tryd.pinned [.handle, .data, .data, .data, .data, .data] true :=
  OpenClaim.laidByTextAt_later rfl rfl tie2 noOwnUnsafe
theorem tie3 : Tryd.prog.laidByTextLater [("pinnace/csr.order", Rows.laid_pinnace_csr_order), ("pinnace/inst.kinds", Rows.laid_pinnace_inst_kinds), ("pinnace/inst.words", Rows.laid_pinnace_inst_words), ("pinnace/hart.onNumbers", Rows.laid_pinnace_hart_onNumbers), ("pinnace/hart.widths", Rows.laid_pinnace_hart_widths)] [.data, .data, .data, .data, .data] true :=
  Program.laidByTextLater.sub seatTie1 ["pinnace/csr.order", "pinnace/inst.kinds", "pinnace/inst.words", "pinnace/hart.onNumbers", "pinnace/hart.widths"] (by kernel_rfl) (by kernel_rfl)
theorem hartHolds_row_tie : Rows.hartHoldsRow.laidByTextAt .later Tryd.pinned [.data, .data, .data, .data, .data] true :=
  OpenClaim.laidByTextAt_later rfl rfl tie3 noOwnUnsafe
theorem hartDoesUpto_row_tie : Rows.hartDoesUptoRow.laidByTextAt .later Tryd.pinned [.data, .data, .data, .data] true :=
  OpenClaim.laidByTextAt_later rfl rfl tie noOwnUnsafe
theorem hartBeginsUpto_row_tie : Rows.hartBeginsUptoRow.laidByTextAt .later Tryd.pinned [.handle, .data, .data, .data, .data, .data] true :=
  OpenClaim.laidByTextAt_later rfl rfl tie2 noOwnUnsafe
theorem hartHoldsUpto_row_tie : Rows.hartHoldsUptoRow.laidByTextAt .later Tryd.pinned [.data, .data, .data, .data, .data] true :=
  OpenClaim.laidByTextAt_later rfl rfl tie3 noOwnUnsafe
theorem hartTrapsUpto_row_tie : Rows.hartTrapsUptoRow.laidByTextAt .later Tryd.pinned [.data, .data, .data, .data] true :=
  OpenClaim.laidByTextAt_later rfl rfl tie noOwnUnsafe
theorem hartSumsUpto_row_tie : Rows.hartSumsUptoRow.laidByTextAt .later Tryd.pinned [.data, .data, .data, .data] true :=
  OpenClaim.laidByTextAt_later rfl rfl tie noOwnUnsafe
end Go.Proofs.YtchjhpeogdkbmaaDoor
