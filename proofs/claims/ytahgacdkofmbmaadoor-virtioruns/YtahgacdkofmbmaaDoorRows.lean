/-
  NARROWER THAN 'FOR EVERY INPUT', by the rows' own cells (each row's printed sentence says how): VirtioReads: laid · VirtioWrites: laid · VirtioRuns: laid · VirtioHolds: laid · VirtioReady: laid.
  DERIVED. THE GIVEN ROWS OF THIS SEAT. 5 by the template 'for every input the law returns true; each argument reads behind the call as it read before'; 0 by the template 'total and deterministic' (their statements: YtahgacdkofmbmaaDoorTotals.lean).
  GIVEN WITH THE SEED: the statements are not yours to turn. If you find one false, say at which input.
  Laid BY PROGRAM, IN A SANDBOX (cutbox-rows.mjs): the forced cells as the released guide's own fill.sh prints them over the translation 893dae002fd1b719… (all of the seat's roots in one cut). By AI agents, Wed Nov 11 2026. No macro, syntax, notation, axiom, sorry.
-/
import Derived.Test.YtahgacdkofmbmaaDoorChecked
import GoSem.Claim
import GoSem.ClaimJoined
import GoSem.ClaimMapViews
import Derived.JoinedTies
import Derived.KernelRfl
namespace Go.Proofs.YtahgacdkofmbmaaDoor
/- THE CELL 'sum', in the pinned program and in every row, IS THE sha256 OF THE DUMP (.gsa) THAT YtahgacdkofmbmaaDoorProg.lean LOADS. Nothing in Lean hashes anything: it is a label: what it is worth is what the hold of that sum in a sandbox is worth. -/
noncomputable def Tryd.pinned : Pinned := { name := "ytahgacdkofmbmaadoor", sum := "893dae002fd1b71942ffca9a145041519405c752afdeca1abadad5a249a14afe", checked := Tryd.checked }
namespace Rows
def none {H : Type} : Left H := { results := [], args := [] }

/- WHAT THE LISTED PACKAGE-LEVEL VARIABLES READ AS WHEN THE CALL BEGINS. Each datum BY PROGRAM (the guide's laid-datum.mjs) off the statement by which the dump's own 'gosem.cut.vars' lays the variable. In a bare row this is a premise. The card (YtahgacdkofmbmaaDoorCards.lean) ties it to the program's text. -/
def laid_errors_errorType {H : Type} : DataW H := .iface "internal/reflectlite.rtype" (.agg [.ptr (.lit (.string [101, 114, 114, 111, 114]))])
def laid_pinnace_virtio_offered {H : Type} : DataW H := .agg [.lit (.int .u32 0), .lit (.int .u32 1)]

/-- 'pinnacelaw14.VirtioReads': WHATEVER THE INPUT: true; the input reads as it did. -/
def virtioReadsSpec : ChangeSpec := { name := "virtioReads", fn := fun _ => fun
  | [d1, d2, d3] => { results := [.lit (.bool true)], args := [d1, d2, d3] }
  | _ => none }
def virtioReadsRow : OpenClaim := { program := "ytahgacdkofmbmaadoor", sum := "893dae002fd1b71942ffca9a145041519405c752afdeca1abadad5a249a14afe", func := "pinnace/pinnacelaw14.VirtioReads", spec := "virtioReads", inPlace := ["internal/reflectlite.ValueOf", "(internal/reflectlite.Value).Type", "(internal/reflectlite.Value).IsNil", "internal/reflectlite.TypeOf", "(internal/reflectlite.Value).Elem", "(internal/reflectlite.Value).Set"], unfollowed := true, recurses := true, named := ["pinnace/virtio.offered", "errors.errorType"], apart := false, laid := [("errors.errorType", laid_errors_errorType), ("pinnace/virtio.offered", laid_pinnace_virtio_offered)] }
def VirtioReadsSaid : Prop := virtioReadsRow.holds Tryd.pinned (OpenSpec.ofChange virtioReadsSpec)

/-- ITS FALSE NEIGHBOUR: 'it returns false'. Refute it at one input. -/
def virtioReadsWrong : ChangeSpec := { name := "virtioReads", fn := fun _ => fun
  | [d1, d2, d3] => { results := [.lit (.bool false)], args := [d1, d2, d3] }
  | _ => none }
def VirtioReadsWrongFalsely : Prop := virtioReadsRow.holds Tryd.pinned (OpenSpec.ofChange virtioReadsWrong)

/-- 'pinnacelaw14.VirtioWrites': WHATEVER THE INPUT: true; the input reads as it did. -/
def virtioWritesSpec : ChangeSpec := { name := "virtioWrites", fn := fun _ => fun
  | [d1, d2, d3] => { results := [.lit (.bool true)], args := [d1, d2, d3] }
  | _ => none }
def virtioWritesRow : OpenClaim := { program := "ytahgacdkofmbmaadoor", sum := "893dae002fd1b71942ffca9a145041519405c752afdeca1abadad5a249a14afe", func := "pinnace/pinnacelaw14.VirtioWrites", spec := "virtioWrites", inPlace := ["internal/reflectlite.ValueOf", "(internal/reflectlite.Value).Type", "(internal/reflectlite.Value).IsNil", "internal/reflectlite.TypeOf", "(internal/reflectlite.Value).Elem", "(internal/reflectlite.Value).Set"], unfollowed := true, recurses := true, named := ["pinnace/virtio.offered", "errors.errorType"], apart := false, laid := [("errors.errorType", laid_errors_errorType), ("pinnace/virtio.offered", laid_pinnace_virtio_offered)] }
def VirtioWritesSaid : Prop := virtioWritesRow.holds Tryd.pinned (OpenSpec.ofChange virtioWritesSpec)

/-- ITS FALSE NEIGHBOUR: 'it returns false'. Refute it at one input. -/
def virtioWritesWrong : ChangeSpec := { name := "virtioWrites", fn := fun _ => fun
  | [d1, d2, d3] => { results := [.lit (.bool false)], args := [d1, d2, d3] }
  | _ => none }
def VirtioWritesWrongFalsely : Prop := virtioWritesRow.holds Tryd.pinned (OpenSpec.ofChange virtioWritesWrong)

/-- 'pinnacelaw14.VirtioRuns': WHATEVER THE INPUT: true; the input reads as it did. -/
def virtioRunsSpec : ChangeSpec := { name := "virtioRuns", fn := fun _ => fun
  | [d] => { results := [.lit (.bool true)], args := [d] }
  | _ => none }
def virtioRunsRow : OpenClaim := { program := "ytahgacdkofmbmaadoor", sum := "893dae002fd1b71942ffca9a145041519405c752afdeca1abadad5a249a14afe", func := "pinnace/pinnacelaw14.VirtioRuns", spec := "virtioRuns", inPlace := ["internal/reflectlite.ValueOf", "(internal/reflectlite.Value).Type", "(internal/reflectlite.Value).IsNil", "internal/reflectlite.TypeOf", "(internal/reflectlite.Value).Elem", "(internal/reflectlite.Value).Set"], unfollowed := true, recurses := true, named := ["pinnace/virtio.offered", "errors.errorType"], apart := false, laid := [("errors.errorType", laid_errors_errorType), ("pinnace/virtio.offered", laid_pinnace_virtio_offered)] }
def VirtioRunsSaid : Prop := virtioRunsRow.holds Tryd.pinned (OpenSpec.ofChange virtioRunsSpec)

/-- ITS FALSE NEIGHBOUR: 'it returns false'. Refute it at one input. -/
def virtioRunsWrong : ChangeSpec := { name := "virtioRuns", fn := fun _ => fun
  | [d] => { results := [.lit (.bool false)], args := [d] }
  | _ => none }
def VirtioRunsWrongFalsely : Prop := virtioRunsRow.holds Tryd.pinned (OpenSpec.ofChange virtioRunsWrong)

/-- 'pinnacelaw14.VirtioHolds': WHATEVER THE INPUT: true; the input reads as it did. -/
def virtioHoldsSpec : ChangeSpec := { name := "virtioHolds", fn := fun _ => fun
  | [d1, d2] => { results := [.lit (.bool true)], args := [d1, d2] }
  | _ => none }
def virtioHoldsRow : OpenClaim := { program := "ytahgacdkofmbmaadoor", sum := "893dae002fd1b71942ffca9a145041519405c752afdeca1abadad5a249a14afe", func := "pinnace/pinnacelaw14.VirtioHolds", spec := "virtioHolds", named := ["pinnace/virtio.offered"], apart := false, laid := [("pinnace/virtio.offered", laid_pinnace_virtio_offered)] }
def VirtioHoldsSaid : Prop := virtioHoldsRow.holds Tryd.pinned (OpenSpec.ofChange virtioHoldsSpec)

/-- ITS FALSE NEIGHBOUR: 'it returns false'. Refute it at one input. -/
def virtioHoldsWrong : ChangeSpec := { name := "virtioHolds", fn := fun _ => fun
  | [d1, d2] => { results := [.lit (.bool false)], args := [d1, d2] }
  | _ => none }
def VirtioHoldsWrongFalsely : Prop := virtioHoldsRow.holds Tryd.pinned (OpenSpec.ofChange virtioHoldsWrong)

/-- 'pinnacelaw14.VirtioReady': WHATEVER THE INPUT: true; the input reads as it did. -/
def virtioReadySpec : ChangeSpec := { name := "virtioReady", fn := fun _ => fun
  | [d1, d2, d3] => { results := [.lit (.bool true)], args := [d1, d2, d3] }
  | _ => none }
def virtioReadyRow : OpenClaim := { program := "ytahgacdkofmbmaadoor", sum := "893dae002fd1b71942ffca9a145041519405c752afdeca1abadad5a249a14afe", func := "pinnace/pinnacelaw14.VirtioReady", spec := "virtioReady", named := ["pinnace/virtio.offered"], apart := false, laid := [("pinnace/virtio.offered", laid_pinnace_virtio_offered)] }
def VirtioReadySaid : Prop := virtioReadyRow.holds Tryd.pinned (OpenSpec.ofChange virtioReadySpec)

/-- ITS FALSE NEIGHBOUR: 'it returns false'. Refute it at one input. -/
def virtioReadyWrong : ChangeSpec := { name := "virtioReady", fn := fun _ => fun
  | [d1, d2, d3] => { results := [.lit (.bool false)], args := [d1, d2, d3] }
  | _ => none }
def VirtioReadyWrongFalsely : Prop := virtioReadyRow.holds Tryd.pinned (OpenSpec.ofChange virtioReadyWrong)

/- THE SECOND FORM. 'bulk': how many values and letters a reading holds, each counted each time it is reached (what is shared counts as often as it is met; a slice's spare places count too). A statement '..UptoSaid' is the law's where the arguments, and the package variables that the reading takes, are together of bulk at most 1048576: NARROWER than '..Said'. Prove '..Said' where nothing that the law and all that it calls make is longer than what came in: it says more and counts as full. Else prove '..UptoSaid'. A law counts once. -/
mutual
def uptoBulk {H : Type} : DataW H → Nat
  | .lit (.string bytes) => bytes.length + 1
  | .lit _ => 1
  | .nil => 1
  | .ptr d => uptoBulk d + 1
  | .slice elems spare => uptoBulkAll elems + uptoBulkAll spare + 1
  | .agg parts => uptoBulkAll parts + 1
  | .iface _ d => uptoBulk d + 1
  | .map entries => uptoBulkEntries entries + 1
  | .held _ => 1
def uptoBulkAll {H : Type} : List (DataW H) → Nat
  | [] => 0
  | d :: r => uptoBulk d + uptoBulkAll r
def uptoBulkEntries {H : Type} : List (Lit × DataW H) → Nat
  | [] => 0
  | x :: r => uptoBulkEntry x + uptoBulkEntries r
def uptoBulkEntry {H : Type} : Lit × DataW H → Nat
  | (.string bytes, d) => bytes.length + uptoBulk d + 1
  | (_, d) => uptoBulk d + 1
 end
def uptoSmall : (H : Type) → List (DataW H) → Bool := fun _ ds => decide (uptoBulkAll ds ≤ 1048576)
def OpenSpec.upto (s : _root_.Go.ChangeSpec) : _root_.Go.OpenSpec := { _root_.Go.OpenSpec.ofChange s with cond := some uptoSmall }

/-- 'pinnacelaw14.VirtioReads', WHERE WHAT IT READS IS OF BULK AT MOST 1048576: true; the input reads as it did. -/
def virtioReadsUptoRow : OpenClaim := { program := "ytahgacdkofmbmaadoor", sum := "893dae002fd1b71942ffca9a145041519405c752afdeca1abadad5a249a14afe", func := "pinnace/pinnacelaw14.VirtioReads", spec := "virtioReads", inPlace := ["internal/reflectlite.ValueOf", "(internal/reflectlite.Value).Type", "(internal/reflectlite.Value).IsNil", "internal/reflectlite.TypeOf", "(internal/reflectlite.Value).Elem", "(internal/reflectlite.Value).Set"], unfollowed := true, recurses := true, named := ["pinnace/virtio.offered", "errors.errorType"], apart := false, laid := [("errors.errorType", laid_errors_errorType), ("pinnace/virtio.offered", laid_pinnace_virtio_offered)], narrowed := true }
def VirtioReadsUptoSaid : Prop := virtioReadsUptoRow.holds Tryd.pinned (OpenSpec.upto virtioReadsSpec)

/-- 'pinnacelaw14.VirtioWrites', WHERE WHAT IT READS IS OF BULK AT MOST 1048576: true; the input reads as it did. -/
def virtioWritesUptoRow : OpenClaim := { program := "ytahgacdkofmbmaadoor", sum := "893dae002fd1b71942ffca9a145041519405c752afdeca1abadad5a249a14afe", func := "pinnace/pinnacelaw14.VirtioWrites", spec := "virtioWrites", inPlace := ["internal/reflectlite.ValueOf", "(internal/reflectlite.Value).Type", "(internal/reflectlite.Value).IsNil", "internal/reflectlite.TypeOf", "(internal/reflectlite.Value).Elem", "(internal/reflectlite.Value).Set"], unfollowed := true, recurses := true, named := ["pinnace/virtio.offered", "errors.errorType"], apart := false, laid := [("errors.errorType", laid_errors_errorType), ("pinnace/virtio.offered", laid_pinnace_virtio_offered)], narrowed := true }
def VirtioWritesUptoSaid : Prop := virtioWritesUptoRow.holds Tryd.pinned (OpenSpec.upto virtioWritesSpec)

/-- 'pinnacelaw14.VirtioRuns', WHERE WHAT IT READS IS OF BULK AT MOST 1048576: true; the input reads as it did. -/
def virtioRunsUptoRow : OpenClaim := { program := "ytahgacdkofmbmaadoor", sum := "893dae002fd1b71942ffca9a145041519405c752afdeca1abadad5a249a14afe", func := "pinnace/pinnacelaw14.VirtioRuns", spec := "virtioRuns", inPlace := ["internal/reflectlite.ValueOf", "(internal/reflectlite.Value).Type", "(internal/reflectlite.Value).IsNil", "internal/reflectlite.TypeOf", "(internal/reflectlite.Value).Elem", "(internal/reflectlite.Value).Set"], unfollowed := true, recurses := true, named := ["pinnace/virtio.offered", "errors.errorType"], apart := false, laid := [("errors.errorType", laid_errors_errorType), ("pinnace/virtio.offered", laid_pinnace_virtio_offered)], narrowed := true }
def VirtioRunsUptoSaid : Prop := virtioRunsUptoRow.holds Tryd.pinned (OpenSpec.upto virtioRunsSpec)

/-- 'pinnacelaw14.VirtioHolds', WHERE WHAT IT READS IS OF BULK AT MOST 1048576: true; the input reads as it did. -/
def virtioHoldsUptoRow : OpenClaim := { program := "ytahgacdkofmbmaadoor", sum := "893dae002fd1b71942ffca9a145041519405c752afdeca1abadad5a249a14afe", func := "pinnace/pinnacelaw14.VirtioHolds", spec := "virtioHolds", named := ["pinnace/virtio.offered"], apart := false, laid := [("pinnace/virtio.offered", laid_pinnace_virtio_offered)], narrowed := true }
def VirtioHoldsUptoSaid : Prop := virtioHoldsUptoRow.holds Tryd.pinned (OpenSpec.upto virtioHoldsSpec)

/-- 'pinnacelaw14.VirtioReady', WHERE WHAT IT READS IS OF BULK AT MOST 1048576: true; the input reads as it did. -/
def virtioReadyUptoRow : OpenClaim := { program := "ytahgacdkofmbmaadoor", sum := "893dae002fd1b71942ffca9a145041519405c752afdeca1abadad5a249a14afe", func := "pinnace/pinnacelaw14.VirtioReady", spec := "virtioReady", named := ["pinnace/virtio.offered"], apart := false, laid := [("pinnace/virtio.offered", laid_pinnace_virtio_offered)], narrowed := true }
def VirtioReadyUptoSaid : Prop := virtioReadyUptoRow.holds Tryd.pinned (OpenSpec.upto virtioReadySpec)

end Rows
end Go.Proofs.YtahgacdkofmbmaaDoor
