/-
  NARROWER THAN 'FOR EVERY INPUT', by the rows' own cells (each row's printed sentence says how): CsrReads: laid · CsrWrites: laid · CsrReturns: laid · CsrHolds: laid.
  DERIVED. THE GIVEN ROWS OF THIS SEAT. 4 by the template 'for every input the law returns true; each argument reads behind the call as it read before'; 0 by the template 'total and deterministic' (their statements: YtchlomnkjilmeaaDoorTotals.lean).
  GIVEN WITH THE SEED: the statements are not yours to turn. If you find one false, say at which input.
  Laid BY PROGRAM, IN A SANDBOX (cutbox-rows.mjs): the forced cells as the released guide's own fill.sh prints them over the translation b8687a062b84b2c7… (all of the seat's roots in one cut). By AI agents, Wed Nov 11 2026. No macro, syntax, notation, axiom, sorry.
-/
import Derived.Test.YtchlomnkjilmeaaDoorChecked
import GoSem.Claim
import GoSem.ClaimJoined
import GoSem.ClaimMapViews
import Derived.JoinedTies
import Derived.KernelRfl
namespace Go.Proofs.YtchlomnkjilmeaaDoor
/- THE CELL 'sum', in the pinned program and in every row, IS THE sha256 OF THE DUMP (.gsa) THAT YtchlomnkjilmeaaDoorProg.lean LOADS. Nothing in Lean hashes anything: it is a label: what it is worth is what the hold of that sum in a sandbox is worth. -/
noncomputable def Tryd.pinned : Pinned := { name := "ytchlomnkjilmeaadoor", sum := "b8687a062b84b2c768db5e8753857e710b4696146cc006d70800e650e3d1e1ee", checked := Tryd.checked }
namespace Rows
def none {H : Type} : Left H := { results := [], args := [] }

/- WHAT THE LISTED PACKAGE-LEVEL VARIABLES READ AS WHEN THE CALL BEGINS. Each datum BY PROGRAM (the guide's laid-datum.mjs) off the statement by which the dump's own 'gosem.cut.vars' lays the variable. In a bare row this is a premise. The card (YtchlomnkjilmeaaDoorCards.lean) ties it to the program's text. -/
def laid_errors_errorType {H : Type} : DataW H := .iface "internal/reflectlite.rtype" (.agg [.ptr (.lit (.string [101, 114, 114, 111, 114]))])
def laid_pinnace_csr_order {H : Type} : DataW H := .agg [.lit (.int .u32 11), .lit (.int .u32 3), .lit (.int .u32 7)]

/-- 'pinnacelaw05.CsrReads': WHATEVER THE INPUT: true; the input reads as it did. -/
def csrReadsSpec : ChangeSpec := { name := "csrReads", fn := fun _ => fun
  | [d1, d2, d3] => { results := [.lit (.bool true)], args := [d1, d2, d3] }
  | _ => none }
def csrReadsRow : OpenClaim := { program := "ytchlomnkjilmeaadoor", sum := "b8687a062b84b2c768db5e8753857e710b4696146cc006d70800e650e3d1e1ee", func := "pinnace/pinnacelaw05.CsrReads", spec := "csrReads", inPlace := ["internal/reflectlite.ValueOf", "(internal/reflectlite.Value).Type", "(internal/reflectlite.Value).IsNil", "internal/reflectlite.TypeOf", "(internal/reflectlite.Value).Elem", "(internal/reflectlite.Value).Set"], unfollowed := true, recurses := true, named := ["errors.errorType"], apart := false, laid := [("errors.errorType", laid_errors_errorType)] }
def CsrReadsSaid : Prop := csrReadsRow.holds Tryd.pinned (OpenSpec.ofChange csrReadsSpec)

/-- ITS FALSE NEIGHBOUR: 'it returns false'. Refute it at one input. -/
def csrReadsWrong : ChangeSpec := { name := "csrReads", fn := fun _ => fun
  | [d1, d2, d3] => { results := [.lit (.bool false)], args := [d1, d2, d3] }
  | _ => none }
def CsrReadsWrongFalsely : Prop := csrReadsRow.holds Tryd.pinned (OpenSpec.ofChange csrReadsWrong)

/-- 'pinnacelaw05.CsrWrites': WHATEVER THE INPUT: true; the input reads as it did. -/
def csrWritesSpec : ChangeSpec := { name := "csrWrites", fn := fun _ => fun
  | [d1, d2, d3] => { results := [.lit (.bool true)], args := [d1, d2, d3] }
  | _ => none }
def csrWritesRow : OpenClaim := { program := "ytchlomnkjilmeaadoor", sum := "b8687a062b84b2c768db5e8753857e710b4696146cc006d70800e650e3d1e1ee", func := "pinnace/pinnacelaw05.CsrWrites", spec := "csrWrites", inPlace := ["internal/reflectlite.ValueOf", "(internal/reflectlite.Value).Type", "(internal/reflectlite.Value).IsNil", "internal/reflectlite.TypeOf", "(internal/reflectlite.Value).Elem", "(internal/reflectlite.Value).Set"], unfollowed := true, recurses := true, named := ["errors.errorType"], apart := false, laid := [("errors.errorType", laid_errors_errorType)] }
def CsrWritesSaid : Prop := csrWritesRow.holds Tryd.pinned (OpenSpec.ofChange csrWritesSpec)

/-- ITS FALSE NEIGHBOUR: 'it returns false'. Refute it at one input. -/
def csrWritesWrong : ChangeSpec := { name := "csrWrites", fn := fun _ => fun
  | [d1, d2, d3] => { results := [.lit (.bool false)], args := [d1, d2, d3] }
  | _ => none }
def CsrWritesWrongFalsely : Prop := csrWritesRow.holds Tryd.pinned (OpenSpec.ofChange csrWritesWrong)

/-- 'pinnacelaw05.CsrReturns': WHATEVER THE INPUT: true; the input reads as it did. -/
def csrReturnsSpec : ChangeSpec := { name := "csrReturns", fn := fun _ => fun
  | [d1, d2] => { results := [.lit (.bool true)], args := [d1, d2] }
  | _ => none }
def csrReturnsRow : OpenClaim := { program := "ytchlomnkjilmeaadoor", sum := "b8687a062b84b2c768db5e8753857e710b4696146cc006d70800e650e3d1e1ee", func := "pinnace/pinnacelaw05.CsrReturns", spec := "csrReturns", named := ["pinnace/csr.order"], apart := false, laid := [("pinnace/csr.order", laid_pinnace_csr_order)] }
def CsrReturnsSaid : Prop := csrReturnsRow.holds Tryd.pinned (OpenSpec.ofChange csrReturnsSpec)

/-- ITS FALSE NEIGHBOUR: 'it returns false'. Refute it at one input. -/
def csrReturnsWrong : ChangeSpec := { name := "csrReturns", fn := fun _ => fun
  | [d1, d2] => { results := [.lit (.bool false)], args := [d1, d2] }
  | _ => none }
def CsrReturnsWrongFalsely : Prop := csrReturnsRow.holds Tryd.pinned (OpenSpec.ofChange csrReturnsWrong)

/-- 'pinnacelaw05.CsrHolds': WHATEVER THE INPUT: true; the input reads as it did. -/
def csrHoldsSpec : ChangeSpec := { name := "csrHolds", fn := fun _ => fun
  | [d1, d2, d3] => { results := [.lit (.bool true)], args := [d1, d2, d3] }
  | _ => none }
def csrHoldsRow : OpenClaim := { program := "ytchlomnkjilmeaadoor", sum := "b8687a062b84b2c768db5e8753857e710b4696146cc006d70800e650e3d1e1ee", func := "pinnace/pinnacelaw05.CsrHolds", spec := "csrHolds", named := ["pinnace/csr.order"], apart := false, laid := [("pinnace/csr.order", laid_pinnace_csr_order)] }
def CsrHoldsSaid : Prop := csrHoldsRow.holds Tryd.pinned (OpenSpec.ofChange csrHoldsSpec)

/-- ITS FALSE NEIGHBOUR: 'it returns false'. Refute it at one input. -/
def csrHoldsWrong : ChangeSpec := { name := "csrHolds", fn := fun _ => fun
  | [d1, d2, d3] => { results := [.lit (.bool false)], args := [d1, d2, d3] }
  | _ => none }
def CsrHoldsWrongFalsely : Prop := csrHoldsRow.holds Tryd.pinned (OpenSpec.ofChange csrHoldsWrong)

/- THE SECOND FORM. 'bulk': how many values and letters a reading holds, each counted each time it is reached (what is shared counts as often as it is met; a slice's spare places count too). A statement '..UptoSaid' is the law's where the arguments, and the package variables that the reading takes, are together of bulk at most 1048576: NARROWER than '..Said'. Prove '..Said' where nothing that the law and all that it calls make is longer than what came in: it says more and counts as full. Else prove '..UptoSaid'. A law counts once. -/
mutual
def uptoBulk {H : Type} : DataW H → Nat
  | .lit (.string bytes) => bytes.length + 1
  | .lit _ => 1
  | .nil => 1
  | .ptr d => uptoBulk d + 1
  | .slice elems spare => uptoBulkAll elems + uptoBulkAll spare + 1
  | .agg parts => uptoBulkAll parts + 1
  | .iface _ d => uptoBulk d + 1
  | .map entries => uptoBulkEntries entries + 1
  | .held _ => 1
def uptoBulkAll {H : Type} : List (DataW H) → Nat
  | [] => 0
  | d :: r => uptoBulk d + uptoBulkAll r
def uptoBulkEntries {H : Type} : List (Lit × DataW H) → Nat
  | [] => 0
  | x :: r => uptoBulkEntry x + uptoBulkEntries r
def uptoBulkEntry {H : Type} : Lit × DataW H → Nat
  | (.string bytes, d) => bytes.length + uptoBulk d + 1
  | (_, d) => uptoBulk d + 1
 end
def uptoSmall : (H : Type) → List (DataW H) → Bool := fun _ ds => decide (uptoBulkAll ds ≤ 1048576)
def OpenSpec.upto (s : _root_.Go.ChangeSpec) : _root_.Go.OpenSpec := { _root_.Go.OpenSpec.ofChange s with cond := some uptoSmall }

/-- 'pinnacelaw05.CsrReads', WHERE WHAT IT READS IS OF BULK AT MOST 1048576: true; the input reads as it did. -/
def csrReadsUptoRow : OpenClaim := { program := "ytchlomnkjilmeaadoor", sum := "b8687a062b84b2c768db5e8753857e710b4696146cc006d70800e650e3d1e1ee", func := "pinnace/pinnacelaw05.CsrReads", spec := "csrReads", inPlace := ["internal/reflectlite.ValueOf", "(internal/reflectlite.Value).Type", "(internal/reflectlite.Value).IsNil", "internal/reflectlite.TypeOf", "(internal/reflectlite.Value).Elem", "(internal/reflectlite.Value).Set"], unfollowed := true, recurses := true, named := ["errors.errorType"], apart := false, laid := [("errors.errorType", laid_errors_errorType)], narrowed := true }
def CsrReadsUptoSaid : Prop := csrReadsUptoRow.holds Tryd.pinned (OpenSpec.upto csrReadsSpec)

/-- 'pinnacelaw05.CsrWrites', WHERE WHAT IT READS IS OF BULK AT MOST 1048576: true; the input reads as it did. -/
def csrWritesUptoRow : OpenClaim := { program := "ytchlomnkjilmeaadoor", sum := "b8687a062b84b2c768db5e8753857e710b4696146cc006d70800e650e3d1e1ee", func := "pinnace/pinnacelaw05.CsrWrites", spec := "csrWrites", inPlace := ["internal/reflectlite.ValueOf", "(internal/reflectlite.Value).Type", "(internal/reflectlite.Value).IsNil", "internal/reflectlite.TypeOf", "(internal/reflectlite.Value).Elem", "(internal/reflectlite.Value).Set"], unfollowed := true, recurses := true, named := ["errors.errorType"], apart := false, laid := [("errors.errorType", laid_errors_errorType)], narrowed := true }
def CsrWritesUptoSaid : Prop := csrWritesUptoRow.holds Tryd.pinned (OpenSpec.upto csrWritesSpec)

/-- 'pinnacelaw05.CsrReturns', WHERE WHAT IT READS IS OF BULK AT MOST 1048576: true; the input reads as it did. -/
def csrReturnsUptoRow : OpenClaim := { program := "ytchlomnkjilmeaadoor", sum := "b8687a062b84b2c768db5e8753857e710b4696146cc006d70800e650e3d1e1ee", func := "pinnace/pinnacelaw05.CsrReturns", spec := "csrReturns", named := ["pinnace/csr.order"], apart := false, laid := [("pinnace/csr.order", laid_pinnace_csr_order)], narrowed := true }
def CsrReturnsUptoSaid : Prop := csrReturnsUptoRow.holds Tryd.pinned (OpenSpec.upto csrReturnsSpec)

/-- 'pinnacelaw05.CsrHolds', WHERE WHAT IT READS IS OF BULK AT MOST 1048576: true; the input reads as it did. -/
def csrHoldsUptoRow : OpenClaim := { program := "ytchlomnkjilmeaadoor", sum := "b8687a062b84b2c768db5e8753857e710b4696146cc006d70800e650e3d1e1ee", func := "pinnace/pinnacelaw05.CsrHolds", spec := "csrHolds", named := ["pinnace/csr.order"], apart := false, laid := [("pinnace/csr.order", laid_pinnace_csr_order)], narrowed := true }
def CsrHoldsUptoSaid : Prop := csrHoldsUptoRow.holds Tryd.pinned (OpenSpec.upto csrHoldsSpec)

end Rows
end Go.Proofs.YtchlomnkjilmeaaDoor
