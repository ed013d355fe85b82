/-
  NARROWER THAN 'FOR EVERY INPUT', by the rows' own cells (each row's printed sentence says how): SumSums: laid · SumTails: laid · SumNoughts: laid · SumNear: laid · SumThree: laid.
  DERIVED. THE GIVEN ROWS OF THIS SEAT. 5 by the template 'for every input the law returns true; each argument reads behind the call as it read before'; 0 by the template 'total and deterministic' (their statements: YtnokcfaipbolkaaDoorTotals.lean).
  GIVEN WITH THE SEED: the statements are not yours to turn. If you find one false, say at which input.
  Laid BY PROGRAM, IN A SANDBOX (cutbox-rows.mjs): the forced cells as the released guide's own fill.sh prints them over the translation eac7a073044c5a3e… (all of the seat's roots in one cut). By AI agents, Wed Nov 11 2026. No macro, syntax, notation, axiom, sorry.
-/
import Derived.Test.YtnokcfaipbolkaaDoorChecked
import GoSem.Claim
import GoSem.ClaimJoined
import GoSem.ClaimMapViews
import Derived.JoinedTies
import Derived.KernelRfl
namespace Go.Proofs.YtnokcfaipbolkaaDoor
/- THE CELL 'sum', in the pinned program and in every row, IS THE sha256 OF THE DUMP (.gsa) THAT YtnokcfaipbolkaaDoorProg.lean LOADS. Nothing in Lean hashes anything: it is a label: what it is worth is what the hold of that sum in a sandbox is worth. -/
noncomputable def Tryd.pinned : Pinned := { name := "ytnokcfaipbolkaadoor", sum := "eac7a073044c5a3e5dc0b0ad50743114b64fbda1106888dfaa4b8c968cb4747c", checked := Tryd.checked }
namespace Rows
def none {H : Type} : Left H := { results := [], args := [] }

/- WHAT THE LISTED PACKAGE-LEVEL VARIABLES READ AS WHEN THE CALL BEGINS. Each datum BY PROGRAM (the guide's laid-datum.mjs) off the statement by which the dump's own 'gosem.cut.vars' lays the variable. In a bare row this is a premise. The card (YtnokcfaipbolkaaDoorCards.lean) ties it to the program's text. -/
def laid_pinnace_sum_carried {H : Type} : DataW H := .agg [.lit (.int .u32 0), .lit (.int .u32 79764919), .lit (.int .u32 159529838), .lit (.int .u32 222504665), .lit (.int .u32 319059676), .lit (.int .u32 398814059), .lit (.int .u32 445009330), .lit (.int .u32 507990021), .lit (.int .u32 638119352), .lit (.int .u32 583659535), .lit (.int .u32 797628118), .lit (.int .u32 726387553), .lit (.int .u32 890018660), .lit (.int .u32 835552979), .lit (.int .u32 1015980042), .lit (.int .u32 944750013)]
def laid_errors_errorType {H : Type} : DataW H := .iface "internal/reflectlite.rtype" (.agg [.ptr (.lit (.string [101, 114, 114, 111, 114]))])

/-- 'pinnacelaw18.SumSums': WHATEVER THE INPUT: true; the input reads as it did. -/
def sumSumsSpec : ChangeSpec := { name := "sumSums", fn := fun _ => fun
  | [d1, d2] => { results := [.lit (.bool true)], args := [d1, d2] }
  | _ => none }
def sumSumsRow : OpenClaim := { program := "ytnokcfaipbolkaadoor", sum := "eac7a073044c5a3e5dc0b0ad50743114b64fbda1106888dfaa4b8c968cb4747c", func := "pinnace/pinnacelaw18.SumSums", spec := "sumSums", named := ["pinnace/sum.carried"], apart := false, laid := [("pinnace/sum.carried", laid_pinnace_sum_carried)] }
def SumSumsSaid : Prop := sumSumsRow.holds Tryd.pinned (OpenSpec.ofChange sumSumsSpec)

/-- ITS FALSE NEIGHBOUR: 'it returns false'. Refute it at one input. -/
def sumSumsWrong : ChangeSpec := { name := "sumSums", fn := fun _ => fun
  | [d1, d2] => { results := [.lit (.bool false)], args := [d1, d2] }
  | _ => none }
def SumSumsWrongFalsely : Prop := sumSumsRow.holds Tryd.pinned (OpenSpec.ofChange sumSumsWrong)

/-- 'pinnacelaw18.SumTails': WHATEVER THE INPUT: true; the input reads as it did. -/
def sumTailsSpec : ChangeSpec := { name := "sumTails", fn := fun _ => fun
  | [d] => { results := [.lit (.bool true)], args := [d] }
  | _ => none }
def sumTailsRow : OpenClaim := { program := "ytnokcfaipbolkaadoor", sum := "eac7a073044c5a3e5dc0b0ad50743114b64fbda1106888dfaa4b8c968cb4747c", func := "pinnace/pinnacelaw18.SumTails", spec := "sumTails", inPlace := ["internal/reflectlite.ValueOf", "(internal/reflectlite.Value).Type", "(internal/reflectlite.Value).IsNil", "internal/reflectlite.TypeOf", "(internal/reflectlite.Value).Elem", "(internal/reflectlite.Value).Set"], unfollowed := true, recurses := true, named := ["pinnace/sum.carried", "errors.errorType"], apart := false, laid := [("errors.errorType", laid_errors_errorType), ("pinnace/sum.carried", laid_pinnace_sum_carried)] }
def SumTailsSaid : Prop := sumTailsRow.holds Tryd.pinned (OpenSpec.ofChange sumTailsSpec)

/-- ITS FALSE NEIGHBOUR: 'it returns false'. Refute it at one input. -/
def sumTailsWrong : ChangeSpec := { name := "sumTails", fn := fun _ => fun
  | [d] => { results := [.lit (.bool false)], args := [d] }
  | _ => none }
def SumTailsWrongFalsely : Prop := sumTailsRow.holds Tryd.pinned (OpenSpec.ofChange sumTailsWrong)

/-- 'pinnacelaw18.SumNoughts': WHATEVER THE INPUT: true; the input reads as it did. -/
def sumNoughtsSpec : ChangeSpec := { name := "sumNoughts", fn := fun _ => fun
  | [d1, d2, d3] => { results := [.lit (.bool true)], args := [d1, d2, d3] }
  | _ => none }
def sumNoughtsRow : OpenClaim := { program := "ytnokcfaipbolkaadoor", sum := "eac7a073044c5a3e5dc0b0ad50743114b64fbda1106888dfaa4b8c968cb4747c", func := "pinnace/pinnacelaw18.SumNoughts", spec := "sumNoughts", inPlace := ["internal/reflectlite.ValueOf", "(internal/reflectlite.Value).Type", "(internal/reflectlite.Value).IsNil", "internal/reflectlite.TypeOf", "(internal/reflectlite.Value).Elem", "(internal/reflectlite.Value).Set"], unfollowed := true, recurses := true, named := ["pinnace/sum.carried", "errors.errorType"], apart := false, laid := [("errors.errorType", laid_errors_errorType), ("pinnace/sum.carried", laid_pinnace_sum_carried)] }
def SumNoughtsSaid : Prop := sumNoughtsRow.holds Tryd.pinned (OpenSpec.ofChange sumNoughtsSpec)

/-- ITS FALSE NEIGHBOUR: 'it returns false'. Refute it at one input. -/
def sumNoughtsWrong : ChangeSpec := { name := "sumNoughts", fn := fun _ => fun
  | [d1, d2, d3] => { results := [.lit (.bool false)], args := [d1, d2, d3] }
  | _ => none }
def SumNoughtsWrongFalsely : Prop := sumNoughtsRow.holds Tryd.pinned (OpenSpec.ofChange sumNoughtsWrong)

/-- 'pinnacelaw18.SumNear': WHATEVER THE INPUT: true; the input reads as it did. -/
def sumNearSpec : ChangeSpec := { name := "sumNear", fn := fun _ => fun
  | [d1, d2, d3] => { results := [.lit (.bool true)], args := [d1, d2, d3] }
  | _ => none }
def sumNearRow : OpenClaim := { program := "ytnokcfaipbolkaadoor", sum := "eac7a073044c5a3e5dc0b0ad50743114b64fbda1106888dfaa4b8c968cb4747c", func := "pinnace/pinnacelaw18.SumNear", spec := "sumNear", named := ["pinnace/sum.carried"], apart := false, laid := [("pinnace/sum.carried", laid_pinnace_sum_carried)] }
def SumNearSaid : Prop := sumNearRow.holds Tryd.pinned (OpenSpec.ofChange sumNearSpec)

/-- ITS FALSE NEIGHBOUR: 'it returns false'. Refute it at one input. -/
def sumNearWrong : ChangeSpec := { name := "sumNear", fn := fun _ => fun
  | [d1, d2, d3] => { results := [.lit (.bool false)], args := [d1, d2, d3] }
  | _ => none }
def SumNearWrongFalsely : Prop := sumNearRow.holds Tryd.pinned (OpenSpec.ofChange sumNearWrong)

/-- 'pinnacelaw18.SumThree': WHATEVER THE INPUT: true; the input reads as it did. -/
def sumThreeSpec : ChangeSpec := { name := "sumThree", fn := fun _ => fun
  | [d1, d2, d3] => { results := [.lit (.bool true)], args := [d1, d2, d3] }
  | _ => none }
def sumThreeRow : OpenClaim := { program := "ytnokcfaipbolkaadoor", sum := "eac7a073044c5a3e5dc0b0ad50743114b64fbda1106888dfaa4b8c968cb4747c", func := "pinnace/pinnacelaw18.SumThree", spec := "sumThree", named := ["pinnace/sum.carried"], apart := false, laid := [("pinnace/sum.carried", laid_pinnace_sum_carried)] }
def SumThreeSaid : Prop := sumThreeRow.holds Tryd.pinned (OpenSpec.ofChange sumThreeSpec)

/-- ITS FALSE NEIGHBOUR: 'it returns false'. Refute it at one input. -/
def sumThreeWrong : ChangeSpec := { name := "sumThree", fn := fun _ => fun
  | [d1, d2, d3] => { results := [.lit (.bool false)], args := [d1, d2, d3] }
  | _ => none }
def SumThreeWrongFalsely : Prop := sumThreeRow.holds Tryd.pinned (OpenSpec.ofChange sumThreeWrong)

/- THE SECOND FORM. 'bulk': how many values and letters a reading holds, each counted each time it is reached (what is shared counts as often as it is met; a slice's spare places count too). A statement '..UptoSaid' is the law's where the arguments, and the package variables that the reading takes, are together of bulk at most 1048576: NARROWER than '..Said'. Prove '..Said' where nothing that the law and all that it calls make is longer than what came in: it says more and counts as full. Else prove '..UptoSaid'. A law counts once. -/
mutual
def uptoBulk {H : Type} : DataW H → Nat
  | .lit (.string bytes) => bytes.length + 1
  | .lit _ => 1
  | .nil => 1
  | .ptr d => uptoBulk d + 1
  | .slice elems spare => uptoBulkAll elems + uptoBulkAll spare + 1
  | .agg parts => uptoBulkAll parts + 1
  | .iface _ d => uptoBulk d + 1
  | .map entries => uptoBulkEntries entries + 1
  | .held _ => 1
def uptoBulkAll {H : Type} : List (DataW H) → Nat
  | [] => 0
  | d :: r => uptoBulk d + uptoBulkAll r
def uptoBulkEntries {H : Type} : List (Lit × DataW H) → Nat
  | [] => 0
  | x :: r => uptoBulkEntry x + uptoBulkEntries r
def uptoBulkEntry {H : Type} : Lit × DataW H → Nat
  | (.string bytes, d) => bytes.length + uptoBulk d + 1
  | (_, d) => uptoBulk d + 1
 end
def uptoSmall : (H : Type) → List (DataW H) → Bool := fun _ ds => decide (uptoBulkAll ds ≤ 1048576)
def OpenSpec.upto (s : _root_.Go.ChangeSpec) : _root_.Go.OpenSpec := { _root_.Go.OpenSpec.ofChange s with cond := some uptoSmall }

/-- 'pinnacelaw18.SumSums', WHERE WHAT IT READS IS OF BULK AT MOST 1048576: true; the input reads as it did. -/
def sumSumsUptoRow : OpenClaim := { program := "ytnokcfaipbolkaadoor", sum := "eac7a073044c5a3e5dc0b0ad50743114b64fbda1106888dfaa4b8c968cb4747c", func := "pinnace/pinnacelaw18.SumSums", spec := "sumSums", named := ["pinnace/sum.carried"], apart := false, laid := [("pinnace/sum.carried", laid_pinnace_sum_carried)], narrowed := true }
def SumSumsUptoSaid : Prop := sumSumsUptoRow.holds Tryd.pinned (OpenSpec.upto sumSumsSpec)

/-- 'pinnacelaw18.SumTails', WHERE WHAT IT READS IS OF BULK AT MOST 1048576: true; the input reads as it did. -/
def sumTailsUptoRow : OpenClaim := { program := "ytnokcfaipbolkaadoor", sum := "eac7a073044c5a3e5dc0b0ad50743114b64fbda1106888dfaa4b8c968cb4747c", func := "pinnace/pinnacelaw18.SumTails", spec := "sumTails", inPlace := ["internal/reflectlite.ValueOf", "(internal/reflectlite.Value).Type", "(internal/reflectlite.Value).IsNil", "internal/reflectlite.TypeOf", "(internal/reflectlite.Value).Elem", "(internal/reflectlite.Value).Set"], unfollowed := true, recurses := true, named := ["pinnace/sum.carried", "errors.errorType"], apart := false, laid := [("errors.errorType", laid_errors_errorType), ("pinnace/sum.carried", laid_pinnace_sum_carried)], narrowed := true }
def SumTailsUptoSaid : Prop := sumTailsUptoRow.holds Tryd.pinned (OpenSpec.upto sumTailsSpec)

/-- 'pinnacelaw18.SumNoughts', WHERE WHAT IT READS IS OF BULK AT MOST 1048576: true; the input reads as it did. -/
def sumNoughtsUptoRow : OpenClaim := { program := "ytnokcfaipbolkaadoor", sum := "eac7a073044c5a3e5dc0b0ad50743114b64fbda1106888dfaa4b8c968cb4747c", func := "pinnace/pinnacelaw18.SumNoughts", spec := "sumNoughts", inPlace := ["internal/reflectlite.ValueOf", "(internal/reflectlite.Value).Type", "(internal/reflectlite.Value).IsNil", "internal/reflectlite.TypeOf", "(internal/reflectlite.Value).Elem", "(internal/reflectlite.Value).Set"], unfollowed := true, recurses := true, named := ["pinnace/sum.carried", "errors.errorType"], apart := false, laid := [("errors.errorType", laid_errors_errorType), ("pinnace/sum.carried", laid_pinnace_sum_carried)], narrowed := true }
def SumNoughtsUptoSaid : Prop := sumNoughtsUptoRow.holds Tryd.pinned (OpenSpec.upto sumNoughtsSpec)

/-- 'pinnacelaw18.SumNear', WHERE WHAT IT READS IS OF BULK AT MOST 1048576: true; the input reads as it did. -/
def sumNearUptoRow : OpenClaim := { program := "ytnokcfaipbolkaadoor", sum := "eac7a073044c5a3e5dc0b0ad50743114b64fbda1106888dfaa4b8c968cb4747c", func := "pinnace/pinnacelaw18.SumNear", spec := "sumNear", named := ["pinnace/sum.carried"], apart := false, laid := [("pinnace/sum.carried", laid_pinnace_sum_carried)], narrowed := true }
def SumNearUptoSaid : Prop := sumNearUptoRow.holds Tryd.pinned (OpenSpec.upto sumNearSpec)

/-- 'pinnacelaw18.SumThree', WHERE WHAT IT READS IS OF BULK AT MOST 1048576: true; the input reads as it did. -/
def sumThreeUptoRow : OpenClaim := { program := "ytnokcfaipbolkaadoor", sum := "eac7a073044c5a3e5dc0b0ad50743114b64fbda1106888dfaa4b8c968cb4747c", func := "pinnace/pinnacelaw18.SumThree", spec := "sumThree", named := ["pinnace/sum.carried"], apart := false, laid := [("pinnace/sum.carried", laid_pinnace_sum_carried)], narrowed := true }
def SumThreeUptoSaid : Prop := sumThreeUptoRow.holds Tryd.pinned (OpenSpec.upto sumThreeSpec)

end Rows
end Go.Proofs.YtnokcfaipbolkaaDoor
