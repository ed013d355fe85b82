/-
  NARROWER THAN 'FOR EVERY INPUT', by the rows' own cells (each row's printed sentence says how): HartDoes: laid · HartBegins: laid · HartHolds: laid · HartTraps: laid · HartSums: laid.
  DERIVED. THE GIVEN ROWS OF THIS SEAT. 5 by the template 'for every input the law returns true; each argument reads behind the call as it read before'; 0 by the template 'total and deterministic' (their statements: YtchjhpeogdkbmaaDoorTotals.lean).
  GIVEN WITH THE SEED: the statements are not yours to turn. If you find one false, say at which input.
  Laid BY PROGRAM, IN A SANDBOX (cutbox-rows.mjs): the forced cells as the released guide's own fill.sh prints them over the translation 27cf49714940cba6… (all of the seat's roots in one cut). By AI agents, Wed Nov 11 2026. No macro, syntax, notation, axiom, sorry.
-/
import Derived.Test.YtchjhpeogdkbmaaDoorChecked
import GoSem.Claim
import GoSem.ClaimJoined
import GoSem.ClaimMapViews
import Derived.JoinedTies
import Derived.KernelRfl
namespace Go.Proofs.YtchjhpeogdkbmaaDoor
/- THE CELL 'sum', in the pinned program and in every row, IS THE sha256 OF THE DUMP (.gsa) THAT YtchjhpeogdkbmaaDoorProg.lean LOADS. Nothing in Lean hashes anything: it is a label: what it is worth is what the hold of that sum in a sandbox is worth. -/
noncomputable def Tryd.pinned : Pinned := { name := "ytchjhpeogdkbmaadoor", sum := "27cf49714940cba62ebe3fa03355d910319751fbef28c50c6620b2c1937e6fe1", checked := Tryd.checked }
namespace Rows
def none {H : Type} : Left H := { results := [], args := [] }

/- WHAT THE LISTED PACKAGE-LEVEL VARIABLES READ AS WHEN THE CALL BEGINS. Each datum BY PROGRAM (the guide's laid-datum.mjs) off the statement by which the dump's own 'gosem.cut.vars' lays the variable. In a bare row this is a premise. The card (YtchjhpeogdkbmaaDoorCards.lean) ties it to the program's text. -/
def laid_pinnace_inst_kinds {H : Type} : DataW H := .agg [.lit (.int .u8 85), .lit (.int .u8 85), .lit (.int .u8 74), .lit (.int .u8 73), .lit (.int .u8 66), .lit (.int .u8 66), .lit (.int .u8 66), .lit (.int .u8 66), .lit (.int .u8 66), .lit (.int .u8 66), .lit (.int .u8 76), .lit (.int .u8 76), .lit (.int .u8 76), .lit (.int .u8 76), .lit (.int .u8 76), .lit (.int .u8 83), .lit (.int .u8 83), .lit (.int .u8 83), .lit (.int .u8 73), .lit (.int .u8 73), .lit (.int .u8 73), .lit (.int .u8 73), .lit (.int .u8 73), .lit (.int .u8 73), .lit (.int .u8 72), .lit (.int .u8 72), .lit (.int .u8 72), .lit (.int .u8 82), .lit (.int .u8 82), .lit (.int .u8 82), .lit (.int .u8 82), .lit (.int .u8 82), .lit (.int .u8 82), .lit (.int .u8 82), .lit (.int .u8 82), .lit (.int .u8 82), .lit (.int .u8 82), .lit (.int .u8 82), .lit (.int .u8 82), .lit (.int .u8 82), .lit (.int .u8 82), .lit (.int .u8 82), .lit (.int .u8 82), .lit (.int .u8 82), .lit (.int .u8 82), .lit (.int .u8 70), .lit (.int .u8 70), .lit (.int .u8 78), .lit (.int .u8 78), .lit (.int .u8 78), .lit (.int .u8 78), .lit (.int .u8 67), .lit (.int .u8 67), .lit (.int .u8 67), .lit (.int .u8 67), .lit (.int .u8 67), .lit (.int .u8 67)]
def laid_pinnace_inst_words {H : Type} : DataW H := .agg [.lit (.int .u32 55), .lit (.int .u32 23), .lit (.int .u32 111), .lit (.int .u32 103), .lit (.int .u32 99), .lit (.int .u32 4195), .lit (.int .u32 16483), .lit (.int .u32 20579), .lit (.int .u32 24675), .lit (.int .u32 28771), .lit (.int .u32 3), .lit (.int .u32 4099), .lit (.int .u32 8195), .lit (.int .u32 16387), .lit (.int .u32 20483), .lit (.int .u32 35), .lit (.int .u32 4131), .lit (.int .u32 8227), .lit (.int .u32 19), .lit (.int .u32 8211), .lit (.int .u32 12307), .lit (.int .u32 16403), .lit (.int .u32 24595), .lit (.int .u32 28691), .lit (.int .u32 4115), .lit (.int .u32 20499), .lit (.int .u32 1073762323), .lit (.int .u32 51), .lit (.int .u32 1073741875), .lit (.int .u32 4147), .lit (.int .u32 8243), .lit (.int .u32 12339), .lit (.int .u32 16435), .lit (.int .u32 20531), .lit (.int .u32 1073762355), .lit (.int .u32 24627), .lit (.int .u32 28723), .lit (.int .u32 33554483), .lit (.int .u32 33558579), .lit (.int .u32 33562675), .lit (.int .u32 33566771), .lit (.int .u32 33570867), .lit (.int .u32 33574963), .lit (.int .u32 33579059), .lit (.int .u32 33583155), .lit (.int .u32 15), .lit (.int .u32 4111), .lit (.int .u32 115), .lit (.int .u32 1048691), .lit (.int .u32 807403635), .lit (.int .u32 273678451), .lit (.int .u32 4211), .lit (.int .u32 8307), .lit (.int .u32 12403), .lit (.int .u32 20595), .lit (.int .u32 24691), .lit (.int .u32 28787)]
def laid_pinnace_hart_onNumbers {H : Type} : DataW H := .agg [.lit (.int .i64 0), .lit (.int .i64 3), .lit (.int .i64 4), .lit (.int .i64 5), .lit (.int .i64 8), .lit (.int .i64 9), .lit (.int .i64 2), .lit (.int .i64 6), .lit (.int .i64 7)]
def laid_pinnace_hart_widths {H : Type} : DataW H := .agg [.lit (.int .i64 1), .lit (.int .i64 2), .lit (.int .i64 4), .lit (.int .i64 1), .lit (.int .i64 2)]
def laid_errors_errorType {H : Type} : DataW H := .iface "internal/reflectlite.rtype" (.agg [.ptr (.lit (.string [101, 114, 114, 111, 114]))])
def laid_pinnace_csr_order {H : Type} : DataW H := .agg [.lit (.int .u32 11), .lit (.int .u32 3), .lit (.int .u32 7)]

/-- 'pinnacelaw08.HartDoes': WHATEVER THE INPUT: true; the input reads as it did. -/
def hartDoesSpec : ChangeSpec := { name := "hartDoes", fn := fun _ => fun
  | [d1, d2, d3] => { results := [.lit (.bool true)], args := [d1, d2, d3] }
  | _ => none }
def hartDoesRow : OpenClaim := { program := "ytchjhpeogdkbmaadoor", sum := "27cf49714940cba62ebe3fa03355d910319751fbef28c50c6620b2c1937e6fe1", func := "pinnace/pinnacelaw08.HartDoes", spec := "hartDoes", recurses := true, named := ["pinnace/inst.kinds", "pinnace/inst.words", "pinnace/hart.widths", "pinnace/hart.onNumbers"], apart := false, laid := [("pinnace/inst.kinds", laid_pinnace_inst_kinds), ("pinnace/inst.words", laid_pinnace_inst_words), ("pinnace/hart.onNumbers", laid_pinnace_hart_onNumbers), ("pinnace/hart.widths", laid_pinnace_hart_widths)] }
def HartDoesSaid : Prop := hartDoesRow.holds Tryd.pinned (OpenSpec.ofChange hartDoesSpec)

/-- ITS FALSE NEIGHBOUR: 'it returns false'. Refute it at one input. -/
def hartDoesWrong : ChangeSpec := { name := "hartDoes", fn := fun _ => fun
  | [d1, d2, d3] => { results := [.lit (.bool false)], args := [d1, d2, d3] }
  | _ => none }
def HartDoesWrongFalsely : Prop := hartDoesRow.holds Tryd.pinned (OpenSpec.ofChange hartDoesWrong)

/-- 'pinnacelaw08.HartBegins': WHATEVER THE INPUT: true; the input reads as it did. -/
def hartBeginsSpec : ChangeSpec := { name := "hartBegins", fn := fun _ => fun
  | [d1, d2, d3] => { results := [.lit (.bool true)], args := [d1, d2, d3] }
  | _ => none }
def hartBeginsRow : OpenClaim := { program := "ytchjhpeogdkbmaadoor", sum := "27cf49714940cba62ebe3fa03355d910319751fbef28c50c6620b2c1937e6fe1", func := "pinnace/pinnacelaw08.HartBegins", spec := "hartBegins", inPlace := ["internal/reflectlite.ValueOf", "(internal/reflectlite.Value).Type", "(internal/reflectlite.Value).IsNil", "internal/reflectlite.TypeOf", "(internal/reflectlite.Value).Elem", "(internal/reflectlite.Value).Set"], unfollowed := true, recurses := true, named := ["pinnace/csr.order", "errors.errorType", "pinnace/inst.kinds", "pinnace/inst.words", "pinnace/hart.widths", "pinnace/hart.onNumbers"], apart := false, laid := [("errors.errorType", laid_errors_errorType), ("pinnace/csr.order", laid_pinnace_csr_order), ("pinnace/inst.kinds", laid_pinnace_inst_kinds), ("pinnace/inst.words", laid_pinnace_inst_words), ("pinnace/hart.onNumbers", laid_pinnace_hart_onNumbers), ("pinnace/hart.widths", laid_pinnace_hart_widths)] }
def HartBeginsSaid : Prop := hartBeginsRow.holds Tryd.pinned (OpenSpec.ofChange hartBeginsSpec)

/-- ITS FALSE NEIGHBOUR: 'it returns false'. Refute it at one input. -/
def hartBeginsWrong : ChangeSpec := { name := "hartBegins", fn := fun _ => fun
  | [d1, d2, d3] => { results := [.lit (.bool false)], args := [d1, d2, d3] }
  | _ => none }
def HartBeginsWrongFalsely : Prop := hartBeginsRow.holds Tryd.pinned (OpenSpec.ofChange hartBeginsWrong)

/-- 'pinnacelaw08.HartHolds': WHATEVER THE INPUT: true; the input reads as it did. -/
def hartHoldsSpec : ChangeSpec := { name := "hartHolds", fn := fun _ => fun
  | [d1, d2, d3] => { results := [.lit (.bool true)], args := [d1, d2, d3] }
  | _ => none }
def hartHoldsRow : OpenClaim := { program := "ytchjhpeogdkbmaadoor", sum := "27cf49714940cba62ebe3fa03355d910319751fbef28c50c6620b2c1937e6fe1", func := "pinnace/pinnacelaw08.HartHolds", spec := "hartHolds", recurses := true, named := ["pinnace/inst.kinds", "pinnace/inst.words", "pinnace/hart.widths", "pinnace/hart.onNumbers", "pinnace/csr.order"], apart := false, laid := [("pinnace/csr.order", laid_pinnace_csr_order), ("pinnace/inst.kinds", laid_pinnace_inst_kinds), ("pinnace/inst.words", laid_pinnace_inst_words), ("pinnace/hart.onNumbers", laid_pinnace_hart_onNumbers), ("pinnace/hart.widths", laid_pinnace_hart_widths)] }
def HartHoldsSaid : Prop := hartHoldsRow.holds Tryd.pinned (OpenSpec.ofChange hartHoldsSpec)

/-- ITS FALSE NEIGHBOUR: 'it returns false'. Refute it at one input. -/
def hartHoldsWrong : ChangeSpec := { name := "hartHolds", fn := fun _ => fun
  | [d1, d2, d3] => { results := [.lit (.bool false)], args := [d1, d2, d3] }
  | _ => none }
def HartHoldsWrongFalsely : Prop := hartHoldsRow.holds Tryd.pinned (OpenSpec.ofChange hartHoldsWrong)

/-- 'pinnacelaw08.HartTraps': WHATEVER THE INPUT: true; the input reads as it did. -/
def hartTrapsSpec : ChangeSpec := { name := "hartTraps", fn := fun _ => fun
  | [d1, d2] => { results := [.lit (.bool true)], args := [d1, d2] }
  | _ => none }
def hartTrapsRow : OpenClaim := { program := "ytchjhpeogdkbmaadoor", sum := "27cf49714940cba62ebe3fa03355d910319751fbef28c50c6620b2c1937e6fe1", func := "pinnace/pinnacelaw08.HartTraps", spec := "hartTraps", recurses := true, named := ["pinnace/inst.kinds", "pinnace/inst.words", "pinnace/hart.widths", "pinnace/hart.onNumbers"], apart := false, laid := [("pinnace/inst.kinds", laid_pinnace_inst_kinds), ("pinnace/inst.words", laid_pinnace_inst_words), ("pinnace/hart.onNumbers", laid_pinnace_hart_onNumbers), ("pinnace/hart.widths", laid_pinnace_hart_widths)] }
def HartTrapsSaid : Prop := hartTrapsRow.holds Tryd.pinned (OpenSpec.ofChange hartTrapsSpec)

/-- ITS FALSE NEIGHBOUR: 'it returns false'. Refute it at one input. -/
def hartTrapsWrong : ChangeSpec := { name := "hartTraps", fn := fun _ => fun
  | [d1, d2] => { results := [.lit (.bool false)], args := [d1, d2] }
  | _ => none }
def HartTrapsWrongFalsely : Prop := hartTrapsRow.holds Tryd.pinned (OpenSpec.ofChange hartTrapsWrong)

/-- 'pinnacelaw08.HartSums': WHATEVER THE INPUT: true; the input reads as it did. -/
def hartSumsSpec : ChangeSpec := { name := "hartSums", fn := fun _ => fun
  | [d] => { results := [.lit (.bool true)], args := [d] }
  | _ => none }
def hartSumsRow : OpenClaim := { program := "ytchjhpeogdkbmaadoor", sum := "27cf49714940cba62ebe3fa03355d910319751fbef28c50c6620b2c1937e6fe1", func := "pinnace/pinnacelaw08.HartSums", spec := "hartSums", recurses := true, named := ["pinnace/inst.kinds", "pinnace/inst.words", "pinnace/hart.widths", "pinnace/hart.onNumbers"], apart := false, laid := [("pinnace/inst.kinds", laid_pinnace_inst_kinds), ("pinnace/inst.words", laid_pinnace_inst_words), ("pinnace/hart.onNumbers", laid_pinnace_hart_onNumbers), ("pinnace/hart.widths", laid_pinnace_hart_widths)] }
def HartSumsSaid : Prop := hartSumsRow.holds Tryd.pinned (OpenSpec.ofChange hartSumsSpec)

/-- ITS FALSE NEIGHBOUR: 'it returns false'. Refute it at one input. -/
def hartSumsWrong : ChangeSpec := { name := "hartSums", fn := fun _ => fun
  | [d] => { results := [.lit (.bool false)], args := [d] }
  | _ => none }
def HartSumsWrongFalsely : Prop := hartSumsRow.holds Tryd.pinned (OpenSpec.ofChange hartSumsWrong)

/- THE SECOND FORM. 'bulk': how many values and letters a reading holds, each counted each time it is reached (what is shared counts as often as it is met; a slice's spare places count too). A statement '..UptoSaid' is the law's where the arguments, and the package variables that the reading takes, are together of bulk at most 1048576: NARROWER than '..Said'. Prove '..Said' where nothing that the law and all that it calls make is longer than what came in: it says more and counts as full. Else prove '..UptoSaid'. A law counts once. -/
mutual
def uptoBulk {H : Type} : DataW H → Nat
  | .lit (.string bytes) => bytes.length + 1
  | .lit _ => 1
  | .nil => 1
  | .ptr d => uptoBulk d + 1
  | .slice elems spare => uptoBulkAll elems + uptoBulkAll spare + 1
  | .agg parts => uptoBulkAll parts + 1
  | .iface _ d => uptoBulk d + 1
  | .map entries => uptoBulkEntries entries + 1
  | .held _ => 1
def uptoBulkAll {H : Type} : List (DataW H) → Nat
  | [] => 0
  | d :: r => uptoBulk d + uptoBulkAll r
def uptoBulkEntries {H : Type} : List (Lit × DataW H) → Nat
  | [] => 0
  | x :: r => uptoBulkEntry x + uptoBulkEntries r
def uptoBulkEntry {H : Type} : Lit × DataW H → Nat
  | (.string bytes, d) => bytes.length + uptoBulk d + 1
  | (_, d) => uptoBulk d + 1
 end
def uptoSmall : (H : Type) → List (DataW H) → Bool := fun _ ds => decide (uptoBulkAll ds ≤ 1048576)
def OpenSpec.upto (s : _root_.Go.ChangeSpec) : _root_.Go.OpenSpec := { _root_.Go.OpenSpec.ofChange s with cond := some uptoSmall }

/-- 'pinnacelaw08.HartDoes', WHERE WHAT IT READS IS OF BULK AT MOST 1048576: true; the input reads as it did. -/
def hartDoesUptoRow : OpenClaim := { program := "ytchjhpeogdkbmaadoor", sum := "27cf49714940cba62ebe3fa03355d910319751fbef28c50c6620b2c1937e6fe1", func := "pinnace/pinnacelaw08.HartDoes", spec := "hartDoes", recurses := true, named := ["pinnace/inst.kinds", "pinnace/inst.words", "pinnace/hart.widths", "pinnace/hart.onNumbers"], apart := false, laid := [("pinnace/inst.kinds", laid_pinnace_inst_kinds), ("pinnace/inst.words", laid_pinnace_inst_words), ("pinnace/hart.onNumbers", laid_pinnace_hart_onNumbers), ("pinnace/hart.widths", laid_pinnace_hart_widths)], narrowed := true }
def HartDoesUptoSaid : Prop := hartDoesUptoRow.holds Tryd.pinned (OpenSpec.upto hartDoesSpec)

/-- 'pinnacelaw08.HartBegins', WHERE WHAT IT READS IS OF BULK AT MOST 1048576: true; the input reads as it did. -/
def hartBeginsUptoRow : OpenClaim := { program := "ytchjhpeogdkbmaadoor", sum := "27cf49714940cba62ebe3fa03355d910319751fbef28c50c6620b2c1937e6fe1", func := "pinnace/pinnacelaw08.HartBegins", spec := "hartBegins", inPlace := ["internal/reflectlite.ValueOf", "(internal/reflectlite.Value).Type", "(internal/reflectlite.Value).IsNil", "internal/reflectlite.TypeOf", "(internal/reflectlite.Value).Elem", "(internal/reflectlite.Value).Set"], unfollowed := true, recurses := true, named := ["pinnace/csr.order", "errors.errorType", "pinnace/inst.kinds", "pinnace/inst.words", "pinnace/hart.widths", "pinnace/hart.onNumbers"], apart := false, laid := [("errors.errorType", laid_errors_errorType), ("pinnace/csr.order", laid_pinnace_csr_order), ("pinnace/inst.kinds", laid_pinnace_inst_kinds), ("pinnace/inst.words", laid_pinnace_inst_words), ("pinnace/hart.onNumbers", laid_pinnace_hart_onNumbers), ("pinnace/hart.widths", laid_pinnace_hart_widths)], narrowed := true }
def HartBeginsUptoSaid : Prop := hartBeginsUptoRow.holds Tryd.pinned (OpenSpec.upto hartBeginsSpec)

/-- 'pinnacelaw08.HartHolds', WHERE WHAT IT READS IS OF BULK AT MOST 1048576: true; the input reads as it did. -/
def hartHoldsUptoRow : OpenClaim := { program := "ytchjhpeogdkbmaadoor", sum := "27cf49714940cba62ebe3fa03355d910319751fbef28c50c6620b2c1937e6fe1", func := "pinnace/pinnacelaw08.HartHolds", spec := "hartHolds", recurses := true, named := ["pinnace/inst.kinds", "pinnace/inst.words", "pinnace/hart.widths", "pinnace/hart.onNumbers", "pinnace/csr.order"], apart := false, laid := [("pinnace/csr.order", laid_pinnace_csr_order), ("pinnace/inst.kinds", laid_pinnace_inst_kinds), ("pinnace/inst.words", laid_pinnace_inst_words), ("pinnace/hart.onNumbers", laid_pinnace_hart_onNumbers), ("pinnace/hart.widths", laid_pinnace_hart_widths)], narrowed := true }
def HartHoldsUptoSaid : Prop := hartHoldsUptoRow.holds Tryd.pinned (OpenSpec.upto hartHoldsSpec)

/-- 'pinnacelaw08.HartTraps', WHERE WHAT IT READS IS OF BULK AT MOST 1048576: true; the input reads as it did. -/
def hartTrapsUptoRow : OpenClaim := { program := "ytchjhpeogdkbmaadoor", sum := "27cf49714940cba62ebe3fa03355d910319751fbef28c50c6620b2c1937e6fe1", func := "pinnace/pinnacelaw08.HartTraps", spec := "hartTraps", recurses := true, named := ["pinnace/inst.kinds", "pinnace/inst.words", "pinnace/hart.widths", "pinnace/hart.onNumbers"], apart := false, laid := [("pinnace/inst.kinds", laid_pinnace_inst_kinds), ("pinnace/inst.words", laid_pinnace_inst_words), ("pinnace/hart.onNumbers", laid_pinnace_hart_onNumbers), ("pinnace/hart.widths", laid_pinnace_hart_widths)], narrowed := true }
def HartTrapsUptoSaid : Prop := hartTrapsUptoRow.holds Tryd.pinned (OpenSpec.upto hartTrapsSpec)

/-- 'pinnacelaw08.HartSums', WHERE WHAT IT READS IS OF BULK AT MOST 1048576: true; the input reads as it did. -/
def hartSumsUptoRow : OpenClaim := { program := "ytchjhpeogdkbmaadoor", sum := "27cf49714940cba62ebe3fa03355d910319751fbef28c50c6620b2c1937e6fe1", func := "pinnace/pinnacelaw08.HartSums", spec := "hartSums", recurses := true, named := ["pinnace/inst.kinds", "pinnace/inst.words", "pinnace/hart.widths", "pinnace/hart.onNumbers"], apart := false, laid := [("pinnace/inst.kinds", laid_pinnace_inst_kinds), ("pinnace/inst.words", laid_pinnace_inst_words), ("pinnace/hart.onNumbers", laid_pinnace_hart_onNumbers), ("pinnace/hart.widths", laid_pinnace_hart_widths)], narrowed := true }
def HartSumsUptoSaid : Prop := hartSumsUptoRow.holds Tryd.pinned (OpenSpec.upto hartSumsSpec)

end Rows
end Go.Proofs.YtchjhpeogdkbmaaDoor
