/-
  Two states compared.
-/
import Derived.Test.YtchlomnkjilmeaaDoorCsProg
import Derived.Laws.StructEq
namespace Go.Proofs.YtchlomnkjilmeaaDoor
open Go.RowKit
set_option linter.unusedVariables false

theorem eql_same (a0 a1 a2 a3 a4 a5 a6 a7 : Int) (w : World) : (binOp .eql 26 (.agg #[.int .u32 a0, .int .u32 a1, .int .u32 a2, .int .u32 a3, .int .u32 a4, .int .u32 a5, .int .u32 a6, .int .u64 a7]) (.agg #[.int .u32 a0, .int .u32 a1, .int .u32 a2, .int .u32 a3, .int .u32 a4, .int .u32 a5, .int .u32 a6, .int .u64 a7])).run Tryd.prog w = .ok (.bool true) w := by
  simp [go_sem]
end Go.Proofs.YtchlomnkjilmeaaDoor
