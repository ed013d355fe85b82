/-
  An instruction that is handed in by value, opened.
-/
import Derived.Test.YthfcodiplmodaaaGreatDoorFlat
import Derived.Test.YthfcodiplmodaaaGreatDoorInTold
namespace Go.Proofs.YthfcodiplmodaaaGreatDoor
open Go.ChangeShapes Go.WideShapes Go.ChangeAt Go.RowKit

theorem cells_int : Tryz.prog.cellsOf 3 = 1 := by kernel_rfl
theorem cells_rinst : Tryz.prog.cellsOf 23 = 6 := by kernel_rfl

set_option maxRecDepth 100000 in
theorem open_inst {H : Type} {enc : TypeId × Value → H} {w : World} {base b0 : Nat} {spare : Nat → Bool} {held : Bool} {r : Reach} {v : Value} {d : DataW H} {p : List MemPlace}
    (hv : Value.okWide Tryz.prog w r b0 23 v) (h : DataW.Trod enc Tryz.prog w base spare held 23 v d p) :
    ∃ i : I6, v = .agg i.cells ∧ ∀ z ∈ [i.op, i.rd, i.rs1, i.rs2, i.imm, i.csr], (Lit.int .i64 z).wf = true := by
  obtain ⟨zs, hl, rfl, hw⟩ := open_flat Tryz.underlying23 Tryz.underlying3 cells_int cells_rinst (by decide) hv h
  match zs, hl with
  | [a, b, c, d, e, f], _ => exact ⟨⟨a, b, c, d, e, f⟩, rfl, hw⟩
end Go.Proofs.YthfcodiplmodaaaGreatDoor
