/-
  A section's place; cells that are read.
-/
import Derived.Test.YtkahkkcbigifiaaDoorTvSize
namespace Go.Proofs.YtkahkkcbigifiaaDoor
open Go.RowKit
set_option linter.unusedVariables false
set_option linter.unusedSimpArgs false

theorem und_ts : Tryd.prog.underlying 31 = some (.slice 82) := Tryd.underlying31
theorem siz_ts : ∀ w : World, (sizeOf 82).run Tryd.prog w = .ok 2 w := fun w => by kernel_rfl
theorem size_ts : (Tryd.prog.info? 82).map (·.size) = some 2 := by kernel_rfl
variable {P : Program} {ops : Array Oper} {rest : List Oper} {dst : Option Tmp} {ty t t2 : TypeId} {pos : String} {after : Array Edge} {a : Act} {w : World} {Q : Exit → Act → World → Prop} {K : Act → World → Prop} {x y z : Operand} {gd : Option (Nat × Bool)}
theorem ex_idxT (b off len cap k : Nat) (hk : k < len) (hx : a.eval x = .slice (some ⟨b, off, none⟩) len cap) (hy : a.eval y = .int .i64 (k : Nat)) (w : World) :
    (execOp a.eval ⟨dst, .indexAddr 31 x y, ty, pos, after, gd⟩).run Tryd.prog w = .ok (.value (.pointer (some ⟨b, off + k * 2, none⟩))) w := by
  have hk1 : (0 : Int) ≤ (k : Int) ∧ (k : Int) < (len : Int) := by omega
  have hk2 : ¬ len ≤ k := by omega
  unfold execOp
  simp [hx, hy, Instr.indexAt, asIntOf, run_underlying und_ts, hk1, hk2, siz_ts, Addr.add_lit]
/-- A section is read, of cells that are known. -/
theorem op_ldt (b o tag : Nat) (u : Value) (c0 : w.cell? ⟨b, o, none⟩ = some (.int .u32 (tag : Nat))) (c1 : w.cell? ⟨b, o + 1, none⟩ = some u) (hx : a.eval x = .pointer (some ⟨b, o, none⟩))
    (k : wpList Tryd.prog ops Q rest (a.put dst (.agg #[.int .u32 (tag : Nat), u])) w) : wpList Tryd.prog ops Q (⟨dst, .load 82 x, ty, pos, after, none⟩ :: rest) a w :=
  wpList_load_mid rfl 82 x rfl b o hx [.int .u32 (tag : Nat), u] _ (fun j v hj => by
    rcases j with _ | _ | j
    · simp at hj; subst hj; exact c0
    · simp at hj; subst hj; exact c1
    · simp at hj) Tryd.underlying82 rfl size_ts k
theorem i64_u (m : Nat) (h : m < 9223372036854775808) : IntKind.u64.wrap ((m : Nat) : Int) = (m : Nat) := by rw [IntKind.wrap_u64]; omega
end Go.Proofs.YtkahkkcbigifiaaDoor
