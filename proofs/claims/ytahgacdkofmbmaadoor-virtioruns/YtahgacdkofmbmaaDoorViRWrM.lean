/-
  The document's Write: queues, what is built.
-/
import Derived.Test.YtahgacdkofmbmaaDoorViRCheck
import Derived.Test.YtahgacdkofmbmaaDoorViRRead
import Derived.Test.YtahgacdkofmbmaaDoorViRStat
namespace Go.Proofs.YtahgacdkofmbmaaDoor
open Go.RowKit
set_option linter.unusedVariables false

theorem built_rr4 (r : Rg) : Tryd.prog.built 26 [(0, .int .i64 r.sz), (1, .int .u32 (r.de : Nat)), (2, .int .u32 (r.av : Nat)), (3, .int .u32 (r.us : Nat))] = some ((r.law 0).puw 0).cells := by kernel_rfl
theorem built_qr2 (r : Rg) : Tryd.prog.built 28 [(0, .bool true), (1, .agg r.cells)] = some (Qu.cells ⟨true, r⟩) := by kernel_rfl
theorem bd_rr4 {ops : Array Oper} {rest : List Oper} {dst : Option Tmp} {ty : TypeId} {pos : String} {after : Array Edge} {a : Act} {w : World} {Q : Exit → Act → World → Prop} {x0 x1 x2 x3 : Operand} (r : Rg) (h0 : a.eval x0 = .int .i64 r.sz) (h1 : a.eval x1 = .int .u32 (r.de : Nat)) (h2 : a.eval x2 = .int .u32 (r.av : Nat)) (h3 : a.eval x3 = .int .u32 (r.us : Nat))
    (k : wpList Tryd.prog ops Q rest (a.put dst (.agg ((r.law 0).puw 0).cells)) w) : wpList Tryd.prog ops Q (⟨dst, .build 26 #[(0, x0), (1, x1), (2, x2), (3, x3)], ty, pos, after, none⟩ :: rest) a w := by
  have hp : ((#[(0, x0), (1, x1), (2, x2), (3, x3)] : Array (Nat × Operand)).map fun (i, x) => (i, a.eval x)).toList = [(0, .int .i64 r.sz), (1, .int .u32 (r.de : Nat)), (2, .int .u32 (r.av : Nat)), (3, .int .u32 (r.us : Nat))] := by
    simp [h0, h1, h2, h3]
  refine wpList_build rfl 26 _ rfl ?_ ?_
  · rw [hp, built_rr4]; rfl
  · rw [hp, built_rr4]; exact k
theorem bd_qr2 {ops : Array Oper} {rest : List Oper} {dst : Option Tmp} {ty : TypeId} {pos : String} {after : Array Edge} {a : Act} {w : World} {Q : Exit → Act → World → Prop} {x0 x1 : Operand} (r : Rg) (h0 : a.eval x0 = .bool true) (h1 : a.eval x1 = .agg r.cells)
    (k : wpList Tryd.prog ops Q rest (a.put dst (.agg (Qu.cells ⟨true, r⟩))) w) : wpList Tryd.prog ops Q (⟨dst, .build 28 #[(0, x0), (1, x1)], ty, pos, after, none⟩ :: rest) a w := by
  have hp : ((#[(0, x0), (1, x1)] : Array (Nat × Operand)).map fun (i, x) => (i, a.eval x)).toList = [(0, .bool true), (1, .agg r.cells)] := by
    simp [h0, h1]
  refine wpList_build rfl 28 _ rfl ?_ ?_
  · rw [hp, built_qr2]; rfl
  · rw [hp, built_qr2]; exact k
theorem wqV_w {s : V} {a v : Nat} (hm : accV s a = 0) (hn : a ≠ 20 ∧ a ≠ 36 ∧ a ≠ 32 ∧ a ≠ 48 ∧ a ≠ 80 ∧ a ≠ 100 ∧ a ≠ 112) (hs : s.se < 2) : writeV s a v = (wqV s a v, -1, 0) := by
  unfold writeV; rw [if_pos hm]; unfold writeS
  rw [if_neg hn.1, if_neg hn.2.1, if_neg hn.2.2.1, if_neg hn.2.2.2.1, if_neg hn.2.2.2.2.1, if_neg hn.2.2.2.2.2.1, if_neg hn.2.2.2.2.2.2, if_pos hs]
theorem wqV_mr0 (s : V) (a v : Nat) (h : a ≠ 68) (hs : s.se = 0) (hr0 : s.q0.rd = false) : wqV s a v = regV s a v := by
  have e : s.q s.se = s.q0 := by rw [hs]; rfl
  unfold wqV
  rw [if_neg h, e, hr0, if_neg (by decide)]
theorem wqV_mr1 (s : V) (a v : Nat) (h : a ≠ 68) (hs : s.se = 1) (hr0 : s.q1.rd = false) : wqV s a v = regV s a v := by
  have e : s.q s.se = s.q1 := by rw [hs]; rfl
  unfold wqV
  rw [if_neg h, e, hr0, if_neg (by decide)]
end Go.Proofs.YtahgacdkofmbmaaDoor
