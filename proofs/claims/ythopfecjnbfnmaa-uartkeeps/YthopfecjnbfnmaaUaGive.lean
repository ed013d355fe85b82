/-
  What the law's giveUart answers.
-/
import Derived.Test.YthopfecjnbfnmaaUaRow
namespace Go.Proofs.Ythopfecjnbfnmaa
open Go.RowKit
set_option linter.unusedVariables false

attribute [local go_sem] U.at0 U.at1 U.at2 U.at3 U.at4 U.at5 U.at6 U.at7 U.at8 U.at9 U.at10 U.at11 U.at12 U.at13 U.at14 U.at15 U.at16 U.at17 U.at18 U.at19 U.at20 U.at21 U.at22 U.at23 U.at24 U.at25 U.at26 U.at27 U.at28 U.at29 U.at30 U.at31 U.at32 U.at33 U.at34 U.at35 U.at36 U.at37 U.at38 U.at39 U.at40 U.at41
theorem built_u (s : U) : Try.prog.built 29 [(0, .agg s.rx.cells), (1, .agg s.tx.cells), (2, .int .u8 (s.ie : Nat)), (3, .int .u8 (s.lc : Nat)), (4, .int .u8 (s.mc : Nat)), (5, .int .u8 (s.sc : Nat)), (6, .int .u8 (s.dl : Nat)), (7, .int .u8 (s.dm : Nat)), (8, .bool s.ov), (9, .int .i64 s.wt)] = some s.cells := by kernel_rfl
theorem bd_u {ops : Array Oper} {rest : List Oper} {dst : Option Tmp} {ty : TypeId} {pos : String} {after : Array Edge} {a : Act} {w : World} {Q : Exit → Act → World → Prop} {x0 x1 x2 x3 x4 x5 x6 x7 x8 x9 : Operand} (s : U) (h0 : a.eval x0 = .agg s.rx.cells) (h1 : a.eval x1 = .agg s.tx.cells) (h2 : a.eval x2 = .int .u8 (s.ie : Nat)) (h3 : a.eval x3 = .int .u8 (s.lc : Nat)) (h4 : a.eval x4 = .int .u8 (s.mc : Nat)) (h5 : a.eval x5 = .int .u8 (s.sc : Nat)) (h6 : a.eval x6 = .int .u8 (s.dl : Nat)) (h7 : a.eval x7 = .int .u8 (s.dm : Nat)) (h8 : a.eval x8 = .bool s.ov) (h9 : a.eval x9 = .int .i64 s.wt)
    (k : wpList Try.prog ops Q rest (a.put dst (.agg s.cells)) w) : wpList Try.prog ops Q (⟨dst, .build 29 #[(0, x0), (1, x1), (2, x2), (3, x3), (4, x4), (5, x5), (6, x6), (7, x7), (8, x8), (9, x9)], ty, pos, after, none⟩ :: rest) a w := by
  have hp : ((#[(0, x0), (1, x1), (2, x2), (3, x3), (4, x4), (5, x5), (6, x6), (7, x7), (8, x8), (9, x9)] : Array (Nat × Operand)).map fun (i, x) => (i, a.eval x)).toList = [(0, .agg s.rx.cells), (1, .agg s.tx.cells), (2, .int .u8 (s.ie : Nat)), (3, .int .u8 (s.lc : Nat)), (4, .int .u8 (s.mc : Nat)), (5, .int .u8 (s.sc : Nat)), (6, .int .u8 (s.dl : Nat)), (7, .int .u8 (s.dm : Nat)), (8, .bool s.ov), (9, .int .i64 s.wt)] := by
    simp [h0, h1, h2, h3, h4, h5, h6, h7, h8, h9]
  refine wpList_build rfl 29 _ rfl ?_ ?_
  · rw [hp, built_u]; rfl
  · rw [hp, built_u]; exact k
set_option maxHeartbeats 1000000 in
theorem give_any (s : U) (w : World) :
    Calls Try.prog 7 #[.agg s.cells] w fun e w' => e = .returned (.agg s.cells) ∧ Below w.heap.size w w' := by
  go_enter Try.func7, Try.ntmps7
  go_wp2_with (first | ((with_reducible refine bx_ur w.heap.size s ?_ ?_ ?_); exact rfl; exact rfl; intro W hr hb hz) | ((with_reducible refine al_up (w.heap.size + 1) ?_ ?_); exact hz.out; intro W hq hb' hz'; replace hr := hr.bl (hz.out ▸ hb'); replace hb := hb.trans (hb'.mono (by omega)); replace hz := hz'; have fx := hr.cell) | ((with_reducible refine ld_rxr w.heap.size s _ hr ?_ ?_ ?_); exact rfl; exact rfl) | ((with_reducible refine ld_txr w.heap.size s _ hr ?_ ?_ ?_); exact rfl; exact rfl) | ((with_reducible refine bd_u s ?_ ?_ ?_ ?_ ?_ ?_ ?_ ?_ ?_ ?_ ?_); exact rfl; exact rfl; exact rfl; exact rfl; exact rfl; exact rfl; exact rfl; exact rfl; exact rfl; exact rfl) | ((with_reducible refine st_up (w.heap.size + 1) _ s hq ?_ ?_ ?_); exact rfl; exact rfl; intro W hnew ho; clear fx; replace hr := hr.only ho (by omega); replace hq := hnew; replace hb := ho.bel _ _ (by omega) hb))
  refine bodyPost_ret (results_cell_row Try.results7 _ _ (w.heap.size + 1) _ _ _ _ rfl hq Try.underlying29 rfl size_up) rfl ?_
  exact ⟨rfl, hb⟩

end Go.Proofs.Ythopfecjnbfnmaa
