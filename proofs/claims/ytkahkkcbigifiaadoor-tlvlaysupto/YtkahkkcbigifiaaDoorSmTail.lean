/-
  A sum's bytes, the program's.
-/
import Derived.Test.YtkahkkcbigifiaaDoorSmMore
namespace Go.Proofs.YtkahkkcbigifiaaDoor
open Go.RowKit
set_option linter.unusedVariables false

theorem zero_a4 : ∀ w : World, (zeroValue 74).run Tryd.prog w = .ok (.agg (zeros 4).toArray) w := fun w => by kernel_rfl
theorem size_a4 : (Tryd.prog.info? 74).map (·.size) = some 4 := by kernel_rfl
theorem size_u8 : (Tryd.prog.info? 5).map (·.size) = some 1 := by kernel_rfl
def rowK (s k : Nat) : Array Value := ((byV (tail4 s)).take k ++ zeros (4 - k)).toArray
theorem size_t4 (s : Nat) : (Tryd.prog.info? 74).map (·.size) = some (byV (tail4 s)).toArray.size := size_a4
theorem eqs_t4 (s : Nat) : (zeros 4).toArray.size = (byV (tail4 s)).toArray.size := rfl
theorem one_t4 (s : Nat) : (byV (tail4 s)).toArray.all (·.oneCell') = true := by simp [byV, tail4, Value.oneCell']
theorem row_lt (s k : Nat) (h : k < 4) : k < (rowK s k).size := by
  obtain rfl | rfl | rfl | rfl : k = 0 ∨ k = 1 ∨ k = 2 ∨ k = 3 := by omega
  all_goals (show _ < 4; decide)
def BytRel (s N : Nat) (w0 : World) (iv : Value) (wr : World) : Prop := ∃ k : Nat, k ≤ 4 ∧ iv = .int .i64 (k : Nat) ∧ RowAt wr (N + 1) (rowK s k) 74 ∧ RowAt wr N (zeros 4).toArray 74 ∧ Below N w0 wr
theorem n0 : ((0 : Nat) : Int) = 0 := rfl
theorem n1 : ((1 : Nat) : Int) = 1 := rfl
theorem n2 : ((2 : Nat) : Int) = 2 := rfl
theorem n3 : ((3 : Nat) : Int) = 3 := rfl
theorem n4 : ((4 : Nat) : Int) = 4 := rfl
set_option maxRecDepth 100000 in
set_option maxHeartbeats 1000000 in
theorem bytesOf_any (s : Nat) (hs : s < 4294967296) (w : World) :
    Calls Tryd.prog 63 #[.int .u32 (s : Nat)] w fun e w' => e = .returned (.agg (byV (tail4 s)).toArray) ∧ Below w.heap.size w w' := by
  go_enter Tryd.func63, Tryd.ntmps63
  go_wp2_with (first | ((with_reducible refine op_alloc w.heap.size ?_ _ zero_a4 ?_); exact rfl; intro W h1 hb hz) | ((with_reducible refine op_alloc (w.heap.size + 1) ?_ _ zero_a4 ?_); exact hz.out; intro W h2 hb' hz'; replace h1 := h1.bl (hz.out ▸ hb'); replace hb := hb.trans (hb'.mono (by omega)); replace hz := hz'))
  clear hb' hz hz'
  go_loopw [5] (BytRel s w.heap.size w) (fun iv _ => 4 - (intOf iv).toNat)
  case atStart => exact ⟨0, by decide, rfl, h2, h1, hb⟩
  case round =>
    clear h1 h2 hb
    obtain ⟨k, hk, rfl, h2, h1, hb⟩ := hrel
    obtain rfl | rfl | rfl | rfl | rfl : k = 0 ∨ k = 1 ∨ k = 2 ∨ k = 3 ∨ k = 4 := by omega
    · simp only [n0]
      go_wp2_with ((with_reducible refine op_store_cell (w.heap.size + 1) 0 ?_ (.int .u8 (s / 16777216 : Nat)) ?_ _ (rowK s 1) _ h2 size_u8 (row_lt s _ (by decide)) rfl ?_ ?_); exact rfl; (refine congrArg (Value.int .u8) ?_; omega); exact rfl; intro W h2' ho; replace h1 := h1.only ho (by omega); replace hb := ho.bel _ _ (by omega) hb; replace h2 := h2'; clear h2' ho)
      go_roundw
      case rel => exact ⟨1, by decide, rfl, h2, h1, hb⟩
      case measure => simp [intOf]
    · simp only [n1]
      go_wp2_with ((with_reducible refine op_store_cell (w.heap.size + 1) 1 ?_ (.int .u8 (s / 65536 % 256 : Nat)) ?_ _ (rowK s 2) _ h2 size_u8 (row_lt s _ (by decide)) rfl ?_ ?_); exact rfl; (refine congrArg (Value.int .u8) ?_; omega); exact rfl; intro W h2' ho; replace h1 := h1.only ho (by omega); replace hb := ho.bel _ _ (by omega) hb; replace h2 := h2'; clear h2' ho)
      go_roundw
      case rel => exact ⟨2, by decide, rfl, h2, h1, hb⟩
      case measure => simp [intOf]
    · simp only [n2]
      go_wp2_with ((with_reducible refine op_store_cell (w.heap.size + 1) 2 ?_ (.int .u8 (s / 256 % 256 : Nat)) ?_ _ (rowK s 3) _ h2 size_u8 (row_lt s _ (by decide)) rfl ?_ ?_); exact rfl; (refine congrArg (Value.int .u8) ?_; omega); exact rfl; intro W h2' ho; replace h1 := h1.only ho (by omega); replace hb := ho.bel _ _ (by omega) hb; replace h2 := h2'; clear h2' ho)
      go_roundw
      case rel => exact ⟨3, by decide, rfl, h2, h1, hb⟩
      case measure => simp [intOf]
    · simp only [n3]
      go_wp2_with ((with_reducible refine op_store_cell (w.heap.size + 1) 3 ?_ (.int .u8 (s % 256 : Nat)) ?_ _ (rowK s 4) _ h2 size_u8 (row_lt s _ (by decide)) rfl ?_ ?_); exact rfl; (refine congrArg (Value.int .u8) ?_; omega); exact rfl; intro W h2' ho; replace h1 := h1.only ho (by omega); replace hb := ho.bel _ _ (by omega) hb; replace h2 := h2'; clear h2' ho)
      go_roundw
      case rel => exact ⟨4, by decide, rfl, h2, h1, hb⟩
      case measure => simp [intOf]
    · simp only [n4]
      have h2 : RowAt wr (w.heap.size + 1) (byV (tail4 s)).toArray 74 := h2
      go_wp2_with (first | ((with_reducible refine op_load (w.heap.size + 1) ?_ (byV (tail4 s)).toArray _ h2 _ Tryd.underlying74 rfl (size_t4 s) ?_); exact rfl) | ((with_reducible refine op_store w.heap.size ?_ (byV (tail4 s)).toArray ?_ _ _ h1 (size_t4 s) (eqs_t4 s) (one_t4 s) ?_); exact rfl; exact rfl; intro W h1' ho; replace hb := ho.bel _ _ (by omega) hb; replace h1 := h1'; clear h1' ho))
      refine bodyPost_ret (results_cell_row Tryd.results63 _ _ w.heap.size _ _ _ _ rfl h1 Tryd.underlying74 rfl size_a4) rfl ?_
      exact ⟨rfl, hb⟩
end Go.Proofs.YtkahkkcbigifiaaDoor
