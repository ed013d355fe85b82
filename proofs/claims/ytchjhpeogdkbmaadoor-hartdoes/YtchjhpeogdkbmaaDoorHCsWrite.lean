/-
  What csr.Write answers.
-/
import Derived.Test.YtchjhpeogdkbmaaDoorHCsProg
namespace Go.Proofs.YtchjhpeogdkbmaaDoor
open Go.RowKit
set_option linter.unusedVariables false

theorem low_word (c v : Nat) (hc : c < 18446744073709551616) (hv : v < 4294967296) : bits .or .u64 (bits .andNot .u64 (c : Int) 4294967295) (v : Int) = ((c / 4294967296 * 4294967296 + v : Nat) : Int) := by
  have e1 : bits .andNot .u64 (c : Int) ((4294967295 : Nat) : Int) = ((c &&& (18446744073709551615 - 4294967295) : Nat) : Int) := u64_andNot_nat c 4294967295 hc (by decide)
  rw [show ((4294967295 : Nat) : Int) = 4294967295 from rfl, show (18446744073709551615 - 4294967295 : Nat) = 18446744069414584320 from rfl, high_and c hc] at e1
  rw [e1, u64_or_nat _ _ (by omega) (by omega), high_or c v hv]
theorem high_word (c v : Nat) (hc : c < 18446744073709551616) (hv : v < 4294967296) : bits .or .u64 ((v : Int) * 4294967296) (bits .and .u64 (c : Int) 4294967295) = ((v * 4294967296 + c % 4294967296 : Nat) : Int) := by
  have e1 : bits .and .u64 (c : Int) ((4294967295 : Nat) : Int) = ((c &&& 4294967295 : Nat) : Int) := u64_and_nat c 4294967295 hc (by decide)
  rw [show ((4294967295 : Nat) : Int) = 4294967295 from rfl, low_and c] at e1
  have e2 : (v : Int) * 4294967296 = ((v * 4294967296 : Nat) : Int) := by simp
  rw [e1, e2, u64_or_nat _ _ (by omega) (by omega), shl_or c v]

/-- An error as the program's value. -/
def errW : Nat → Value
  | 0 => .nilIface
  | k => .iface 89 (.int .i64 (k : Nat))
theorem ret_write {cs ds : Array Value} (h : cs = ds) : Ending.returned (.tuple #[.agg cs, .nilIface]) = .returned (.tuple #[.agg ds, .nilIface]) := by rw [h]

set_option maxHeartbeats 400000 in
theorem write_768 (st en ve sc ep ca va ct : Nat) (h0 : st < 4294967296) (h1 : en < 4294967296) (h2 : ve < 4294967296) (h3 : sc < 4294967296) (h4 : ep < 4294967296) (h5 : ca < 4294967296) (h6 : va < 4294967296) (h7 : ct < 18446744073709551616) (v : Nat) (hv : v < 4294967296) (w : World) :
    Calls Tryd.prog 53 #[.agg #[.int .u32 st, .int .u32 en, .int .u32 ve, .int .u32 sc, .int .u32 ep, .int .u32 ca, .int .u32 va, .int .u64 ct], .int .i64 768, .int .u32 v] w fun e w' => e = .returned (.tuple #[.agg #[.int .u32 (v &&& 136 : Nat), .int .u32 en, .int .u32 ve, .int .u32 sc, .int .u32 ep, .int .u32 ca, .int .u32 va, .int .u64 ct], .nilIface]) ∧ ∃ o o', w' = (w.alloc o).alloc o' := by
  have HX : Hid (bits .and .u32 (v : Int) 136 = ((v &&& 136 : Nat) : Int)) := u32_and_nat v 136 hv (by decide)
  go_enter Tryd.func53, Tryd.ntmps53
  go_wp2
  refine bodyPost_ret (results_cell_tmp_row Tryd.results53 _ _ (w.heap.size + 1) _ _ _ _ rfl (two_new w _ _ _) Tryd.underlying29 rfl size_state) rfl ?_
  exact ⟨ret_write (by rw [HX.out]), _, _, rfl⟩

set_option maxHeartbeats 400000 in
theorem write_769 (st en ve sc ep ca va ct : Nat) (h0 : st < 4294967296) (h1 : en < 4294967296) (h2 : ve < 4294967296) (h3 : sc < 4294967296) (h4 : ep < 4294967296) (h5 : ca < 4294967296) (h6 : va < 4294967296) (h7 : ct < 18446744073709551616) (v : Nat) (hv : v < 4294967296) (w : World) :
    Calls Tryd.prog 53 #[.agg #[.int .u32 st, .int .u32 en, .int .u32 ve, .int .u32 sc, .int .u32 ep, .int .u32 ca, .int .u32 va, .int .u64 ct], .int .i64 769, .int .u32 v] w fun e w' => e = .returned (.tuple #[.agg #[.int .u32 st, .int .u32 en, .int .u32 ve, .int .u32 sc, .int .u32 ep, .int .u32 ca, .int .u32 va, .int .u64 ct], .nilIface]) ∧ ∃ o o', w' = (w.alloc o).alloc o' := by
  go_enter Tryd.func53, Tryd.ntmps53
  go_wp2
  refine bodyPost_ret (results_cell_tmp_row Tryd.results53 _ _ (w.heap.size + 1) _ _ _ _ rfl (two_new w _ _ _) Tryd.underlying29 rfl size_state) rfl ?_
  exact ⟨rfl, _, _, rfl⟩

set_option maxHeartbeats 400000 in
theorem write_772 (st en ve sc ep ca va ct : Nat) (h0 : st < 4294967296) (h1 : en < 4294967296) (h2 : ve < 4294967296) (h3 : sc < 4294967296) (h4 : ep < 4294967296) (h5 : ca < 4294967296) (h6 : va < 4294967296) (h7 : ct < 18446744073709551616) (v : Nat) (hv : v < 4294967296) (w : World) :
    Calls Tryd.prog 53 #[.agg #[.int .u32 st, .int .u32 en, .int .u32 ve, .int .u32 sc, .int .u32 ep, .int .u32 ca, .int .u32 va, .int .u64 ct], .int .i64 772, .int .u32 v] w fun e w' => e = .returned (.tuple #[.agg #[.int .u32 st, .int .u32 (v &&& 2184 : Nat), .int .u32 ve, .int .u32 sc, .int .u32 ep, .int .u32 ca, .int .u32 va, .int .u64 ct], .nilIface]) ∧ ∃ o o', w' = (w.alloc o).alloc o' := by
  have HX : Hid (bits .and .u32 (v : Int) 2184 = ((v &&& 2184 : Nat) : Int)) := u32_and_nat v 2184 hv (by decide)
  go_enter Tryd.func53, Tryd.ntmps53
  go_wp2
  refine bodyPost_ret (results_cell_tmp_row Tryd.results53 _ _ (w.heap.size + 1) _ _ _ _ rfl (two_new w _ _ _) Tryd.underlying29 rfl size_state) rfl ?_
  exact ⟨ret_write (by rw [HX.out]), _, _, rfl⟩

set_option maxHeartbeats 400000 in
theorem write_773 (st en ve sc ep ca va ct : Nat) (h0 : st < 4294967296) (h1 : en < 4294967296) (h2 : ve < 4294967296) (h3 : sc < 4294967296) (h4 : ep < 4294967296) (h5 : ca < 4294967296) (h6 : va < 4294967296) (h7 : ct < 18446744073709551616) (v : Nat) (hv : v < 4294967296) (w : World) :
    Calls Tryd.prog 53 #[.agg #[.int .u32 st, .int .u32 en, .int .u32 ve, .int .u32 sc, .int .u32 ep, .int .u32 ca, .int .u32 va, .int .u64 ct], .int .i64 773, .int .u32 v] w fun e w' => e = .returned (.tuple #[.agg #[.int .u32 st, .int .u32 en, .int .u32 (v &&& 4294967293 : Nat), .int .u32 sc, .int .u32 ep, .int .u32 ca, .int .u32 va, .int .u64 ct], .nilIface]) ∧ ∃ o o', w' = (w.alloc o).alloc o' := by
  have HX : Hid (bits .andNot .u32 (v : Int) 2 = ((v &&& 4294967293 : Nat) : Int)) := u32_andNot_nat v 2 hv (by decide)
  go_enter Tryd.func53, Tryd.ntmps53
  go_wp2
  refine bodyPost_ret (results_cell_tmp_row Tryd.results53 _ _ (w.heap.size + 1) _ _ _ _ rfl (two_new w _ _ _) Tryd.underlying29 rfl size_state) rfl ?_
  exact ⟨ret_write (by rw [HX.out]), _, _, rfl⟩

set_option maxHeartbeats 400000 in
theorem write_832 (st en ve sc ep ca va ct : Nat) (h0 : st < 4294967296) (h1 : en < 4294967296) (h2 : ve < 4294967296) (h3 : sc < 4294967296) (h4 : ep < 4294967296) (h5 : ca < 4294967296) (h6 : va < 4294967296) (h7 : ct < 18446744073709551616) (v : Nat) (hv : v < 4294967296) (w : World) :
    Calls Tryd.prog 53 #[.agg #[.int .u32 st, .int .u32 en, .int .u32 ve, .int .u32 sc, .int .u32 ep, .int .u32 ca, .int .u32 va, .int .u64 ct], .int .i64 832, .int .u32 v] w fun e w' => e = .returned (.tuple #[.agg #[.int .u32 st, .int .u32 en, .int .u32 ve, .int .u32 v, .int .u32 ep, .int .u32 ca, .int .u32 va, .int .u64 ct], .nilIface]) ∧ ∃ o o', w' = (w.alloc o).alloc o' := by
  go_enter Tryd.func53, Tryd.ntmps53
  go_wp2
  refine bodyPost_ret (results_cell_tmp_row Tryd.results53 _ _ (w.heap.size + 1) _ _ _ _ rfl (two_new w _ _ _) Tryd.underlying29 rfl size_state) rfl ?_
  exact ⟨rfl, _, _, rfl⟩

set_option maxHeartbeats 400000 in
theorem write_833 (st en ve sc ep ca va ct : Nat) (h0 : st < 4294967296) (h1 : en < 4294967296) (h2 : ve < 4294967296) (h3 : sc < 4294967296) (h4 : ep < 4294967296) (h5 : ca < 4294967296) (h6 : va < 4294967296) (h7 : ct < 18446744073709551616) (v : Nat) (hv : v < 4294967296) (w : World) :
    Calls Tryd.prog 53 #[.agg #[.int .u32 st, .int .u32 en, .int .u32 ve, .int .u32 sc, .int .u32 ep, .int .u32 ca, .int .u32 va, .int .u64 ct], .int .i64 833, .int .u32 v] w fun e w' => e = .returned (.tuple #[.agg #[.int .u32 st, .int .u32 en, .int .u32 ve, .int .u32 sc, .int .u32 (v &&& 4294967292 : Nat), .int .u32 ca, .int .u32 va, .int .u64 ct], .nilIface]) ∧ ∃ o o', w' = (w.alloc o).alloc o' := by
  have HX : Hid (bits .andNot .u32 (v : Int) 3 = ((v &&& 4294967292 : Nat) : Int)) := u32_andNot_nat v 3 hv (by decide)
  go_enter Tryd.func53, Tryd.ntmps53
  go_wp2
  refine bodyPost_ret (results_cell_tmp_row Tryd.results53 _ _ (w.heap.size + 1) _ _ _ _ rfl (two_new w _ _ _) Tryd.underlying29 rfl size_state) rfl ?_
  exact ⟨ret_write (by rw [HX.out]), _, _, rfl⟩

set_option maxHeartbeats 400000 in
theorem write_834 (st en ve sc ep ca va ct : Nat) (h0 : st < 4294967296) (h1 : en < 4294967296) (h2 : ve < 4294967296) (h3 : sc < 4294967296) (h4 : ep < 4294967296) (h5 : ca < 4294967296) (h6 : va < 4294967296) (h7 : ct < 18446744073709551616) (v : Nat) (hv : v < 4294967296) (w : World) :
    Calls Tryd.prog 53 #[.agg #[.int .u32 st, .int .u32 en, .int .u32 ve, .int .u32 sc, .int .u32 ep, .int .u32 ca, .int .u32 va, .int .u64 ct], .int .i64 834, .int .u32 v] w fun e w' => e = .returned (.tuple #[.agg #[.int .u32 st, .int .u32 en, .int .u32 ve, .int .u32 sc, .int .u32 ep, .int .u32 v, .int .u32 va, .int .u64 ct], .nilIface]) ∧ ∃ o o', w' = (w.alloc o).alloc o' := by
  go_enter Tryd.func53, Tryd.ntmps53
  go_wp2
  refine bodyPost_ret (results_cell_tmp_row Tryd.results53 _ _ (w.heap.size + 1) _ _ _ _ rfl (two_new w _ _ _) Tryd.underlying29 rfl size_state) rfl ?_
  exact ⟨rfl, _, _, rfl⟩

set_option maxHeartbeats 400000 in
theorem write_835 (st en ve sc ep ca va ct : Nat) (h0 : st < 4294967296) (h1 : en < 4294967296) (h2 : ve < 4294967296) (h3 : sc < 4294967296) (h4 : ep < 4294967296) (h5 : ca < 4294967296) (h6 : va < 4294967296) (h7 : ct < 18446744073709551616) (v : Nat) (hv : v < 4294967296) (w : World) :
    Calls Tryd.prog 53 #[.agg #[.int .u32 st, .int .u32 en, .int .u32 ve, .int .u32 sc, .int .u32 ep, .int .u32 ca, .int .u32 va, .int .u64 ct], .int .i64 835, .int .u32 v] w fun e w' => e = .returned (.tuple #[.agg #[.int .u32 st, .int .u32 en, .int .u32 ve, .int .u32 sc, .int .u32 ep, .int .u32 ca, .int .u32 v, .int .u64 ct], .nilIface]) ∧ ∃ o o', w' = (w.alloc o).alloc o' := by
  go_enter Tryd.func53, Tryd.ntmps53
  go_wp2
  refine bodyPost_ret (results_cell_tmp_row Tryd.results53 _ _ (w.heap.size + 1) _ _ _ _ rfl (two_new w _ _ _) Tryd.underlying29 rfl size_state) rfl ?_
  exact ⟨rfl, _, _, rfl⟩

set_option maxHeartbeats 400000 in
theorem write_836 (st en ve sc ep ca va ct : Nat) (h0 : st < 4294967296) (h1 : en < 4294967296) (h2 : ve < 4294967296) (h3 : sc < 4294967296) (h4 : ep < 4294967296) (h5 : ca < 4294967296) (h6 : va < 4294967296) (h7 : ct < 18446744073709551616) (v : Nat) (hv : v < 4294967296) (w : World) :
    Calls Tryd.prog 53 #[.agg #[.int .u32 st, .int .u32 en, .int .u32 ve, .int .u32 sc, .int .u32 ep, .int .u32 ca, .int .u32 va, .int .u64 ct], .int .i64 836, .int .u32 v] w fun e w' => e = .returned (.tuple #[.agg #[.int .u32 st, .int .u32 en, .int .u32 ve, .int .u32 sc, .int .u32 ep, .int .u32 ca, .int .u32 va, .int .u64 ct], .nilIface]) ∧ ∃ o o', w' = (w.alloc o).alloc o' := by
  go_enter Tryd.func53, Tryd.ntmps53
  go_wp2
  refine bodyPost_ret (results_cell_tmp_row Tryd.results53 _ _ (w.heap.size + 1) _ _ _ _ rfl (two_new w _ _ _) Tryd.underlying29 rfl size_state) rfl ?_
  exact ⟨rfl, _, _, rfl⟩

set_option maxHeartbeats 400000 in
theorem write_2816 (st en ve sc ep ca va ct : Nat) (h0 : st < 4294967296) (h1 : en < 4294967296) (h2 : ve < 4294967296) (h3 : sc < 4294967296) (h4 : ep < 4294967296) (h5 : ca < 4294967296) (h6 : va < 4294967296) (h7 : ct < 18446744073709551616) (v : Nat) (hv : v < 4294967296) (w : World) :
    Calls Tryd.prog 53 #[.agg #[.int .u32 st, .int .u32 en, .int .u32 ve, .int .u32 sc, .int .u32 ep, .int .u32 ca, .int .u32 va, .int .u64 ct], .int .i64 2816, .int .u32 v] w fun e w' => e = .returned (.tuple #[.agg #[.int .u32 st, .int .u32 en, .int .u32 ve, .int .u32 sc, .int .u32 ep, .int .u32 ca, .int .u32 va, .int .u64 (ct / 4294967296 * 4294967296 + v : Nat)], .nilIface]) ∧ ∃ o o', w' = (w.alloc o).alloc o' := by
  have HX : Hid (bits .or .u64 (bits .andNot .u64 (ct : Int) 4294967295) (v : Int) = ((ct / 4294967296 * 4294967296 + v : Nat) : Int)) := low_word ct v h7 hv
  go_enter Tryd.func53, Tryd.ntmps53
  go_wp2
  refine bodyPost_ret (results_cell_tmp_row Tryd.results53 _ _ (w.heap.size + 1) _ _ _ _ rfl (two_new w _ _ _) Tryd.underlying29 rfl size_state) rfl ?_
  exact ⟨ret_write (by rw [HX.out]), _, _, rfl⟩

set_option maxHeartbeats 400000 in
theorem write_2818 (st en ve sc ep ca va ct : Nat) (h0 : st < 4294967296) (h1 : en < 4294967296) (h2 : ve < 4294967296) (h3 : sc < 4294967296) (h4 : ep < 4294967296) (h5 : ca < 4294967296) (h6 : va < 4294967296) (h7 : ct < 18446744073709551616) (v : Nat) (hv : v < 4294967296) (w : World) :
    Calls Tryd.prog 53 #[.agg #[.int .u32 st, .int .u32 en, .int .u32 ve, .int .u32 sc, .int .u32 ep, .int .u32 ca, .int .u32 va, .int .u64 ct], .int .i64 2818, .int .u32 v] w fun e w' => e = .returned (.tuple #[.agg #[.int .u32 st, .int .u32 en, .int .u32 ve, .int .u32 sc, .int .u32 ep, .int .u32 ca, .int .u32 va, .int .u64 (ct / 4294967296 * 4294967296 + v : Nat)], .nilIface]) ∧ ∃ o o', w' = (w.alloc o).alloc o' := by
  have HX : Hid (bits .or .u64 (bits .andNot .u64 (ct : Int) 4294967295) (v : Int) = ((ct / 4294967296 * 4294967296 + v : Nat) : Int)) := low_word ct v h7 hv
  go_enter Tryd.func53, Tryd.ntmps53
  go_wp2
  refine bodyPost_ret (results_cell_tmp_row Tryd.results53 _ _ (w.heap.size + 1) _ _ _ _ rfl (two_new w _ _ _) Tryd.underlying29 rfl size_state) rfl ?_
  exact ⟨ret_write (by rw [HX.out]), _, _, rfl⟩

set_option maxHeartbeats 400000 in
theorem write_2944 (st en ve sc ep ca va ct : Nat) (h0 : st < 4294967296) (h1 : en < 4294967296) (h2 : ve < 4294967296) (h3 : sc < 4294967296) (h4 : ep < 4294967296) (h5 : ca < 4294967296) (h6 : va < 4294967296) (h7 : ct < 18446744073709551616) (v : Nat) (hv : v < 4294967296) (w : World) :
    Calls Tryd.prog 53 #[.agg #[.int .u32 st, .int .u32 en, .int .u32 ve, .int .u32 sc, .int .u32 ep, .int .u32 ca, .int .u32 va, .int .u64 ct], .int .i64 2944, .int .u32 v] w fun e w' => e = .returned (.tuple #[.agg #[.int .u32 st, .int .u32 en, .int .u32 ve, .int .u32 sc, .int .u32 ep, .int .u32 ca, .int .u32 va, .int .u64 (v * 4294967296 + ct % 4294967296 : Nat)], .nilIface]) ∧ ∃ o o', w' = (w.alloc o).alloc o' := by
  have HX : Hid (bits .or .u64 ((v : Int) * 4294967296) (bits .and .u64 (ct : Int) 4294967295) = ((v * 4294967296 + ct % 4294967296 : Nat) : Int)) := high_word ct v h7 hv
  go_enter Tryd.func53, Tryd.ntmps53
  go_wp2
  refine bodyPost_ret (results_cell_tmp_row Tryd.results53 _ _ (w.heap.size + 1) _ _ _ _ rfl (two_new w _ _ _) Tryd.underlying29 rfl size_state) rfl ?_
  exact ⟨ret_write (by rw [HX.out]), _, _, rfl⟩

set_option maxHeartbeats 400000 in
theorem write_2946 (st en ve sc ep ca va ct : Nat) (h0 : st < 4294967296) (h1 : en < 4294967296) (h2 : ve < 4294967296) (h3 : sc < 4294967296) (h4 : ep < 4294967296) (h5 : ca < 4294967296) (h6 : va < 4294967296) (h7 : ct < 18446744073709551616) (v : Nat) (hv : v < 4294967296) (w : World) :
    Calls Tryd.prog 53 #[.agg #[.int .u32 st, .int .u32 en, .int .u32 ve, .int .u32 sc, .int .u32 ep, .int .u32 ca, .int .u32 va, .int .u64 ct], .int .i64 2946, .int .u32 v] w fun e w' => e = .returned (.tuple #[.agg #[.int .u32 st, .int .u32 en, .int .u32 ve, .int .u32 sc, .int .u32 ep, .int .u32 ca, .int .u32 va, .int .u64 (v * 4294967296 + ct % 4294967296 : Nat)], .nilIface]) ∧ ∃ o o', w' = (w.alloc o).alloc o' := by
  have HX : Hid (bits .or .u64 ((v : Int) * 4294967296) (bits .and .u64 (ct : Int) 4294967295) = ((v * 4294967296 + ct % 4294967296 : Nat) : Int)) := high_word ct v h7 hv
  go_enter Tryd.func53, Tryd.ntmps53
  go_wp2
  refine bodyPost_ret (results_cell_tmp_row Tryd.results53 _ _ (w.heap.size + 1) _ _ _ _ rfl (two_new w _ _ _) Tryd.underlying29 rfl size_state) rfl ?_
  exact ⟨ret_write (by rw [HX.out]), _, _, rfl⟩

set_option maxHeartbeats 400000 in
theorem write_3857 (st en ve sc ep ca va ct : Nat) (h0 : st < 4294967296) (h1 : en < 4294967296) (h2 : ve < 4294967296) (h3 : sc < 4294967296) (h4 : ep < 4294967296) (h5 : ca < 4294967296) (h6 : va < 4294967296) (h7 : ct < 18446744073709551616) (v : Nat) (hv : v < 4294967296) (w : World) :
    Calls Tryd.prog 53 #[.agg #[.int .u32 st, .int .u32 en, .int .u32 ve, .int .u32 sc, .int .u32 ep, .int .u32 ca, .int .u32 va, .int .u64 ct], .int .i64 3857, .int .u32 v] w fun e w' => e = .returned (.tuple #[.agg zeroS.cells, .iface 89 (.int .i64 33)]) ∧ ∃ o o', w' = (w.alloc o).alloc o' := by
  go_enter Tryd.func53, Tryd.ntmps53
  go_wp2
  refine bodyPost_ret (results_cell_tmp_row Tryd.results53 _ _ (w.heap.size + 1) _ _ _ _ rfl (two_new w _ _ _) Tryd.underlying29 rfl size_state) rfl ?_
  exact ⟨rfl, _, _, rfl⟩

set_option maxHeartbeats 400000 in
theorem write_3858 (st en ve sc ep ca va ct : Nat) (h0 : st < 4294967296) (h1 : en < 4294967296) (h2 : ve < 4294967296) (h3 : sc < 4294967296) (h4 : ep < 4294967296) (h5 : ca < 4294967296) (h6 : va < 4294967296) (h7 : ct < 18446744073709551616) (v : Nat) (hv : v < 4294967296) (w : World) :
    Calls Tryd.prog 53 #[.agg #[.int .u32 st, .int .u32 en, .int .u32 ve, .int .u32 sc, .int .u32 ep, .int .u32 ca, .int .u32 va, .int .u64 ct], .int .i64 3858, .int .u32 v] w fun e w' => e = .returned (.tuple #[.agg zeroS.cells, .iface 89 (.int .i64 33)]) ∧ ∃ o o', w' = (w.alloc o).alloc o' := by
  go_enter Tryd.func53, Tryd.ntmps53
  go_wp2
  refine bodyPost_ret (results_cell_tmp_row Tryd.results53 _ _ (w.heap.size + 1) _ _ _ _ rfl (two_new w _ _ _) Tryd.underlying29 rfl size_state) rfl ?_
  exact ⟨rfl, _, _, rfl⟩

set_option maxHeartbeats 400000 in
theorem write_3859 (st en ve sc ep ca va ct : Nat) (h0 : st < 4294967296) (h1 : en < 4294967296) (h2 : ve < 4294967296) (h3 : sc < 4294967296) (h4 : ep < 4294967296) (h5 : ca < 4294967296) (h6 : va < 4294967296) (h7 : ct < 18446744073709551616) (v : Nat) (hv : v < 4294967296) (w : World) :
    Calls Tryd.prog 53 #[.agg #[.int .u32 st, .int .u32 en, .int .u32 ve, .int .u32 sc, .int .u32 ep, .int .u32 ca, .int .u32 va, .int .u64 ct], .int .i64 3859, .int .u32 v] w fun e w' => e = .returned (.tuple #[.agg zeroS.cells, .iface 89 (.int .i64 33)]) ∧ ∃ o o', w' = (w.alloc o).alloc o' := by
  go_enter Tryd.func53, Tryd.ntmps53
  go_wp2
  refine bodyPost_ret (results_cell_tmp_row Tryd.results53 _ _ (w.heap.size + 1) _ _ _ _ rfl (two_new w _ _ _) Tryd.underlying29 rfl size_state) rfl ?_
  exact ⟨rfl, _, _, rfl⟩

set_option maxHeartbeats 400000 in
theorem write_3860 (st en ve sc ep ca va ct : Nat) (h0 : st < 4294967296) (h1 : en < 4294967296) (h2 : ve < 4294967296) (h3 : sc < 4294967296) (h4 : ep < 4294967296) (h5 : ca < 4294967296) (h6 : va < 4294967296) (h7 : ct < 18446744073709551616) (v : Nat) (hv : v < 4294967296) (w : World) :
    Calls Tryd.prog 53 #[.agg #[.int .u32 st, .int .u32 en, .int .u32 ve, .int .u32 sc, .int .u32 ep, .int .u32 ca, .int .u32 va, .int .u64 ct], .int .i64 3860, .int .u32 v] w fun e w' => e = .returned (.tuple #[.agg zeroS.cells, .iface 89 (.int .i64 33)]) ∧ ∃ o o', w' = (w.alloc o).alloc o' := by
  go_enter Tryd.func53, Tryd.ntmps53
  go_wp2
  refine bodyPost_ret (results_cell_tmp_row Tryd.results53 _ _ (w.heap.size + 1) _ _ _ _ rfl (two_new w _ _ _) Tryd.underlying29 rfl size_state) rfl ?_
  exact ⟨rfl, _, _, rfl⟩

set_option maxHeartbeats 400000 in
theorem cs_write_none (st en ve sc ep ca va ct : Nat) (a : Int) (c768 : ¬ a = 768) (c769 : ¬ a = 769) (c772 : ¬ a = 772) (c773 : ¬ a = 773) (c832 : ¬ a = 832) (c833 : ¬ a = 833) (c834 : ¬ a = 834) (c835 : ¬ a = 835) (c836 : ¬ a = 836) (c2816 : ¬ a = 2816) (c2818 : ¬ a = 2818) (c2944 : ¬ a = 2944) (c2946 : ¬ a = 2946) (c3857 : ¬ a = 3857) (c3858 : ¬ a = 3858) (c3859 : ¬ a = 3859) (c3860 : ¬ a = 3860) (v : Nat) (w : World) :
    Calls Tryd.prog 53 #[.agg #[.int .u32 st, .int .u32 en, .int .u32 ve, .int .u32 sc, .int .u32 ep, .int .u32 ca, .int .u32 va, .int .u64 ct], .int .i64 a, .int .u32 v] w fun e w' => e = .returned (.tuple #[.agg zeroS.cells, .iface 89 (.int .i64 8)]) ∧ ∃ o o', w' = (w.alloc o).alloc o' := by
  go_enter Tryd.func53, Tryd.ntmps53
  go_wp2
  refine bodyPost_ret (results_cell_tmp_row Tryd.results53 _ _ (w.heap.size + 1) _ _ _ _ rfl (two_new w _ _ _) Tryd.underlying29 rfl size_state) rfl ?_
  exact ⟨rfl, _, _, rfl⟩

theorem cs_write_any (s : S8) (hs : s.Ok) (a : Int) (v : Nat) (hv : v < 4294967296) (w : World) :
    Calls Tryd.prog 53 #[.agg s.cells, .int .i64 a, .int .u32 v] w fun e w' => e = .returned (.tuple #[.agg (writeN s a v).1.cells, errW (writeN s a v).2]) ∧ ∃ o o', w' = (w.alloc o).alloc o' := by
  obtain ⟨st, en, ve, sc, ep, ca, va, ct⟩ := s
  obtain ⟨h0, h1, h2, h3, h4, h5, h6, h7⟩ := hs
  by_cases c768 : a = 768
  · subst c768; exact write_768 st en ve sc ep ca va ct h0 h1 h2 h3 h4 h5 h6 h7 v hv w
  by_cases c769 : a = 769
  · subst c769; exact write_769 st en ve sc ep ca va ct h0 h1 h2 h3 h4 h5 h6 h7 v hv w
  by_cases c772 : a = 772
  · subst c772; exact write_772 st en ve sc ep ca va ct h0 h1 h2 h3 h4 h5 h6 h7 v hv w
  by_cases c773 : a = 773
  · subst c773; exact write_773 st en ve sc ep ca va ct h0 h1 h2 h3 h4 h5 h6 h7 v hv w
  by_cases c832 : a = 832
  · subst c832; exact write_832 st en ve sc ep ca va ct h0 h1 h2 h3 h4 h5 h6 h7 v hv w
  by_cases c833 : a = 833
  · subst c833; exact write_833 st en ve sc ep ca va ct h0 h1 h2 h3 h4 h5 h6 h7 v hv w
  by_cases c834 : a = 834
  · subst c834; exact write_834 st en ve sc ep ca va ct h0 h1 h2 h3 h4 h5 h6 h7 v hv w
  by_cases c835 : a = 835
  · subst c835; exact write_835 st en ve sc ep ca va ct h0 h1 h2 h3 h4 h5 h6 h7 v hv w
  by_cases c836 : a = 836
  · subst c836; exact write_836 st en ve sc ep ca va ct h0 h1 h2 h3 h4 h5 h6 h7 v hv w
  by_cases c2816 : a = 2816
  · subst c2816; exact write_2816 st en ve sc ep ca va ct h0 h1 h2 h3 h4 h5 h6 h7 v hv w
  by_cases c2818 : a = 2818
  · subst c2818; exact write_2818 st en ve sc ep ca va ct h0 h1 h2 h3 h4 h5 h6 h7 v hv w
  by_cases c2944 : a = 2944
  · subst c2944; exact write_2944 st en ve sc ep ca va ct h0 h1 h2 h3 h4 h5 h6 h7 v hv w
  by_cases c2946 : a = 2946
  · subst c2946; exact write_2946 st en ve sc ep ca va ct h0 h1 h2 h3 h4 h5 h6 h7 v hv w
  by_cases c3857 : a = 3857
  · subst c3857; exact write_3857 st en ve sc ep ca va ct h0 h1 h2 h3 h4 h5 h6 h7 v hv w
  by_cases c3858 : a = 3858
  · subst c3858; exact write_3858 st en ve sc ep ca va ct h0 h1 h2 h3 h4 h5 h6 h7 v hv w
  by_cases c3859 : a = 3859
  · subst c3859; exact write_3859 st en ve sc ep ca va ct h0 h1 h2 h3 h4 h5 h6 h7 v hv w
  by_cases c3860 : a = 3860
  · subst c3860; exact write_3860 st en ve sc ep ca va ct h0 h1 h2 h3 h4 h5 h6 h7 v hv w
  have hn : writeN ⟨st, en, ve, sc, ep, ca, va, ct⟩ a v = (zeroS, 8) := by
    unfold writeN
    rw [if_neg c768, if_neg (by omega), if_neg c772, if_neg c773, if_neg c832, if_neg c833, if_neg c834, if_neg c835, if_neg (by omega), if_neg (by omega), if_neg (by omega)]
  rw [hn]
  exact cs_write_none st en ve sc ep ca va ct a c768 c769 c772 c773 c832 c833 c834 c835 c836 c2816 c2818 c2944 c2946 c3857 c3858 c3859 c3860 v w
end Go.Proofs.YtchjhpeogdkbmaaDoor
