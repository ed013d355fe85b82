/-
  What hart.goOn, next, write, jump, branch, compute, upper and system answer.
-/
import Derived.Test.YtchjhpeogdkbmaaDoorTk
import Derived.Test.YtchjhpeogdkbmaaDoorHaTrap
import Derived.Test.YtchjhpeogdkbmaaDoorHCsRet
import Derived.WalkSmall
namespace Go.Proofs.YtchjhpeogdkbmaaDoor
open Go.RowKit
set_option linter.unusedVariables false

set_option maxHeartbeats 1000000 in
theorem go_yes (h : H) (to : Nat) (h4 : to % 4 = 0) (w : World) :
    Calls Tryd.prog 80 #[.agg h.cells, .int .u32 to] w fun e w' => e = .returned (.agg (H.cells ⟨to, h.x, h.wt, upCt h.c⟩)) ∧ Below w.heap.size w w' := by
  have t0 : ((to : Int) % 4 != 0) = false := by simp; omega
  have HC : Hid (Value.int .u64 (((h.c.ct : Nat) : Int) + 1) = .int .u64 ((h.c.ct + 1 : Nat) : Int)) := hide rfl
  have HD : Hid (Value.int .u64 ((((h.c.ct : Nat) : Int) + 1) % 18446744073709551616) = .int .u64 (((h.c.ct + 1) % 18446744073709551616 : Nat) : Int)) := hide (by congr 1)
  clear h4
  go_enter Tryd.func80, Tryd.ntmps80
  go_wp2_with (first | ((with_reducible refine bx_h w.heap.size h ?_ ?_ ?_); exact rfl; exact rfl; intro W hr hb hz) | ((with_reducible refine al_h (w.heap.size + 1) ?_ ?_); exact hz.out; intro W hq hb' hz'; obtain ⟨hr, hb⟩ := an1 hz hb' hr hb; replace hz := hz') | ((with_reducible refine ld_h w.heap.size _ hr ?_ ?_); exact rfl) | ((with_reducible refine st_pc w.heap.size _ to hr ?_ ?_ ?_); exact rfl; exact rfl; intro W hnew ho; obtain ⟨hq, hb⟩ := on1 ho hq hb; replace hr := hnew) | ((with_reducible refine ld_ct w.heap.size _ hr ?_ ?_); exact rfl) | ((with_reducible refine st_ct w.heap.size _ ((h.c.ct + 1) % 18446744073709551616) hr ?_ ?_ ?_); exact rfl; exact HD.out; intro W hnew ho; obtain ⟨hq, hb⟩ := on1 ho hq hb; replace hr := hnew) | ((with_reducible refine st_h (w.heap.size + 1) _ ⟨to, h.x, h.wt, upCt h.c⟩ hq ?_ ?_ ?_); exact rfl; exact rfl; intro W hnew ho; obtain ⟨hr, hb⟩ := on1 ho hr hb; replace hq := hnew))
  refine bodyPost_ret (results_cell_row Tryd.results80 _ _ (w.heap.size + 1) _ _ _ _ rfl hq Tryd.underlying31 rfl size_hart) rfl ?_
  exact ⟨rfl, hb⟩

set_option maxHeartbeats 1000000 in
theorem go_no (h : H) (ok : h.Ok) (to : Nat) (h4 : ¬ to % 4 = 0) (w : World) :
    Calls Tryd.prog 80 #[.agg h.cells, .int .u32 to] w fun e w' => e = .returned (.agg (trapH h 0 to).cells) ∧ Below w.heap.size w w' := by
  have t0 : ((to : Int) % 4 != 0) = true := by simp; omega
  have HT := hide (fun w => trap_any h ok 0 to (by decide) w)
  rw [show (((0 : Nat) : Int)) = 0 from rfl] at HT
  clear h4
  go_enter Tryd.func80, Tryd.ntmps80
  go_wp2_with (first | ((with_reducible refine bx_h w.heap.size h ?_ ?_ ?_); exact rfl; exact rfl; intro W hr hb hz) | ((with_reducible refine al_h (w.heap.size + 1) ?_ ?_); exact hz.out; intro W hq hb' hz'; obtain ⟨hr, hb⟩ := an1 hz hb' hr hb; replace hz := hz') | ((with_reducible refine ld_h w.heap.size _ hr ?_ ?_); exact rfl) | (go_at_call 22; refine (HT.out _).mono ?_; rintro e W ⟨rfl, hbc⟩; obtain ⟨hr, hq, hb⟩ := bl2 hbc hr hq hb) | ((with_reducible refine st_h (w.heap.size + 1) _ (trapH h 0 to) hq ?_ ?_ ?_); exact rfl; exact rfl; intro W hnew ho; obtain ⟨hr, hb⟩ := on1 ho hr hb; replace hq := hnew))
  refine bodyPost_ret (results_cell_row Tryd.results80 _ _ (w.heap.size + 1) _ _ _ _ rfl hq Tryd.underlying31 rfl size_hart) rfl ?_
  exact ⟨rfl, hb⟩

theorem go_any (h : H) (ok : h.Ok) (to : Nat) (w : World) :
    Calls Tryd.prog 80 #[.agg h.cells, .int .u32 to] w fun e w' => e = .returned (.agg (goH h to).cells) ∧ Below w.heap.size w w' := by
  unfold goH; split
  · next h4 => exact go_yes h to h4 w
  · next h4 => exact go_no h ok to h4 w
set_option maxHeartbeats 1000000 in
theorem next_any (h : H) (ok : h.Ok) (w : World) :
    Calls Tryd.prog 45 #[.agg h.cells] w fun e w' => e = .returned (.agg (nextH h).cells) ∧ Below w.heap.size w w' := by
  have HG := hide (fun w => go_any h ok ((h.pc + 4) % 4294967296) w)
  have e0 : (((h.pc + 4) % 4294967296 : Nat) : Int) = ((h.pc : Int) + 4) % 4294967296 := by omega
  rw [e0] at HG
  go_enter Tryd.func45, Tryd.ntmps45
  go_wp2_with (first | ((with_reducible refine bx_h w.heap.size h ?_ ?_ ?_); exact rfl; exact rfl; intro W hr hb hz) | ((with_reducible refine al_h (w.heap.size + 1) ?_ ?_); exact hz.out; intro W hq hb' hz'; obtain ⟨hr, hb⟩ := an1 hz hb' hr hb; replace hz := hz') | ((with_reducible refine ld_h w.heap.size _ hr ?_ ?_); exact rfl) | ((with_reducible refine ld_pc w.heap.size _ hr ?_ ?_); exact rfl) | (go_at_call 80; refine (HG.out _).mono ?_; rintro e W ⟨rfl, hbc⟩; obtain ⟨hr, hq, hb⟩ := bl2 hbc hr hq hb) | ((with_reducible refine st_h (w.heap.size + 1) _ (nextH h) hq ?_ ?_ ?_); exact rfl; exact rfl; intro W hnew ho; obtain ⟨hr, hb⟩ := on1 ho hr hb; replace hq := hnew))
  refine bodyPost_ret (results_cell_row Tryd.results45 _ _ (w.heap.size + 1) _ _ _ _ rfl hq Tryd.underlying31 rfl size_hart) rfl ?_
  exact ⟨rfl, hb⟩

set_option maxHeartbeats 1000000 in
theorem write_0 (h : H) (v : Nat) (w : World) :
    Calls Tryd.prog 46 #[.agg h.cells, .int .i64 0, .int .u32 v] w fun e w' => e = .returned (.agg h.cells) ∧ Below w.heap.size w w' := by
  go_enter Tryd.func46, Tryd.ntmps46
  go_wp2_with (first | ((with_reducible refine bx_h w.heap.size h ?_ ?_ ?_); exact rfl; exact rfl; intro W hr hb hz) | ((with_reducible refine al_h (w.heap.size + 1) ?_ ?_); exact hz.out; intro W hq hb' hz'; obtain ⟨hr, hb⟩ := an1 hz hb' hr hb; replace hz := hz') | ((with_reducible refine ld_h w.heap.size _ hr ?_ ?_); exact rfl) | ((with_reducible refine st_h (w.heap.size + 1) _ h hq ?_ ?_ ?_); exact rfl; exact rfl; intro W hnew ho; obtain ⟨hr, hb⟩ := on1 ho hr hb; replace hq := hnew))
  refine bodyPost_ret (results_cell_row Tryd.results46 _ _ (w.heap.size + 1) _ _ _ _ rfl hq Tryd.underlying31 rfl size_hart) rfl ?_
  exact ⟨rfl, hb⟩

set_option maxHeartbeats 1000000 in
theorem write_r (h : H) (r : Nat) (hr0 : r ≠ 0) (hr1 : r < 32) (v : Nat) (w : World) :
    Calls Tryd.prog 46 #[.agg h.cells, .int .i64 r, .int .u32 v] w fun e w' => e = .returned (.agg (H.cells ⟨h.pc, setX h.x r v, h.wt, h.c⟩)) ∧ Below w.heap.size w w' := by
  have t0 : ((r : Int) != 0) = true := by simp; omega
  have t1 : (0 : Int) ≤ r := by omega
  have t2 : (r : Int) < 32 := by omega
  go_enter Tryd.func46, Tryd.ntmps46
  go_wp2_with (first | ((with_reducible refine bx_h w.heap.size h ?_ ?_ ?_); exact rfl; exact rfl; intro W hr hb hz) | ((with_reducible refine al_h (w.heap.size + 1) ?_ ?_); exact hz.out; intro W hq hb' hz'; obtain ⟨hr, hb⟩ := an1 hz hb' hr hb; replace hz := hz') | ((with_reducible refine ld_h w.heap.size _ hr ?_ ?_); exact rfl) | ((with_reducible refine st_x w.heap.size r _ v hr1 hr ?_ ?_ ?_); exact rfl; exact rfl; intro W hnew ho; obtain ⟨hq, hb⟩ := on1 ho hq hb; replace hr := hnew) | ((with_reducible refine st_h (w.heap.size + 1) _ ⟨h.pc, setX h.x r v, h.wt, h.c⟩ hq ?_ ?_ ?_); exact rfl; exact rfl; intro W hnew ho; obtain ⟨hr, hb⟩ := on1 ho hr hb; replace hq := hnew))
  refine bodyPost_ret (results_cell_row Tryd.results46 _ _ (w.heap.size + 1) _ _ _ _ rfl hq Tryd.underlying31 rfl size_hart) rfl ?_
  exact ⟨rfl, hb⟩

theorem write_any (h : H) (r : Nat) (hr : r < 32) (v : Nat) (w : World) :
    Calls Tryd.prog 46 #[.agg h.cells, .int .i64 r, .int .u32 v] w fun e w' => e = .returned (.agg (writeH h r v).cells) ∧ Below w.heap.size w w' := by
  unfold writeH; split
  · next h0 => subst h0; exact write_0 h v w
  · next h0 => exact write_r h r h0 hr v w
end Go.Proofs.YtchjhpeogdkbmaaDoor
