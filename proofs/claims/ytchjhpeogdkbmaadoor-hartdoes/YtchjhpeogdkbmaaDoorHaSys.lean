/-
  What hart.jump, branch, compute, upper, system and mixed answer.
-/
import Derived.Test.YtchjhpeogdkbmaaDoorTk
import Derived.Test.YtchjhpeogdkbmaaDoorHaGo
import Derived.Test.YtchjhpeogdkbmaaDoorHCsRet
import Derived.WalkSmall
namespace Go.Proofs.YtchjhpeogdkbmaaDoor
open Go.RowKit
set_option linter.unusedVariables false

set_option maxHeartbeats 1000000 in
theorem jump_yes (h : H) (ok : h.Ok) (rd : Nat) (hrd : rd < 32) (to : Nat) (h4 : to % 4 = 0) (w : World) :
    Calls Tryd.prog 56 #[.agg h.cells, .int .i64 rd, .int .u32 to] w fun e w' => e = .returned (.agg (goH (writeH h rd ((h.pc + 4) % 4294967296)) to).cells) ∧ Below w.heap.size w w' := by
  have t0 : ((to : Int) % 4 != 0) = false := by simp; omega
  have HW := hide (fun w => write_any h rd hrd ((h.pc + 4) % 4294967296) w)
  have HG := hide (fun w => go_any _ (writeH_ok ok rd (Nat.mod_lt (h.pc + 4) (by decide : 0 < 4294967296))) to w)
  have e0 : (((h.pc + 4) % 4294967296 : Nat) : Int) = ((h.pc : Int) + 4) % 4294967296 := by omega
  rw [e0] at HW
  clear h4
  go_enter Tryd.func56, Tryd.ntmps56
  go_wp2_with (first | ((with_reducible refine bx_h w.heap.size h ?_ ?_ ?_); exact rfl; exact rfl; intro W hr hb hz) | ((with_reducible refine al_h (w.heap.size + 1) ?_ ?_); exact hz.out; intro W hq hb' hz'; obtain ⟨hr, hb⟩ := an1 hz hb' hr hb; replace hz := hz') | ((with_reducible refine ld_h w.heap.size _ hr ?_ ?_); exact rfl) | ((with_reducible refine ld_pc w.heap.size _ hr ?_ ?_); exact rfl) | (go_at_call 46; refine (HW.out _).mono ?_; rintro e W ⟨rfl, hbc⟩; obtain ⟨hr, hq, hb⟩ := bl2 hbc hr hq hb) | (go_at_call 80; refine (HG.out _).mono ?_; rintro e W ⟨rfl, hbc⟩; obtain ⟨hr, hq, hb⟩ := bl2 hbc hr hq hb) | ((with_reducible refine st_h (w.heap.size + 1) _ (goH (writeH h rd ((h.pc + 4) % 4294967296)) to) hq ?_ ?_ ?_); exact rfl; exact rfl; intro W hnew ho; obtain ⟨hr, hb⟩ := on1 ho hr hb; replace hq := hnew))
  refine bodyPost_ret (results_cell_row Tryd.results56 _ _ (w.heap.size + 1) _ _ _ _ rfl hq Tryd.underlying31 rfl size_hart) rfl ?_
  exact ⟨rfl, hb⟩

set_option maxHeartbeats 1000000 in
theorem jump_no (h : H) (ok : h.Ok) (rd : Nat) (to : Nat) (h4 : ¬ to % 4 = 0) (w : World) :
    Calls Tryd.prog 56 #[.agg h.cells, .int .i64 rd, .int .u32 to] w fun e w' => e = .returned (.agg (trapH h 0 to).cells) ∧ Below w.heap.size w w' := by
  have t0 : ((to : Int) % 4 != 0) = true := by simp; omega
  have HT := hide (fun w => trap_any h ok 0 to (by decide) w)
  rw [show (((0 : Nat) : Int)) = 0 from rfl] at HT
  clear h4
  go_enter Tryd.func56, Tryd.ntmps56
  go_wp2_with (first | ((with_reducible refine bx_h w.heap.size h ?_ ?_ ?_); exact rfl; exact rfl; intro W hr hb hz) | ((with_reducible refine al_h (w.heap.size + 1) ?_ ?_); exact hz.out; intro W hq hb' hz'; obtain ⟨hr, hb⟩ := an1 hz hb' hr hb; replace hz := hz') | ((with_reducible refine ld_h w.heap.size _ hr ?_ ?_); exact rfl) | (go_at_call 22; refine (HT.out _).mono ?_; rintro e W ⟨rfl, hbc⟩; obtain ⟨hr, hq, hb⟩ := bl2 hbc hr hq hb) | ((with_reducible refine st_h (w.heap.size + 1) _ (trapH h 0 to) hq ?_ ?_ ?_); exact rfl; exact rfl; intro W hnew ho; obtain ⟨hr, hb⟩ := on1 ho hr hb; replace hq := hnew))
  refine bodyPost_ret (results_cell_row Tryd.results56 _ _ (w.heap.size + 1) _ _ _ _ rfl hq Tryd.underlying31 rfl size_hart) rfl ?_
  exact ⟨rfl, hb⟩

theorem jump_any (h : H) (ok : h.Ok) (rd : Nat) (hrd : rd < 32) (to : Nat) (w : World) :
    Calls Tryd.prog 56 #[.agg h.cells, .int .i64 rd, .int .u32 to] w fun e w' => e = .returned (.agg (jumpH h rd to).cells) ∧ Below w.heap.size w w' := by
  unfold jumpH; split
  · next h4 => exact jump_yes h ok rd hrd to h4 w
  · next h4 => exact jump_no h ok rd to h4 w
set_option maxHeartbeats 1000000 in
theorem branch_yes (h : H) (ok : h.Ok) (k : Nat) (hk : k < 6) (c : Int) (hc : c = k) (a b n : Nat) (ha : a < 4294967296) (hb' : b < 4294967296) (hh : holdsN k a b = true) (w : World) :
    Calls Tryd.prog 57 #[.agg h.cells, .int .i64 c, .int .u32 a, .int .u32 b, .int .u32 n] w fun e w' => e = .returned (.agg (goH h ((h.pc + n) % 4294967296)).cells) ∧ Below w.heap.size w w' := by
  have HH := hide (fun w => holds_any k hk a b ha hb' c hc w)
  have HN := hide (fun w => next_any h ok w)
  have HG := hide (fun w => go_any h ok ((h.pc + n) % 4294967296) w)
  have e0 : (((h.pc + n) % 4294967296 : Nat) : Int) = ((h.pc : Int) + n) % 4294967296 := by omega
  rw [e0] at HG
  rw [hh] at HH
  clear hh hk hc
  go_enter Tryd.func57, Tryd.ntmps57
  go_wp2_with (first | ((with_reducible refine bx_h w.heap.size h ?_ ?_ ?_); exact rfl; exact rfl; intro W hr hb hz) | ((with_reducible refine al_h (w.heap.size + 1) ?_ ?_); exact hz.out; intro W hq hb' hz'; obtain ⟨hr, hb⟩ := an1 hz hb' hr hb; replace hz := hz') | ((with_reducible refine ld_h w.heap.size _ hr ?_ ?_); exact rfl) | ((with_reducible refine ld_pc w.heap.size _ hr ?_ ?_); exact rfl) | (go_at_call 85; refine (HH.out _).mono ?_; rintro e W ⟨rfl, rfl⟩) | (go_at_call 45; refine (HN.out _).mono ?_; rintro e W ⟨rfl, hbc⟩; obtain ⟨hr, hq, hb⟩ := bl2 hbc hr hq hb) | (go_at_call 80; refine (HG.out _).mono ?_; rintro e W ⟨rfl, hbc⟩; obtain ⟨hr, hq, hb⟩ := bl2 hbc hr hq hb) | ((with_reducible refine st_h (w.heap.size + 1) _ (goH h ((h.pc + n) % 4294967296)) hq ?_ ?_ ?_); exact rfl; exact rfl; intro W hnew ho; obtain ⟨hr, hb⟩ := on1 ho hr hb; replace hq := hnew))
  refine bodyPost_ret (results_cell_row Tryd.results57 _ _ (w.heap.size + 1) _ _ _ _ rfl hq Tryd.underlying31 rfl size_hart) rfl ?_
  exact ⟨rfl, hb⟩

set_option maxHeartbeats 1000000 in
theorem branch_no (h : H) (ok : h.Ok) (k : Nat) (hk : k < 6) (c : Int) (hc : c = k) (a b n : Nat) (ha : a < 4294967296) (hb' : b < 4294967296) (hh : holdsN k a b = false) (w : World) :
    Calls Tryd.prog 57 #[.agg h.cells, .int .i64 c, .int .u32 a, .int .u32 b, .int .u32 n] w fun e w' => e = .returned (.agg (nextH h).cells) ∧ Below w.heap.size w w' := by
  have HH := hide (fun w => holds_any k hk a b ha hb' c hc w)
  have HN := hide (fun w => next_any h ok w)
  have HG := hide (fun w => go_any h ok ((h.pc + n) % 4294967296) w)
  have e0 : (((h.pc + n) % 4294967296 : Nat) : Int) = ((h.pc : Int) + n) % 4294967296 := by omega
  rw [e0] at HG
  rw [hh] at HH
  clear hh hk hc
  go_enter Tryd.func57, Tryd.ntmps57
  go_wp2_with (first | ((with_reducible refine bx_h w.heap.size h ?_ ?_ ?_); exact rfl; exact rfl; intro W hr hb hz) | ((with_reducible refine al_h (w.heap.size + 1) ?_ ?_); exact hz.out; intro W hq hb' hz'; obtain ⟨hr, hb⟩ := an1 hz hb' hr hb; replace hz := hz') | ((with_reducible refine ld_h w.heap.size _ hr ?_ ?_); exact rfl) | ((with_reducible refine ld_pc w.heap.size _ hr ?_ ?_); exact rfl) | (go_at_call 85; refine (HH.out _).mono ?_; rintro e W ⟨rfl, rfl⟩) | (go_at_call 45; refine (HN.out _).mono ?_; rintro e W ⟨rfl, hbc⟩; obtain ⟨hr, hq, hb⟩ := bl2 hbc hr hq hb) | (go_at_call 80; refine (HG.out _).mono ?_; rintro e W ⟨rfl, hbc⟩; obtain ⟨hr, hq, hb⟩ := bl2 hbc hr hq hb) | ((with_reducible refine st_h (w.heap.size + 1) _ (nextH h) hq ?_ ?_ ?_); exact rfl; exact rfl; intro W hnew ho; obtain ⟨hr, hb⟩ := on1 ho hr hb; replace hq := hnew))
  refine bodyPost_ret (results_cell_row Tryd.results57 _ _ (w.heap.size + 1) _ _ _ _ rfl hq Tryd.underlying31 rfl size_hart) rfl ?_
  exact ⟨rfl, hb⟩

set_option maxHeartbeats 1000000 in
theorem compute_any (h : H) (ok : h.Ok) (rd : Nat) (hrd : rd < 32) (op : Nat) (hop : op < 18) (c : Int) (hc : c = op) (a b : Nat) (ha : a < 4294967296) (hb' : b < 4294967296) (hv : doN op a b < 4294967296) (w : World) :
    Calls Tryd.prog 58 #[.agg h.cells, .int .i64 rd, .int .i64 c, .int .u32 a, .int .u32 b] w fun e w' => e = .returned (.agg (nextH (writeH h rd (doN op a b))).cells) ∧ Below w.heap.size w w' := by
  subst hc
  have HD := hide (fun w => do_any op hop a b ha hb' w)
  have HW := hide (fun w => write_any h rd hrd (doN op a b) w)
  have HN := hide (fun w => next_any _ (writeH_ok ok rd hv) w)
  go_enter Tryd.func58, Tryd.ntmps58
  go_wp2_with (first | ((with_reducible refine bx_h w.heap.size h ?_ ?_ ?_); exact rfl; exact rfl; intro W hr hb hz) | ((with_reducible refine al_h (w.heap.size + 1) ?_ ?_); exact hz.out; intro W hq hb' hz'; obtain ⟨hr, hb⟩ := an1 hz hb' hr hb; replace hz := hz') | ((with_reducible refine ld_h w.heap.size _ hr ?_ ?_); exact rfl) | (go_at_call 86; refine (HD.out _).mono ?_; rintro e W ⟨rfl, nd, rfl⟩; replace hr := hr.dn nd; replace hq := hq.dn nd; replace hb := below_dn hb nd) | (go_at_call 46; refine (HW.out _).mono ?_; rintro e W ⟨rfl, hbc⟩; obtain ⟨hr, hq, hb⟩ := bl2 hbc hr hq hb) | (go_at_call 45; refine (HN.out _).mono ?_; rintro e W ⟨rfl, hbc⟩; obtain ⟨hr, hq, hb⟩ := bl2 hbc hr hq hb) | ((with_reducible refine st_h (w.heap.size + 1) _ (nextH (writeH h rd (doN op a b))) hq ?_ ?_ ?_); exact rfl; exact rfl; intro W hnew ho; obtain ⟨hr, hb⟩ := on1 ho hr hb; replace hq := hnew))
  refine bodyPost_ret (results_cell_row Tryd.results58 _ _ (w.heap.size + 1) _ _ _ _ rfl hq Tryd.underlying31 rfl size_hart) rfl ?_
  exact ⟨rfl, hb⟩

set_option maxHeartbeats 1000000 in
theorem upper_0 (h : H) (ok : h.Ok) (op s1 s2 im cs : Int) (rd : Nat) (hrd : rd < 32) (t0 : (op == 1) = false) (w : World) :
    Calls Tryd.prog 55 #[.agg h.cells, .agg (I6.cells ⟨op, rd, s1, s2, im, cs⟩)] w fun e w' => e = .returned (.agg (nextH (writeH h rd (immN im))).cells) ∧ Below w.heap.size w w' := by
  have HW : Hid (∀ z : Int, z = ((immN im : Nat) : Int) → ∀ w, Calls Tryd.prog 46 #[.agg h.cells, .int .i64 rd, .int .u32 z] w fun e w' => e = .returned (.agg (writeH h rd (immN im)).cells) ∧ Below w.heap.size w w') := hide (fun z hz w => hz ▸ write_any h rd hrd (immN im) w)
  have hv : immN im < 4294967296 := immN_lt im
  have HN := hide (fun w => next_any _ (writeH_ok ok rd hv) w)
  have e0 := hide (immN_cast im)
  go_enter Tryd.func55, Tryd.ntmps55
  go_wp2_with (first | ((with_reducible refine bx_h w.heap.size h ?_ ?_ ?_); exact rfl; exact rfl; intro W hr hb hz) | ((with_reducible refine bx_i (w.heap.size + 1) ⟨op, rd, s1, s2, im, cs⟩ ?_ ?_ ?_); exact hz.out; exact rfl; intro W hi hb' hz'; obtain ⟨hr, hb⟩ := an1 hz hb' hr hb; replace hz := hz') | ((with_reducible refine al_h (w.heap.size + 2) ?_ ?_); exact hz.out; intro W hq hb' hz'; obtain ⟨hr, hi, hb⟩ := an2 hz hb' hr hi hb; replace hz := hz') | ((with_reducible refine ld_h w.heap.size _ hr ?_ ?_); exact rfl) | ((with_reducible refine ld_pc w.heap.size _ hr ?_ ?_); exact rfl) | ((with_reducible refine ld_op (w.heap.size + 1) _ hi ?_ ?_); exact rfl) | ((with_reducible refine ld_rd (w.heap.size + 1) _ hi ?_ ?_); exact rfl) | ((with_reducible refine ld_imm (w.heap.size + 1) _ hi ?_ ?_); exact rfl) | (go_at_call 46; refine (HW.out _ ?_ _).mono ?_; (have := e0.out; clear e0; omega); rintro e W ⟨rfl, hbc⟩; obtain ⟨hr, hi, hq, hb⟩ := bl3 hbc hr hi hq hb) | (go_at_call 45; refine (HN.out _).mono ?_; rintro e W ⟨rfl, hbc⟩; obtain ⟨hr, hi, hq, hb⟩ := bl3 hbc hr hi hq hb) | ((with_reducible refine st_h (w.heap.size + 2) _ (nextH (writeH h rd (immN im))) hq ?_ ?_ ?_); exact rfl; exact rfl; intro W hnew ho; obtain ⟨hr, hi, hb⟩ := on2 ho hr hi hb; replace hq := hnew))
  refine bodyPost_ret (results_cell_row Tryd.results55 _ _ (w.heap.size + 2) _ _ _ _ rfl hq Tryd.underlying31 rfl size_hart) rfl ?_
  exact ⟨rfl, hb⟩

set_option maxHeartbeats 1000000 in
theorem upper_1 (h : H) (ok : h.Ok) (op s1 s2 im cs : Int) (rd : Nat) (hrd : rd < 32) (t0 : (op == 1) = true) (w : World) :
    Calls Tryd.prog 55 #[.agg h.cells, .agg (I6.cells ⟨op, rd, s1, s2, im, cs⟩)] w fun e w' => e = .returned (.agg (nextH (writeH h rd ((immN im + h.pc) % 4294967296))).cells) ∧ Below w.heap.size w w' := by
  have HW : Hid (∀ z : Int, z = (((immN im + h.pc) % 4294967296 : Nat) : Int) → ∀ w, Calls Tryd.prog 46 #[.agg h.cells, .int .i64 rd, .int .u32 z] w fun e w' => e = .returned (.agg (writeH h rd ((immN im + h.pc) % 4294967296)).cells) ∧ Below w.heap.size w w') := hide (fun z hz w => hz ▸ write_any h rd hrd ((immN im + h.pc) % 4294967296) w)
  have hv : (immN im + h.pc) % 4294967296 < 4294967296 := Nat.mod_lt _ (by decide)
  have HN := hide (fun w => next_any _ (writeH_ok ok rd hv) w)
  have e0 := hide (immN_cast im)
  go_enter Tryd.func55, Tryd.ntmps55
  go_wp2_with (first | ((with_reducible refine bx_h w.heap.size h ?_ ?_ ?_); exact rfl; exact rfl; intro W hr hb hz) | ((with_reducible refine bx_i (w.heap.size + 1) ⟨op, rd, s1, s2, im, cs⟩ ?_ ?_ ?_); exact hz.out; exact rfl; intro W hi hb' hz'; obtain ⟨hr, hb⟩ := an1 hz hb' hr hb; replace hz := hz') | ((with_reducible refine al_h (w.heap.size + 2) ?_ ?_); exact hz.out; intro W hq hb' hz'; obtain ⟨hr, hi, hb⟩ := an2 hz hb' hr hi hb; replace hz := hz') | ((with_reducible refine ld_h w.heap.size _ hr ?_ ?_); exact rfl) | ((with_reducible refine ld_pc w.heap.size _ hr ?_ ?_); exact rfl) | ((with_reducible refine ld_op (w.heap.size + 1) _ hi ?_ ?_); exact rfl) | ((with_reducible refine ld_rd (w.heap.size + 1) _ hi ?_ ?_); exact rfl) | ((with_reducible refine ld_imm (w.heap.size + 1) _ hi ?_ ?_); exact rfl) | (go_at_call 46; refine (HW.out _ ?_ _).mono ?_; (have := e0.out; clear e0; omega); rintro e W ⟨rfl, hbc⟩; obtain ⟨hr, hi, hq, hb⟩ := bl3 hbc hr hi hq hb) | (go_at_call 45; refine (HN.out _).mono ?_; rintro e W ⟨rfl, hbc⟩; obtain ⟨hr, hi, hq, hb⟩ := bl3 hbc hr hi hq hb) | ((with_reducible refine st_h (w.heap.size + 2) _ (nextH (writeH h rd ((immN im + h.pc) % 4294967296))) hq ?_ ?_ ?_); exact rfl; exact rfl; intro W hnew ho; obtain ⟨hr, hi, hb⟩ := on2 ho hr hi hb; replace hq := hnew))
  refine bodyPost_ret (results_cell_row Tryd.results55 _ _ (w.heap.size + 2) _ _ _ _ rfl hq Tryd.underlying31 rfl size_hart) rfl ?_
  exact ⟨rfl, hb⟩

set_option maxHeartbeats 1000000 in
theorem system_47 (h : H) (ok : h.Ok) (w : World) :
    Calls Tryd.prog 59 #[.agg h.cells, .int .i64 47] w fun e w' => e = .returned (.agg (trapH h 11 0).cells) ∧ Below w.heap.size w w' := by
  have HT := hide (fun w => trap_any h ok 11 0 (by decide) w)
  rw [show (((11 : Nat) : Int)) = 11 from rfl, show (((0 : Nat) : Int)) = 0 from rfl] at HT
  go_enter Tryd.func59, Tryd.ntmps59
  go_wp2_with (first | ((with_reducible refine bx_h w.heap.size h ?_ ?_ ?_); exact rfl; exact rfl; intro W hr hb hz) | ((with_reducible refine al_h (w.heap.size + 1) ?_ ?_); exact hz.out; intro W hq hb' hz'; obtain ⟨hr, hb⟩ := an1 hz hb' hr hb; replace hz := hz') | ((with_reducible refine ld_h w.heap.size _ hr ?_ ?_); exact rfl) | ((with_reducible refine ld_pc w.heap.size _ hr ?_ ?_); exact rfl) | (go_at_call 22; refine (HT.out _).mono ?_; rintro e W ⟨rfl, hbc⟩; obtain ⟨hr, hq, hb⟩ := bl2 hbc hr hq hb) | ((with_reducible refine st_h (w.heap.size + 1) _ (trapH h 11 0) hq ?_ ?_ ?_); exact rfl; exact rfl; intro W hnew ho; obtain ⟨hr, hb⟩ := on1 ho hr hb; replace hq := hnew))
  refine bodyPost_ret (results_cell_row Tryd.results59 _ _ (w.heap.size + 1) _ _ _ _ rfl hq Tryd.underlying31 rfl size_hart) rfl ?_
  exact ⟨rfl, hb⟩

set_option maxHeartbeats 1000000 in
theorem system_48 (h : H) (ok : h.Ok) (w : World) :
    Calls Tryd.prog 59 #[.agg h.cells, .int .i64 48] w fun e w' => e = .returned (.agg (trapH h 3 h.pc).cells) ∧ Below w.heap.size w w' := by
  have HT := hide (fun w => trap_any h ok 3 h.pc (by decide) w)
  rw [show (((3 : Nat) : Int)) = 3 from rfl] at HT
  go_enter Tryd.func59, Tryd.ntmps59
  go_wp2_with (first | ((with_reducible refine bx_h w.heap.size h ?_ ?_ ?_); exact rfl; exact rfl; intro W hr hb hz) | ((with_reducible refine al_h (w.heap.size + 1) ?_ ?_); exact hz.out; intro W hq hb' hz'; obtain ⟨hr, hb⟩ := an1 hz hb' hr hb; replace hz := hz') | ((with_reducible refine ld_h w.heap.size _ hr ?_ ?_); exact rfl) | ((with_reducible refine ld_pc w.heap.size _ hr ?_ ?_); exact rfl) | (go_at_call 22; refine (HT.out _).mono ?_; rintro e W ⟨rfl, hbc⟩; obtain ⟨hr, hq, hb⟩ := bl2 hbc hr hq hb) | ((with_reducible refine st_h (w.heap.size + 1) _ (trapH h 3 h.pc) hq ?_ ?_ ?_); exact rfl; exact rfl; intro W hnew ho; obtain ⟨hr, hb⟩ := on1 ho hr hb; replace hq := hnew))
  refine bodyPost_ret (results_cell_row Tryd.results59 _ _ (w.heap.size + 1) _ _ _ _ rfl hq Tryd.underlying31 rfl size_hart) rfl ?_
  exact ⟨rfl, hb⟩

theorem cs_return_bl (s : S8) (hs : s.Ok) (w : World) :
    Calls Tryd.prog 87 #[.agg s.cells] w fun e w' => e = .returned (.tuple #[.agg (retN s).cells, .int .u32 (s.ep : Nat)]) ∧ Below w.heap.size w w' :=
  (cs_return_any s hs w).mono fun e w' ⟨he, o, o', hw⟩ => ⟨he, hw ▸ (below_two w o o').drew⟩
set_option maxHeartbeats 1000000 in
theorem system_49 (h : H) (ok : h.Ok) (w : World) :
    Calls Tryd.prog 59 #[.agg h.cells, .int .i64 49] w fun e w' => e = .returned (.agg (goH (withC h (retN h.c)) h.c.ep).cells) ∧ Below w.heap.size w w' := by
  have HR := hide (fun w => cs_return_bl h.c ok.c w)
  have ok' : (withC h (retN h.c)).Ok := ⟨ok.pc, ok.x, retN_ok ok.c⟩
  have HG := hide (fun w => go_any _ ok' h.c.ep w)
  go_enter Tryd.func59, Tryd.ntmps59
  go_wp2_with (first | ((with_reducible refine bx_h w.heap.size h ?_ ?_ ?_); exact rfl; exact rfl; intro W hr hb hz) | ((with_reducible refine al_h (w.heap.size + 1) ?_ ?_); exact hz.out; intro W hq hb' hz'; obtain ⟨hr, hb⟩ := an1 hz hb' hr hb; replace hz := hz') | ((with_reducible refine ld_h w.heap.size _ hr ?_ ?_); exact rfl) | ((with_reducible refine ld_pc w.heap.size _ hr ?_ ?_); exact rfl) | ((with_reducible refine ld_c w.heap.size _ hr ?_ ?_); exact rfl) | (go_at_call 87; refine (HR.out _).mono ?_; rintro e W ⟨rfl, hbc⟩; obtain ⟨hr, hq, hb⟩ := bl2 hbc hr hq hb) | ((with_reducible refine st_c w.heap.size _ (retN h.c) hr ?_ ?_ ?_); exact rfl; exact rfl; intro W hnew ho; obtain ⟨hq, hb⟩ := on1 ho hq hb; replace hr := hnew) | (go_at_call 80; refine (HG.out _).mono ?_; rintro e W ⟨rfl, hbc⟩; obtain ⟨hr, hq, hb⟩ := bl2 hbc hr hq hb) | ((with_reducible refine st_h (w.heap.size + 1) _ (goH (withC h (retN h.c)) h.c.ep) hq ?_ ?_ ?_); exact rfl; exact rfl; intro W hnew ho; obtain ⟨hr, hb⟩ := on1 ho hr hb; replace hq := hnew))
  refine bodyPost_ret (results_cell_row Tryd.results59 _ _ (w.heap.size + 1) _ _ _ _ rfl hq Tryd.underlying31 rfl size_hart) rfl ?_
  exact ⟨rfl, hb⟩

set_option maxHeartbeats 1000000 in
theorem system_50 (h : H) (ok : h.Ok) (w : World) :
    Calls Tryd.prog 59 #[.agg h.cells, .int .i64 50] w fun e w' => e = .returned (.agg (nextH ⟨h.pc, h.x, true, h.c⟩).cells) ∧ Below w.heap.size w w' := by
  have ok' : H.Ok ⟨h.pc, h.x, true, h.c⟩ := ⟨ok.pc, ok.x, ok.c⟩
  have HN := hide (fun w => next_any _ ok' w)
  go_enter Tryd.func59, Tryd.ntmps59
  go_wp2_with (first | ((with_reducible refine bx_h w.heap.size h ?_ ?_ ?_); exact rfl; exact rfl; intro W hr hb hz) | ((with_reducible refine al_h (w.heap.size + 1) ?_ ?_); exact hz.out; intro W hq hb' hz'; obtain ⟨hr, hb⟩ := an1 hz hb' hr hb; replace hz := hz') | ((with_reducible refine ld_h w.heap.size _ hr ?_ ?_); exact rfl) | ((with_reducible refine ld_pc w.heap.size _ hr ?_ ?_); exact rfl) | ((with_reducible refine st_wt w.heap.size _ true hr ?_ ?_ ?_); exact rfl; exact rfl; intro W hnew ho; obtain ⟨hq, hb⟩ := on1 ho hq hb; replace hr := hnew) | (go_at_call 45; refine (HN.out _).mono ?_; rintro e W ⟨rfl, hbc⟩; obtain ⟨hr, hq, hb⟩ := bl2 hbc hr hq hb) | ((with_reducible refine st_h (w.heap.size + 1) _ (nextH ⟨h.pc, h.x, true, h.c⟩) hq ?_ ?_ ?_); exact rfl; exact rfl; intro W hnew ho; obtain ⟨hr, hb⟩ := on1 ho hr hb; replace hq := hnew))
  refine bodyPost_ret (results_cell_row Tryd.results59 _ _ (w.heap.size + 1) _ _ _ _ rfl hq Tryd.underlying31 rfl size_hart) rfl ?_
  exact ⟨rfl, hb⟩

set_option maxHeartbeats 400000 in
theorem mixed_51 (old v : Nat) (ho : old < 4294967296) (hv : v < 4294967296) (w : World) :
    Calls Tryd.prog 54 #[.int .i64 51, .int .u32 old, .int .u32 v] w fun e w' => e = .returned (.int .u32 (mixN 51 old v : Nat)) ∧ w' = w := by
  have HX : Hid ((v : Int) = ((mixN 51 old v : Nat) : Int)) := hide rfl
  go_enter Tryd.func54, Tryd.ntmps54
  go_wp2
  go_ret
  exact ⟨ret_int HX.out, rfl⟩
set_option maxHeartbeats 400000 in
theorem mixed_54 (old v : Nat) (ho : old < 4294967296) (hv : v < 4294967296) (w : World) :
    Calls Tryd.prog 54 #[.int .i64 54, .int .u32 old, .int .u32 v] w fun e w' => e = .returned (.int .u32 (mixN 54 old v : Nat)) ∧ w' = w := by
  have HX : Hid ((v : Int) = ((mixN 54 old v : Nat) : Int)) := hide rfl
  go_enter Tryd.func54, Tryd.ntmps54
  go_wp2
  go_ret
  exact ⟨ret_int HX.out, rfl⟩
set_option maxHeartbeats 400000 in
theorem mixed_52 (old v : Nat) (ho : old < 4294967296) (hv : v < 4294967296) (w : World) :
    Calls Tryd.prog 54 #[.int .i64 52, .int .u32 old, .int .u32 v] w fun e w' => e = .returned (.int .u32 (mixN 52 old v : Nat)) ∧ w' = w := by
  have HX : Hid (bits .or .u32 (old : Int) (v : Int) = ((mixN 52 old v : Nat) : Int)) := u32_or_nat old v ho hv
  go_enter Tryd.func54, Tryd.ntmps54
  go_wp2
  go_ret
  exact ⟨ret_int HX.out, rfl⟩
set_option maxHeartbeats 400000 in
theorem mixed_55 (old v : Nat) (ho : old < 4294967296) (hv : v < 4294967296) (w : World) :
    Calls Tryd.prog 54 #[.int .i64 55, .int .u32 old, .int .u32 v] w fun e w' => e = .returned (.int .u32 (mixN 55 old v : Nat)) ∧ w' = w := by
  have HX : Hid (bits .or .u32 (old : Int) (v : Int) = ((mixN 55 old v : Nat) : Int)) := u32_or_nat old v ho hv
  go_enter Tryd.func54, Tryd.ntmps54
  go_wp2
  go_ret
  exact ⟨ret_int HX.out, rfl⟩
set_option maxHeartbeats 400000 in
theorem mixed_53 (old v : Nat) (ho : old < 4294967296) (hv : v < 4294967296) (w : World) :
    Calls Tryd.prog 54 #[.int .i64 53, .int .u32 old, .int .u32 v] w fun e w' => e = .returned (.int .u32 (mixN 53 old v : Nat)) ∧ w' = w := by
  have HX : Hid (bits .andNot .u32 (old : Int) (v : Int) = ((mixN 53 old v : Nat) : Int)) := u32_andNot_nat old v ho hv
  go_enter Tryd.func54, Tryd.ntmps54
  go_wp2
  go_ret
  exact ⟨ret_int HX.out, rfl⟩
set_option maxHeartbeats 400000 in
theorem mixed_56 (old v : Nat) (ho : old < 4294967296) (hv : v < 4294967296) (w : World) :
    Calls Tryd.prog 54 #[.int .i64 56, .int .u32 old, .int .u32 v] w fun e w' => e = .returned (.int .u32 (mixN 56 old v : Nat)) ∧ w' = w := by
  have HX : Hid (bits .andNot .u32 (old : Int) (v : Int) = ((mixN 56 old v : Nat) : Int)) := u32_andNot_nat old v ho hv
  go_enter Tryd.func54, Tryd.ntmps54
  go_wp2
  go_ret
  exact ⟨ret_int HX.out, rfl⟩
end Go.Proofs.YtchjhpeogdkbmaaDoor
