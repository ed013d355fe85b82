/-
  What hart.Do answers, by what its callees answer.
-/
import Derived.Test.YtchjhpeogdkbmaaDoorTk
import Derived.Test.YtchjhpeogdkbmaaDoorHaSys
import Derived.Test.YtchjhpeogdkbmaaDoorHInKind
namespace Go.Proofs.YtchjhpeogdkbmaaDoor
open Go.RowKit
set_option linter.unusedVariables false

theorem field5_lt (v : Nat) (lo : Int) : fieldW v lo 5 < 32 := Nat.lt_of_le_of_lt Nat.and_le_right (by decide : placesN 0 5 < 32)
theorem told_shape (op v : Nat) : ∃ (rd s1 s2 : Nat) (im cs : Int), toldN op v = ⟨op, rd, s1, s2, im, cs⟩ ∧ rd < 32 ∧ s1 < 32 ∧ s2 < 32 := by
  unfold toldN toldK
  split
  · exact ⟨_, 0, 0, _, _, rfl, field5_lt _ _, by decide, by decide⟩
  split
  · exact ⟨_, _, 0, _, _, rfl, field5_lt _ _, field5_lt _ _, by decide⟩
  split
  · exact ⟨0, _, _, _, _, rfl, by decide, field5_lt _ _, field5_lt _ _⟩
  split
  · exact ⟨_, _, _, _, _, rfl, field5_lt _ _, field5_lt _ _, field5_lt _ _⟩
  split
  · exact ⟨_, _, 0, _, _, rfl, field5_lt _ _, field5_lt _ _, by decide⟩
  · exact ⟨0, 0, 0, _, _, rfl, by decide, by decide, by decide⟩
theorem oneN_lt (s : Bool) : oneN s < 4294967296 := by cases s <;> decide
theorem doN_lt (op a b : Nat) (ha : a < 4294967296) (hb : b < 4294967296) : doN op a b < 4294967296 := by
  unfold doN
  split
  · exact Nat.mod_lt _ (by decide)
  · exact aWrd_lt _
  · exact Nat.mod_lt _ (by decide)
  · exact oneN_lt _
  · exact oneN_lt _
  · exact Nat.xor_lt_two_pow (n := 32) ha hb
  · exact Nat.lt_of_le_of_lt (Nat.div_le_self _ _) ha
  · exact aWrd_lt _
  · exact or_lt32 ha hb
  · exact and_lt ha
  · exact loN_lt _ _ _ _
  · exact hiN_lt _ _ _ _
  · exact hiN_lt _ _ _ _
  · exact hiN_lt _ _ _ _
  · exact quoN_lt _ _ _
  · exact quoN_lt _ _ _
  · exact remN_lt _ _ _ ha
  · exact remN_lt _ _ _ ha

set_option maxHeartbeats 1000000 in
theorem do_none (h : H) (v l : Nat) (ok : h.Ok) (w : World) (hD : ∀ w', Below w.heap.size w w' → Calls Tryd.prog 21 #[.int .u32 v] w' fun e w2 => e = .returned (.tuple #[.agg zeroI.cells, .iface 89 (.int .i64 3)]) ∧ Below w'.heap.size w' w2) :
    Calls Tryd.prog 8 #[.agg h.cells, .int .u32 v, .int .u32 l] w fun e w' => e = .returned (.tuple #[.agg (trapH h 2 v).cells, .agg (noA).cells]) ∧ Below w.heap.size w w' := by
  have HD := hide hD
  clear hD
  have HT := hide (fun w => trap_any h ok 2 v (by decide) w)
  rw [show (((2 : Nat) : Int)) = 2 from rfl] at HT
  go_enter Tryd.func8, Tryd.ntmps8
  go_wp2_with (first | ((with_reducible refine bx_h w.heap.size h ?_ ?_ ?_); exact rfl; exact rfl; intro W hr hb hz) | ((with_reducible refine al_h (w.heap.size + 1) ?_ ?_); exact hz.out; intro W hq hb' hz'; obtain ⟨hr, hb⟩ := an1 hz hb' hr hb; replace hz := hz') | ((with_reducible refine al_a (w.heap.size + 2) ?_ ?_); exact hz.out; intro W ha hb' hz'; obtain ⟨hr, hq, hb⟩ := an2 hz hb' hr hq hb; replace hz := hz') | (go_at_call 21; refine (HD.out _ hb).mono ?_; rintro e W ⟨rfl, hbc⟩; obtain ⟨hr, hq, ha, hb⟩ := bl3 hbc hr hq ha hb; obtain ⟨NI, hNI⟩ : ∃ n, W.heap.size = n := ⟨_, rfl⟩; have hlt : w.heap.size + 3 ≤ NI := (by (have := hz.out; have := hbc.size; omega)); replace hNI := hide hNI) | ((with_reducible refine al_i NI ?_ ?_); exact hNI.out; intro W hi hb' hz'; obtain ⟨hr, hq, ha, hb⟩ := an3 hNI hb' hr hq ha hb) | ((with_reducible refine st_i NI _ zeroI hi ?_ ?_ ?_); exact rfl; exact rfl; intro W hnew ho; obtain ⟨hr, hq, ha, hb⟩ := on3 ho hr hq ha hb; replace hi := hnew) | ((with_reducible refine ld_h w.heap.size _ hr ?_ ?_); exact rfl) | ((with_reducible refine ld_i NI _ hi ?_ ?_); exact rfl) | ((with_reducible refine ld_op NI _ hi ?_ ?_); exact rfl) | (go_at_call 22; refine (HT.out _).mono ?_; rintro e W ⟨rfl, hbc⟩; obtain ⟨hr, hq, ha, hi, hb⟩ := bl4 hbc hr hq ha hi hb) | ((with_reducible refine st_h (w.heap.size + 1) _ (trapH h 2 v) hq ?_ ?_ ?_); exact rfl; exact rfl; intro W hnew ho; obtain ⟨hr, ha, hi, hb⟩ := on3 ho hr ha hi hb; replace hq := hnew) | ((with_reducible refine st_a (w.heap.size + 2) _ (noA) ha ?_ ?_ ?_); exact rfl; exact rfl; intro W hnew ho; obtain ⟨hr, hq, hi, hb⟩ := on3 ho hr hq hi hb; replace ha := hnew))
  refine bodyPost_ret (results_two_rows Tryd.results8 _ _ (w.heap.size + 1) (w.heap.size + 2) _ _ _ _ _ _ rfl hq Tryd.underlying31 rfl size_hart rfl ha Tryd.underlying33 rfl size_acc) rfl ?_
  exact ⟨rfl, hb⟩

set_option maxHeartbeats 1000000 in
theorem do_L (h : H) (v l : Nat) (op : Nat) (rd s1 s2 : Nat) (im cs : Int)  (w : World) (hD : ∀ w', Below w.heap.size w w' → Calls Tryd.prog 21 #[.int .u32 v] w' fun e w2 => e = .returned (.tuple #[.agg (I6.cells ⟨op, rd, s1, s2, im, cs⟩), .nilIface]) ∧ Below w'.heap.size w' w2) (hK : ∀ w', Below w.heap.size w w' → Calls Tryd.prog 23 #[.int .i64 op] w' fun e w2 => e = .returned (.int .u8 76) ∧ w2 = w') (h2 : H) (a2 : A6) (hC : ∀ w', Below w.heap.size w w' → Calls Tryd.prog 24 #[.agg h.cells, .agg (I6.cells ⟨op, rd, s1, s2, im, cs⟩)] w' fun e w2 => e = .returned (.tuple #[.agg h2.cells, .agg a2.cells]) ∧ Below w'.heap.size w' w2) :
    Calls Tryd.prog 8 #[.agg h.cells, .int .u32 v, .int .u32 l] w fun e w' => e = .returned (.tuple #[.agg (h2).cells, .agg (a2).cells]) ∧ Below w.heap.size w w' := by
  have HD := hide hD
  have HK := hide hK
  have HC := hide hC
  clear hD hK hC
  go_enter Tryd.func8, Tryd.ntmps8
  go_wp2_with (first | ((with_reducible refine bx_h w.heap.size h ?_ ?_ ?_); exact rfl; exact rfl; intro W hr hb hz) | ((with_reducible refine al_h (w.heap.size + 1) ?_ ?_); exact hz.out; intro W hq hb' hz'; obtain ⟨hr, hb⟩ := an1 hz hb' hr hb; replace hz := hz') | ((with_reducible refine al_a (w.heap.size + 2) ?_ ?_); exact hz.out; intro W ha hb' hz'; obtain ⟨hr, hq, hb⟩ := an2 hz hb' hr hq hb; replace hz := hz') | (go_at_call 21; refine (HD.out _ hb).mono ?_; rintro e W ⟨rfl, hbc⟩; obtain ⟨hr, hq, ha, hb⟩ := bl3 hbc hr hq ha hb; obtain ⟨NI, hNI⟩ : ∃ n, W.heap.size = n := ⟨_, rfl⟩; have hlt : w.heap.size + 3 ≤ NI := (by (have := hz.out; have := hbc.size; omega)); replace hNI := hide hNI) | ((with_reducible refine al_i NI ?_ ?_); exact hNI.out; intro W hi hb' hz'; obtain ⟨hr, hq, ha, hb⟩ := an3 hNI hb' hr hq ha hb) | ((with_reducible refine st_i NI _ ⟨op, rd, s1, s2, im, cs⟩ hi ?_ ?_ ?_); exact rfl; exact rfl; intro W hnew ho; obtain ⟨hr, hq, ha, hb⟩ := on3 ho hr hq ha hb; replace hi := hnew) | ((with_reducible refine ld_h w.heap.size _ hr ?_ ?_); exact rfl) | ((with_reducible refine ld_i NI _ hi ?_ ?_); exact rfl) | ((with_reducible refine ld_op NI _ hi ?_ ?_); exact rfl) | (go_at_call 23; refine (HK.out _ hb).mono ?_; rintro e W ⟨rfl, rfl⟩) | (go_at_call 24; refine (HC.out _ hb).mono ?_; rintro e W ⟨rfl, hbc⟩; obtain ⟨hr, hq, ha, hi, hb⟩ := bl4 hbc hr hq ha hi hb) | ((with_reducible refine st_h (w.heap.size + 1) _ (h2) hq ?_ ?_ ?_); exact rfl; exact rfl; intro W hnew ho; obtain ⟨hr, ha, hi, hb⟩ := on3 ho hr ha hi hb; replace hq := hnew) | ((with_reducible refine st_a (w.heap.size + 2) _ (a2) ha ?_ ?_ ?_); exact rfl; exact rfl; intro W hnew ho; obtain ⟨hr, hq, hi, hb⟩ := on3 ho hr hq hi hb; replace ha := hnew))
  refine bodyPost_ret (results_two_rows Tryd.results8 _ _ (w.heap.size + 1) (w.heap.size + 2) _ _ _ _ _ _ rfl hq Tryd.underlying31 rfl size_hart rfl ha Tryd.underlying33 rfl size_acc) rfl ?_
  exact ⟨rfl, hb⟩

set_option maxHeartbeats 1000000 in
theorem do_S (h : H) (v l : Nat) (op : Nat) (rd s1 s2 : Nat) (im cs : Int)  (w : World) (hD : ∀ w', Below w.heap.size w w' → Calls Tryd.prog 21 #[.int .u32 v] w' fun e w2 => e = .returned (.tuple #[.agg (I6.cells ⟨op, rd, s1, s2, im, cs⟩), .nilIface]) ∧ Below w'.heap.size w' w2) (hK : ∀ w', Below w.heap.size w w' → Calls Tryd.prog 23 #[.int .i64 op] w' fun e w2 => e = .returned (.int .u8 83) ∧ w2 = w') (h2 : H) (a2 : A6) (hC : ∀ w', Below w.heap.size w w' → Calls Tryd.prog 25 #[.agg h.cells, .agg (I6.cells ⟨op, rd, s1, s2, im, cs⟩)] w' fun e w2 => e = .returned (.tuple #[.agg h2.cells, .agg a2.cells]) ∧ Below w'.heap.size w' w2) :
    Calls Tryd.prog 8 #[.agg h.cells, .int .u32 v, .int .u32 l] w fun e w' => e = .returned (.tuple #[.agg (h2).cells, .agg (a2).cells]) ∧ Below w.heap.size w w' := by
  have HD := hide hD
  have HK := hide hK
  have HC := hide hC
  clear hD hK hC
  go_enter Tryd.func8, Tryd.ntmps8
  go_wp2_with (first | ((with_reducible refine bx_h w.heap.size h ?_ ?_ ?_); exact rfl; exact rfl; intro W hr hb hz) | ((with_reducible refine al_h (w.heap.size + 1) ?_ ?_); exact hz.out; intro W hq hb' hz'; obtain ⟨hr, hb⟩ := an1 hz hb' hr hb; replace hz := hz') | ((with_reducible refine al_a (w.heap.size + 2) ?_ ?_); exact hz.out; intro W ha hb' hz'; obtain ⟨hr, hq, hb⟩ := an2 hz hb' hr hq hb; replace hz := hz') | (go_at_call 21; refine (HD.out _ hb).mono ?_; rintro e W ⟨rfl, hbc⟩; obtain ⟨hr, hq, ha, hb⟩ := bl3 hbc hr hq ha hb; obtain ⟨NI, hNI⟩ : ∃ n, W.heap.size = n := ⟨_, rfl⟩; have hlt : w.heap.size + 3 ≤ NI := (by (have := hz.out; have := hbc.size; omega)); replace hNI := hide hNI) | ((with_reducible refine al_i NI ?_ ?_); exact hNI.out; intro W hi hb' hz'; obtain ⟨hr, hq, ha, hb⟩ := an3 hNI hb' hr hq ha hb) | ((with_reducible refine st_i NI _ ⟨op, rd, s1, s2, im, cs⟩ hi ?_ ?_ ?_); exact rfl; exact rfl; intro W hnew ho; obtain ⟨hr, hq, ha, hb⟩ := on3 ho hr hq ha hb; replace hi := hnew) | ((with_reducible refine ld_h w.heap.size _ hr ?_ ?_); exact rfl) | ((with_reducible refine ld_i NI _ hi ?_ ?_); exact rfl) | ((with_reducible refine ld_op NI _ hi ?_ ?_); exact rfl) | (go_at_call 23; refine (HK.out _ hb).mono ?_; rintro e W ⟨rfl, rfl⟩) | (go_at_call 25; refine (HC.out _ hb).mono ?_; rintro e W ⟨rfl, hbc⟩; obtain ⟨hr, hq, ha, hi, hb⟩ := bl4 hbc hr hq ha hi hb) | ((with_reducible refine st_h (w.heap.size + 1) _ (h2) hq ?_ ?_ ?_); exact rfl; exact rfl; intro W hnew ho; obtain ⟨hr, ha, hi, hb⟩ := on3 ho hr ha hi hb; replace hq := hnew) | ((with_reducible refine st_a (w.heap.size + 2) _ (a2) ha ?_ ?_ ?_); exact rfl; exact rfl; intro W hnew ho; obtain ⟨hr, hq, hi, hb⟩ := on3 ho hr hq hi hb; replace ha := hnew))
  refine bodyPost_ret (results_two_rows Tryd.results8 _ _ (w.heap.size + 1) (w.heap.size + 2) _ _ _ _ _ _ rfl hq Tryd.underlying31 rfl size_hart rfl ha Tryd.underlying33 rfl size_acc) rfl ?_
  exact ⟨rfl, hb⟩

set_option maxHeartbeats 1000000 in
theorem do_C (h : H) (v l : Nat) (op : Nat) (rd s1 s2 : Nat) (im cs : Int)  (w : World) (hD : ∀ w', Below w.heap.size w w' → Calls Tryd.prog 21 #[.int .u32 v] w' fun e w2 => e = .returned (.tuple #[.agg (I6.cells ⟨op, rd, s1, s2, im, cs⟩), .nilIface]) ∧ Below w'.heap.size w' w2) (hK : ∀ w', Below w.heap.size w w' → Calls Tryd.prog 23 #[.int .i64 op] w' fun e w2 => e = .returned (.int .u8 67) ∧ w2 = w') (h2 : H) (hC : ∀ w', Below w.heap.size w w' → Calls Tryd.prog 26 #[.agg h.cells, .agg (I6.cells ⟨op, rd, s1, s2, im, cs⟩), .int .u32 v, .int .u32 l] w' fun e w2 => e = .returned (.agg h2.cells) ∧ Below w'.heap.size w' w2) :
    Calls Tryd.prog 8 #[.agg h.cells, .int .u32 v, .int .u32 l] w fun e w' => e = .returned (.tuple #[.agg (h2).cells, .agg (noA).cells]) ∧ Below w.heap.size w w' := by
  have HD := hide hD
  have HK := hide hK
  have HC := hide hC
  clear hD hK hC
  go_enter Tryd.func8, Tryd.ntmps8
  go_wp2_with (first | ((with_reducible refine bx_h w.heap.size h ?_ ?_ ?_); exact rfl; exact rfl; intro W hr hb hz) | ((with_reducible refine al_h (w.heap.size + 1) ?_ ?_); exact hz.out; intro W hq hb' hz'; obtain ⟨hr, hb⟩ := an1 hz hb' hr hb; replace hz := hz') | ((with_reducible refine al_a (w.heap.size + 2) ?_ ?_); exact hz.out; intro W ha hb' hz'; obtain ⟨hr, hq, hb⟩ := an2 hz hb' hr hq hb; replace hz := hz') | (go_at_call 21; refine (HD.out _ hb).mono ?_; rintro e W ⟨rfl, hbc⟩; obtain ⟨hr, hq, ha, hb⟩ := bl3 hbc hr hq ha hb; obtain ⟨NI, hNI⟩ : ∃ n, W.heap.size = n := ⟨_, rfl⟩; have hlt : w.heap.size + 3 ≤ NI := (by (have := hz.out; have := hbc.size; omega)); replace hNI := hide hNI) | ((with_reducible refine al_i NI ?_ ?_); exact hNI.out; intro W hi hb' hz'; obtain ⟨hr, hq, ha, hb⟩ := an3 hNI hb' hr hq ha hb) | ((with_reducible refine st_i NI _ ⟨op, rd, s1, s2, im, cs⟩ hi ?_ ?_ ?_); exact rfl; exact rfl; intro W hnew ho; obtain ⟨hr, hq, ha, hb⟩ := on3 ho hr hq ha hb; replace hi := hnew) | ((with_reducible refine ld_h w.heap.size _ hr ?_ ?_); exact rfl) | ((with_reducible refine ld_i NI _ hi ?_ ?_); exact rfl) | ((with_reducible refine ld_op NI _ hi ?_ ?_); exact rfl) | (go_at_call 23; refine (HK.out _ hb).mono ?_; rintro e W ⟨rfl, rfl⟩) | (go_at_call 26; refine (HC.out _ hb).mono ?_; rintro e W ⟨rfl, hbc⟩; obtain ⟨hr, hq, ha, hi, hb⟩ := bl4 hbc hr hq ha hi hb) | ((with_reducible refine st_h (w.heap.size + 1) _ (h2) hq ?_ ?_ ?_); exact rfl; exact rfl; intro W hnew ho; obtain ⟨hr, ha, hi, hb⟩ := on3 ho hr ha hi hb; replace hq := hnew) | ((with_reducible refine st_a (w.heap.size + 2) _ (noA) ha ?_ ?_ ?_); exact rfl; exact rfl; intro W hnew ho; obtain ⟨hr, hq, hi, hb⟩ := on3 ho hr hq hi hb; replace ha := hnew))
  refine bodyPost_ret (results_two_rows Tryd.results8 _ _ (w.heap.size + 1) (w.heap.size + 2) _ _ _ _ _ _ rfl hq Tryd.underlying31 rfl size_hart rfl ha Tryd.underlying33 rfl size_acc) rfl ?_
  exact ⟨rfl, hb⟩

set_option maxHeartbeats 1000000 in
theorem do_W (h : H) (v l : Nat) (op : Nat) (rd s1 s2 : Nat) (im cs : Int) (k : Nat) (t0 : ((k : Int) == 76) = false) (t1 : ((k : Int) == 83) = false) (t2 : ((k : Int) == 67) = false) (w : World) (hD : ∀ w', Below w.heap.size w w' → Calls Tryd.prog 21 #[.int .u32 v] w' fun e w2 => e = .returned (.tuple #[.agg (I6.cells ⟨op, rd, s1, s2, im, cs⟩), .nilIface]) ∧ Below w'.heap.size w' w2) (hK : ∀ w', Below w.heap.size w w' → Calls Tryd.prog 23 #[.int .i64 op] w' fun e w2 => e = .returned (.int .u8 k) ∧ w2 = w') (h2 : H) (hC : ∀ w', Below w.heap.size w w' → Calls Tryd.prog 27 #[.agg h.cells, .agg (I6.cells ⟨op, rd, s1, s2, im, cs⟩)] w' fun e w2 => e = .returned (.agg h2.cells) ∧ Below w'.heap.size w' w2) :
    Calls Tryd.prog 8 #[.agg h.cells, .int .u32 v, .int .u32 l] w fun e w' => e = .returned (.tuple #[.agg (h2).cells, .agg (noA).cells]) ∧ Below w.heap.size w w' := by
  have HD := hide hD
  have HK := hide hK
  have HC := hide hC
  clear hD hK hC
  go_enter Tryd.func8, Tryd.ntmps8
  go_wp2_with (first | ((with_reducible refine bx_h w.heap.size h ?_ ?_ ?_); exact rfl; exact rfl; intro W hr hb hz) | ((with_reducible refine al_h (w.heap.size + 1) ?_ ?_); exact hz.out; intro W hq hb' hz'; obtain ⟨hr, hb⟩ := an1 hz hb' hr hb; replace hz := hz') | ((with_reducible refine al_a (w.heap.size + 2) ?_ ?_); exact hz.out; intro W ha hb' hz'; obtain ⟨hr, hq, hb⟩ := an2 hz hb' hr hq hb; replace hz := hz') | (go_at_call 21; refine (HD.out _ hb).mono ?_; rintro e W ⟨rfl, hbc⟩; obtain ⟨hr, hq, ha, hb⟩ := bl3 hbc hr hq ha hb; obtain ⟨NI, hNI⟩ : ∃ n, W.heap.size = n := ⟨_, rfl⟩; have hlt : w.heap.size + 3 ≤ NI := (by (have := hz.out; have := hbc.size; omega)); replace hNI := hide hNI) | ((with_reducible refine al_i NI ?_ ?_); exact hNI.out; intro W hi hb' hz'; obtain ⟨hr, hq, ha, hb⟩ := an3 hNI hb' hr hq ha hb) | ((with_reducible refine st_i NI _ ⟨op, rd, s1, s2, im, cs⟩ hi ?_ ?_ ?_); exact rfl; exact rfl; intro W hnew ho; obtain ⟨hr, hq, ha, hb⟩ := on3 ho hr hq ha hb; replace hi := hnew) | ((with_reducible refine ld_h w.heap.size _ hr ?_ ?_); exact rfl) | ((with_reducible refine ld_i NI _ hi ?_ ?_); exact rfl) | ((with_reducible refine ld_op NI _ hi ?_ ?_); exact rfl) | (go_at_call 23; refine (HK.out _ hb).mono ?_; rintro e W ⟨rfl, rfl⟩) | (go_at_call 27; refine (HC.out _ hb).mono ?_; rintro e W ⟨rfl, hbc⟩; obtain ⟨hr, hq, ha, hi, hb⟩ := bl4 hbc hr hq ha hi hb) | ((with_reducible refine st_h (w.heap.size + 1) _ (h2) hq ?_ ?_ ?_); exact rfl; exact rfl; intro W hnew ho; obtain ⟨hr, ha, hi, hb⟩ := on3 ho hr ha hi hb; replace hq := hnew) | ((with_reducible refine st_a (w.heap.size + 2) _ (noA) ha ?_ ?_ ?_); exact rfl; exact rfl; intro W hnew ho; obtain ⟨hr, hq, hi, hb⟩ := on3 ho hr hq hi hb; replace ha := hnew))
  refine bodyPost_ret (results_two_rows Tryd.results8 _ _ (w.heap.size + 1) (w.heap.size + 2) _ _ _ _ _ _ rfl hq Tryd.underlying31 rfl size_hart rfl ha Tryd.underlying33 rfl size_acc) rfl ?_
  exact ⟨rfl, hb⟩

end Go.Proofs.YtchjhpeogdkbmaaDoor
