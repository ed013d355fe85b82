/-
  What the document's Write answers.
-/
import Derived.Test.YtjibjginafjpcaaDoorClRow
namespace Go.Proofs.YtjibjginafjpcaaDoor
open Go.RowKit
set_option linter.unusedVariables false

set_option maxHeartbeats 1000000 in
theorem rwrite_so (s : S3) (hs : s.Ok) (v : Nat) (hv : v < 4294967296) (w : World) :
    Calls Tryd.prog 16 #[.agg s.cells, .int .u32 ((0 : Nat) : Int), .int .u32 (v : Nat)] w fun e w' => e = .returned (.tuple #[.agg (writeV s 0 v).1.cells, .int .i64 ((writeV s 0 v).2 : Nat)]) ∧ Below w.heap.size w w' := by
  rw [show (((0 : Nat) : Int)) = 0 from rfl]
  have h1 := hs.ti
  have h2 := hs.cm
  have HT : Hid (Value.int .u32 ((v : Int) % 2) = .int .u32 ((v % 2 : Nat) : Int)) := hide rfl
  go_enter Tryd.func16, Tryd.ntmps16
  go_wp2_with (first | ((with_reducible refine bx_r w.heap.size s ?_ ?_ ?_); exact rfl; exact rfl; intro W hr hb hz) | ((with_reducible refine al_r (w.heap.size + 1) ?_ ?_); exact hz.out; intro W hq hb' hz'; replace hr := hr.bl (hz.out ▸ hb'); replace hb := hb.trans (hb'.mono (by omega)); replace hz := hz') | ((with_reducible refine st_so w.heap.size _ (v % 2) _ hr ?_ ?_ ?_); exact rfl; exact HT.out; intro W hnew ho; replace hq := hq.only ho (by omega); replace hr := hnew; replace hb := ho.bel _ _ (by omega) hb) | ((with_reducible refine ld_r w.heap.size _ hr ?_ ?_); exact rfl) | ((with_reducible refine st_r (w.heap.size + 1) _ (writeV s 0 v).1 hq ?_ ?_ ?_); exact rfl; exact rfl; intro W hnew ho; replace hr := hr.only ho (by omega); replace hq := hnew; replace hb := ho.bel _ _ (by omega) hb))
  refine bodyPost_ret (results_cell_one Tryd.results16 _ _ (w.heap.size + 1) _ _ _ rfl hq Tryd.underlying25 rfl size_r) rfl ?_
  exact ⟨rfl, hb⟩

set_option maxHeartbeats 1000000 in
theorem rwrite_cl (s : S3) (hs : s.Ok) (v : Nat) (hv : v < 4294967296) (w : World) :
    Calls Tryd.prog 16 #[.agg s.cells, .int .u32 ((16384 : Nat) : Int), .int .u32 (v : Nat)] w fun e w' => e = .returned (.tuple #[.agg (writeV s 16384 v).1.cells, .int .i64 ((writeV s 16384 v).2 : Nat)]) ∧ Below w.heap.size w w' := by
  rw [show (((16384 : Nat) : Int)) = 16384 from rfl]
  have h1 := hs.ti
  have h2 := hs.cm
  have HT : Hid (Value.int .u64 (((s.cm : Nat) : Int) / 4294967296 * 4294967296 + ((v : Nat) : Int)) = .int .u64 (((joinN (highN s.cm) v) : Nat) : Int)) := hide (congrArg _ (by unfold joinN highN; omega))
  go_enter Tryd.func16, Tryd.ntmps16
  go_wp2_with (first | ((with_reducible refine bx_r w.heap.size s ?_ ?_ ?_); exact rfl; exact rfl; intro W hr hb hz) | ((with_reducible refine al_r (w.heap.size + 1) ?_ ?_); exact hz.out; intro W hq hb' hz'; replace hr := hr.bl (hz.out ▸ hb'); replace hb := hb.trans (hb'.mono (by omega)); replace hz := hz') | ((with_reducible refine ld_cm w.heap.size _ _ hr ?_ ?_); exact rfl) | ((with_reducible refine st_cm w.heap.size _ (joinN (highN s.cm) v) _ hr ?_ ?_ ?_); exact rfl; exact HT.out; intro W hnew ho; replace hq := hq.only ho (by omega); replace hr := hnew; replace hb := ho.bel _ _ (by omega) hb) | ((with_reducible refine ld_r w.heap.size _ hr ?_ ?_); exact rfl) | ((with_reducible refine st_r (w.heap.size + 1) _ (writeV s 16384 v).1 hq ?_ ?_ ?_); exact rfl; exact rfl; intro W hnew ho; replace hr := hr.only ho (by omega); replace hq := hnew; replace hb := ho.bel _ _ (by omega) hb))
  refine bodyPost_ret (results_cell_one Tryd.results16 _ _ (w.heap.size + 1) _ _ _ rfl hq Tryd.underlying25 rfl size_r) rfl ?_
  exact ⟨rfl, hb⟩

set_option maxHeartbeats 1000000 in
theorem rwrite_ch (s : S3) (hs : s.Ok) (v : Nat) (hv : v < 4294967296) (w : World) :
    Calls Tryd.prog 16 #[.agg s.cells, .int .u32 ((16388 : Nat) : Int), .int .u32 (v : Nat)] w fun e w' => e = .returned (.tuple #[.agg (writeV s 16388 v).1.cells, .int .i64 ((writeV s 16388 v).2 : Nat)]) ∧ Below w.heap.size w w' := by
  rw [show (((16388 : Nat) : Int)) = 16388 from rfl]
  have h1 := hs.ti
  have h2 := hs.cm
  have HT : Hid (Value.int .u64 (((s.cm : Nat) : Int) % 4294967296 + ((v : Nat) : Int) * 4294967296) = .int .u64 (((joinN v (lowN s.cm)) : Nat) : Int)) := hide (congrArg _ (by unfold joinN lowN; omega))
  go_enter Tryd.func16, Tryd.ntmps16
  go_wp2_with (first | ((with_reducible refine bx_r w.heap.size s ?_ ?_ ?_); exact rfl; exact rfl; intro W hr hb hz) | ((with_reducible refine al_r (w.heap.size + 1) ?_ ?_); exact hz.out; intro W hq hb' hz'; replace hr := hr.bl (hz.out ▸ hb'); replace hb := hb.trans (hb'.mono (by omega)); replace hz := hz') | ((with_reducible refine ld_cm w.heap.size _ _ hr ?_ ?_); exact rfl) | ((with_reducible refine st_cm w.heap.size _ (joinN v (lowN s.cm)) _ hr ?_ ?_ ?_); exact rfl; exact HT.out; intro W hnew ho; replace hq := hq.only ho (by omega); replace hr := hnew; replace hb := ho.bel _ _ (by omega) hb) | ((with_reducible refine ld_r w.heap.size _ hr ?_ ?_); exact rfl) | ((with_reducible refine st_r (w.heap.size + 1) _ (writeV s 16388 v).1 hq ?_ ?_ ?_); exact rfl; exact rfl; intro W hnew ho; replace hr := hr.only ho (by omega); replace hq := hnew; replace hb := ho.bel _ _ (by omega) hb))
  refine bodyPost_ret (results_cell_one Tryd.results16 _ _ (w.heap.size + 1) _ _ _ rfl hq Tryd.underlying25 rfl size_r) rfl ?_
  exact ⟨rfl, hb⟩

set_option maxHeartbeats 1000000 in
theorem rwrite_tl (s : S3) (hs : s.Ok) (v : Nat) (hv : v < 4294967296) (w : World) :
    Calls Tryd.prog 16 #[.agg s.cells, .int .u32 ((49144 : Nat) : Int), .int .u32 (v : Nat)] w fun e w' => e = .returned (.tuple #[.agg (writeV s 49144 v).1.cells, .int .i64 ((writeV s 49144 v).2 : Nat)]) ∧ Below w.heap.size w w' := by
  rw [show (((49144 : Nat) : Int)) = 49144 from rfl]
  have h1 := hs.ti
  have h2 := hs.cm
  have HT : Hid (Value.int .u64 (((s.ti : Nat) : Int) / 4294967296 * 4294967296 + ((v : Nat) : Int)) = .int .u64 (((joinN (highN s.ti) v) : Nat) : Int)) := hide (congrArg _ (by unfold joinN highN; omega))
  go_enter Tryd.func16, Tryd.ntmps16
  go_wp2_with (first | ((with_reducible refine bx_r w.heap.size s ?_ ?_ ?_); exact rfl; exact rfl; intro W hr hb hz) | ((with_reducible refine al_r (w.heap.size + 1) ?_ ?_); exact hz.out; intro W hq hb' hz'; replace hr := hr.bl (hz.out ▸ hb'); replace hb := hb.trans (hb'.mono (by omega)); replace hz := hz') | ((with_reducible refine ld_ti w.heap.size _ _ hr ?_ ?_); exact rfl) | ((with_reducible refine st_ti w.heap.size _ (joinN (highN s.ti) v) _ hr ?_ ?_ ?_); exact rfl; exact HT.out; intro W hnew ho; replace hq := hq.only ho (by omega); replace hr := hnew; replace hb := ho.bel _ _ (by omega) hb) | ((with_reducible refine ld_r w.heap.size _ hr ?_ ?_); exact rfl) | ((with_reducible refine st_r (w.heap.size + 1) _ (writeV s 49144 v).1 hq ?_ ?_ ?_); exact rfl; exact rfl; intro W hnew ho; replace hr := hr.only ho (by omega); replace hq := hnew; replace hb := ho.bel _ _ (by omega) hb))
  refine bodyPost_ret (results_cell_one Tryd.results16 _ _ (w.heap.size + 1) _ _ _ rfl hq Tryd.underlying25 rfl size_r) rfl ?_
  exact ⟨rfl, hb⟩

set_option maxHeartbeats 1000000 in
theorem rwrite_th (s : S3) (hs : s.Ok) (v : Nat) (hv : v < 4294967296) (w : World) :
    Calls Tryd.prog 16 #[.agg s.cells, .int .u32 ((49148 : Nat) : Int), .int .u32 (v : Nat)] w fun e w' => e = .returned (.tuple #[.agg (writeV s 49148 v).1.cells, .int .i64 ((writeV s 49148 v).2 : Nat)]) ∧ Below w.heap.size w w' := by
  rw [show (((49148 : Nat) : Int)) = 49148 from rfl]
  have h1 := hs.ti
  have h2 := hs.cm
  have HT : Hid (Value.int .u64 (((s.ti : Nat) : Int) % 4294967296 + ((v : Nat) : Int) * 4294967296) = .int .u64 (((joinN v (lowN s.ti)) : Nat) : Int)) := hide (congrArg _ (by unfold joinN lowN; omega))
  go_enter Tryd.func16, Tryd.ntmps16
  go_wp2_with (first | ((with_reducible refine bx_r w.heap.size s ?_ ?_ ?_); exact rfl; exact rfl; intro W hr hb hz) | ((with_reducible refine al_r (w.heap.size + 1) ?_ ?_); exact hz.out; intro W hq hb' hz'; replace hr := hr.bl (hz.out ▸ hb'); replace hb := hb.trans (hb'.mono (by omega)); replace hz := hz') | ((with_reducible refine ld_ti w.heap.size _ _ hr ?_ ?_); exact rfl) | ((with_reducible refine st_ti w.heap.size _ (joinN v (lowN s.ti)) _ hr ?_ ?_ ?_); exact rfl; exact HT.out; intro W hnew ho; replace hq := hq.only ho (by omega); replace hr := hnew; replace hb := ho.bel _ _ (by omega) hb) | ((with_reducible refine ld_r w.heap.size _ hr ?_ ?_); exact rfl) | ((with_reducible refine st_r (w.heap.size + 1) _ (writeV s 49148 v).1 hq ?_ ?_ ?_); exact rfl; exact rfl; intro W hnew ho; replace hr := hr.only ho (by omega); replace hq := hnew; replace hb := ho.bel _ _ (by omega) hb))
  refine bodyPost_ret (results_cell_one Tryd.results16 _ _ (w.heap.size + 1) _ _ _ rfl hq Tryd.underlying25 rfl size_r) rfl ?_
  exact ⟨rfl, hb⟩

set_option maxHeartbeats 1000000 in
theorem rwrite_none (s : S3) (hs : s.Ok) (v : Nat) (hv : v < 4294967296) (a : Nat) (n0 : a ≠ 0) (n1 : a ≠ 16384) (n2 : a ≠ 16388) (n3 : a ≠ 49144) (n4 : a ≠ 49148) (w : World) :
    Calls Tryd.prog 16 #[.agg s.cells, .int .u32 (a : Nat), .int .u32 (v : Nat)] w fun e w' => e = .returned (.tuple #[.agg (writeV s a v).1.cells, .int .i64 ((writeV s a v).2 : Nat)]) ∧ Below w.heap.size w w' := by
  have HV : writeV s a v = (zeroS, 20) := by unfold writeV; rw [if_neg n0, if_neg n1, if_neg n2, if_neg n3, if_neg n4]
  rw [HV]; clear HV
  have t0 : ((a : Int) == 0) = false := by simp; omega
  have t1 : ((a : Int) == 16384) = false := by simp; omega
  have t2 : ((a : Int) == 16388) = false := by simp; omega
  have t3 : ((a : Int) == 49144) = false := by simp; omega
  have t4 : ((a : Int) == 49148) = false := by simp; omega
  clear n0 n1 n2 n3 n4
  go_enter Tryd.func16, Tryd.ntmps16
  go_wp2_with (first | ((with_reducible refine bx_r w.heap.size s ?_ ?_ ?_); exact rfl; exact rfl; intro W hr hb hz) | ((with_reducible refine al_r (w.heap.size + 1) ?_ ?_); exact hz.out; intro W hq hb' hz'; replace hr := hr.bl (hz.out ▸ hb'); replace hb := hb.trans (hb'.mono (by omega)); replace hz := hz') | ((with_reducible refine st_r (w.heap.size + 1) _ zeroS hq ?_ ?_ ?_); exact rfl; exact rfl; intro W hnew ho; replace hr := hr.only ho (by omega); replace hq := hnew; replace hb := ho.bel _ _ (by omega) hb))
  refine bodyPost_ret (results_cell_one Tryd.results16 _ _ (w.heap.size + 1) _ _ _ rfl hq Tryd.underlying25 rfl size_r) rfl ?_
  exact ⟨rfl, hb⟩

theorem rwrite_any (s : S3) (hs : s.Ok) (a v : Nat) (hv : v < 4294967296) (w : World) :
    Calls Tryd.prog 16 #[.agg s.cells, .int .u32 (a : Nat), .int .u32 (v : Nat)] w fun e w' => e = .returned (.tuple #[.agg (writeV s a v).1.cells, .int .i64 ((writeV s a v).2 : Nat)]) ∧ Below w.heap.size w w' := by
  by_cases n0 : a = 0
  · subst n0; exact rwrite_so s hs v hv w
  by_cases n1 : a = 16384
  · subst n1; exact rwrite_cl s hs v hv w
  by_cases n2 : a = 16388
  · subst n2; exact rwrite_ch s hs v hv w
  by_cases n3 : a = 49144
  · subst n3; exact rwrite_tl s hs v hv w
  by_cases n4 : a = 49148
  · subst n4; exact rwrite_th s hs v hv w
  exact rwrite_none s hs v hv a n0 n1 n2 n3 n4 w
end Go.Proofs.YtjibjginafjpcaaDoor
