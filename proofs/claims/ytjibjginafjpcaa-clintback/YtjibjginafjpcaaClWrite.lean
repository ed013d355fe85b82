/-
  What clint.Write answers.
-/
import Derived.Test.YtjibjginafjpcaaClHalf
namespace Go.Proofs.Ytjibjginafjpcaa
open Go.RowKit
set_option linter.unusedVariables false

set_option maxHeartbeats 1000000 in
theorem write_so (s : S3) (hs : s.Ok) (v : Nat) (hv : v < 4294967296) (w : World) :
    Calls Try.prog 10 #[.agg s.cells, .int .u32 ((0 : Nat) : Int), .int .u32 (v : Nat)] w fun e w' => e = .returned (.tuple #[.agg (writeV s 0 v).1.cells, errP (writeV s 0 v).2]) ∧ Below w.heap.size w w' := by
  rw [show (((0 : Nat) : Int)) = 0 from rfl]
  have h1 := hs.ti
  have h2 := hs.cm
  have HT : Hid (Value.int .u32 (bits .and .u32 (v : Int) 1) = .int .u32 ((v % 2 : Nat) : Int)) := hide (congrArg _ ((u32_and_nat v 1 hv (by decide)).trans (by rw [show v &&& 1 = v % 2 from Nat.and_one_is_mod v])))
  go_enter Try.func10, Try.ntmps10
  go_wp2_with (first | ((with_reducible refine bx_p w.heap.size s ?_ ?_ ?_); exact rfl; exact rfl; intro W hr hb hz) | ((with_reducible refine al_p (w.heap.size + 1) ?_ ?_); exact hz.out; intro W hq hb' hz'; replace hr := hr.bl (hz.out ▸ hb'); replace hb := hb.trans (hb'.mono (by omega)); replace hz := hz') | ((with_reducible refine st_so w.heap.size _ (v % 2) _ hr ?_ ?_ ?_); exact rfl; exact HT.out; intro W hnew ho; replace hq := hq.only ho (by omega); replace hr := hnew; replace hb := ho.bel _ _ (by omega) hb) | ((with_reducible refine ld_p w.heap.size _ hr ?_ ?_); exact rfl) | ((with_reducible refine st_p (w.heap.size + 1) _ (writeV s 0 v).1 hq ?_ ?_ ?_); exact rfl; exact rfl; intro W hnew ho; replace hr := hr.only ho (by omega); replace hq := hnew; replace hb := ho.bel _ _ (by omega) hb))
  refine bodyPost_ret (results_cell_one Try.results10 _ _ (w.heap.size + 1) _ _ _ rfl hq Try.underlying26 rfl size_p) rfl ?_
  exact ⟨rfl, hb⟩

set_option maxHeartbeats 1000000 in
theorem write_cl (s : S3) (hs : s.Ok) (v : Nat) (hv : v < 4294967296) (w : World) :
    Calls Try.prog 10 #[.agg s.cells, .int .u32 ((16384 : Nat) : Int), .int .u32 (v : Nat)] w fun e w' => e = .returned (.tuple #[.agg (writeV s 16384 v).1.cells, errP (writeV s 16384 v).2]) ∧ Below w.heap.size w w' := by
  rw [show (((16384 : Nat) : Int)) = 16384 from rfl]
  have h1 := hs.ti
  have h2 := hs.cm
  have HL := hide (fun w => high_any s.cm hs.cm w)
  have HJ := hide (fun w => join_any (highN s.cm) v (highN_lt hs.cm) hv w)
  have HT : Hid (0 = 0) := hide rfl
  go_enter Try.func10, Try.ntmps10
  go_wp2_with (first | ((with_reducible refine bx_p w.heap.size s ?_ ?_ ?_); exact rfl; exact rfl; intro W hr hb hz) | ((with_reducible refine al_p (w.heap.size + 1) ?_ ?_); exact hz.out; intro W hq hb' hz'; replace hr := hr.bl (hz.out ▸ hb'); replace hb := hb.trans (hb'.mono (by omega)); replace hz := hz') | (go_at_call 15; refine (HL.out _).mono ?_; rintro e W ⟨rfl, rfl⟩) | (go_at_call 14; refine (HJ.out _).mono ?_; rintro e W ⟨rfl, rfl⟩) | ((with_reducible refine ld_cm w.heap.size _ _ hr ?_ ?_); exact rfl) | ((with_reducible refine st_cm w.heap.size _ (joinN (highN s.cm) v) _ hr ?_ ?_ ?_); exact rfl; exact rfl; intro W hnew ho; replace hq := hq.only ho (by omega); replace hr := hnew; replace hb := ho.bel _ _ (by omega) hb) | ((with_reducible refine ld_p w.heap.size _ hr ?_ ?_); exact rfl) | ((with_reducible refine st_p (w.heap.size + 1) _ (writeV s 16384 v).1 hq ?_ ?_ ?_); exact rfl; exact rfl; intro W hnew ho; replace hr := hr.only ho (by omega); replace hq := hnew; replace hb := ho.bel _ _ (by omega) hb))
  refine bodyPost_ret (results_cell_one Try.results10 _ _ (w.heap.size + 1) _ _ _ rfl hq Try.underlying26 rfl size_p) rfl ?_
  exact ⟨rfl, hb⟩

set_option maxHeartbeats 1000000 in
theorem write_ch (s : S3) (hs : s.Ok) (v : Nat) (hv : v < 4294967296) (w : World) :
    Calls Try.prog 10 #[.agg s.cells, .int .u32 ((16388 : Nat) : Int), .int .u32 (v : Nat)] w fun e w' => e = .returned (.tuple #[.agg (writeV s 16388 v).1.cells, errP (writeV s 16388 v).2]) ∧ Below w.heap.size w w' := by
  rw [show (((16388 : Nat) : Int)) = 16388 from rfl]
  have h1 := hs.ti
  have h2 := hs.cm
  have HL := hide (fun w => low_any s.cm w)
  have HJ := hide (fun w => join_any v (lowN s.cm) hv (lowN_lt _) w)
  have HT : Hid (0 = 0) := hide rfl
  go_enter Try.func10, Try.ntmps10
  go_wp2_with (first | ((with_reducible refine bx_p w.heap.size s ?_ ?_ ?_); exact rfl; exact rfl; intro W hr hb hz) | ((with_reducible refine al_p (w.heap.size + 1) ?_ ?_); exact hz.out; intro W hq hb' hz'; replace hr := hr.bl (hz.out ▸ hb'); replace hb := hb.trans (hb'.mono (by omega)); replace hz := hz') | (go_at_call 16; refine (HL.out _).mono ?_; rintro e W ⟨rfl, rfl⟩) | (go_at_call 14; refine (HJ.out _).mono ?_; rintro e W ⟨rfl, rfl⟩) | ((with_reducible refine ld_cm w.heap.size _ _ hr ?_ ?_); exact rfl) | ((with_reducible refine st_cm w.heap.size _ (joinN v (lowN s.cm)) _ hr ?_ ?_ ?_); exact rfl; exact rfl; intro W hnew ho; replace hq := hq.only ho (by omega); replace hr := hnew; replace hb := ho.bel _ _ (by omega) hb) | ((with_reducible refine ld_p w.heap.size _ hr ?_ ?_); exact rfl) | ((with_reducible refine st_p (w.heap.size + 1) _ (writeV s 16388 v).1 hq ?_ ?_ ?_); exact rfl; exact rfl; intro W hnew ho; replace hr := hr.only ho (by omega); replace hq := hnew; replace hb := ho.bel _ _ (by omega) hb))
  refine bodyPost_ret (results_cell_one Try.results10 _ _ (w.heap.size + 1) _ _ _ rfl hq Try.underlying26 rfl size_p) rfl ?_
  exact ⟨rfl, hb⟩

set_option maxHeartbeats 1000000 in
theorem write_tl (s : S3) (hs : s.Ok) (v : Nat) (hv : v < 4294967296) (w : World) :
    Calls Try.prog 10 #[.agg s.cells, .int .u32 ((49144 : Nat) : Int), .int .u32 (v : Nat)] w fun e w' => e = .returned (.tuple #[.agg (writeV s 49144 v).1.cells, errP (writeV s 49144 v).2]) ∧ Below w.heap.size w w' := by
  rw [show (((49144 : Nat) : Int)) = 49144 from rfl]
  have h1 := hs.ti
  have h2 := hs.cm
  have HL := hide (fun w => high_any s.ti hs.ti w)
  have HJ := hide (fun w => join_any (highN s.ti) v (highN_lt hs.ti) hv w)
  have HT : Hid (0 = 0) := hide rfl
  go_enter Try.func10, Try.ntmps10
  go_wp2_with (first | ((with_reducible refine bx_p w.heap.size s ?_ ?_ ?_); exact rfl; exact rfl; intro W hr hb hz) | ((with_reducible refine al_p (w.heap.size + 1) ?_ ?_); exact hz.out; intro W hq hb' hz'; replace hr := hr.bl (hz.out ▸ hb'); replace hb := hb.trans (hb'.mono (by omega)); replace hz := hz') | (go_at_call 15; refine (HL.out _).mono ?_; rintro e W ⟨rfl, rfl⟩) | (go_at_call 14; refine (HJ.out _).mono ?_; rintro e W ⟨rfl, rfl⟩) | ((with_reducible refine ld_ti w.heap.size _ _ hr ?_ ?_); exact rfl) | ((with_reducible refine st_ti w.heap.size _ (joinN (highN s.ti) v) _ hr ?_ ?_ ?_); exact rfl; exact rfl; intro W hnew ho; replace hq := hq.only ho (by omega); replace hr := hnew; replace hb := ho.bel _ _ (by omega) hb) | ((with_reducible refine ld_p w.heap.size _ hr ?_ ?_); exact rfl) | ((with_reducible refine st_p (w.heap.size + 1) _ (writeV s 49144 v).1 hq ?_ ?_ ?_); exact rfl; exact rfl; intro W hnew ho; replace hr := hr.only ho (by omega); replace hq := hnew; replace hb := ho.bel _ _ (by omega) hb))
  refine bodyPost_ret (results_cell_one Try.results10 _ _ (w.heap.size + 1) _ _ _ rfl hq Try.underlying26 rfl size_p) rfl ?_
  exact ⟨rfl, hb⟩

set_option maxHeartbeats 1000000 in
theorem write_th (s : S3) (hs : s.Ok) (v : Nat) (hv : v < 4294967296) (w : World) :
    Calls Try.prog 10 #[.agg s.cells, .int .u32 ((49148 : Nat) : Int), .int .u32 (v : Nat)] w fun e w' => e = .returned (.tuple #[.agg (writeV s 49148 v).1.cells, errP (writeV s 49148 v).2]) ∧ Below w.heap.size w w' := by
  rw [show (((49148 : Nat) : Int)) = 49148 from rfl]
  have h1 := hs.ti
  have h2 := hs.cm
  have HL := hide (fun w => low_any s.ti w)
  have HJ := hide (fun w => join_any v (lowN s.ti) hv (lowN_lt _) w)
  have HT : Hid (0 = 0) := hide rfl
  go_enter Try.func10, Try.ntmps10
  go_wp2_with (first | ((with_reducible refine bx_p w.heap.size s ?_ ?_ ?_); exact rfl; exact rfl; intro W hr hb hz) | ((with_reducible refine al_p (w.heap.size + 1) ?_ ?_); exact hz.out; intro W hq hb' hz'; replace hr := hr.bl (hz.out ▸ hb'); replace hb := hb.trans (hb'.mono (by omega)); replace hz := hz') | (go_at_call 16; refine (HL.out _).mono ?_; rintro e W ⟨rfl, rfl⟩) | (go_at_call 14; refine (HJ.out _).mono ?_; rintro e W ⟨rfl, rfl⟩) | ((with_reducible refine ld_ti w.heap.size _ _ hr ?_ ?_); exact rfl) | ((with_reducible refine st_ti w.heap.size _ (joinN v (lowN s.ti)) _ hr ?_ ?_ ?_); exact rfl; exact rfl; intro W hnew ho; replace hq := hq.only ho (by omega); replace hr := hnew; replace hb := ho.bel _ _ (by omega) hb) | ((with_reducible refine ld_p w.heap.size _ hr ?_ ?_); exact rfl) | ((with_reducible refine st_p (w.heap.size + 1) _ (writeV s 49148 v).1 hq ?_ ?_ ?_); exact rfl; exact rfl; intro W hnew ho; replace hr := hr.only ho (by omega); replace hq := hnew; replace hb := ho.bel _ _ (by omega) hb))
  refine bodyPost_ret (results_cell_one Try.results10 _ _ (w.heap.size + 1) _ _ _ rfl hq Try.underlying26 rfl size_p) rfl ?_
  exact ⟨rfl, hb⟩

set_option maxHeartbeats 1000000 in
theorem write_none (s : S3) (hs : s.Ok) (v : Nat) (hv : v < 4294967296) (a : Nat) (n0 : a ≠ 0) (n1 : a ≠ 16384) (n2 : a ≠ 16388) (n3 : a ≠ 49144) (n4 : a ≠ 49148) (w : World) :
    Calls Try.prog 10 #[.agg s.cells, .int .u32 (a : Nat), .int .u32 (v : Nat)] w fun e w' => e = .returned (.tuple #[.agg (writeV s a v).1.cells, errP (writeV s a v).2]) ∧ Below w.heap.size w w' := by
  have HV : writeV s a v = (zeroS, 20) := by unfold writeV; rw [if_neg n0, if_neg n1, if_neg n2, if_neg n3, if_neg n4]
  rw [HV]; clear HV
  have t0 : ((a : Int) == 0) = false := by simp; omega
  have t1 : ((a : Int) == 16384) = false := by simp; omega
  have t2 : ((a : Int) == 16388) = false := by simp; omega
  have t3 : ((a : Int) == 49144) = false := by simp; omega
  have t4 : ((a : Int) == 49148) = false := by simp; omega
  clear n0 n1 n2 n3 n4
  go_enter Try.func10, Try.ntmps10
  go_wp2_with (first | ((with_reducible refine bx_p w.heap.size s ?_ ?_ ?_); exact rfl; exact rfl; intro W hr hb hz) | ((with_reducible refine al_p (w.heap.size + 1) ?_ ?_); exact hz.out; intro W hq hb' hz'; replace hr := hr.bl (hz.out ▸ hb'); replace hb := hb.trans (hb'.mono (by omega)); replace hz := hz') | ((with_reducible refine st_p (w.heap.size + 1) _ zeroS hq ?_ ?_ ?_); exact rfl; exact rfl; intro W hnew ho; replace hr := hr.only ho (by omega); replace hq := hnew; replace hb := ho.bel _ _ (by omega) hb))
  refine bodyPost_ret (results_cell_one Try.results10 _ _ (w.heap.size + 1) _ _ _ rfl hq Try.underlying26 rfl size_p) rfl ?_
  exact ⟨rfl, hb⟩

theorem write_any (s : S3) (hs : s.Ok) (a v : Nat) (hv : v < 4294967296) (w : World) :
    Calls Try.prog 10 #[.agg s.cells, .int .u32 (a : Nat), .int .u32 (v : Nat)] w fun e w' => e = .returned (.tuple #[.agg (writeV s a v).1.cells, errP (writeV s a v).2]) ∧ Below w.heap.size w w' := by
  by_cases n0 : a = 0
  · subst n0; exact write_so s hs v hv w
  by_cases n1 : a = 16384
  · subst n1; exact write_cl s hs v hv w
  by_cases n2 : a = 16388
  · subst n2; exact write_ch s hs v hv w
  by_cases n3 : a = 49144
  · subst n3; exact write_tl s hs v hv w
  by_cases n4 : a = 49148
  · subst n4; exact write_th s hs v hv w
  exact write_none s hs v hv a n0 n1 n2 n3 n4 w
end Go.Proofs.Ytjibjginafjpcaa
