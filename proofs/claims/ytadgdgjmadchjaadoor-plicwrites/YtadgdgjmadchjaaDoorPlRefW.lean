/-
  What the document's Write answers.
-/
import Derived.Test.YtadgdgjmadchjaaDoorPlRefR
import Derived.Test.YtadgdgjmadchjaaDoorPlWrite
namespace Go.Proofs.YtadgdgjmadchjaaDoor
open Go.RowKit
set_option linter.unusedVariables false

set_option maxRecDepth 100000 in
set_option maxHeartbeats 4000000 in
theorem rwrite_any (s : P5) (hs : s.Ok) (a v : Nat) (ha : a < 4294967296) (hv : v < 4294967296) (w : World) :
    Calls Tryd.prog 14 #[.agg s.cells, .int .u32 (a : Nat), .int .u32 (v : Nat)] w fun e w' => e = .returned (.tuple #[.agg (writeV s a v).1.cells, .int .i64 ((writeV s a v).2 : Nat)]) ∧ Below w.heap.size w w' := by
  obtain ⟨z, hz0⟩ : ∃ z, writeV s a v = z := ⟨_, rfl⟩
  rw [hz0]
  have HZ0 := hide hz0
  clear hz0
  go_enter Tryd.func14, Tryd.ntmps14
  go_wp2_with (first | ((with_reducible refine bx_r w.heap.size s ?_ ?_ ?_); exact rfl; exact rfl; intro W hr hb hz) | ((with_reducible refine al_r (w.heap.size + 1) ?_ ?_); exact hz.out; intro W hq hb' hz'; replace hr := hr.bl (hz.out ▸ hb'); replace hb := hb.trans (hb'.mono (by omega)); replace hz := hz'))
  clear hz
  go_loop [8] (fun iv => ∃ n : Nat, n ≤ 8 ∧ iv = .int .i64 n ∧ ∀ j, j < n → a ≠ 4 * j) (fun iv => 8 - (intOf iv).toNat)
  case atStart => exact ⟨0, by omega, rfl, fun j h => absurd h (by omega)⟩
  case round =>
    obtain ⟨n, hn8, rfl, hno⟩ := hrel
    by_cases hlt : n < 8
    · have e4 : ((4 : Int) * (n : Int)) = ((4 * n : Nat) : Int) := by omega
      by_cases he : a = 4 * n
      · have t1 : ((a : Int) == 4 * (n : Int)) = true := by simp; omega
        have tn : ((n : Int) < 8) := by omega
        clear hno e4
        by_cases hn0 : n = 0
        · subst hn0
          have HV : Hid (writeV s a v = (s, 0)) := hide (by
            unfold writeV
            rw [if_pos ((isPr_of a).2 ⟨0, hlt, he⟩), if_pos (show a / 4 = 0 by omega)])
          have HZ := hide (HZ0.out.symm.trans HV.out)
          clear he
          go_wp2_with (first | ((with_reducible refine ld_r w.heap.size _ hr ?_ ?_); exact rfl) | ((with_reducible refine st_r (w.heap.size + 1) _ s hq ?_ ?_ ?_); exact rfl; exact rfl; intro W hnew ho; replace hr := hr.only ho (by omega); replace hq := hnew; replace hb := ho.bel _ _ (by omega) hb))
          refine bodyPost_ret (results_cell_one Tryd.results14 _ _ (w.heap.size + 1) _ _ _ rfl hq Tryd.underlying25 rfl size_r) rfl ?_
          exact ⟨by rw [HZ.out]; rfl, hb⟩
        · have HV : Hid (writeV s a v = (⟨setN s.pr n (v % 8), s.en, s.th, s.pe, s.bu⟩, 0)) := hide (by
            unfold writeV
            rw [if_pos ((isPr_of a).2 ⟨n, hlt, he⟩), show a / 4 = n by omega, if_neg hn0, and7])
          have HZ := hide (HZ0.out.symm.trans HV.out)
          have E7 : Hid (Value.int .u32 ((v : Int) % 8) = .int .u32 ((v % 8 : Nat) : Int)) := hide (by simp)
          have tz : ((n : Int) > 0) := by omega
          have tz2 : 0 < n := by omega
          clear he
          go_wp2_with (first | ((with_reducible refine st_pr w.heap.size n s (v % 8) _ hlt hr ?_ ?_ ?_); exact rfl; exact E7.out; intro W hnew ho; replace hq := hq.only ho (by omega); replace hr := hnew; replace hb := ho.bel _ _ (by omega) hb) | ((with_reducible refine ld_r w.heap.size _ hr ?_ ?_); exact rfl) | ((with_reducible refine st_r (w.heap.size + 1) _ ⟨setN s.pr n (v % 8), s.en, s.th, s.pe, s.bu⟩ hq ?_ ?_ ?_); exact rfl; exact rfl; intro W hnew ho; replace hr := hr.only ho (by omega); replace hq := hnew; replace hb := ho.bel _ _ (by omega) hb))
          refine bodyPost_ret (results_cell_one Tryd.results14 _ _ (w.heap.size + 1) _ _ _ rfl hq Tryd.underlying25 rfl size_r) rfl ?_
          exact ⟨by rw [HZ.out]; rfl, hb⟩
      · have t1 : ((a : Int) == 4 * (n : Int)) = false := by simp; omega
        replace hno := hide hno
        clear e4
        go_wp2
        go_round
        case rel => exact ⟨n + 1, by omega, by go_num, fun j hj => by (by_cases e : j = n; (subst e; exact he); exact hno.out j (by omega))⟩
        case measure => simp [intOf]; omega
    · obtain rfl : n = 8 := by omega
      have hp : isPr a = false := by
        rw [Bool.eq_false_iff]
        intro h
        obtain ⟨j, h1, h2⟩ := (isPr_of a).1 h
        exact hno j h1 h2
      clear hno
      by_cases n1 : a = 4096
      · subst n1
        have HV : Hid (writeV s 4096 v = (s, 0)) := hide (by (try simp only [and7, and254]); rfl)
        have HZ := hide (HZ0.out.symm.trans HV.out)
        try rw [show (((4096 : Nat) : Int)) = 4096 from rfl]
        go_wp2_with (first | ((with_reducible refine ld_r w.heap.size _ hr ?_ ?_); exact rfl) | ((with_reducible refine st_r (w.heap.size + 1) _ s hq ?_ ?_ ?_); exact rfl; exact rfl; intro W hnew ho; replace hr := hr.only ho (by omega); replace hq := hnew; replace hb := ho.bel _ _ (by omega) hb))
        refine bodyPost_ret (results_cell_one Tryd.results14 _ _ (w.heap.size + 1) _ _ _ rfl hq Tryd.underlying25 rfl size_r) rfl ?_
        exact ⟨by rw [HZ.out]; rfl, hb⟩
      by_cases n2 : a = 8192
      · subst n2
        have HV : Hid (writeV s 8192 v = (⟨s.pr, v % 256 / 2 * 2, s.th, s.pe, s.bu⟩, 0)) := hide (by rw [← and254]; rfl)
        have HZ := hide (HZ0.out.symm.trans HV.out)
        try rw [show (((8192 : Nat) : Int)) = 8192 from rfl]
        have E7 : Hid (Value.int .u32 ((v : Int) % 256 / 2 * 2) = .int .u32 ((v % 256 / 2 * 2 : Nat) : Int)) := hide (by simp)
        go_wp2_with (first | ((with_reducible refine st_en w.heap.size _ (v % 256 / 2 * 2) _ hr ?_ ?_ ?_); exact rfl; exact E7.out; intro W hnew ho; replace hq := hq.only ho (by omega); replace hr := hnew; replace hb := ho.bel _ _ (by omega) hb) | ((with_reducible refine ld_r w.heap.size _ hr ?_ ?_); exact rfl) | ((with_reducible refine st_r (w.heap.size + 1) _ ⟨s.pr, v % 256 / 2 * 2, s.th, s.pe, s.bu⟩ hq ?_ ?_ ?_); exact rfl; exact rfl; intro W hnew ho; replace hr := hr.only ho (by omega); replace hq := hnew; replace hb := ho.bel _ _ (by omega) hb))
        refine bodyPost_ret (results_cell_one Tryd.results14 _ _ (w.heap.size + 1) _ _ _ rfl hq Tryd.underlying25 rfl size_r) rfl ?_
        exact ⟨by rw [HZ.out]; rfl, hb⟩
      by_cases n3 : a = 2097152
      · subst n3
        have HV : Hid (writeV s 2097152 v = (⟨s.pr, s.en, v % 8, s.pe, s.bu⟩, 0)) := hide (by rw [← and7]; rfl)
        have HZ := hide (HZ0.out.symm.trans HV.out)
        try rw [show (((2097152 : Nat) : Int)) = 2097152 from rfl]
        have E7 : Hid (Value.int .u32 ((v : Int) % 8) = .int .u32 ((v % 8 : Nat) : Int)) := hide (by simp)
        go_wp2_with (first | ((with_reducible refine st_th w.heap.size _ (v % 8) _ hr ?_ ?_ ?_); exact rfl; exact E7.out; intro W hnew ho; replace hq := hq.only ho (by omega); replace hr := hnew; replace hb := ho.bel _ _ (by omega) hb) | ((with_reducible refine ld_r w.heap.size _ hr ?_ ?_); exact rfl) | ((with_reducible refine st_r (w.heap.size + 1) _ ⟨s.pr, s.en, v % 8, s.pe, s.bu⟩ hq ?_ ?_ ?_); exact rfl; exact rfl; intro W hnew ho; replace hr := hr.only ho (by omega); replace hq := hnew; replace hb := ho.bel _ _ (by omega) hb))
        refine bodyPost_ret (results_cell_one Tryd.results14 _ _ (w.heap.size + 1) _ _ _ rfl hq Tryd.underlying25 rfl size_r) rfl ?_
        exact ⟨by rw [HZ.out]; rfl, hb⟩
      by_cases n4 : a = 2097156
      · subst n4
        have HV : Hid (writeV s 2097156 v = (endV s v, 0)) := hide rfl
        have HZ := hide (HZ0.out.symm.trans HV.out)
        try rw [show (((2097156 : Nat) : Int)) = 2097156 from rfl]
        by_cases h1 : v < 1
        · have HSv : Hid (endV s v = s) := hide (by unfold endV; rw [if_pos (.inl h1)])
          rw [HSv.out] at HZ
          have u1 : ((v : Int) ≥ 1) = False := by simp; omega
          have u1b : decide ((1 : Int) ≤ (v : Int)) = false := by simp; omega
          have u1c : decide (1 ≤ v) = false := by simp; omega
          go_wp2_with (first | ((with_reducible refine ld_r w.heap.size _ hr ?_ ?_); exact rfl) | ((with_reducible refine st_r (w.heap.size + 1) _ s hq ?_ ?_ ?_); exact rfl; exact rfl; intro W hnew ho; replace hr := hr.only ho (by omega); replace hq := hnew; replace hb := ho.bel _ _ (by omega) hb))
          refine bodyPost_ret (results_cell_one Tryd.results14 _ _ (w.heap.size + 1) _ _ _ rfl hq Tryd.underlying25 rfl size_r) rfl ?_
          exact ⟨by rw [HZ.out]; rfl, hb⟩
        have u1 : ((v : Int) ≥ 1) := by omega
        have u1b : (1 : Int) ≤ (v : Int) := by omega
        by_cases h7 : 7 < v
        · have HSv : Hid (endV s v = s) := hide (by unfold endV; rw [if_pos (.inr h7)])
          rw [HSv.out] at HZ
          have u2 : decide ((v : Int) ≤ 7) = false := by simp; omega
          go_wp2_with (first | ((with_reducible refine ld_r w.heap.size _ hr ?_ ?_); exact rfl) | ((with_reducible refine st_r (w.heap.size + 1) _ s hq ?_ ?_ ?_); exact rfl; exact rfl; intro W hnew ho; replace hr := hr.only ho (by omega); replace hq := hnew; replace hb := ho.bel _ _ (by omega) hb))
          refine bodyPost_ret (results_cell_one Tryd.results14 _ _ (w.heap.size + 1) _ _ _ rfl hq Tryd.underlying25 rfl size_r) rfl ?_
          exact ⟨by rw [HZ.out]; rfl, hb⟩
        · have HSv : Hid (endV s v = ⟨s.pr, s.en, s.th, s.pe, s.bu &&& (4294967295 - 2 ^ v)⟩) := hide (by unfold endV; rw [if_neg (by omega)])
          rw [HSv.out] at HZ
          have u2 : ((v : Int) ≤ 7) := by omega
          have hle : v ≤ 7 := by omega
          have HS1 := hide (fun w => set_contract s.bu v 0 _ hs.bu hle (by decide) (set0 s.bu v hs.bu hle) w)
          rw [show (((0 : Nat) : Int)) = 0 from rfl] at HS1
          generalize s.bu &&& (4294967295 - 2 ^ v) = x4 at *
          go_wp2_with (first | ((with_reducible refine ld_bu w.heap.size _ _ hr ?_ ?_); exact rfl) | (go_at_call 17; (with_reducible refine (HS1.out _).mono ?_); rintro e W ⟨rfl, hbc⟩; replace hr := hr.bl hbc; replace hq := hq.bl hbc; replace hb := below_bl rfl hb hbc) | ((with_reducible refine st_bu w.heap.size _ x4 _ hr ?_ ?_ ?_); exact rfl; exact rfl; intro W hnew ho; replace hq := hq.only ho (by omega); replace hr := hnew; replace hb := ho.bel _ _ (by omega) hb) | ((with_reducible refine ld_r w.heap.size _ hr ?_ ?_); exact rfl) | ((with_reducible refine st_r (w.heap.size + 1) _ ⟨s.pr, s.en, s.th, s.pe, x4⟩ hq ?_ ?_ ?_); exact rfl; exact rfl; intro W hnew ho; replace hr := hr.only ho (by omega); replace hq := hnew; replace hb := ho.bel _ _ (by omega) hb))
          refine bodyPost_ret (results_cell_one Tryd.results14 _ _ (w.heap.size + 1) _ _ _ rfl hq Tryd.underlying25 rfl size_r) rfl ?_
          exact ⟨by rw [HZ.out]; rfl, hb⟩
      · have HV : Hid (writeV s a v = (zeroP, 20)) := hide (by unfold writeV; rw [hp, if_neg (by simp), if_neg n1, if_neg n2, if_neg n3, if_neg n4])
        have HZ := hide (HZ0.out.symm.trans HV.out)
        have t1 : ((a : Int) == 4096) = false := by simp; omega
        have t2 : ((a : Int) == 8192) = false := by simp; omega
        have t3 : ((a : Int) == 2097152) = false := by simp; omega
        have t4 : ((a : Int) == 2097156) = false := by simp; omega
        go_wp2_with (first | ((with_reducible refine st_r (w.heap.size + 1) _ zeroP hq ?_ ?_ ?_); exact rfl; exact rfl; intro W hnew ho; replace hr := hr.only ho (by omega); replace hq := hnew; replace hb := ho.bel _ _ (by omega) hb))
        refine bodyPost_ret (results_cell_one Tryd.results14 _ _ (w.heap.size + 1) _ _ _ rfl hq Tryd.underlying25 rfl size_r) rfl ?_
        exact ⟨by rw [HZ.out]; rfl, hb⟩

end Go.Proofs.YtadgdgjmadchjaaDoor
