/-
  What virtio's Check and checkAccess answer.
-/
import Derived.Test.YtaaiockiojejeaaGreatDoorJH10
namespace Go.Proofs.YtaaiockiojejeaaGreatDoor
open Go.RowKit
set_option linter.unusedVariables false

attribute [local go_sem] V.at0 V.at1 V.at2 V.at3 V.at4 V.at5 V.at6 V.at7 V.at8 V.at9 V.at10 V.at11 V.at12 V.at13 V.at14 V.at15 V.at16 V.at17 V.at18 V.at19 V.at20 Qu.at0 Qu.at1 Qu.at2 Qu.at3 Qu.at4 Qu.at5 Qu.at6
set_option maxHeartbeats 1000000 in
theorem check_c1 (s : V) (ok : s.Ok) (h1 : okSt s.st = false) (w : World) (hO : OffAt w) :
    Calls Tryz.prog 54 #[.agg s.cells] w fun e w' => e = .returned (.iface 129 (.int .i64 1)) ∧ Below w.heap.size w w' := by
  have HS := hide (fun w (hO : OffAt w) => settle_any s w hO)
  have HM0 := hide (fun w => maybe_any s.q0 ok.q0 w)
  have HM1 := hide (fun w => maybe_any s.q1 ok.q1 w)
  have t1 : (bits .andNot .u32 (s.st : Int) 207 != 0) = true := by rw [p_okSt _ ok.st, h1]; rfl
  go_enter Tryz.func54, Tryz.ntmps54
  go_wp2_with (first | ((with_reducible refine bx_vp w.heap.size s ?_ ?_ ?_); exact rfl; exact rfl; intro W hr hb hz; have fx := hr.cell) | ((with_reducible refine ld_vp w.heap.size _ hr ?_ ?_ ?_); exact rfl; exact rfl) | ((with_reducible refine ld_qs w.heap.size _ _ hr ?_ ?_ ?_); exact rfl; exact rfl) | (go_at_call 100; (with_reducible refine (HS.out _ (hO.bl hb)).mono ?_); rintro e W ⟨rfl, hbc⟩; replace hr := hr.bl hbc; replace fx := hr.cell; replace hb := below_bl rfl hb hbc))
  go_ret
  exact ⟨rfl, hb⟩

set_option maxHeartbeats 1000000 in
theorem check_c2 (s : V) (ok : s.Ok) (h1 : okSt s.st = true) (h2 : decide (s.ir ≤ 3) = false) (w : World) (hO : OffAt w) :
    Calls Tryz.prog 54 #[.agg s.cells] w fun e w' => e = .returned (.iface 129 (.int .i64 1)) ∧ Below w.heap.size w w' := by
  have HS := hide (fun w (hO : OffAt w) => settle_any s w hO)
  have HM0 := hide (fun w => maybe_any s.q0 ok.q0 w)
  have HM1 := hide (fun w => maybe_any s.q1 ok.q1 w)
  have t1 : (bits .andNot .u32 (s.st : Int) 207 != 0) = false := by rw [p_okSt _ ok.st, h1]; rfl
  have t2 : (bits .andNot .u32 (s.ir : Int) 3 != 0) = true := by rw [p_ir _ ok.ir, h2]; rfl
  go_enter Tryz.func54, Tryz.ntmps54
  go_wp2_with (first | ((with_reducible refine bx_vp w.heap.size s ?_ ?_ ?_); exact rfl; exact rfl; intro W hr hb hz; have fx := hr.cell) | ((with_reducible refine ld_vp w.heap.size _ hr ?_ ?_ ?_); exact rfl; exact rfl) | ((with_reducible refine ld_qs w.heap.size _ _ hr ?_ ?_ ?_); exact rfl; exact rfl) | (go_at_call 100; (with_reducible refine (HS.out _ (hO.bl hb)).mono ?_); rintro e W ⟨rfl, hbc⟩; replace hr := hr.bl hbc; replace fx := hr.cell; replace hb := below_bl rfl hb hbc))
  go_ret
  exact ⟨rfl, hb⟩

set_option maxHeartbeats 1000000 in
theorem check_c3 (s : V) (ok : s.Ok) (h1 : okSt s.st = true) (h2 : decide (s.ir ≤ 3) = true) (h3 : s.st.testBit 3 = true) (h4 : setl s = false) (w : World) (hO : OffAt w) :
    Calls Tryz.prog 54 #[.agg s.cells] w fun e w' => e = .returned (.iface 129 (.int .i64 1)) ∧ Below w.heap.size w w' := by
  have HS := hide (fun w (hO : OffAt w) => settle_any s w hO)
  have HM0 := hide (fun w => maybe_any s.q0 ok.q0 w)
  have HM1 := hide (fun w => maybe_any s.q1 ok.q1 w)
  have t1 : (bits .andNot .u32 (s.st : Int) 207 != 0) = false := by rw [p_okSt _ ok.st, h1]; rfl
  have t2 : (bits .andNot .u32 (s.ir : Int) 3 != 0) = false := by rw [p_ir _ ok.ir, h2]; rfl
  have t3 : (bits .and .u32 (s.st : Int) 8 != 0) = true := by rw [p_bit8 _ ok.st, h3]
  go_enter Tryz.func54, Tryz.ntmps54
  go_wp2_with (first | ((with_reducible refine bx_vp w.heap.size s ?_ ?_ ?_); exact rfl; exact rfl; intro W hr hb hz; have fx := hr.cell) | ((with_reducible refine ld_vp w.heap.size _ hr ?_ ?_ ?_); exact rfl; exact rfl) | ((with_reducible refine ld_qs w.heap.size _ _ hr ?_ ?_ ?_); exact rfl; exact rfl) | (go_at_call 100; (with_reducible refine (HS.out _ (hO.bl hb)).mono ?_); rintro e W ⟨rfl, hbc⟩; replace hr := hr.bl hbc; replace fx := hr.cell; replace hb := below_bl rfl hb hbc))
  go_ret
  exact ⟨rfl, hb⟩

set_option maxHeartbeats 2000000 in
theorem check_c4 (s : V) (ok : s.Ok) (h1 : okSt s.st = true) (h2 : decide (s.ir ≤ 3) = true) (h3 : s.st.testBit 3 = false) (h34 : (!s.st.testBit 3 || setl s) = true) (w : World) (hO : OffAt w) :
    Calls Tryz.prog 54 #[.agg s.cells] w fun e w' => e = .returned (errR (if mayV s = true then 0 else 1)) ∧ Below w.heap.size w w' := by
  obtain ⟨z, hz⟩ : ∃ z : Nat, (if mayV s = true then 0 else 1) = z := ⟨_, rfl⟩
  rw [hz]
  have HZ := hide hz
  clear hz
  have HS := hide (fun w (hO : OffAt w) => settle_any s w hO)
  have HM0 := hide (fun w => maybe_any s.q0 ok.q0 w)
  have HM1 := hide (fun w => maybe_any s.q1 ok.q1 w)
  have t1 : (bits .andNot .u32 (s.st : Int) 207 != 0) = false := by rw [p_okSt _ ok.st, h1]; rfl
  have t2 : (bits .andNot .u32 (s.ir : Int) 3 != 0) = false := by rw [p_ir _ ok.ir, h2]; rfl
  have t3 : (bits .and .u32 (s.st : Int) 8 != 0) = false := by rw [p_bit8 _ ok.st, h3]
  go_enter Tryz.func54, Tryz.ntmps54
  go_wp2_with (first | ((with_reducible refine bx_vp w.heap.size s ?_ ?_ ?_); exact rfl; exact rfl; intro W hr hb hz; have fx := hr.cell) | ((with_reducible refine ld_vp w.heap.size _ hr ?_ ?_ ?_); exact rfl; exact rfl) | ((with_reducible refine ld_qs w.heap.size _ _ hr ?_ ?_ ?_); exact rfl; exact rfl) | (go_at_call 100; (with_reducible refine (HS.out _ (hO.bl hb)).mono ?_); rintro e W ⟨rfl, hbc⟩; replace hr := hr.bl hbc; replace fx := hr.cell; replace hb := below_bl rfl hb hbc))
  go_loopw [28] (fun iv wr => ∃ i : Nat, i ≤ 2 ∧ iv = .int .i64 i ∧ (0 < i → mayQ s.q0 = true) ∧ (1 < i → mayQ s.q1 = true) ∧ RowAt wr w.heap.size s.cells 50 ∧ Below w.heap.size w wr) (fun iv _ => 2 - (intOf iv).toNat)
  case atStart => exact ⟨0, by omega, rfl, fun h => absurd h (by omega), fun h => absurd h (by omega), hr, hb⟩
  case round =>
    clear hr hb hz
    obtain ⟨i, hi, rfl, q0, q1, hr, hb⟩ := hrel
    obtain ⟨NQ, hNQ⟩ : ∃ n, wr.heap.size = n := ⟨_, rfl⟩
    have lNQ : w.heap.size + 1 ≤ NQ := by have := hr.lt; omega
    replace hNQ := hide hNQ
    have hi3 : i = 0 ∨ i = 1 ∨ i = 2 := by omega
    rcases hi3 with rfl | rfl | rfl
    · replace q0 := hide q0
      replace q1 := hide q1
      have HM := HM0
      obtain ⟨c, hc⟩ : ∃ c, mayQ s.q0 = c := ⟨_, rfl⟩
      have HC := hide hc
      rw [hc] at HM
      clear hc
      have ix := fun w => index_q0 s w
      cases c with
      | true =>
        go_wp2_with (first | ((with_reducible refine al_qp NQ ?_ ?_); exact hNQ.out; intro W hq hb' hz'; replace hr := hr.bl (hNQ.out ▸ hb'); replace hb := hb.trans (hb'.mono (by omega))) | ((with_reducible refine st_qp NQ _ s.q0 hq ?_ ?_ ?_); exact rfl; exact rfl; intro W hnew ho; replace hr := hr.only ho (by omega); replace hq := hnew; replace hb := ho.bel _ _ (by omega) hb) | ((with_reducible refine ld_qp NQ _ hq ?_ ?_ ?_); exact rfl; exact rfl) | (go_at_call 101; (with_reducible refine (HM.out _).mono ?_); rintro e W ⟨rfl, hbc⟩; replace hr := hr.bl hbc; replace hq := hq.bl hbc; replace hb := below_bl rfl hb hbc))
        go_roundw
        case rel => exact ⟨1, by omega, rfl, fun _ => HC.out, fun h => absurd h (by omega), hr, hb⟩
        case measure => decide
      | false =>
        go_wp2_with (first | ((with_reducible refine al_qp NQ ?_ ?_); exact hNQ.out; intro W hq hb' hz'; replace hr := hr.bl (hNQ.out ▸ hb'); replace hb := hb.trans (hb'.mono (by omega))) | ((with_reducible refine st_qp NQ _ s.q0 hq ?_ ?_ ?_); exact rfl; exact rfl; intro W hnew ho; replace hr := hr.only ho (by omega); replace hq := hnew; replace hb := ho.bel _ _ (by omega) hb) | ((with_reducible refine ld_qp NQ _ hq ?_ ?_ ?_); exact rfl; exact rfl) | (go_at_call 101; (with_reducible refine (HM.out _).mono ?_); rintro e W ⟨rfl, hbc⟩; replace hr := hr.bl hbc; replace hq := hq.bl hbc; replace hb := below_bl rfl hb hbc))
        go_ret
        exact ⟨by rw [← HZ.out, show mayV s = false by unfold mayV; rw [HC.out]; simp]; rfl, hb⟩
    · replace q0 := hide q0
      replace q1 := hide q1
      have HM := HM1
      obtain ⟨c, hc⟩ : ∃ c, mayQ s.q1 = c := ⟨_, rfl⟩
      have HC := hide hc
      rw [hc] at HM
      clear hc
      have ix := fun w => index_q1 s w
      cases c with
      | true =>
        go_wp2_with (first | ((with_reducible refine al_qp NQ ?_ ?_); exact hNQ.out; intro W hq hb' hz'; replace hr := hr.bl (hNQ.out ▸ hb'); replace hb := hb.trans (hb'.mono (by omega))) | ((with_reducible refine st_qp NQ _ s.q1 hq ?_ ?_ ?_); exact rfl; exact rfl; intro W hnew ho; replace hr := hr.only ho (by omega); replace hq := hnew; replace hb := ho.bel _ _ (by omega) hb) | ((with_reducible refine ld_qp NQ _ hq ?_ ?_ ?_); exact rfl; exact rfl) | (go_at_call 101; (with_reducible refine (HM.out _).mono ?_); rintro e W ⟨rfl, hbc⟩; replace hr := hr.bl hbc; replace hq := hq.bl hbc; replace hb := below_bl rfl hb hbc))
        go_roundw
        case rel => exact ⟨2, by omega, rfl, fun _ => q0.out (by omega), fun _ => HC.out, hr, hb⟩
        case measure => decide
      | false =>
        go_wp2_with (first | ((with_reducible refine al_qp NQ ?_ ?_); exact hNQ.out; intro W hq hb' hz'; replace hr := hr.bl (hNQ.out ▸ hb'); replace hb := hb.trans (hb'.mono (by omega))) | ((with_reducible refine st_qp NQ _ s.q1 hq ?_ ?_ ?_); exact rfl; exact rfl; intro W hnew ho; replace hr := hr.only ho (by omega); replace hq := hnew; replace hb := ho.bel _ _ (by omega) hb) | ((with_reducible refine ld_qp NQ _ hq ?_ ?_ ?_); exact rfl; exact rfl) | (go_at_call 101; (with_reducible refine (HM.out _).mono ?_); rintro e W ⟨rfl, hbc⟩; replace hr := hr.bl hbc; replace hq := hq.bl hbc; replace hb := below_bl rfl hb hbc))
        go_ret
        exact ⟨by rw [← HZ.out, show mayV s = false by unfold mayV; rw [HC.out]; simp]; rfl, hb⟩
    · have HQ := hide (And.intro (q0 (by omega)) (q1 (by omega)))
      clear q0 q1
      go_wp2
      go_ret
      exact ⟨by rw [← HZ.out, show mayV s = true by unfold mayV; rw [h1, h2, HQ.out.1, HQ.out.2, h34]; rfl]; rfl, hb⟩

set_option maxHeartbeats 2000000 in
theorem check_c5 (s : V) (ok : s.Ok) (h1 : okSt s.st = true) (h2 : decide (s.ir ≤ 3) = true) (h3 : s.st.testBit 3 = true) (h4 : setl s = true) (h34 : (!s.st.testBit 3 || setl s) = true) (w : World) (hO : OffAt w) :
    Calls Tryz.prog 54 #[.agg s.cells] w fun e w' => e = .returned (errR (if mayV s = true then 0 else 1)) ∧ Below w.heap.size w w' := by
  obtain ⟨z, hz⟩ : ∃ z : Nat, (if mayV s = true then 0 else 1) = z := ⟨_, rfl⟩
  rw [hz]
  have HZ := hide hz
  clear hz
  have HS := hide (fun w (hO : OffAt w) => settle_any s w hO)
  have HM0 := hide (fun w => maybe_any s.q0 ok.q0 w)
  have HM1 := hide (fun w => maybe_any s.q1 ok.q1 w)
  have t1 : (bits .andNot .u32 (s.st : Int) 207 != 0) = false := by rw [p_okSt _ ok.st, h1]; rfl
  have t2 : (bits .andNot .u32 (s.ir : Int) 3 != 0) = false := by rw [p_ir _ ok.ir, h2]; rfl
  have t3 : (bits .and .u32 (s.st : Int) 8 != 0) = true := by rw [p_bit8 _ ok.st, h3]
  go_enter Tryz.func54, Tryz.ntmps54
  go_wp2_with (first | ((with_reducible refine bx_vp w.heap.size s ?_ ?_ ?_); exact rfl; exact rfl; intro W hr hb hz; have fx := hr.cell) | ((with_reducible refine ld_vp w.heap.size _ hr ?_ ?_ ?_); exact rfl; exact rfl) | ((with_reducible refine ld_qs w.heap.size _ _ hr ?_ ?_ ?_); exact rfl; exact rfl) | (go_at_call 100; (with_reducible refine (HS.out _ (hO.bl hb)).mono ?_); rintro e W ⟨rfl, hbc⟩; replace hr := hr.bl hbc; replace fx := hr.cell; replace hb := below_bl rfl hb hbc))
  go_loopw [28] (fun iv wr => ∃ i : Nat, i ≤ 2 ∧ iv = .int .i64 i ∧ (0 < i → mayQ s.q0 = true) ∧ (1 < i → mayQ s.q1 = true) ∧ RowAt wr w.heap.size s.cells 50 ∧ Below w.heap.size w wr) (fun iv _ => 2 - (intOf iv).toNat)
  case atStart => exact ⟨0, by omega, rfl, fun h => absurd h (by omega), fun h => absurd h (by omega), hr, hb⟩
  case round =>
    clear hr hb hz
    obtain ⟨i, hi, rfl, q0, q1, hr, hb⟩ := hrel
    obtain ⟨NQ, hNQ⟩ : ∃ n, wr.heap.size = n := ⟨_, rfl⟩
    have lNQ : w.heap.size + 1 ≤ NQ := by have := hr.lt; omega
    replace hNQ := hide hNQ
    have hi3 : i = 0 ∨ i = 1 ∨ i = 2 := by omega
    rcases hi3 with rfl | rfl | rfl
    · replace q0 := hide q0
      replace q1 := hide q1
      have HM := HM0
      obtain ⟨c, hc⟩ : ∃ c, mayQ s.q0 = c := ⟨_, rfl⟩
      have HC := hide hc
      rw [hc] at HM
      clear hc
      have ix := fun w => index_q0 s w
      cases c with
      | true =>
        go_wp2_with (first | ((with_reducible refine al_qp NQ ?_ ?_); exact hNQ.out; intro W hq hb' hz'; replace hr := hr.bl (hNQ.out ▸ hb'); replace hb := hb.trans (hb'.mono (by omega))) | ((with_reducible refine st_qp NQ _ s.q0 hq ?_ ?_ ?_); exact rfl; exact rfl; intro W hnew ho; replace hr := hr.only ho (by omega); replace hq := hnew; replace hb := ho.bel _ _ (by omega) hb) | ((with_reducible refine ld_qp NQ _ hq ?_ ?_ ?_); exact rfl; exact rfl) | (go_at_call 101; (with_reducible refine (HM.out _).mono ?_); rintro e W ⟨rfl, hbc⟩; replace hr := hr.bl hbc; replace hq := hq.bl hbc; replace hb := below_bl rfl hb hbc))
        go_roundw
        case rel => exact ⟨1, by omega, rfl, fun _ => HC.out, fun h => absurd h (by omega), hr, hb⟩
        case measure => decide
      | false =>
        go_wp2_with (first | ((with_reducible refine al_qp NQ ?_ ?_); exact hNQ.out; intro W hq hb' hz'; replace hr := hr.bl (hNQ.out ▸ hb'); replace hb := hb.trans (hb'.mono (by omega))) | ((with_reducible refine st_qp NQ _ s.q0 hq ?_ ?_ ?_); exact rfl; exact rfl; intro W hnew ho; replace hr := hr.only ho (by omega); replace hq := hnew; replace hb := ho.bel _ _ (by omega) hb) | ((with_reducible refine ld_qp NQ _ hq ?_ ?_ ?_); exact rfl; exact rfl) | (go_at_call 101; (with_reducible refine (HM.out _).mono ?_); rintro e W ⟨rfl, hbc⟩; replace hr := hr.bl hbc; replace hq := hq.bl hbc; replace hb := below_bl rfl hb hbc))
        go_ret
        exact ⟨by rw [← HZ.out, show mayV s = false by unfold mayV; rw [HC.out]; simp]; rfl, hb⟩
    · replace q0 := hide q0
      replace q1 := hide q1
      have HM := HM1
      obtain ⟨c, hc⟩ : ∃ c, mayQ s.q1 = c := ⟨_, rfl⟩
      have HC := hide hc
      rw [hc] at HM
      clear hc
      have ix := fun w => index_q1 s w
      cases c with
      | true =>
        go_wp2_with (first | ((with_reducible refine al_qp NQ ?_ ?_); exact hNQ.out; intro W hq hb' hz'; replace hr := hr.bl (hNQ.out ▸ hb'); replace hb := hb.trans (hb'.mono (by omega))) | ((with_reducible refine st_qp NQ _ s.q1 hq ?_ ?_ ?_); exact rfl; exact rfl; intro W hnew ho; replace hr := hr.only ho (by omega); replace hq := hnew; replace hb := ho.bel _ _ (by omega) hb) | ((with_reducible refine ld_qp NQ _ hq ?_ ?_ ?_); exact rfl; exact rfl) | (go_at_call 101; (with_reducible refine (HM.out _).mono ?_); rintro e W ⟨rfl, hbc⟩; replace hr := hr.bl hbc; replace hq := hq.bl hbc; replace hb := below_bl rfl hb hbc))
        go_roundw
        case rel => exact ⟨2, by omega, rfl, fun _ => q0.out (by omega), fun _ => HC.out, hr, hb⟩
        case measure => decide
      | false =>
        go_wp2_with (first | ((with_reducible refine al_qp NQ ?_ ?_); exact hNQ.out; intro W hq hb' hz'; replace hr := hr.bl (hNQ.out ▸ hb'); replace hb := hb.trans (hb'.mono (by omega))) | ((with_reducible refine st_qp NQ _ s.q1 hq ?_ ?_ ?_); exact rfl; exact rfl; intro W hnew ho; replace hr := hr.only ho (by omega); replace hq := hnew; replace hb := ho.bel _ _ (by omega) hb) | ((with_reducible refine ld_qp NQ _ hq ?_ ?_ ?_); exact rfl; exact rfl) | (go_at_call 101; (with_reducible refine (HM.out _).mono ?_); rintro e W ⟨rfl, hbc⟩; replace hr := hr.bl hbc; replace hq := hq.bl hbc; replace hb := below_bl rfl hb hbc))
        go_ret
        exact ⟨by rw [← HZ.out, show mayV s = false by unfold mayV; rw [HC.out]; simp]; rfl, hb⟩
    · have HQ := hide (And.intro (q0 (by omega)) (q1 (by omega)))
      clear q0 q1
      go_wp2
      go_ret
      exact ⟨by rw [← HZ.out, show mayV s = true by unfold mayV; rw [h1, h2, HQ.out.1, HQ.out.2, h34]; rfl]; rfl, hb⟩

theorem vcheck_any (s : V) (ok : s.Ok) (w : World) (hO : OffAt w) : Calls Tryz.prog 54 #[.agg s.cells] w fun e w' => e = .returned (errR (if mayV s = true then 0 else 1)) ∧ Below w.heap.size w w' := by
  have no : mayV s = false → errR (if mayV s = true then 0 else 1) = .iface 129 (.int .i64 1) := fun h => by rw [h]; rfl
  cases h1 : okSt s.st with
  | false => rw [no (by unfold mayV; rw [h1]; rfl)]; exact check_c1 s ok h1 w hO
  | true =>
    cases h2 : decide (s.ir ≤ 3) with
    | false => rw [no (by unfold mayV; rw [h1, h2]; rfl)]; exact check_c2 s ok h1 h2 w hO
    | true =>
      cases h3 : s.st.testBit 3 with
      | false => exact check_c4 s ok h1 h2 h3 (by rw [h3]; rfl) w hO
      | true =>
        cases h4 : setl s with
        | false => rw [no (by unfold mayV; rw [h1, h2, h3, h4]; rfl)]; exact check_c3 s ok h1 h2 h3 h4 w hO
        | true => exact check_c5 s ok h1 h2 h3 h4 (by rw [h4]; simp) w hO
end Go.Proofs.YtaaiockiojejeaaGreatDoor
