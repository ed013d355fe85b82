/-
  What the law's givePort answers.
-/
import Derived.Test.YtbggkoahofnnjaaGreatDoorJH10
namespace Go.Proofs.YtbggkoahofnnjaaGreatDoor
open Go.RowKit
set_option linter.unusedVariables false

attribute [local go_sem] V.at0 V.at1 V.at2 V.at3 V.at4 V.at5 V.at6 V.at7 V.at8 V.at9 V.at10 V.at11 V.at12 V.at13 V.at14 V.at15 V.at16 V.at17 V.at18 V.at19 V.at20 Qu.at0 Qu.at1 Qu.at2 Qu.at3 Qu.at4 Qu.at5 Qu.at6
set_option maxHeartbeats 1000000 in
theorem check_c1 (s : V) (ok : s.Ok) (h1 : okSt s.st = false) (w : World) (hO : OffAt w) :
    Calls Tryz.prog 29 #[.agg s.cells] w fun e w' => e = .returned (.iface 82 (.int .i64 1)) ∧ Below w.heap.size w w' := by
  have HS := hide (fun w (hO : OffAt w) => settle_any s w hO)
  have HM0 := hide (fun w => maybe_any s.q0 ok.q0 w)
  have HM1 := hide (fun w => maybe_any s.q1 ok.q1 w)
  have t1 : (bits .andNot .u32 (s.st : Int) 207 != 0) = true := by rw [p_okSt _ ok.st, h1]; rfl
  go_enter Tryz.func29, Tryz.ntmps29
  go_wp2_with (first | ((with_reducible refine bx_vp w.heap.size s ?_ ?_ ?_); exact rfl; exact rfl; intro W hr hb hz; have fx := hr.cell) | ((with_reducible refine ld_vp w.heap.size _ hr ?_ ?_ ?_); exact rfl; exact rfl) | ((with_reducible refine ld_qs w.heap.size _ _ hr ?_ ?_ ?_); exact rfl; exact rfl) | (go_at_call 70; (with_reducible refine (HS.out _ (hO.bl hb)).mono ?_); rintro e W ⟨rfl, hbc⟩; replace hr := hr.bl hbc; replace fx := hr.cell; replace hb := below_bl rfl hb hbc))
  go_ret
  exact ⟨rfl, hb⟩

set_option maxHeartbeats 1000000 in
theorem check_c2 (s : V) (ok : s.Ok) (h1 : okSt s.st = true) (h2 : decide (s.ir ≤ 3) = false) (w : World) (hO : OffAt w) :
    Calls Tryz.prog 29 #[.agg s.cells] w fun e w' => e = .returned (.iface 82 (.int .i64 1)) ∧ Below w.heap.size w w' := by
  have HS := hide (fun w (hO : OffAt w) => settle_any s w hO)
  have HM0 := hide (fun w => maybe_any s.q0 ok.q0 w)
  have HM1 := hide (fun w => maybe_any s.q1 ok.q1 w)
  have t1 : (bits .andNot .u32 (s.st : Int) 207 != 0) = false := by rw [p_okSt _ ok.st, h1]; rfl
  have t2 : (bits .andNot .u32 (s.ir : Int) 3 != 0) = true := by rw [p_ir _ ok.ir, h2]; rfl
  go_enter Tryz.func29, Tryz.ntmps29
  go_wp2_with (first | ((with_reducible refine bx_vp w.heap.size s ?_ ?_ ?_); exact rfl; exact rfl; intro W hr hb hz; have fx := hr.cell) | ((with_reducible refine ld_vp w.heap.size _ hr ?_ ?_ ?_); exact rfl; exact rfl) | ((with_reducible refine ld_qs w.heap.size _ _ hr ?_ ?_ ?_); exact rfl; exact rfl) | (go_at_call 70; (with_reducible refine (HS.out _ (hO.bl hb)).mono ?_); rintro e W ⟨rfl, hbc⟩; replace hr := hr.bl hbc; replace fx := hr.cell; replace hb := below_bl rfl hb hbc))
  go_ret
  exact ⟨rfl, hb⟩

set_option maxHeartbeats 1000000 in
theorem check_c3 (s : V) (ok : s.Ok) (h1 : okSt s.st = true) (h2 : decide (s.ir ≤ 3) = true) (h3 : s.st.testBit 3 = true) (h4 : setl s = false) (w : World) (hO : OffAt w) :
    Calls Tryz.prog 29 #[.agg s.cells] w fun e w' => e = .returned (.iface 82 (.int .i64 1)) ∧ Below w.heap.size w w' := by
  have HS := hide (fun w (hO : OffAt w) => settle_any s w hO)
  have HM0 := hide (fun w => maybe_any s.q0 ok.q0 w)
  have HM1 := hide (fun w => maybe_any s.q1 ok.q1 w)
  have t1 : (bits .andNot .u32 (s.st : Int) 207 != 0) = false := by rw [p_okSt _ ok.st, h1]; rfl
  have t2 : (bits .andNot .u32 (s.ir : Int) 3 != 0) = false := by rw [p_ir _ ok.ir, h2]; rfl
  have t3 : (bits .and .u32 (s.st : Int) 8 != 0) = true := by rw [p_bit8 _ ok.st, h3]
  go_enter Tryz.func29, Tryz.ntmps29
  go_wp2_with (first | ((with_reducible refine bx_vp w.heap.size s ?_ ?_ ?_); exact rfl; exact rfl; intro W hr hb hz; have fx := hr.cell) | ((with_reducible refine ld_vp w.heap.size _ hr ?_ ?_ ?_); exact rfl; exact rfl) | ((with_reducible refine ld_qs w.heap.size _ _ hr ?_ ?_ ?_); exact rfl; exact rfl) | (go_at_call 70; (with_reducible refine (HS.out _ (hO.bl hb)).mono ?_); rintro e W ⟨rfl, hbc⟩; replace hr := hr.bl hbc; replace fx := hr.cell; replace hb := below_bl rfl hb hbc))
  go_ret
  exact ⟨rfl, hb⟩

set_option maxHeartbeats 2000000 in
theorem check_c4 (s : V) (ok : s.Ok) (h1 : okSt s.st = true) (h2 : decide (s.ir ≤ 3) = true) (h3 : s.st.testBit 3 = false) (h34 : (!s.st.testBit 3 || setl s) = true) (w : World) (hO : OffAt w) :
    Calls Tryz.prog 29 #[.agg s.cells] w fun e w' => e = .returned (errR (if mayV s = true then 0 else 1)) ∧ Below w.heap.size w w' := by
  obtain ⟨z, hz⟩ : ∃ z : Nat, (if mayV s = true then 0 else 1) = z := ⟨_, rfl⟩
  rw [hz]
  have HZ := hide hz
  clear hz
  have HS := hide (fun w (hO : OffAt w) => settle_any s w hO)
  have HM0 := hide (fun w => maybe_any s.q0 ok.q0 w)
  have HM1 := hide (fun w => maybe_any s.q1 ok.q1 w)
  have t1 : (bits .andNot .u32 (s.st : Int) 207 != 0) = false := by rw [p_okSt _ ok.st, h1]; rfl
  have t2 : (bits .andNot .u32 (s.ir : Int) 3 != 0) = false := by rw [p_ir _ ok.ir, h2]; rfl
  have t3 : (bits .and .u32 (s.st : Int) 8 != 0) = false := by rw [p_bit8 _ ok.st, h3]
  go_enter Tryz.func29, Tryz.ntmps29
  go_wp2_with (first | ((with_reducible refine bx_vp w.heap.size s ?_ ?_ ?_); exact rfl; exact rfl; intro W hr hb hz; have fx := hr.cell) | ((with_reducible refine ld_vp w.heap.size _ hr ?_ ?_ ?_); exact rfl; exact rfl) | ((with_reducible refine ld_qs w.heap.size _ _ hr ?_ ?_ ?_); exact rfl; exact rfl) | (go_at_call 70; (with_reducible refine (HS.out _ (hO.bl hb)).mono ?_); rintro e W ⟨rfl, hbc⟩; replace hr := hr.bl hbc; replace fx := hr.cell; replace hb := below_bl rfl hb hbc))
  go_loopw [28] (fun iv wr => ∃ i : Nat, i ≤ 2 ∧ iv = .int .i64 i ∧ (0 < i → mayQ s.q0 = true) ∧ (1 < i → mayQ s.q1 = true) ∧ RowAt wr w.heap.size s.cells 39 ∧ Below w.heap.size w wr) (fun iv _ => 2 - (intOf iv).toNat)
  case atStart => exact ⟨0, by omega, rfl, fun h => absurd h (by omega), fun h => absurd h (by omega), hr, hb⟩
  case round =>
    clear hr hb hz
    obtain ⟨i, hi, rfl, q0, q1, hr, hb⟩ := hrel
    obtain ⟨NQ, hNQ⟩ : ∃ n, wr.heap.size = n := ⟨_, rfl⟩
    have lNQ : w.heap.size + 1 ≤ NQ := by have := hr.lt; omega
    replace hNQ := hide hNQ
    have hi3 : i = 0 ∨ i = 1 ∨ i = 2 := by omega
    rcases hi3 with rfl | rfl | rfl
    · replace q0 := hide q0
      replace q1 := hide q1
      have HM := HM0
      obtain ⟨c, hc⟩ : ∃ c, mayQ s.q0 = c := ⟨_, rfl⟩
      have HC := hide hc
      rw [hc] at HM
      clear hc
      have ix := fun w => index_q0 s w
      cases c with
      | true =>
        go_wp2_with (first | ((with_reducible refine al_qp NQ ?_ ?_); exact hNQ.out; intro W hq hb' hz'; replace hr := hr.bl (hNQ.out ▸ hb'); replace hb := hb.trans (hb'.mono (by omega))) | ((with_reducible refine st_qp NQ _ s.q0 hq ?_ ?_ ?_); exact rfl; exact rfl; intro W hnew ho; replace hr := hr.only ho (by omega); replace hq := hnew; replace hb := ho.bel _ _ (by omega) hb) | ((with_reducible refine ld_qp NQ _ hq ?_ ?_ ?_); exact rfl; exact rfl) | (go_at_call 71; (with_reducible refine (HM.out _).mono ?_); rintro e W ⟨rfl, hbc⟩; replace hr := hr.bl hbc; replace hq := hq.bl hbc; replace hb := below_bl rfl hb hbc))
        go_roundw
        case rel => exact ⟨1, by omega, rfl, fun _ => HC.out, fun h => absurd h (by omega), hr, hb⟩
        case measure => decide
      | false =>
        go_wp2_with (first | ((with_reducible refine al_qp NQ ?_ ?_); exact hNQ.out; intro W hq hb' hz'; replace hr := hr.bl (hNQ.out ▸ hb'); replace hb := hb.trans (hb'.mono (by omega))) | ((with_reducible refine st_qp NQ _ s.q0 hq ?_ ?_ ?_); exact rfl; exact rfl; intro W hnew ho; replace hr := hr.only ho (by omega); replace hq := hnew; replace hb := ho.bel _ _ (by omega) hb) | ((with_reducible refine ld_qp NQ _ hq ?_ ?_ ?_); exact rfl; exact rfl) | (go_at_call 71; (with_reducible refine (HM.out _).mono ?_); rintro e W ⟨rfl, hbc⟩; replace hr := hr.bl hbc; replace hq := hq.bl hbc; replace hb := below_bl rfl hb hbc))
        go_ret
        exact ⟨by rw [← HZ.out, show mayV s = false by unfold mayV; rw [HC.out]; simp]; rfl, hb⟩
    · replace q0 := hide q0
      replace q1 := hide q1
      have HM := HM1
      obtain ⟨c, hc⟩ : ∃ c, mayQ s.q1 = c := ⟨_, rfl⟩
      have HC := hide hc
      rw [hc] at HM
      clear hc
      have ix := fun w => index_q1 s w
      cases c with
      | true =>
        go_wp2_with (first | ((with_reducible refine al_qp NQ ?_ ?_); exact hNQ.out; intro W hq hb' hz'; replace hr := hr.bl (hNQ.out ▸ hb'); replace hb := hb.trans (hb'.mono (by omega))) | ((with_reducible refine st_qp NQ _ s.q1 hq ?_ ?_ ?_); exact rfl; exact rfl; intro W hnew ho; replace hr := hr.only ho (by omega); replace hq := hnew; replace hb := ho.bel _ _ (by omega) hb) | ((with_reducible refine ld_qp NQ _ hq ?_ ?_ ?_); exact rfl; exact rfl) | (go_at_call 71; (with_reducible refine (HM.out _).mono ?_); rintro e W ⟨rfl, hbc⟩; replace hr := hr.bl hbc; replace hq := hq.bl hbc; replace hb := below_bl rfl hb hbc))
        go_roundw
        case rel => exact ⟨2, by omega, rfl, fun _ => q0.out (by omega), fun _ => HC.out, hr, hb⟩
        case measure => decide
      | false =>
        go_wp2_with (first | ((with_reducible refine al_qp NQ ?_ ?_); exact hNQ.out; intro W hq hb' hz'; replace hr := hr.bl (hNQ.out ▸ hb'); replace hb := hb.trans (hb'.mono (by omega))) | ((with_reducible refine st_qp NQ _ s.q1 hq ?_ ?_ ?_); exact rfl; exact rfl; intro W hnew ho; replace hr := hr.only ho (by omega); replace hq := hnew; replace hb := ho.bel _ _ (by omega) hb) | ((with_reducible refine ld_qp NQ _ hq ?_ ?_ ?_); exact rfl; exact rfl) | (go_at_call 71; (with_reducible refine (HM.out _).mono ?_); rintro e W ⟨rfl, hbc⟩; replace hr := hr.bl hbc; replace hq := hq.bl hbc; replace hb := below_bl rfl hb hbc))
        go_ret
        exact ⟨by rw [← HZ.out, show mayV s = false by unfold mayV; rw [HC.out]; simp]; rfl, hb⟩
    · have HQ := hide (And.intro (q0 (by omega)) (q1 (by omega)))
      clear q0 q1
      go_wp2
      go_ret
      exact ⟨by rw [← HZ.out, show mayV s = true by unfold mayV; rw [h1, h2, HQ.out.1, HQ.out.2, h34]; rfl]; rfl, hb⟩

set_option maxHeartbeats 2000000 in
theorem check_c5 (s : V) (ok : s.Ok) (h1 : okSt s.st = true) (h2 : decide (s.ir ≤ 3) = true) (h3 : s.st.testBit 3 = true) (h4 : setl s = true) (h34 : (!s.st.testBit 3 || setl s) = true) (w : World) (hO : OffAt w) :
    Calls Tryz.prog 29 #[.agg s.cells] w fun e w' => e = .returned (errR (if mayV s = true then 0 else 1)) ∧ Below w.heap.size w w' := by
  obtain ⟨z, hz⟩ : ∃ z : Nat, (if mayV s = true then 0 else 1) = z := ⟨_, rfl⟩
  rw [hz]
  have HZ := hide hz
  clear hz
  have HS := hide (fun w (hO : OffAt w) => settle_any s w hO)
  have HM0 := hide (fun w => maybe_any s.q0 ok.q0 w)
  have HM1 := hide (fun w => maybe_any s.q1 ok.q1 w)
  have t1 : (bits .andNot .u32 (s.st : Int) 207 != 0) = false := by rw [p_okSt _ ok.st, h1]; rfl
  have t2 : (bits .andNot .u32 (s.ir : Int) 3 != 0) = false := by rw [p_ir _ ok.ir, h2]; rfl
  have t3 : (bits .and .u32 (s.st : Int) 8 != 0) = true := by rw [p_bit8 _ ok.st, h3]
  go_enter Tryz.func29, Tryz.ntmps29
  go_wp2_with (first | ((with_reducible refine bx_vp w.heap.size s ?_ ?_ ?_); exact rfl; exact rfl; intro W hr hb hz; have fx := hr.cell) | ((with_reducible refine ld_vp w.heap.size _ hr ?_ ?_ ?_); exact rfl; exact rfl) | ((with_reducible refine ld_qs w.heap.size _ _ hr ?_ ?_ ?_); exact rfl; exact rfl) | (go_at_call 70; (with_reducible refine (HS.out _ (hO.bl hb)).mono ?_); rintro e W ⟨rfl, hbc⟩; replace hr := hr.bl hbc; replace fx := hr.cell; replace hb := below_bl rfl hb hbc))
  go_loopw [28] (fun iv wr => ∃ i : Nat, i ≤ 2 ∧ iv = .int .i64 i ∧ (0 < i → mayQ s.q0 = true) ∧ (1 < i → mayQ s.q1 = true) ∧ RowAt wr w.heap.size s.cells 39 ∧ Below w.heap.size w wr) (fun iv _ => 2 - (intOf iv).toNat)
  case atStart => exact ⟨0, by omega, rfl, fun h => absurd h (by omega), fun h => absurd h (by omega), hr, hb⟩
  case round =>
    clear hr hb hz
    obtain ⟨i, hi, rfl, q0, q1, hr, hb⟩ := hrel
    obtain ⟨NQ, hNQ⟩ : ∃ n, wr.heap.size = n := ⟨_, rfl⟩
    have lNQ : w.heap.size + 1 ≤ NQ := by have := hr.lt; omega
    replace hNQ := hide hNQ
    have hi3 : i = 0 ∨ i = 1 ∨ i = 2 := by omega
    rcases hi3 with rfl | rfl | rfl
    · replace q0 := hide q0
      replace q1 := hide q1
      have HM := HM0
      obtain ⟨c, hc⟩ : ∃ c, mayQ s.q0 = c := ⟨_, rfl⟩
      have HC := hide hc
      rw [hc] at HM
      clear hc
      have ix := fun w => index_q0 s w
      cases c with
      | true =>
        go_wp2_with (first | ((with_reducible refine al_qp NQ ?_ ?_); exact hNQ.out; intro W hq hb' hz'; replace hr := hr.bl (hNQ.out ▸ hb'); replace hb := hb.trans (hb'.mono (by omega))) | ((with_reducible refine st_qp NQ _ s.q0 hq ?_ ?_ ?_); exact rfl; exact rfl; intro W hnew ho; replace hr := hr.only ho (by omega); replace hq := hnew; replace hb := ho.bel _ _ (by omega) hb) | ((with_reducible refine ld_qp NQ _ hq ?_ ?_ ?_); exact rfl; exact rfl) | (go_at_call 71; (with_reducible refine (HM.out _).mono ?_); rintro e W ⟨rfl, hbc⟩; replace hr := hr.bl hbc; replace hq := hq.bl hbc; replace hb := below_bl rfl hb hbc))
        go_roundw
        case rel => exact ⟨1, by omega, rfl, fun _ => HC.out, fun h => absurd h (by omega), hr, hb⟩
        case measure => decide
      | false =>
        go_wp2_with (first | ((with_reducible refine al_qp NQ ?_ ?_); exact hNQ.out; intro W hq hb' hz'; replace hr := hr.bl (hNQ.out ▸ hb'); replace hb := hb.trans (hb'.mono (by omega))) | ((with_reducible refine st_qp NQ _ s.q0 hq ?_ ?_ ?_); exact rfl; exact rfl; intro W hnew ho; replace hr := hr.only ho (by omega); replace hq := hnew; replace hb := ho.bel _ _ (by omega) hb) | ((with_reducible refine ld_qp NQ _ hq ?_ ?_ ?_); exact rfl; exact rfl) | (go_at_call 71; (with_reducible refine (HM.out _).mono ?_); rintro e W ⟨rfl, hbc⟩; replace hr := hr.bl hbc; replace hq := hq.bl hbc; replace hb := below_bl rfl hb hbc))
        go_ret
        exact ⟨by rw [← HZ.out, show mayV s = false by unfold mayV; rw [HC.out]; simp]; rfl, hb⟩
    · replace q0 := hide q0
      replace q1 := hide q1
      have HM := HM1
      obtain ⟨c, hc⟩ : ∃ c, mayQ s.q1 = c := ⟨_, rfl⟩
      have HC := hide hc
      rw [hc] at HM
      clear hc
      have ix := fun w => index_q1 s w
      cases c with
      | true =>
        go_wp2_with (first | ((with_reducible refine al_qp NQ ?_ ?_); exact hNQ.out; intro W hq hb' hz'; replace hr := hr.bl (hNQ.out ▸ hb'); replace hb := hb.trans (hb'.mono (by omega))) | ((with_reducible refine st_qp NQ _ s.q1 hq ?_ ?_ ?_); exact rfl; exact rfl; intro W hnew ho; replace hr := hr.only ho (by omega); replace hq := hnew; replace hb := ho.bel _ _ (by omega) hb) | ((with_reducible refine ld_qp NQ _ hq ?_ ?_ ?_); exact rfl; exact rfl) | (go_at_call 71; (with_reducible refine (HM.out _).mono ?_); rintro e W ⟨rfl, hbc⟩; replace hr := hr.bl hbc; replace hq := hq.bl hbc; replace hb := below_bl rfl hb hbc))
        go_roundw
        case rel => exact ⟨2, by omega, rfl, fun _ => q0.out (by omega), fun _ => HC.out, hr, hb⟩
        case measure => decide
      | false =>
        go_wp2_with (first | ((with_reducible refine al_qp NQ ?_ ?_); exact hNQ.out; intro W hq hb' hz'; replace hr := hr.bl (hNQ.out ▸ hb'); replace hb := hb.trans (hb'.mono (by omega))) | ((with_reducible refine st_qp NQ _ s.q1 hq ?_ ?_ ?_); exact rfl; exact rfl; intro W hnew ho; replace hr := hr.only ho (by omega); replace hq := hnew; replace hb := ho.bel _ _ (by omega) hb) | ((with_reducible refine ld_qp NQ _ hq ?_ ?_ ?_); exact rfl; exact rfl) | (go_at_call 71; (with_reducible refine (HM.out _).mono ?_); rintro e W ⟨rfl, hbc⟩; replace hr := hr.bl hbc; replace hq := hq.bl hbc; replace hb := below_bl rfl hb hbc))
        go_ret
        exact ⟨by rw [← HZ.out, show mayV s = false by unfold mayV; rw [HC.out]; simp]; rfl, hb⟩
    · have HQ := hide (And.intro (q0 (by omega)) (q1 (by omega)))
      clear q0 q1
      go_wp2
      go_ret
      exact ⟨by rw [← HZ.out, show mayV s = true by unfold mayV; rw [h1, h2, HQ.out.1, HQ.out.2, h34]; rfl]; rfl, hb⟩

theorem vcheck_any (s : V) (ok : s.Ok) (w : World) (hO : OffAt w) : Calls Tryz.prog 29 #[.agg s.cells] w fun e w' => e = .returned (errR (if mayV s = true then 0 else 1)) ∧ Below w.heap.size w w' := by
  have no : mayV s = false → errR (if mayV s = true then 0 else 1) = .iface 82 (.int .i64 1) := fun h => by rw [h]; rfl
  cases h1 : okSt s.st with
  | false => rw [no (by unfold mayV; rw [h1]; rfl)]; exact check_c1 s ok h1 w hO
  | true =>
    cases h2 : decide (s.ir ≤ 3) with
    | false => rw [no (by unfold mayV; rw [h1, h2]; rfl)]; exact check_c2 s ok h1 h2 w hO
    | true =>
      cases h3 : s.st.testBit 3 with
      | false => exact check_c4 s ok h1 h2 h3 (by rw [h3]; rfl) w hO
      | true =>
        cases h4 : setl s with
        | false => rw [no (by unfold mayV; rw [h1, h2, h3, h4]; rfl)]; exact check_c3 s ok h1 h2 h3 h4 w hO
        | true => exact check_c5 s ok h1 h2 h3 h4 (by rw [h4]; simp) w hO
end Go.Proofs.YtbggkoahofnnjaaGreatDoor
namespace Go.Proofs.YtbggkoahofnnjaaGreatDoor
open Go.RowKit
set_option linter.unusedVariables false

attribute [local go_sem] V.at0 V.at1 V.at2 V.at3 V.at4 V.at5 V.at6 V.at7 V.at8 V.at9 V.at10 V.at11 V.at12 V.at13 V.at14 V.at15 V.at16 V.at17 V.at18 V.at19 V.at20 Qu.at0 Qu.at1 Qu.at2 Qu.at3 Qu.at4 Qu.at5 Qu.at6
def bare (s : V) : V := (s.q0w zeroQu).q1w zeroQu
theorem built_v (s : V) : Tryz.prog.built 39 [(0, .int .u32 (s.st : Nat)), (1, .int .u32 (s.fs : Nat)), (2, .int .u32 (s.ds : Nat)), (3, .int .u32 (s.se : Nat)), (4, .int .u32 (s.ir : Nat)), (5, .agg s.drv)] = some (bare s).cells := by kernel_rfl
theorem built_q (q : Qu) : Tryz.prog.built 36 [(0, .bool q.rd), (1, .agg q.r.cells)] = some q.cells := by kernel_rfl
theorem bd_v {ops : Array Oper} {rest : List Oper} {dst : Option Tmp} {ty : TypeId} {pos : String} {after : Array Edge} {a : Act} {w : World} {Q : Exit → Act → World → Prop} {x0 x1 x2 x3 x4 x5 : Operand} (s : V) (h0 : a.eval x0 = .int .u32 (s.st : Nat)) (h1 : a.eval x1 = .int .u32 (s.fs : Nat)) (h2 : a.eval x2 = .int .u32 (s.ds : Nat)) (h3 : a.eval x3 = .int .u32 (s.se : Nat)) (h4 : a.eval x4 = .int .u32 (s.ir : Nat)) (h5 : a.eval x5 = .agg s.drv)
    (k : wpList Tryz.prog ops Q rest (a.put dst (.agg (bare s).cells)) w) : wpList Tryz.prog ops Q (⟨dst, .build 39 #[(0, x0), (1, x1), (2, x2), (3, x3), (4, x4), (5, x5)], ty, pos, after, none⟩ :: rest) a w := by
  have hp : ((#[(0, x0), (1, x1), (2, x2), (3, x3), (4, x4), (5, x5)] : Array (Nat × Operand)).map fun (i, x) => (i, a.eval x)).toList = [(0, .int .u32 (s.st : Nat)), (1, .int .u32 (s.fs : Nat)), (2, .int .u32 (s.ds : Nat)), (3, .int .u32 (s.se : Nat)), (4, .int .u32 (s.ir : Nat)), (5, .agg s.drv)] := by
    simp [h0, h1, h2, h3, h4, h5]
  refine wpList_build rfl 39 _ rfl ?_ ?_
  · rw [hp, built_v]; rfl
  · rw [hp, built_v]; exact k
theorem y_bdv {P : Program} {ops : Array Oper} {dst : Option Tmp} {ty t : TypeId} {pos : String} {after : Array Edge} {a : Act} {S : World → Prop} {xs : Array (Nat × Operand)} (ps : List (Nat × Value)) (cs : Array Value) (hb : P.built t ps = some cs) (hp : (xs.map fun (i, x) => (i, a.eval x)).toList = ps) :
    YieldsIf P ops S ⟨dst, .build t xs, ty, pos, after, none⟩ (.agg cs) a :=
  .inl ⟨by simp [Region.wanted], fun V hV => by
    have h := run_build V t (xs.map fun (i, x) => (i, a.eval x)) cs (by rw [hp]; exact hb)
    unfold execOp
    simp only [Sem.run_bind, h, Result.andThen_ok, Sem.run_pure]⟩
theorem y_bdq {ops : Array Oper} {dst : Option Tmp} {ty : TypeId} {pos : String} {after : Array Edge} {a : Act} {S : World → Prop} {x0 x1 : Operand} (q : Qu) (h0 : a.eval x0 = .bool q.rd) (h1 : a.eval x1 = .agg q.r.cells) :
    YieldsIf Tryz.prog ops S ⟨dst, .build 36 #[(0, x0), (1, x1)], ty, pos, after, none⟩ (.agg q.cells) a := y_bdv _ q.cells (built_q q) (by simp [h0, h1])
theorem y_midv {P : Program} {ops : Array Oper} {dst : Option Tmp} {ty t : TypeId} {pos : String} {after : Array Edge} {a : Act} {S : World → Prop} {x : Operand} (b o : Nat) (C vs : Array Value) (t' : TypeId) (hS : ∀ V, S V → RowAt V b C t') (hv : (C.extract o (o + vs.size)).toList = vs.toList) (d : TypeDesc) (hu : P.underlying t = some d) (hd : d.isRow = true) (hi : (P.info? t).map (·.size) = some vs.size) (hx : a.eval x = .pointer (some ⟨b, o, none⟩)) :
    YieldsIf P ops S ⟨dst, .load t x, ty, pos, after, none⟩ (.agg vs) a :=
  .inl ⟨by simp [Region.wanted], fun V hV => by
    have hq := World.rangeAt_of_block (hS V hV) o vs.size
    rw [hv] at hq
    have h := run_loadVar_mid V b o t vs.toList d hq hu hd (by simpa using hi)
    unfold execOp
    simp only [hx, Instr.loadAt, Instr.sureAddr, Sem.run_bind, Sem.run_pure, Result.andThen_ok, h]⟩
def givK (s : V) (i : Nat) : V := if i = 0 then bare s else if i = 1 then (bare s).q0w s.q0 else s
theorem s_q0p {dst : Option Tmp} {ty : TypeId} {pos : String} {after : Array Edge} {a : Act} {w : World} {Q : Exit → Act → World → Prop} {x y : Operand} {K : Act → World → Prop} (b : Nat) (h : V) (f : Qu) (t' : TypeId) (hr : RowAt w b h.cells t') (hx : a.eval x = .pointer (some ⟨b, 7, none⟩)) (hy : a.eval y = .agg f.cells)
    (k : ∀ W, RowAt W b (h.q0w f).cells t' → Only b w W → K (a.put dst undef) W) : Oper.wp Tryz.prog ⟨dst, .store 36 x y, ty, pos, after, none⟩ a w K Q :=
  wp_store_mid 36 x y rfl b 7 f.cells hx hy (hr.thereAt 7 _ (by show 7 + 7 ≤ 21; decide)) size_qp (qu_one f) (k _ (putAll_q0 h f ▸ RowAt.puts f.cells.toList 7 hr) (only_setCells b 7 f.cells.toList w))
theorem s_q1p {dst : Option Tmp} {ty : TypeId} {pos : String} {after : Array Edge} {a : Act} {w : World} {Q : Exit → Act → World → Prop} {x y : Operand} {K : Act → World → Prop} (b : Nat) (h : V) (f : Qu) (t' : TypeId) (hr : RowAt w b h.cells t') (hx : a.eval x = .pointer (some ⟨b, 14, none⟩)) (hy : a.eval y = .agg f.cells)
    (k : ∀ W, RowAt W b (h.q1w f).cells t' → Only b w W → K (a.put dst undef) W) : Oper.wp Tryz.prog ⟨dst, .store 36 x y, ty, pos, after, none⟩ a w K Q :=
  wp_store_mid 36 x y rfl b 14 f.cells hx hy (hr.thereAt 14 _ (by show 14 + 7 ≤ 21; decide)) size_qp (qu_one f) (k _ (putAll_q1 h f ▸ RowAt.puts f.cells.toList 14 hr) (only_setCells b 14 f.cells.toList w))
set_option maxRecDepth 20000 in
set_option maxHeartbeats 2000000 in
theorem gport_any (s : V) (w : World) :
    Calls Tryz.prog 22 #[.agg s.cells] w fun e w' => e = .returned (.agg s.cells) ∧ Below w.heap.size w w' := by
  go_enter Tryz.func22, Tryz.ntmps22
  go_wp2_with (first | ((with_reducible refine bx_vr w.heap.size s ?_ ?_ ?_); exact rfl; exact rfl; intro W hr hb hz) | ((with_reducible refine al_vp (w.heap.size + 1) ?_ ?_); exact hz.out; intro W hq hb' hz'; replace hr := hr.bl (hz.out ▸ hb'); replace hb := hb.trans (hb'.mono (by omega)); replace hz := hz'; have fx := hr.cell) | ((with_reducible refine al_vp (w.heap.size + 2) ?_ ?_); exact hz.out; intro W hx hb' hz'; replace hr := hr.bl (hz.out ▸ hb'); replace hq := hq.bl (hz.out ▸ hb'); replace hb := hb.trans (hb'.mono (by omega)); clear fx) | ((with_reducible refine ld_drv w.heap.size _ _ hr ?_ ?_ ?_); exact rfl; exact rfl) | ((with_reducible refine bd_v s ?_ ?_ ?_ ?_ ?_ ?_ ?_); exact rfl; exact rfl; exact rfl; exact rfl; exact rfl; exact rfl) | ((with_reducible refine st_vp (w.heap.size + 2) _ (bare s) hx ?_ ?_ ?_); exact rfl; exact rfl; intro W hnew ho; replace hr := hr.only ho (by omega); replace hq := hq.only ho (by omega); replace hx := hnew; replace hb := ho.bel _ _ (by omega) hb))
  go_loopw [4] (fun iv wr => ∃ i : Nat, i ≤ 2 ∧ iv = .int .i64 i ∧ RowAt wr w.heap.size s.cells 31 ∧ RowAt wr (w.heap.size + 1) zeroV.cells 39 ∧ RowAt wr (w.heap.size + 2) (givK s i).cells 39 ∧ Below w.heap.size w wr) (fun iv _ => 2 - (intOf iv).toNat)
  case atStart => exact ⟨0, by omega, rfl, hr, hq, hx, hb⟩
  case round =>
    clear hr hq hx hb hz
    obtain ⟨i, hi, rfl, hr, hq, hx, hb⟩ := hrel
    have hi3 : i = 0 ∨ i = 1 ∨ i = 2 := by omega
    rcases hi3 with rfl | rfl | rfl
    · go_wp2_with (fail)
      refine wp_region_held_drew (S := (fun V => RowAt V w.heap.size s.cells 31 ∧ Below w.heap.size w V)) (by kernel_rfl) ?_ (fun hHeld => ?_)
      · exact ⟨hr.dr, hb.drew⟩
      replace hq := hq.dr
      replace hx := hx.dr
      generalize World.drew _ = V at hHeld hq hx ⊢
      clear hr hb
      refine wpAnyH_take (i := 0) (oi := ?oi1) (v := .int .i64 0) ?hi1 (by kernel_rfl) (by kernel_rfl) (by kernel_rfl) ?hQ1 ?hy1 (by assumption) ?rest1
      case hi1 => (simp only [List.getElem?_toArray, List.getElem?_cons_zero]; rfl)
      case hQ1 => exact fun _ _ _ h => h
      case hy1 => exact Or.inl ⟨by rfl, by (intro w hSw; (try dsimp only at hSw); go_simp )⟩
      simp only [Act.put, List.setIfInBounds_toArray, List.set_cons_zero, List.set_cons_succ]
      refine wpAnyH_take (i := 1) (oi := ?oi2) (v := .int .i64 0) ?hi2 (by kernel_rfl) (by kernel_rfl) (by kernel_rfl) ?hQ2 ?hy2 (by assumption) ?rest2
      case hi2 => (simp only [List.getElem?_toArray, List.getElem?_cons_zero, List.getElem?_cons_succ]; rfl)
      case hQ2 => exact fun _ _ _ h => h
      case hy2 => exact Or.inl ⟨by rfl, by (intro w hSw; (try dsimp only at hSw); go_simp )⟩
      simp only [Act.put, List.setIfInBounds_toArray, List.set_cons_zero, List.set_cons_succ]
      refine wpAnyH_take (i := 2) (oi := ?oi3) (v := .pointer (some ⟨w.heap.size, 7, none⟩)) ?hi3 (by kernel_rfl) (by kernel_rfl) (by kernel_rfl) ?hQ3 ?hy3 (by assumption) ?rest3
      case hi3 => (simp only [List.getElem?_toArray, List.getElem?_cons_zero, List.getElem?_cons_succ]; rfl)
      case hQ3 => exact fun _ _ _ h => h
      case hy3 => exact Or.inl ⟨by rfl, by (intro w hSw; (try dsimp only at hSw); go_simp )⟩
      simp only [Act.put, List.setIfInBounds_toArray, List.set_cons_zero, List.set_cons_succ]
      refine wpAnyH_take (i := 3) (oi := ?oi4) (v := .pointer (some ⟨w.heap.size, 7, none⟩)) ?hi4 (by kernel_rfl) (by kernel_rfl) (by kernel_rfl) ?hQ4 ?hy4 (by assumption) ?rest4
      case hi4 => (simp only [List.getElem?_toArray, List.getElem?_cons_zero, List.getElem?_cons_succ]; rfl)
      case hQ4 => exact fun _ _ _ h => h
      case hy4 => exact Or.inl ⟨by rfl, by (intro w hSw; (try dsimp only at hSw); go_simp )⟩
      simp only [Act.put, List.setIfInBounds_toArray, List.set_cons_zero, List.set_cons_succ]
      refine wpAnyH_take (i := 4) (oi := ?oi5) (v := .pointer (some ⟨w.heap.size, 7, none⟩)) ?hi5 (by kernel_rfl) (by kernel_rfl) (by kernel_rfl) ?hQ5 ?hy5 (by assumption) ?rest5
      case hi5 => (simp only [List.getElem?_toArray, List.getElem?_cons_zero, List.getElem?_cons_succ]; rfl)
      case hQ5 => exact fun _ _ _ h => h
      case hy5 => exact Or.inl ⟨by rfl, by (intro w hSw; (try dsimp only at hSw); go_simp )⟩
      simp only [Act.put, List.setIfInBounds_toArray, List.set_cons_zero, List.set_cons_succ]
      refine wpAnyH_take (i := 5) (oi := ?oi6) (v := .bool s.q0.rd) ?hi6 (by kernel_rfl) (by kernel_rfl) (by kernel_rfl) ?hQ6 ?hy6 (by assumption) ?rest6
      case hi6 => (simp only [List.getElem?_toArray, List.getElem?_cons_zero, List.getElem?_cons_succ]; rfl)
      case hQ6 => exact fun _ _ _ h => h
      case hy6 => exact y_rd0 w.heap.size s _ (fun V hV => hV.1) rfl
      simp only [Act.put, List.setIfInBounds_toArray, List.set_cons_zero, List.set_cons_succ]
      refine wpAnyH_take (i := 6) (oi := ?oi7) (v := .int .i64 0) ?hi7 (by kernel_rfl) (by kernel_rfl) (by kernel_rfl) ?hQ7 ?hy7 (by assumption) ?rest7
      case hi7 => (simp only [List.getElem?_toArray, List.getElem?_cons_zero, List.getElem?_cons_succ]; rfl)
      case hQ7 => exact fun _ _ _ h => h
      case hy7 => exact Or.inl ⟨by rfl, by (intro w hSw; (try dsimp only at hSw); go_simp )⟩
      simp only [Act.put, List.setIfInBounds_toArray, List.set_cons_zero, List.set_cons_succ]
      refine wpAnyH_take (i := 7) (oi := ?oi8) (v := .pointer (some ⟨w.heap.size, 7, none⟩)) ?hi8 (by kernel_rfl) (by kernel_rfl) (by kernel_rfl) ?hQ8 ?hy8 (by assumption) ?rest8
      case hi8 => (simp only [List.getElem?_toArray, List.getElem?_cons_zero, List.getElem?_cons_succ]; rfl)
      case hQ8 => exact fun _ _ _ h => h
      case hy8 => exact Or.inl ⟨by rfl, by (intro w hSw; (try dsimp only at hSw); go_simp )⟩
      simp only [Act.put, List.setIfInBounds_toArray, List.set_cons_zero, List.set_cons_succ]
      refine wpAnyH_take (i := 8) (oi := ?oi9) (v := .pointer (some ⟨w.heap.size, 7, none⟩)) ?hi9 (by kernel_rfl) (by kernel_rfl) (by kernel_rfl) ?hQ9 ?hy9 (by assumption) ?rest9
      case hi9 => (simp only [List.getElem?_toArray, List.getElem?_cons_zero, List.getElem?_cons_succ]; rfl)
      case hQ9 => exact fun _ _ _ h => h
      case hy9 => exact Or.inl ⟨by rfl, by (intro w hSw; (try dsimp only at hSw); go_simp )⟩
      simp only [Act.put, List.setIfInBounds_toArray, List.set_cons_zero, List.set_cons_succ]
      refine wpAnyH_take (i := 9) (oi := ?oi10) (v := .pointer (some ⟨w.heap.size, 8, none⟩)) ?hi10 (by kernel_rfl) (by kernel_rfl) (by kernel_rfl) ?hQ10 ?hy10 (by assumption) ?rest10
      case hi10 => (simp only [List.getElem?_toArray, List.getElem?_cons_zero, List.getElem?_cons_succ]; rfl)
      case hQ10 => exact fun _ _ _ h => h
      case hy10 => exact Or.inl ⟨by rfl, by (intro w hSw; (try dsimp only at hSw); go_simp )⟩
      simp only [Act.put, List.setIfInBounds_toArray, List.set_cons_zero, List.set_cons_succ]
      refine wpAnyH_take (i := 10) (oi := ?oi11) (v := .agg s.q0.r.cells) ?hi11 (by kernel_rfl) (by kernel_rfl) (by kernel_rfl) ?hQ11 ?hy11 (by assumption) ?rest11
      case hi11 => (simp only [List.getElem?_toArray, List.getElem?_cons_zero, List.getElem?_cons_succ]; rfl)
      case hQ11 => exact fun _ _ _ h => h
      case hy11 => exact y_midv w.heap.size 8 s.cells s.q0.r.cells _ (fun V hV => hV.1) (ext_r0 s) _ Tryz.underlying26 rfl size_rr rfl
      simp only [Act.put, List.setIfInBounds_toArray, List.set_cons_zero, List.set_cons_succ]
      refine wpAnyH_take (i := 11) (oi := ?oi12) (v := .agg s.q0.cells) ?hi12 (by kernel_rfl) (by kernel_rfl) (by kernel_rfl) ?hQ12 ?hy12 (by assumption) ?rest12
      case hi12 => (simp only [List.getElem?_toArray, List.getElem?_cons_zero, List.getElem?_cons_succ]; rfl)
      case hQ12 => exact fun _ _ _ h => h
      case hy12 => exact y_bdq s.q0 rfl rfl
      simp only [Act.put, List.setIfInBounds_toArray, List.set_cons_zero, List.set_cons_succ]
      refine wpAnyH_take (i := 12) (oi := ?oi13) (v := .pointer (some ⟨w.heap.size + 2, 7, none⟩)) ?hi13 (by kernel_rfl) (by kernel_rfl) (by kernel_rfl) ?hQ13 ?hy13 (by assumption) ?rest13
      case hi13 => (simp only [List.getElem?_toArray, List.getElem?_cons_zero, List.getElem?_cons_succ]; rfl)
      case hQ13 => exact fun _ _ _ h => h
      case hy13 => exact Or.inl ⟨by rfl, by (intro w hSw; (try dsimp only at hSw); go_simp )⟩
      simp only [Act.put, List.setIfInBounds_toArray, List.set_cons_zero, List.set_cons_succ]
      refine wpAnyH_take (i := 13) (oi := ?oi14) (v := .pointer (some ⟨w.heap.size + 2, 7, none⟩)) ?hi14 (by kernel_rfl) (by kernel_rfl) (by kernel_rfl) ?hQ14 ?hy14 (by assumption) ?rest14
      case hi14 => (simp only [List.getElem?_toArray, List.getElem?_cons_zero, List.getElem?_cons_succ]; rfl)
      case hQ14 => exact fun _ _ _ h => h
      case hy14 => exact Or.inl ⟨by rfl, by (intro w hSw; (try dsimp only at hSw); go_simp )⟩
      simp only [Act.put, List.setIfInBounds_toArray, List.set_cons_zero, List.set_cons_succ]
      refine wpAnyH_ready (rs := [14]) (by kernel_rfl) (by simp) ?_
      refine AllReadyH.cons (o := ?oi15) ?hi15 (fun K hK => ?_) AllReadyH.nil
      case hi15 => (simp only [List.getElem?_toArray, List.getElem?_cons_zero, List.getElem?_cons_succ]; rfl)
      rw [if_pos (by rfl)]
      (with_reducible refine s_q0p (w.heap.size + 2) _ s.q0 _ hx ?_ ?_ ?_)
      · exact rfl
      · exact rfl
      intro V hnew ho
      have hH2 := hide (And.intro (hHeld.1.only ho (by omega)) (ho.bel _ _ (by omega) hHeld.2))
      replace hx := hnew
      replace hq := hq.only ho (by omega)
      clear hHeld
      refine hK.out _ _ ?_ (fun hHeld => ?_)
      · exact hH2.out
      clear hK K
      clear hH2
      refine wpAnyH_done (by kernel_rfl) ?_ _
      have hr := hHeld.1
      have hb := hHeld.2
      clear hHeld
      go_wp2
      go_roundw
      case rel => exact ⟨1, by omega, by go_num, hr, hq, hx, hb⟩
      case measure => decide
    · go_wp2_with (fail)
      refine wp_region_held_drew (S := (fun V => RowAt V w.heap.size s.cells 31 ∧ Below w.heap.size w V)) (by kernel_rfl) ?_ (fun hHeld => ?_)
      · exact ⟨hr.dr, hb.drew⟩
      replace hq := hq.dr
      replace hx := hx.dr
      generalize World.drew _ = V at hHeld hq hx ⊢
      clear hr hb
      refine wpAnyH_take (i := 0) (oi := ?oi16) (v := .int .i64 1) ?hi16 (by kernel_rfl) (by kernel_rfl) (by kernel_rfl) ?hQ16 ?hy16 (by assumption) ?rest16
      case hi16 => (simp only [List.getElem?_toArray, List.getElem?_cons_zero]; rfl)
      case hQ16 => exact fun _ _ _ h => h
      case hy16 => exact Or.inl ⟨by rfl, by (intro w hSw; (try dsimp only at hSw); go_simp )⟩
      simp only [Act.put, List.setIfInBounds_toArray, List.set_cons_zero, List.set_cons_succ]
      refine wpAnyH_take (i := 1) (oi := ?oi17) (v := .int .i64 1) ?hi17 (by kernel_rfl) (by kernel_rfl) (by kernel_rfl) ?hQ17 ?hy17 (by assumption) ?rest17
      case hi17 => (simp only [List.getElem?_toArray, List.getElem?_cons_zero, List.getElem?_cons_succ]; rfl)
      case hQ17 => exact fun _ _ _ h => h
      case hy17 => exact Or.inl ⟨by rfl, by (intro w hSw; (try dsimp only at hSw); go_simp )⟩
      simp only [Act.put, List.setIfInBounds_toArray, List.set_cons_zero, List.set_cons_succ]
      refine wpAnyH_take (i := 2) (oi := ?oi18) (v := .pointer (some ⟨w.heap.size, 7, none⟩)) ?hi18 (by kernel_rfl) (by kernel_rfl) (by kernel_rfl) ?hQ18 ?hy18 (by assumption) ?rest18
      case hi18 => (simp only [List.getElem?_toArray, List.getElem?_cons_zero, List.getElem?_cons_succ]; rfl)
      case hQ18 => exact fun _ _ _ h => h
      case hy18 => exact Or.inl ⟨by rfl, by (intro w hSw; (try dsimp only at hSw); go_simp )⟩
      simp only [Act.put, List.setIfInBounds_toArray, List.set_cons_zero, List.set_cons_succ]
      refine wpAnyH_take (i := 3) (oi := ?oi19) (v := .pointer (some ⟨w.heap.size, 14, none⟩)) ?hi19 (by kernel_rfl) (by kernel_rfl) (by kernel_rfl) ?hQ19 ?hy19 (by assumption) ?rest19
      case hi19 => (simp only [List.getElem?_toArray, List.getElem?_cons_zero, List.getElem?_cons_succ]; rfl)
      case hQ19 => exact fun _ _ _ h => h
      case hy19 => exact Or.inl ⟨by rfl, by (intro w hSw; (try dsimp only at hSw); go_simp )⟩
      simp only [Act.put, List.setIfInBounds_toArray, List.set_cons_zero, List.set_cons_succ]
      refine wpAnyH_take (i := 4) (oi := ?oi20) (v := .pointer (some ⟨w.heap.size, 14, none⟩)) ?hi20 (by kernel_rfl) (by kernel_rfl) (by kernel_rfl) ?hQ20 ?hy20 (by assumption) ?rest20
      case hi20 => (simp only [List.getElem?_toArray, List.getElem?_cons_zero, List.getElem?_cons_succ]; rfl)
      case hQ20 => exact fun _ _ _ h => h
      case hy20 => exact Or.inl ⟨by rfl, by (intro w hSw; (try dsimp only at hSw); go_simp )⟩
      simp only [Act.put, List.setIfInBounds_toArray, List.set_cons_zero, List.set_cons_succ]
      refine wpAnyH_take (i := 5) (oi := ?oi21) (v := .bool s.q1.rd) ?hi21 (by kernel_rfl) (by kernel_rfl) (by kernel_rfl) ?hQ21 ?hy21 (by assumption) ?rest21
      case hi21 => (simp only [List.getElem?_toArray, List.getElem?_cons_zero, List.getElem?_cons_succ]; rfl)
      case hQ21 => exact fun _ _ _ h => h
      case hy21 => exact y_rd1 w.heap.size s _ (fun V hV => hV.1) rfl
      simp only [Act.put, List.setIfInBounds_toArray, List.set_cons_zero, List.set_cons_succ]
      refine wpAnyH_take (i := 6) (oi := ?oi22) (v := .int .i64 1) ?hi22 (by kernel_rfl) (by kernel_rfl) (by kernel_rfl) ?hQ22 ?hy22 (by assumption) ?rest22
      case hi22 => (simp only [List.getElem?_toArray, List.getElem?_cons_zero, List.getElem?_cons_succ]; rfl)
      case hQ22 => exact fun _ _ _ h => h
      case hy22 => exact Or.inl ⟨by rfl, by (intro w hSw; (try dsimp only at hSw); go_simp )⟩
      simp only [Act.put, List.setIfInBounds_toArray, List.set_cons_zero, List.set_cons_succ]
      refine wpAnyH_take (i := 7) (oi := ?oi23) (v := .pointer (some ⟨w.heap.size, 7, none⟩)) ?hi23 (by kernel_rfl) (by kernel_rfl) (by kernel_rfl) ?hQ23 ?hy23 (by assumption) ?rest23
      case hi23 => (simp only [List.getElem?_toArray, List.getElem?_cons_zero, List.getElem?_cons_succ]; rfl)
      case hQ23 => exact fun _ _ _ h => h
      case hy23 => exact Or.inl ⟨by rfl, by (intro w hSw; (try dsimp only at hSw); go_simp )⟩
      simp only [Act.put, List.setIfInBounds_toArray, List.set_cons_zero, List.set_cons_succ]
      refine wpAnyH_take (i := 8) (oi := ?oi24) (v := .pointer (some ⟨w.heap.size, 14, none⟩)) ?hi24 (by kernel_rfl) (by kernel_rfl) (by kernel_rfl) ?hQ24 ?hy24 (by assumption) ?rest24
      case hi24 => (simp only [List.getElem?_toArray, List.getElem?_cons_zero, List.getElem?_cons_succ]; rfl)
      case hQ24 => exact fun _ _ _ h => h
      case hy24 => exact Or.inl ⟨by rfl, by (intro w hSw; (try dsimp only at hSw); go_simp )⟩
      simp only [Act.put, List.setIfInBounds_toArray, List.set_cons_zero, List.set_cons_succ]
      refine wpAnyH_take (i := 9) (oi := ?oi25) (v := .pointer (some ⟨w.heap.size, 15, none⟩)) ?hi25 (by kernel_rfl) (by kernel_rfl) (by kernel_rfl) ?hQ25 ?hy25 (by assumption) ?rest25
      case hi25 => (simp only [List.getElem?_toArray, List.getElem?_cons_zero, List.getElem?_cons_succ]; rfl)
      case hQ25 => exact fun _ _ _ h => h
      case hy25 => exact Or.inl ⟨by rfl, by (intro w hSw; (try dsimp only at hSw); go_simp )⟩
      simp only [Act.put, List.setIfInBounds_toArray, List.set_cons_zero, List.set_cons_succ]
      refine wpAnyH_take (i := 10) (oi := ?oi26) (v := .agg s.q1.r.cells) ?hi26 (by kernel_rfl) (by kernel_rfl) (by kernel_rfl) ?hQ26 ?hy26 (by assumption) ?rest26
      case hi26 => (simp only [List.getElem?_toArray, List.getElem?_cons_zero, List.getElem?_cons_succ]; rfl)
      case hQ26 => exact fun _ _ _ h => h
      case hy26 => exact y_midv w.heap.size 15 s.cells s.q1.r.cells _ (fun V hV => hV.1) (ext_r1 s) _ Tryz.underlying26 rfl size_rr rfl
      simp only [Act.put, List.setIfInBounds_toArray, List.set_cons_zero, List.set_cons_succ]
      refine wpAnyH_take (i := 11) (oi := ?oi27) (v := .agg s.q1.cells) ?hi27 (by kernel_rfl) (by kernel_rfl) (by kernel_rfl) ?hQ27 ?hy27 (by assumption) ?rest27
      case hi27 => (simp only [List.getElem?_toArray, List.getElem?_cons_zero, List.getElem?_cons_succ]; rfl)
      case hQ27 => exact fun _ _ _ h => h
      case hy27 => exact y_bdq s.q1 rfl rfl
      simp only [Act.put, List.setIfInBounds_toArray, List.set_cons_zero, List.set_cons_succ]
      refine wpAnyH_take (i := 12) (oi := ?oi28) (v := .pointer (some ⟨w.heap.size + 2, 7, none⟩)) ?hi28 (by kernel_rfl) (by kernel_rfl) (by kernel_rfl) ?hQ28 ?hy28 (by assumption) ?rest28
      case hi28 => (simp only [List.getElem?_toArray, List.getElem?_cons_zero, List.getElem?_cons_succ]; rfl)
      case hQ28 => exact fun _ _ _ h => h
      case hy28 => exact Or.inl ⟨by rfl, by (intro w hSw; (try dsimp only at hSw); go_simp )⟩
      simp only [Act.put, List.setIfInBounds_toArray, List.set_cons_zero, List.set_cons_succ]
      refine wpAnyH_take (i := 13) (oi := ?oi29) (v := .pointer (some ⟨w.heap.size + 2, 14, none⟩)) ?hi29 (by kernel_rfl) (by kernel_rfl) (by kernel_rfl) ?hQ29 ?hy29 (by assumption) ?rest29
      case hi29 => (simp only [List.getElem?_toArray, List.getElem?_cons_zero, List.getElem?_cons_succ]; rfl)
      case hQ29 => exact fun _ _ _ h => h
      case hy29 => exact Or.inl ⟨by rfl, by (intro w hSw; (try dsimp only at hSw); go_simp )⟩
      simp only [Act.put, List.setIfInBounds_toArray, List.set_cons_zero, List.set_cons_succ]
      refine wpAnyH_ready (rs := [14]) (by kernel_rfl) (by simp) ?_
      refine AllReadyH.cons (o := ?oi30) ?hi30 (fun K hK => ?_) AllReadyH.nil
      case hi30 => (simp only [List.getElem?_toArray, List.getElem?_cons_zero, List.getElem?_cons_succ]; rfl)
      rw [if_pos (by rfl)]
      (with_reducible refine s_q1p (w.heap.size + 2) _ s.q1 _ hx ?_ ?_ ?_)
      · exact rfl
      · exact rfl
      intro V hnew ho
      have hH2 := hide (And.intro (hHeld.1.only ho (by omega)) (ho.bel _ _ (by omega) hHeld.2))
      replace hx := hnew
      replace hq := hq.only ho (by omega)
      clear hHeld
      refine hK.out _ _ ?_ (fun hHeld => ?_)
      · exact hH2.out
      clear hK K
      clear hH2
      refine wpAnyH_done (by kernel_rfl) ?_ _
      have hr := hHeld.1
      have hb := hHeld.2
      clear hHeld
      go_wp2
      go_roundw
      case rel => exact ⟨2, by omega, by go_num, hr, hq, hx, hb⟩
      case measure => decide
    · go_wp2_with (first | ((with_reducible refine ld_vp (w.heap.size + 2) _ hx ?_ ?_ ?_); exact rfl; exact rfl) | ((with_reducible refine st_vp (w.heap.size + 1) _ s hq ?_ ?_ ?_); exact rfl; exact rfl; intro W hnew ho; replace hr := hr.only ho (by omega); replace hq := hnew; replace hb := ho.bel _ _ (by omega) hb))
      refine bodyPost_ret (results_cell_row Tryz.results22 _ _ (w.heap.size + 1) _ _ _ _ rfl hq Tryz.underlying39 rfl size_vp) rfl ?_
      exact ⟨rfl, hb⟩

end Go.Proofs.YtbggkoahofnnjaaGreatDoor
