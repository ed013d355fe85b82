/-
  What uart's waitMayBe and Check answer.
-/
import Derived.Test.YthopfecjnbfnmaaUaFifo
namespace Go.Proofs.Ythopfecjnbfnmaa
open Go.RowKit
set_option linter.unusedVariables false

attribute [local go_sem] U.at0 U.at1 U.at2 U.at3 U.at4 U.at5 U.at6 U.at7 U.at8 U.at9 U.at10 U.at11 U.at12 U.at13 U.at14 U.at15 U.at16 U.at17 U.at18 U.at19 U.at20 U.at21 U.at22 U.at23 U.at24 U.at25 U.at26 U.at27 U.at28 U.at29 U.at30 U.at31 U.at32 U.at33 U.at34 U.at35 U.at36 U.at37 U.at38 U.at39 U.at40 U.at41
set_option maxHeartbeats 1000000 in
theorem wait_w0 (s : U) (ok : s.Ok) (h0 : s.wt = 0) (w : World) :
    Calls Try.prog 29 #[.agg s.cells] w fun e w' => e = .returned (.bool (waitB s)) ∧ Below w.heap.size w w' := by
  have HV : waitB s = true := by unfold waitB; rw [decide_eq_true h0]; rfl
  rw [HV]; clear HV
  have t1 : (s.wt == 0) = true := by simp [h0]
  clear h0
  have HE := hide (fun f w => empty_any f w)
  go_enter Try.func29, Try.ntmps29
  go_wp2_with (first | ((with_reducible refine bx_up w.heap.size s ?_ ?_ ?_); exact rfl; exact rfl; intro W hr hb hz; have fx := hr.cell) | ((with_reducible refine ld_txp w.heap.size _ _ hr ?_ ?_ ?_); exact rfl; exact rfl) | (go_at_call 15; (with_reducible refine (HE.out _ _).mono ?_); rintro e W ⟨rfl, hbc⟩; replace hr := hr.bl hbc; replace hb := below_bl rfl hb hbc))
  go_ret
  exact ⟨rfl, hb⟩

set_option maxHeartbeats 1000000 in
theorem wait_wn (s : U) (ok : s.Ok) (h0 : s.wt < 0) (w : World) :
    Calls Try.prog 29 #[.agg s.cells] w fun e w' => e = .returned (.bool (waitB s)) ∧ Below w.heap.size w w' := by
  have HV : waitB s = false := by unfold waitB; rw [decide_eq_false (show ¬ s.wt = 0 by omega), decide_eq_false (show ¬ 0 < s.wt by omega)]; rfl
  rw [HV]; clear HV
  have t1 : (s.wt == 0) = false := by simp; omega
  have t2 : decide (s.wt > 0) = false := by simp; omega
  have t2n : decide (0 < s.wt) = false := by simp; omega
  clear h0
  have HE := hide (fun f w => empty_any f w)
  go_enter Try.func29, Try.ntmps29
  go_wp2_with (first | ((with_reducible refine bx_up w.heap.size s ?_ ?_ ?_); exact rfl; exact rfl; intro W hr hb hz; have fx := hr.cell) | ((with_reducible refine ld_txp w.heap.size _ _ hr ?_ ?_ ?_); exact rfl; exact rfl) | (go_at_call 15; (with_reducible refine (HE.out _ _).mono ?_); rintro e W ⟨rfl, hbc⟩; replace hr := hr.bl hbc; replace hb := below_bl rfl hb hbc))
  go_ret
  exact ⟨rfl, hb⟩

set_option maxHeartbeats 1000000 in
theorem wait_wg (s : U) (ok : s.Ok) (h0 : 4 ≤ s.wt) (w : World) :
    Calls Try.prog 29 #[.agg s.cells] w fun e w' => e = .returned (.bool (waitB s)) ∧ Below w.heap.size w w' := by
  have HV : waitB s = false := by unfold waitB; rw [decide_eq_false (show ¬ s.wt = 0 by omega), decide_eq_false (show ¬ s.wt < 4 by omega)]; simp
  rw [HV]; clear HV
  have t1 : (s.wt == 0) = false := by simp; omega
  have t2 : 0 < s.wt := by omega
  have t3 : decide (s.wt < 4) = false := by simp; omega
  have HE := hide (fun f w => empty_any f w)
  go_enter Try.func29, Try.ntmps29
  go_wp2_with (first | ((with_reducible refine bx_up w.heap.size s ?_ ?_ ?_); exact rfl; exact rfl; intro W hr hb hz; have fx := hr.cell) | ((with_reducible refine ld_txp w.heap.size _ _ hr ?_ ?_ ?_); exact rfl; exact rfl) | (go_at_call 15; (with_reducible refine (HE.out _ _).mono ?_); rintro e W ⟨rfl, hbc⟩; replace hr := hr.bl hbc; replace hb := below_bl rfl hb hbc))
  go_ret
  exact ⟨rfl, hb⟩

set_option maxHeartbeats 1000000 in
theorem wait_wi (s : U) (ok : s.Ok) (h0 : 0 < s.wt) (h1 : s.wt < 4) (w : World) :
    Calls Try.prog 29 #[.agg s.cells] w fun e w' => e = .returned (.bool (waitB s)) ∧ Below w.heap.size w w' := by
  have HV : waitB s = (!(s.tx.n == 0)) := by unfold waitB; rw [decide_eq_false (show ¬ s.wt = 0 by omega), decide_eq_true h0, decide_eq_true h1]; simp; rfl
  rw [HV]; clear HV
  have t1 : (s.wt == 0) = false := by simp; omega
  have HE := hide (fun f w => empty_any f w)
  go_enter Try.func29, Try.ntmps29
  go_wp2_with (first | ((with_reducible refine bx_up w.heap.size s ?_ ?_ ?_); exact rfl; exact rfl; intro W hr hb hz; have fx := hr.cell) | ((with_reducible refine ld_txp w.heap.size _ _ hr ?_ ?_ ?_); exact rfl; exact rfl) | (go_at_call 15; (with_reducible refine (HE.out _ _).mono ?_); rintro e W ⟨rfl, hbc⟩; replace hr := hr.bl hbc; replace hb := below_bl rfl hb hbc))
  go_ret
  exact ⟨rfl, hb⟩

theorem wait_any (s : U) (ok : s.Ok) (w : World) :
    Calls Try.prog 29 #[.agg s.cells] w fun e w' => e = .returned (.bool (waitB s)) ∧ Below w.heap.size w w' := by
  by_cases h : s.wt = 0
  · exact wait_w0 s ok h w
  by_cases h1 : s.wt < 0
  · exact wait_wn s ok h1 w
  by_cases h2 : s.wt < 4
  · exact wait_wi s ok (by omega) h2 w
  · exact wait_wg s ok (by omega) w
set_option maxHeartbeats 1000000 in
theorem check_c0 (s : U) (ok : s.Ok) (h0 : mayF s.rx = false) (w : World) :
    Calls Try.prog 14 #[.agg s.cells] w fun e w' => e = .returned (.iface 63 (.int .i64 1)) ∧ Below w.heap.size w w' := by
  have HM := hide (fun f w => maybe_any f w)
  have HW := hide (fun w => wait_any s ok w)
  have t0 : mayF s.rx = false := h0
  go_enter Try.func14, Try.ntmps14
  go_wp2_with (first | ((with_reducible refine bx_up w.heap.size s ?_ ?_ ?_); exact rfl; exact rfl; intro W hr hb hz; have fx := hr.cell) | ((with_reducible refine ld_rxp w.heap.size _ _ hr ?_ ?_ ?_); exact rfl; exact rfl) | ((with_reducible refine ld_txp w.heap.size _ _ hr ?_ ?_ ?_); exact rfl; exact rfl) | ((with_reducible refine ld_up w.heap.size _ hr ?_ ?_ ?_); exact rfl; exact rfl) | (go_at_call 28; (with_reducible refine (HM.out _ _).mono ?_); rintro e W ⟨rfl, hbc⟩; replace hr := hr.bl hbc; replace fx := hr.cell; replace hb := below_bl rfl hb hbc) | (go_at_call 29; (with_reducible refine (HW.out _).mono ?_); rintro e W ⟨rfl, hbc⟩; replace hr := hr.bl hbc; replace fx := hr.cell; replace hb := below_bl rfl hb hbc))
  go_ret
  exact ⟨rfl, hb⟩

set_option maxHeartbeats 1000000 in
theorem check_c1 (s : U) (ok : s.Ok) (h0 : mayF s.rx = true) (h1 : mayF s.tx = false) (w : World) :
    Calls Try.prog 14 #[.agg s.cells] w fun e w' => e = .returned (.iface 63 (.int .i64 1)) ∧ Below w.heap.size w w' := by
  have HM := hide (fun f w => maybe_any f w)
  have HW := hide (fun w => wait_any s ok w)
  have t0 : mayF s.rx = true := h0
  have t1 : mayF s.tx = false := h1
  go_enter Try.func14, Try.ntmps14
  go_wp2_with (first | ((with_reducible refine bx_up w.heap.size s ?_ ?_ ?_); exact rfl; exact rfl; intro W hr hb hz; have fx := hr.cell) | ((with_reducible refine ld_rxp w.heap.size _ _ hr ?_ ?_ ?_); exact rfl; exact rfl) | ((with_reducible refine ld_txp w.heap.size _ _ hr ?_ ?_ ?_); exact rfl; exact rfl) | ((with_reducible refine ld_up w.heap.size _ hr ?_ ?_ ?_); exact rfl; exact rfl) | (go_at_call 28; (with_reducible refine (HM.out _ _).mono ?_); rintro e W ⟨rfl, hbc⟩; replace hr := hr.bl hbc; replace fx := hr.cell; replace hb := below_bl rfl hb hbc) | (go_at_call 29; (with_reducible refine (HW.out _).mono ?_); rintro e W ⟨rfl, hbc⟩; replace hr := hr.bl hbc; replace fx := hr.cell; replace hb := below_bl rfl hb hbc))
  go_ret
  exact ⟨rfl, hb⟩

set_option maxHeartbeats 1000000 in
theorem check_c2 (s : U) (ok : s.Ok) (h0 : mayF s.rx = true) (h1 : mayF s.tx = true) (h2 : waitB s = false) (w : World) :
    Calls Try.prog 14 #[.agg s.cells] w fun e w' => e = .returned (.iface 63 (.int .i64 1)) ∧ Below w.heap.size w w' := by
  have HM := hide (fun f w => maybe_any f w)
  have HW := hide (fun w => wait_any s ok w)
  have t0 : mayF s.rx = true := h0
  have t1 : mayF s.tx = true := h1
  have t2 : waitB s = false := h2
  go_enter Try.func14, Try.ntmps14
  go_wp2_with (first | ((with_reducible refine bx_up w.heap.size s ?_ ?_ ?_); exact rfl; exact rfl; intro W hr hb hz; have fx := hr.cell) | ((with_reducible refine ld_rxp w.heap.size _ _ hr ?_ ?_ ?_); exact rfl; exact rfl) | ((with_reducible refine ld_txp w.heap.size _ _ hr ?_ ?_ ?_); exact rfl; exact rfl) | ((with_reducible refine ld_up w.heap.size _ hr ?_ ?_ ?_); exact rfl; exact rfl) | (go_at_call 28; (with_reducible refine (HM.out _ _).mono ?_); rintro e W ⟨rfl, hbc⟩; replace hr := hr.bl hbc; replace fx := hr.cell; replace hb := below_bl rfl hb hbc) | (go_at_call 29; (with_reducible refine (HW.out _).mono ?_); rintro e W ⟨rfl, hbc⟩; replace hr := hr.bl hbc; replace fx := hr.cell; replace hb := below_bl rfl hb hbc))
  go_ret
  exact ⟨rfl, hb⟩

set_option maxHeartbeats 1000000 in
theorem check_c3 (s : U) (ok : s.Ok) (h0 : mayF s.rx = true) (h1 : mayF s.tx = true) (h2 : waitB s = true) (h3 : 7 < s.ie) (w : World) :
    Calls Try.prog 14 #[.agg s.cells] w fun e w' => e = .returned (.iface 63 (.int .i64 1)) ∧ Below w.heap.size w w' := by
  have HM := hide (fun f w => maybe_any f w)
  have HW := hide (fun w => wait_any s ok w)
  have t0 : mayF s.rx = true := h0
  have t1 : mayF s.tx = true := h1
  have t2 : waitB s = true := h2
  have t3 : (s.ie : Int) > 7 := by omega
  go_enter Try.func14, Try.ntmps14
  go_wp2_with (first | ((with_reducible refine bx_up w.heap.size s ?_ ?_ ?_); exact rfl; exact rfl; intro W hr hb hz; have fx := hr.cell) | ((with_reducible refine ld_rxp w.heap.size _ _ hr ?_ ?_ ?_); exact rfl; exact rfl) | ((with_reducible refine ld_txp w.heap.size _ _ hr ?_ ?_ ?_); exact rfl; exact rfl) | ((with_reducible refine ld_up w.heap.size _ hr ?_ ?_ ?_); exact rfl; exact rfl) | (go_at_call 28; (with_reducible refine (HM.out _ _).mono ?_); rintro e W ⟨rfl, hbc⟩; replace hr := hr.bl hbc; replace fx := hr.cell; replace hb := below_bl rfl hb hbc) | (go_at_call 29; (with_reducible refine (HW.out _).mono ?_); rintro e W ⟨rfl, hbc⟩; replace hr := hr.bl hbc; replace fx := hr.cell; replace hb := below_bl rfl hb hbc))
  go_ret
  exact ⟨rfl, hb⟩

set_option maxHeartbeats 1000000 in
theorem check_c4 (s : U) (ok : s.Ok) (h0 : mayF s.rx = true) (h1 : mayF s.tx = true) (h2 : waitB s = true) (h3 : s.ie ≤ 7) (h4 : 31 < s.mc) (w : World) :
    Calls Try.prog 14 #[.agg s.cells] w fun e w' => e = .returned (.iface 63 (.int .i64 1)) ∧ Below w.heap.size w w' := by
  have HM := hide (fun f w => maybe_any f w)
  have HW := hide (fun w => wait_any s ok w)
  have t0 : mayF s.rx = true := h0
  have t1 : mayF s.tx = true := h1
  have t2 : waitB s = true := h2
  have t3 : decide ((s.ie : Int) > 7) = false := by simp; omega
  have t3n : decide (s.ie > 7) = false := by simp; omega
  have t3m : decide (7 < s.ie) = false := by simp; omega
  have t4 : (s.mc : Int) > 31 := by omega
  go_enter Try.func14, Try.ntmps14
  go_wp2_with (first | ((with_reducible refine bx_up w.heap.size s ?_ ?_ ?_); exact rfl; exact rfl; intro W hr hb hz; have fx := hr.cell) | ((with_reducible refine ld_rxp w.heap.size _ _ hr ?_ ?_ ?_); exact rfl; exact rfl) | ((with_reducible refine ld_txp w.heap.size _ _ hr ?_ ?_ ?_); exact rfl; exact rfl) | ((with_reducible refine ld_up w.heap.size _ hr ?_ ?_ ?_); exact rfl; exact rfl) | (go_at_call 28; (with_reducible refine (HM.out _ _).mono ?_); rintro e W ⟨rfl, hbc⟩; replace hr := hr.bl hbc; replace fx := hr.cell; replace hb := below_bl rfl hb hbc) | (go_at_call 29; (with_reducible refine (HW.out _).mono ?_); rintro e W ⟨rfl, hbc⟩; replace hr := hr.bl hbc; replace fx := hr.cell; replace hb := below_bl rfl hb hbc))
  go_ret
  exact ⟨rfl, hb⟩

set_option maxHeartbeats 1000000 in
theorem check_c5 (s : U) (ok : s.Ok) (h0 : mayF s.rx = true) (h1 : mayF s.tx = true) (h2 : waitB s = true) (h3 : s.ie ≤ 7) (h4 : s.mc ≤ 31) (w : World) :
    Calls Try.prog 14 #[.agg s.cells] w fun e w' => e = .returned (.nilIface) ∧ Below w.heap.size w w' := by
  have HM := hide (fun f w => maybe_any f w)
  have HW := hide (fun w => wait_any s ok w)
  have t0 : mayF s.rx = true := h0
  have t1 : mayF s.tx = true := h1
  have t2 : waitB s = true := h2
  have t3 : decide ((s.ie : Int) > 7) = false := by simp; omega
  have t3n : decide (s.ie > 7) = false := by simp; omega
  have t3m : decide (7 < s.ie) = false := by simp; omega
  have t4 : decide ((s.mc : Int) > 31) = false := by simp; omega
  have t4n : decide (s.mc > 31) = false := by simp; omega
  have t4m : decide (31 < s.mc) = false := by simp; omega
  go_enter Try.func14, Try.ntmps14
  go_wp2_with (first | ((with_reducible refine bx_up w.heap.size s ?_ ?_ ?_); exact rfl; exact rfl; intro W hr hb hz; have fx := hr.cell) | ((with_reducible refine ld_rxp w.heap.size _ _ hr ?_ ?_ ?_); exact rfl; exact rfl) | ((with_reducible refine ld_txp w.heap.size _ _ hr ?_ ?_ ?_); exact rfl; exact rfl) | ((with_reducible refine ld_up w.heap.size _ hr ?_ ?_ ?_); exact rfl; exact rfl) | (go_at_call 28; (with_reducible refine (HM.out _ _).mono ?_); rintro e W ⟨rfl, hbc⟩; replace hr := hr.bl hbc; replace fx := hr.cell; replace hb := below_bl rfl hb hbc) | (go_at_call 29; (with_reducible refine (HW.out _).mono ?_); rintro e W ⟨rfl, hbc⟩; replace hr := hr.bl hbc; replace fx := hr.cell; replace hb := below_bl rfl hb hbc))
  go_ret
  exact ⟨rfl, hb⟩

theorem check_ok (s : U) (ok : s.Ok) (hm : mayU s = true) (w : World) :
    Calls Try.prog 14 #[.agg s.cells] w fun e w' => e = .returned .nilIface ∧ Below w.heap.size w w' := by
  unfold mayU at hm
  simp only [Bool.and_eq_true, decide_eq_true_eq] at hm
  exact check_c5 s ok hm.1 hm.2.1 hm.2.2.1 hm.2.2.2.1 hm.2.2.2.2 w
theorem check_no (s : U) (ok : s.Ok) (hm : mayU s = false) (w : World) :
    Calls Try.prog 14 #[.agg s.cells] w fun e w' => e = .returned (.iface 63 (.int .i64 1)) ∧ Below w.heap.size w w' := by
  cases h0 : mayF s.rx with
  | false => exact check_c0 s ok h0 w
  | true =>
    cases h1 : mayF s.tx with
    | false => exact check_c1 s ok h0 h1 w
    | true =>
      cases h2 : waitB s with
      | false => exact check_c2 s ok h0 h1 h2 w
      | true =>
        by_cases h3 : s.ie ≤ 7
        · by_cases h4 : s.mc ≤ 31
          · unfold mayU at hm
            rw [h0, h1, h2, decide_eq_true h3, decide_eq_true h4] at hm
            cases hm
          · exact check_c4 s ok h0 h1 h2 h3 (by omega) w
        · exact check_c3 s ok h0 h1 h2 (by omega) w
theorem check_any (s : U) (ok : s.Ok) (w : World) :
    Calls Try.prog 14 #[.agg s.cells] w fun e w' => e = .returned (errP (chk (mayU s))) ∧ Below w.heap.size w w' := by
  cases h : mayU s with
  | true => exact check_ok s ok h w
  | false => exact check_no s ok h w
end Go.Proofs.Ythopfecjnbfnmaa
