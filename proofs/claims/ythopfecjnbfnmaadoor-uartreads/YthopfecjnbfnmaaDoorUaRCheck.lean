/-
  What the document's Check answers.
-/
import Derived.Test.YthopfecjnbfnmaaDoorUaRFifo
namespace Go.Proofs.YthopfecjnbfnmaaDoor
open Go.RowKit
set_option linter.unusedVariables false

attribute [local go_sem] U.at0 U.at1 U.at2 U.at3 U.at4 U.at5 U.at6 U.at7 U.at8 U.at9 U.at10 U.at11 U.at12 U.at13 U.at14 U.at15 U.at16 U.at17 U.at18 U.at19 U.at20 U.at21 U.at22 U.at23 U.at24 U.at25 U.at26 U.at27 U.at28 U.at29 U.at30 U.at31 U.at32 U.at33 U.at34 U.at35 U.at36 U.at37 U.at38 U.at39 U.at40 U.at41
set_option maxHeartbeats 1000000 in
theorem rcheck_c0 (s : U) (ok : s.Ok) (h0 : mayF s.rx = false) (w : World) :
    Calls Tryd.prog 8 #[.agg s.cells] w fun e w' => e = .returned (.int .i64 ((1 : Nat) : Int)) ∧ Below w.heap.size w w' := by
  have HM := hide (fun f w => rmay_any f w)
  go_enter Tryd.func8, Tryd.ntmps8
  go_wp2_with (first | ((with_reducible refine bx_ur w.heap.size s ?_ ?_ ?_); exact rfl; exact rfl; intro W hr hb hz; have fx := hr.cell) | ((with_reducible refine ld_rxr w.heap.size _ _ hr ?_ ?_ ?_); exact rfl; exact rfl) | ((with_reducible refine ld_txr w.heap.size _ _ hr ?_ ?_ ?_); exact rfl; exact rfl) | (go_at_call 21; (with_reducible refine (HM.out _ _).mono ?_); rintro e W ⟨rfl, hbc⟩; replace hr := hr.bl hbc; replace fx := hr.cell; replace hb := below_bl rfl hb hbc))
  go_ret
  exact ⟨rfl, hb⟩

set_option maxHeartbeats 1000000 in
theorem rcheck_c1 (s : U) (ok : s.Ok) (h0 : mayF s.rx = true) (h1 : mayF s.tx = false) (w : World) :
    Calls Tryd.prog 8 #[.agg s.cells] w fun e w' => e = .returned (.int .i64 ((1 : Nat) : Int)) ∧ Below w.heap.size w w' := by
  have HM := hide (fun f w => rmay_any f w)
  go_enter Tryd.func8, Tryd.ntmps8
  go_wp2_with (first | ((with_reducible refine bx_ur w.heap.size s ?_ ?_ ?_); exact rfl; exact rfl; intro W hr hb hz; have fx := hr.cell) | ((with_reducible refine ld_rxr w.heap.size _ _ hr ?_ ?_ ?_); exact rfl; exact rfl) | ((with_reducible refine ld_txr w.heap.size _ _ hr ?_ ?_ ?_); exact rfl; exact rfl) | (go_at_call 21; (with_reducible refine (HM.out _ _).mono ?_); rintro e W ⟨rfl, hbc⟩; replace hr := hr.bl hbc; replace fx := hr.cell; replace hb := below_bl rfl hb hbc))
  go_ret
  exact ⟨rfl, hb⟩

set_option maxHeartbeats 1000000 in
theorem rcheck_wn (s : U) (ok : s.Ok) (h0 : mayF s.rx = true) (h1 : mayF s.tx = true) (h2 : s.wt < 0) (w : World) :
    Calls Tryd.prog 8 #[.agg s.cells] w fun e w' => e = .returned (.int .i64 ((1 : Nat) : Int)) ∧ Below w.heap.size w w' := by
  have HM := hide (fun f w => rmay_any f w)
  go_enter Tryd.func8, Tryd.ntmps8
  go_wp2_with (first | ((with_reducible refine bx_ur w.heap.size s ?_ ?_ ?_); exact rfl; exact rfl; intro W hr hb hz; have fx := hr.cell) | ((with_reducible refine ld_rxr w.heap.size _ _ hr ?_ ?_ ?_); exact rfl; exact rfl) | ((with_reducible refine ld_txr w.heap.size _ _ hr ?_ ?_ ?_); exact rfl; exact rfl) | (go_at_call 21; (with_reducible refine (HM.out _ _).mono ?_); rintro e W ⟨rfl, hbc⟩; replace hr := hr.bl hbc; replace fx := hr.cell; replace hb := below_bl rfl hb hbc))
  go_ret
  exact ⟨rfl, hb⟩

set_option maxHeartbeats 1000000 in
theorem rcheck_wg (s : U) (ok : s.Ok) (h0 : mayF s.rx = true) (h1 : mayF s.tx = true) (h2 : 3 < s.wt) (w : World) :
    Calls Tryd.prog 8 #[.agg s.cells] w fun e w' => e = .returned (.int .i64 ((1 : Nat) : Int)) ∧ Below w.heap.size w w' := by
  have HM := hide (fun f w => rmay_any f w)
  have t1 : decide (s.wt < 0) = false := by simp; omega
  have t2 : s.wt > 3 := h2
  go_enter Tryd.func8, Tryd.ntmps8
  go_wp2_with (first | ((with_reducible refine bx_ur w.heap.size s ?_ ?_ ?_); exact rfl; exact rfl; intro W hr hb hz; have fx := hr.cell) | ((with_reducible refine ld_rxr w.heap.size _ _ hr ?_ ?_ ?_); exact rfl; exact rfl) | ((with_reducible refine ld_txr w.heap.size _ _ hr ?_ ?_ ?_); exact rfl; exact rfl) | (go_at_call 21; (with_reducible refine (HM.out _ _).mono ?_); rintro e W ⟨rfl, hbc⟩; replace hr := hr.bl hbc; replace fx := hr.cell; replace hb := below_bl rfl hb hbc))
  go_ret
  exact ⟨rfl, hb⟩

set_option maxHeartbeats 1000000 in
theorem rcheck_wb (s : U) (ok : s.Ok) (h0 : mayF s.rx = true) (h1 : mayF s.tx = true) (h2 : 0 < s.wt) (h3 : s.wt ≤ 3) (h4 : s.tx.n = 0) (w : World) :
    Calls Tryd.prog 8 #[.agg s.cells] w fun e w' => e = .returned (.int .i64 ((1 : Nat) : Int)) ∧ Below w.heap.size w w' := by
  have HM := hide (fun f w => rmay_any f w)
  have t1 : decide (s.wt < 0) = false := by simp; omega
  have t2 : decide (s.wt > 3) = false := by simp; omega
  have t2n : decide (3 < s.wt) = false := by simp; omega
  have t3 : (s.tx.n == 0) = true := by simp [h4]
  have t4 : (s.wt != 0) = true := by simp; omega
  clear h2 h3 h4
  go_enter Tryd.func8, Tryd.ntmps8
  go_wp2_with (first | ((with_reducible refine bx_ur w.heap.size s ?_ ?_ ?_); exact rfl; exact rfl; intro W hr hb hz; have fx := hr.cell) | ((with_reducible refine ld_rxr w.heap.size _ _ hr ?_ ?_ ?_); exact rfl; exact rfl) | ((with_reducible refine ld_txr w.heap.size _ _ hr ?_ ?_ ?_); exact rfl; exact rfl) | (go_at_call 21; (with_reducible refine (HM.out _ _).mono ?_); rintro e W ⟨rfl, hbc⟩; replace hr := hr.bl hbc; replace fx := hr.cell; replace hb := below_bl rfl hb hbc))
  go_ret
  exact ⟨rfl, hb⟩

set_option maxHeartbeats 1000000 in
theorem rcheck_ni (s : U) (ok : s.Ok) (h0 : mayF s.rx = true) (h1 : mayF s.tx = true) (h2 : 0 ≤ s.wt) (h3 : s.wt ≤ 3) (h4 : ¬ s.tx.n = 0) (h5 : 7 < s.ie) (w : World) :
    Calls Tryd.prog 8 #[.agg s.cells] w fun e w' => e = .returned (.int .i64 ((1 : Nat) : Int)) ∧ Below w.heap.size w w' := by
  have HM := hide (fun f w => rmay_any f w)
  have t1 : decide (s.wt < 0) = false := by simp; omega
  have t2 : decide (s.wt > 3) = false := by simp; omega
  have t2n : decide (3 < s.wt) = false := by simp; omega
  have t3 : (s.tx.n == 0) = false := by simp; omega
  clear h4
  have u1 : (s.ie : Int) > 7 := by omega
  go_enter Tryd.func8, Tryd.ntmps8
  go_wp2_with (first | ((with_reducible refine bx_ur w.heap.size s ?_ ?_ ?_); exact rfl; exact rfl; intro W hr hb hz; have fx := hr.cell) | ((with_reducible refine ld_rxr w.heap.size _ _ hr ?_ ?_ ?_); exact rfl; exact rfl) | ((with_reducible refine ld_txr w.heap.size _ _ hr ?_ ?_ ?_); exact rfl; exact rfl) | (go_at_call 21; (with_reducible refine (HM.out _ _).mono ?_); rintro e W ⟨rfl, hbc⟩; replace hr := hr.bl hbc; replace fx := hr.cell; replace hb := below_bl rfl hb hbc))
  go_ret
  exact ⟨rfl, hb⟩

set_option maxHeartbeats 1000000 in
theorem rcheck_nm (s : U) (ok : s.Ok) (h0 : mayF s.rx = true) (h1 : mayF s.tx = true) (h2 : 0 ≤ s.wt) (h3 : s.wt ≤ 3) (h4 : ¬ s.tx.n = 0) (h5 : s.ie ≤ 7) (h6 : 31 < s.mc) (w : World) :
    Calls Tryd.prog 8 #[.agg s.cells] w fun e w' => e = .returned (.int .i64 ((1 : Nat) : Int)) ∧ Below w.heap.size w w' := by
  have HM := hide (fun f w => rmay_any f w)
  have t1 : decide (s.wt < 0) = false := by simp; omega
  have t2 : decide (s.wt > 3) = false := by simp; omega
  have t2n : decide (3 < s.wt) = false := by simp; omega
  have t3 : (s.tx.n == 0) = false := by simp; omega
  clear h4
  have u1 : decide ((s.ie : Int) > 7) = false := by simp; omega
  have u1m : decide (7 < s.ie) = false := by simp; omega
  have u2 : (s.mc : Int) > 31 := by omega
  go_enter Tryd.func8, Tryd.ntmps8
  go_wp2_with (first | ((with_reducible refine bx_ur w.heap.size s ?_ ?_ ?_); exact rfl; exact rfl; intro W hr hb hz; have fx := hr.cell) | ((with_reducible refine ld_rxr w.heap.size _ _ hr ?_ ?_ ?_); exact rfl; exact rfl) | ((with_reducible refine ld_txr w.heap.size _ _ hr ?_ ?_ ?_); exact rfl; exact rfl) | (go_at_call 21; (with_reducible refine (HM.out _ _).mono ?_); rintro e W ⟨rfl, hbc⟩; replace hr := hr.bl hbc; replace fx := hr.cell; replace hb := below_bl rfl hb hbc))
  go_ret
  exact ⟨rfl, hb⟩

set_option maxHeartbeats 1000000 in
theorem rcheck_nk (s : U) (ok : s.Ok) (h0 : mayF s.rx = true) (h1 : mayF s.tx = true) (h2 : 0 ≤ s.wt) (h3 : s.wt ≤ 3) (h4 : ¬ s.tx.n = 0) (h5 : s.ie ≤ 7) (h6 : s.mc ≤ 31) (w : World) :
    Calls Tryd.prog 8 #[.agg s.cells] w fun e w' => e = .returned (.int .i64 ((0 : Nat) : Int)) ∧ Below w.heap.size w w' := by
  have HM := hide (fun f w => rmay_any f w)
  have t1 : decide (s.wt < 0) = false := by simp; omega
  have t2 : decide (s.wt > 3) = false := by simp; omega
  have t2n : decide (3 < s.wt) = false := by simp; omega
  have t3 : (s.tx.n == 0) = false := by simp; omega
  clear h4
  have u1 : decide ((s.ie : Int) > 7) = false := by simp; omega
  have u1m : decide (7 < s.ie) = false := by simp; omega
  have u2 : decide ((s.mc : Int) > 31) = false := by simp; omega
  have u2m : decide (31 < s.mc) = false := by simp; omega
  go_enter Tryd.func8, Tryd.ntmps8
  go_wp2_with (first | ((with_reducible refine bx_ur w.heap.size s ?_ ?_ ?_); exact rfl; exact rfl; intro W hr hb hz; have fx := hr.cell) | ((with_reducible refine ld_rxr w.heap.size _ _ hr ?_ ?_ ?_); exact rfl; exact rfl) | ((with_reducible refine ld_txr w.heap.size _ _ hr ?_ ?_ ?_); exact rfl; exact rfl) | (go_at_call 21; (with_reducible refine (HM.out _ _).mono ?_); rintro e W ⟨rfl, hbc⟩; replace hr := hr.bl hbc; replace fx := hr.cell; replace hb := below_bl rfl hb hbc))
  go_ret
  exact ⟨rfl, hb⟩

set_option maxHeartbeats 1000000 in
theorem rcheck_zi (s : U) (ok : s.Ok) (h0 : mayF s.rx = true) (h1 : mayF s.tx = true) (h2 : s.wt = 0) (h4 : s.tx.n = 0) (h5 : 7 < s.ie) (w : World) :
    Calls Tryd.prog 8 #[.agg s.cells] w fun e w' => e = .returned (.int .i64 ((1 : Nat) : Int)) ∧ Below w.heap.size w w' := by
  have HM := hide (fun f w => rmay_any f w)
  have t1 : decide (s.wt < 0) = false := by simp; omega
  have t2 : decide (s.wt > 3) = false := by simp; omega
  have t2n : decide (3 < s.wt) = false := by simp; omega
  have t3 : (s.tx.n == 0) = true := by simp [h4]
  have t4 : (s.wt != 0) = false := by simp [h2]
  clear h2 h4
  have u1 : (s.ie : Int) > 7 := by omega
  go_enter Tryd.func8, Tryd.ntmps8
  go_wp2_with (first | ((with_reducible refine bx_ur w.heap.size s ?_ ?_ ?_); exact rfl; exact rfl; intro W hr hb hz; have fx := hr.cell) | ((with_reducible refine ld_rxr w.heap.size _ _ hr ?_ ?_ ?_); exact rfl; exact rfl) | ((with_reducible refine ld_txr w.heap.size _ _ hr ?_ ?_ ?_); exact rfl; exact rfl) | (go_at_call 21; (with_reducible refine (HM.out _ _).mono ?_); rintro e W ⟨rfl, hbc⟩; replace hr := hr.bl hbc; replace fx := hr.cell; replace hb := below_bl rfl hb hbc))
  go_ret
  exact ⟨rfl, hb⟩

set_option maxHeartbeats 1000000 in
theorem rcheck_zm (s : U) (ok : s.Ok) (h0 : mayF s.rx = true) (h1 : mayF s.tx = true) (h2 : s.wt = 0) (h4 : s.tx.n = 0) (h5 : s.ie ≤ 7) (h6 : 31 < s.mc) (w : World) :
    Calls Tryd.prog 8 #[.agg s.cells] w fun e w' => e = .returned (.int .i64 ((1 : Nat) : Int)) ∧ Below w.heap.size w w' := by
  have HM := hide (fun f w => rmay_any f w)
  have t1 : decide (s.wt < 0) = false := by simp; omega
  have t2 : decide (s.wt > 3) = false := by simp; omega
  have t2n : decide (3 < s.wt) = false := by simp; omega
  have t3 : (s.tx.n == 0) = true := by simp [h4]
  have t4 : (s.wt != 0) = false := by simp [h2]
  clear h2 h4
  have u1 : decide ((s.ie : Int) > 7) = false := by simp; omega
  have u1m : decide (7 < s.ie) = false := by simp; omega
  have u2 : (s.mc : Int) > 31 := by omega
  go_enter Tryd.func8, Tryd.ntmps8
  go_wp2_with (first | ((with_reducible refine bx_ur w.heap.size s ?_ ?_ ?_); exact rfl; exact rfl; intro W hr hb hz; have fx := hr.cell) | ((with_reducible refine ld_rxr w.heap.size _ _ hr ?_ ?_ ?_); exact rfl; exact rfl) | ((with_reducible refine ld_txr w.heap.size _ _ hr ?_ ?_ ?_); exact rfl; exact rfl) | (go_at_call 21; (with_reducible refine (HM.out _ _).mono ?_); rintro e W ⟨rfl, hbc⟩; replace hr := hr.bl hbc; replace fx := hr.cell; replace hb := below_bl rfl hb hbc))
  go_ret
  exact ⟨rfl, hb⟩

set_option maxHeartbeats 1000000 in
theorem rcheck_zk (s : U) (ok : s.Ok) (h0 : mayF s.rx = true) (h1 : mayF s.tx = true) (h2 : s.wt = 0) (h4 : s.tx.n = 0) (h5 : s.ie ≤ 7) (h6 : s.mc ≤ 31) (w : World) :
    Calls Tryd.prog 8 #[.agg s.cells] w fun e w' => e = .returned (.int .i64 ((0 : Nat) : Int)) ∧ Below w.heap.size w w' := by
  have HM := hide (fun f w => rmay_any f w)
  have t1 : decide (s.wt < 0) = false := by simp; omega
  have t2 : decide (s.wt > 3) = false := by simp; omega
  have t2n : decide (3 < s.wt) = false := by simp; omega
  have t3 : (s.tx.n == 0) = true := by simp [h4]
  have t4 : (s.wt != 0) = false := by simp [h2]
  clear h2 h4
  have u1 : decide ((s.ie : Int) > 7) = false := by simp; omega
  have u1m : decide (7 < s.ie) = false := by simp; omega
  have u2 : decide ((s.mc : Int) > 31) = false := by simp; omega
  have u2m : decide (31 < s.mc) = false := by simp; omega
  go_enter Tryd.func8, Tryd.ntmps8
  go_wp2_with (first | ((with_reducible refine bx_ur w.heap.size s ?_ ?_ ?_); exact rfl; exact rfl; intro W hr hb hz; have fx := hr.cell) | ((with_reducible refine ld_rxr w.heap.size _ _ hr ?_ ?_ ?_); exact rfl; exact rfl) | ((with_reducible refine ld_txr w.heap.size _ _ hr ?_ ?_ ?_); exact rfl; exact rfl) | (go_at_call 21; (with_reducible refine (HM.out _ _).mono ?_); rintro e W ⟨rfl, hbc⟩; replace hr := hr.bl hbc; replace fx := hr.cell; replace hb := below_bl rfl hb hbc))
  go_ret
  exact ⟨rfl, hb⟩

theorem rcheck_any (s : U) (ok : s.Ok) (w : World) :
    Calls Tryd.prog 8 #[.agg s.cells] w fun e w' => e = .returned (.int .i64 (chk (mayU s) : Nat)) ∧ Below w.heap.size w w' := by
  have no : ∀ b, ¬ May s → b = mayU s → b = false := fun b h hb => by
    rw [hb]; cases hm : mayU s with
    | false => rfl
    | true => exact absurd ((mayU_iff s).1 hm) h
  cases h0 : mayF s.rx with
  | false => rw [no _ (fun h => by rw [h.rx] at h0; cases h0) rfl]; exact rcheck_c0 s ok h0 w
  | true =>
    cases h1 : mayF s.tx with
    | false => rw [no _ (fun h => by rw [h.tx] at h1; cases h1) rfl]; exact rcheck_c1 s ok h0 h1 w
    | true =>
      by_cases h2 : s.wt < 0
      · rw [no _ (fun h => by have := h.w0; omega) rfl]; exact rcheck_wn s ok h0 h1 h2 w
      by_cases h3 : 3 < s.wt
      · rw [no _ (fun h => by have := h.w3; omega) rfl]; exact rcheck_wg s ok h0 h1 h3 w
      by_cases h5 : 7 < s.ie
      · rw [no _ (fun h => by have := h.ie; omega) rfl]
        by_cases h4 : s.tx.n = 0
        · by_cases hz : s.wt = 0
          · exact rcheck_zi s ok h0 h1 hz h4 h5 w
          · exact rcheck_wb s ok h0 h1 (by omega) (by omega) h4 w
        · exact rcheck_ni s ok h0 h1 (by omega) (by omega) h4 h5 w
      by_cases h6 : 31 < s.mc
      · rw [no _ (fun h => by have := h.mc; omega) rfl]
        by_cases h4 : s.tx.n = 0
        · by_cases hz : s.wt = 0
          · exact rcheck_zm s ok h0 h1 hz h4 (by omega) h6 w
          · exact rcheck_wb s ok h0 h1 (by omega) (by omega) h4 w
        · exact rcheck_nm s ok h0 h1 (by omega) (by omega) h4 (by omega) h6 w
      by_cases h4 : s.tx.n = 0
      · by_cases hz : s.wt = 0
        · rw [(mayU_iff s).2 ⟨h0, h1, by omega, by omega, fun _ => hz, by omega, by omega⟩]
          exact rcheck_zk s ok h0 h1 hz h4 (by omega) (by omega) w
        · rw [no _ (fun h => hz (h.wt h4)) rfl]; exact rcheck_wb s ok h0 h1 (by omega) (by omega) h4 w
      · rw [(mayU_iff s).2 ⟨h0, h1, by omega, by omega, fun h => absurd h h4, by omega, by omega⟩]
        exact rcheck_nk s ok h0 h1 (by omega) (by omega) h4 (by omega) (by omega) w
theorem rcheck_ok (s : U) (ok : s.Ok) (hm : mayU s = true) (w : World) :
    Calls Tryd.prog 8 #[.agg s.cells] w fun e w' => e = .returned (.int .i64 0) ∧ Below w.heap.size w w' := by
  have := rcheck_any s ok w
  rw [hm] at this
  exact this
theorem rcheck_no (s : U) (ok : s.Ok) (hm : mayU s = false) (w : World) :
    Calls Tryd.prog 8 #[.agg s.cells] w fun e w' => e = .returned (.int .i64 1) ∧ Below w.heap.size w w' := by
  have := rcheck_any s ok w
  rw [hm] at this
  exact this
end Go.Proofs.YthopfecjnbfnmaaDoor
