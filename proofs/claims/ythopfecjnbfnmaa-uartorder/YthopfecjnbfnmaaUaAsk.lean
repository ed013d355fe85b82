/-
  What uart's asksFor, status and isDivisor answer.
-/
import Derived.Test.YthopfecjnbfnmaaUaFifo
namespace Go.Proofs.Ythopfecjnbfnmaa
open Go.RowKit
set_option linter.unusedVariables false

attribute [local go_sem] U.at0 U.at1 U.at2 U.at3 U.at4 U.at5 U.at6 U.at7 U.at8 U.at9 U.at10 U.at11 U.at12 U.at13 U.at14 U.at15 U.at16 U.at17 U.at18 U.at19 U.at20 U.at21 U.at22 U.at23 U.at24 U.at25 U.at26 U.at27 U.at28 U.at29 U.at30 U.at31 U.at32 U.at33 U.at34 U.at35 U.at36 U.at37 U.at38 U.at39 U.at40 U.at41
theorem and4 (n : Nat) (h : n < 256) : (bits .and .u8 (n : Int) 4 != 0) = decide (n / 4 % 2 = 1) := by
  rw [show (4 : Int) = ((4 : Nat) : Int) from rfl, u8_and_nat n 4 h (by decide)]
  exact (by decide +kernel : ∀ n, n < 256 → ((((n &&& 4 : Nat) : Int) != 0) = decide (n / 4 % 2 = 1))) n h
theorem and2 (n : Nat) (h : n < 256) : (bits .and .u8 (n : Int) 2 != 0) = decide (n / 2 % 2 = 1) := by
  rw [show (2 : Int) = ((2 : Nat) : Int) from rfl, u8_and_nat n 2 h (by decide)]
  exact (by decide +kernel : ∀ n, n < 256 → ((((n &&& 2 : Nat) : Int) != 0) = decide (n / 2 % 2 = 1))) n h
theorem and1 (n : Nat) (h : n < 256) : (bits .and .u8 (n : Int) 1 != 0) = decide (n % 2 = 1) := by
  rw [show (1 : Int) = ((1 : Nat) : Int) from rfl, u8_and_nat n 1 h (by decide)]
  exact (by decide +kernel : ∀ n, n < 256 → ((((n &&& 1 : Nat) : Int) != 0) = decide (n % 2 = 1))) n h
theorem and128 (n : Nat) (h : n < 256) : (bits .and .u8 (n : Int) 128 != 0) = decide (128 ≤ n) := by
  rw [show (128 : Int) = ((128 : Nat) : Int) from rfl, u8_and_nat n 128 h (by decide)]
  exact (by decide +kernel : ∀ n, n < 256 → ((((n &&& 128 : Nat) : Int) != 0) = decide (128 ≤ n))) n h
set_option maxHeartbeats 1000000 in
theorem div_any (s : U) (ok : s.Ok)  (w : World) :
    Calls Try.prog 23 #[.agg s.cells] w fun e w' => e = .returned (.bool (dlB s)) ∧ Below w.heap.size w w' := by
  have HD := hide (and128 s.lc ok.lc)
  go_enter Try.func23, Try.ntmps23
  go_wp2_with (first | ((with_reducible refine bx_up w.heap.size s ?_ ?_ ?_); exact rfl; exact rfl; intro W hr hb hz; have fx := hr.cell))
  go_ret
  exact ⟨by unfold dlB; rw [← HD.out]; rfl, hb⟩

set_option maxHeartbeats 1000000 in
theorem asks_c0 (s : U) (ok : s.Ok) (h0 : s.ov = true) (h1 : (bits .and .u8 (s.ie : Int) 4 != 0) = true) (w : World) :
    Calls Try.prog 26 #[.agg s.cells] w fun e w' => e = .returned (.int .u8 ((6 : Nat) : Int)) ∧ Below w.heap.size w w' := by
  have HE := hide (fun f w => empty_any f w)
  go_enter Try.func26, Try.ntmps26
  go_wp2_with (first | ((with_reducible refine bx_up w.heap.size s ?_ ?_ ?_); exact rfl; exact rfl; intro W hr hb hz; have fx := hr.cell) | ((with_reducible refine ld_rxp w.heap.size _ _ hr ?_ ?_ ?_); exact rfl; exact rfl) | ((with_reducible refine ld_txp w.heap.size _ _ hr ?_ ?_ ?_); exact rfl; exact rfl) | (go_at_call 15; (with_reducible refine (HE.out _ _).mono ?_); rintro e W ⟨rfl, hbc⟩; replace hr := hr.bl hbc; replace fx := hr.cell; replace hb := below_bl rfl hb hbc))
  go_ret
  exact ⟨rfl, hb⟩

set_option maxHeartbeats 1000000 in
theorem asks_c1 (s : U) (ok : s.Ok) (h0 : s.ov = false) (h1 : (s.rx.n == 0) = false) (h2 : (bits .and .u8 (s.ie : Int) 1 != 0) = true) (w : World) :
    Calls Try.prog 26 #[.agg s.cells] w fun e w' => e = .returned (.int .u8 ((4 : Nat) : Int)) ∧ Below w.heap.size w w' := by
  have HE := hide (fun f w => empty_any f w)
  go_enter Try.func26, Try.ntmps26
  go_wp2_with (first | ((with_reducible refine bx_up w.heap.size s ?_ ?_ ?_); exact rfl; exact rfl; intro W hr hb hz; have fx := hr.cell) | ((with_reducible refine ld_rxp w.heap.size _ _ hr ?_ ?_ ?_); exact rfl; exact rfl) | ((with_reducible refine ld_txp w.heap.size _ _ hr ?_ ?_ ?_); exact rfl; exact rfl) | (go_at_call 15; (with_reducible refine (HE.out _ _).mono ?_); rintro e W ⟨rfl, hbc⟩; replace hr := hr.bl hbc; replace fx := hr.cell; replace hb := below_bl rfl hb hbc))
  go_ret
  exact ⟨rfl, hb⟩

set_option maxHeartbeats 1000000 in
theorem asks_c2 (s : U) (ok : s.Ok) (h0 : s.ov = false) (h1 : (s.rx.n == 0) = true) (h2 : (s.tx.n == 0) = true) (h3 : (bits .and .u8 (s.ie : Int) 2 != 0) = true) (w : World) :
    Calls Try.prog 26 #[.agg s.cells] w fun e w' => e = .returned (.int .u8 ((2 : Nat) : Int)) ∧ Below w.heap.size w w' := by
  have HE := hide (fun f w => empty_any f w)
  go_enter Try.func26, Try.ntmps26
  go_wp2_with (first | ((with_reducible refine bx_up w.heap.size s ?_ ?_ ?_); exact rfl; exact rfl; intro W hr hb hz; have fx := hr.cell) | ((with_reducible refine ld_rxp w.heap.size _ _ hr ?_ ?_ ?_); exact rfl; exact rfl) | ((with_reducible refine ld_txp w.heap.size _ _ hr ?_ ?_ ?_); exact rfl; exact rfl) | (go_at_call 15; (with_reducible refine (HE.out _ _).mono ?_); rintro e W ⟨rfl, hbc⟩; replace hr := hr.bl hbc; replace fx := hr.cell; replace hb := below_bl rfl hb hbc))
  go_ret
  exact ⟨rfl, hb⟩

set_option maxHeartbeats 1000000 in
theorem asks_c3 (s : U) (ok : s.Ok) (h0 : s.ov = false) (h1 : (s.rx.n == 0) = true) (h2 : (s.tx.n == 0) = false) (w : World) :
    Calls Try.prog 26 #[.agg s.cells] w fun e w' => e = .returned (.int .u8 ((1 : Nat) : Int)) ∧ Below w.heap.size w w' := by
  have HE := hide (fun f w => empty_any f w)
  go_enter Try.func26, Try.ntmps26
  go_wp2_with (first | ((with_reducible refine bx_up w.heap.size s ?_ ?_ ?_); exact rfl; exact rfl; intro W hr hb hz; have fx := hr.cell) | ((with_reducible refine ld_rxp w.heap.size _ _ hr ?_ ?_ ?_); exact rfl; exact rfl) | ((with_reducible refine ld_txp w.heap.size _ _ hr ?_ ?_ ?_); exact rfl; exact rfl) | (go_at_call 15; (with_reducible refine (HE.out _ _).mono ?_); rintro e W ⟨rfl, hbc⟩; replace hr := hr.bl hbc; replace fx := hr.cell; replace hb := below_bl rfl hb hbc))
  go_ret
  exact ⟨rfl, hb⟩

set_option maxHeartbeats 1000000 in
theorem asks_c4 (s : U) (ok : s.Ok) (h0 : s.ov = false) (h1 : (s.rx.n == 0) = true) (h2 : (s.tx.n == 0) = true) (h3 : (bits .and .u8 (s.ie : Int) 2 != 0) = false) (w : World) :
    Calls Try.prog 26 #[.agg s.cells] w fun e w' => e = .returned (.int .u8 ((1 : Nat) : Int)) ∧ Below w.heap.size w w' := by
  have HE := hide (fun f w => empty_any f w)
  go_enter Try.func26, Try.ntmps26
  go_wp2_with (first | ((with_reducible refine bx_up w.heap.size s ?_ ?_ ?_); exact rfl; exact rfl; intro W hr hb hz; have fx := hr.cell) | ((with_reducible refine ld_rxp w.heap.size _ _ hr ?_ ?_ ?_); exact rfl; exact rfl) | ((with_reducible refine ld_txp w.heap.size _ _ hr ?_ ?_ ?_); exact rfl; exact rfl) | (go_at_call 15; (with_reducible refine (HE.out _ _).mono ?_); rintro e W ⟨rfl, hbc⟩; replace hr := hr.bl hbc; replace fx := hr.cell; replace hb := below_bl rfl hb hbc))
  go_ret
  exact ⟨rfl, hb⟩

set_option maxHeartbeats 1000000 in
theorem asks_c5 (s : U) (ok : s.Ok) (h0 : s.ov = false) (h1 : (s.rx.n == 0) = false) (h2 : (bits .and .u8 (s.ie : Int) 1 != 0) = false) (h3 : (s.tx.n == 0) = true) (h4 : (bits .and .u8 (s.ie : Int) 2 != 0) = true) (w : World) :
    Calls Try.prog 26 #[.agg s.cells] w fun e w' => e = .returned (.int .u8 ((2 : Nat) : Int)) ∧ Below w.heap.size w w' := by
  have HE := hide (fun f w => empty_any f w)
  go_enter Try.func26, Try.ntmps26
  go_wp2_with (first | ((with_reducible refine bx_up w.heap.size s ?_ ?_ ?_); exact rfl; exact rfl; intro W hr hb hz; have fx := hr.cell) | ((with_reducible refine ld_rxp w.heap.size _ _ hr ?_ ?_ ?_); exact rfl; exact rfl) | ((with_reducible refine ld_txp w.heap.size _ _ hr ?_ ?_ ?_); exact rfl; exact rfl) | (go_at_call 15; (with_reducible refine (HE.out _ _).mono ?_); rintro e W ⟨rfl, hbc⟩; replace hr := hr.bl hbc; replace fx := hr.cell; replace hb := below_bl rfl hb hbc))
  go_ret
  exact ⟨rfl, hb⟩

set_option maxHeartbeats 1000000 in
theorem asks_c6 (s : U) (ok : s.Ok) (h0 : s.ov = false) (h1 : (s.rx.n == 0) = false) (h2 : (bits .and .u8 (s.ie : Int) 1 != 0) = false) (h3 : (s.tx.n == 0) = false) (w : World) :
    Calls Try.prog 26 #[.agg s.cells] w fun e w' => e = .returned (.int .u8 ((1 : Nat) : Int)) ∧ Below w.heap.size w w' := by
  have HE := hide (fun f w => empty_any f w)
  go_enter Try.func26, Try.ntmps26
  go_wp2_with (first | ((with_reducible refine bx_up w.heap.size s ?_ ?_ ?_); exact rfl; exact rfl; intro W hr hb hz; have fx := hr.cell) | ((with_reducible refine ld_rxp w.heap.size _ _ hr ?_ ?_ ?_); exact rfl; exact rfl) | ((with_reducible refine ld_txp w.heap.size _ _ hr ?_ ?_ ?_); exact rfl; exact rfl) | (go_at_call 15; (with_reducible refine (HE.out _ _).mono ?_); rintro e W ⟨rfl, hbc⟩; replace hr := hr.bl hbc; replace fx := hr.cell; replace hb := below_bl rfl hb hbc))
  go_ret
  exact ⟨rfl, hb⟩

set_option maxHeartbeats 1000000 in
theorem asks_c7 (s : U) (ok : s.Ok) (h0 : s.ov = false) (h1 : (s.rx.n == 0) = false) (h2 : (bits .and .u8 (s.ie : Int) 1 != 0) = false) (h3 : (s.tx.n == 0) = true) (h4 : (bits .and .u8 (s.ie : Int) 2 != 0) = false) (w : World) :
    Calls Try.prog 26 #[.agg s.cells] w fun e w' => e = .returned (.int .u8 ((1 : Nat) : Int)) ∧ Below w.heap.size w w' := by
  have HE := hide (fun f w => empty_any f w)
  go_enter Try.func26, Try.ntmps26
  go_wp2_with (first | ((with_reducible refine bx_up w.heap.size s ?_ ?_ ?_); exact rfl; exact rfl; intro W hr hb hz; have fx := hr.cell) | ((with_reducible refine ld_rxp w.heap.size _ _ hr ?_ ?_ ?_); exact rfl; exact rfl) | ((with_reducible refine ld_txp w.heap.size _ _ hr ?_ ?_ ?_); exact rfl; exact rfl) | (go_at_call 15; (with_reducible refine (HE.out _ _).mono ?_); rintro e W ⟨rfl, hbc⟩; replace hr := hr.bl hbc; replace fx := hr.cell; replace hb := below_bl rfl hb hbc))
  go_ret
  exact ⟨rfl, hb⟩

set_option maxHeartbeats 1000000 in
theorem asks_c8 (s : U) (ok : s.Ok) (h0 : s.ov = true) (h1 : (bits .and .u8 (s.ie : Int) 4 != 0) = false) (h2 : (s.rx.n == 0) = false) (h3 : (bits .and .u8 (s.ie : Int) 1 != 0) = true) (w : World) :
    Calls Try.prog 26 #[.agg s.cells] w fun e w' => e = .returned (.int .u8 ((4 : Nat) : Int)) ∧ Below w.heap.size w w' := by
  have HE := hide (fun f w => empty_any f w)
  go_enter Try.func26, Try.ntmps26
  go_wp2_with (first | ((with_reducible refine bx_up w.heap.size s ?_ ?_ ?_); exact rfl; exact rfl; intro W hr hb hz; have fx := hr.cell) | ((with_reducible refine ld_rxp w.heap.size _ _ hr ?_ ?_ ?_); exact rfl; exact rfl) | ((with_reducible refine ld_txp w.heap.size _ _ hr ?_ ?_ ?_); exact rfl; exact rfl) | (go_at_call 15; (with_reducible refine (HE.out _ _).mono ?_); rintro e W ⟨rfl, hbc⟩; replace hr := hr.bl hbc; replace fx := hr.cell; replace hb := below_bl rfl hb hbc))
  go_ret
  exact ⟨rfl, hb⟩

set_option maxHeartbeats 1000000 in
theorem asks_c9 (s : U) (ok : s.Ok) (h0 : s.ov = true) (h1 : (bits .and .u8 (s.ie : Int) 4 != 0) = false) (h2 : (s.rx.n == 0) = true) (h3 : (s.tx.n == 0) = true) (h4 : (bits .and .u8 (s.ie : Int) 2 != 0) = true) (w : World) :
    Calls Try.prog 26 #[.agg s.cells] w fun e w' => e = .returned (.int .u8 ((2 : Nat) : Int)) ∧ Below w.heap.size w w' := by
  have HE := hide (fun f w => empty_any f w)
  go_enter Try.func26, Try.ntmps26
  go_wp2_with (first | ((with_reducible refine bx_up w.heap.size s ?_ ?_ ?_); exact rfl; exact rfl; intro W hr hb hz; have fx := hr.cell) | ((with_reducible refine ld_rxp w.heap.size _ _ hr ?_ ?_ ?_); exact rfl; exact rfl) | ((with_reducible refine ld_txp w.heap.size _ _ hr ?_ ?_ ?_); exact rfl; exact rfl) | (go_at_call 15; (with_reducible refine (HE.out _ _).mono ?_); rintro e W ⟨rfl, hbc⟩; replace hr := hr.bl hbc; replace fx := hr.cell; replace hb := below_bl rfl hb hbc))
  go_ret
  exact ⟨rfl, hb⟩

set_option maxHeartbeats 1000000 in
theorem asks_c10 (s : U) (ok : s.Ok) (h0 : s.ov = true) (h1 : (bits .and .u8 (s.ie : Int) 4 != 0) = false) (h2 : (s.rx.n == 0) = true) (h3 : (s.tx.n == 0) = false) (w : World) :
    Calls Try.prog 26 #[.agg s.cells] w fun e w' => e = .returned (.int .u8 ((1 : Nat) : Int)) ∧ Below w.heap.size w w' := by
  have HE := hide (fun f w => empty_any f w)
  go_enter Try.func26, Try.ntmps26
  go_wp2_with (first | ((with_reducible refine bx_up w.heap.size s ?_ ?_ ?_); exact rfl; exact rfl; intro W hr hb hz; have fx := hr.cell) | ((with_reducible refine ld_rxp w.heap.size _ _ hr ?_ ?_ ?_); exact rfl; exact rfl) | ((with_reducible refine ld_txp w.heap.size _ _ hr ?_ ?_ ?_); exact rfl; exact rfl) | (go_at_call 15; (with_reducible refine (HE.out _ _).mono ?_); rintro e W ⟨rfl, hbc⟩; replace hr := hr.bl hbc; replace fx := hr.cell; replace hb := below_bl rfl hb hbc))
  go_ret
  exact ⟨rfl, hb⟩

set_option maxHeartbeats 1000000 in
theorem asks_c11 (s : U) (ok : s.Ok) (h0 : s.ov = true) (h1 : (bits .and .u8 (s.ie : Int) 4 != 0) = false) (h2 : (s.rx.n == 0) = true) (h3 : (s.tx.n == 0) = true) (h4 : (bits .and .u8 (s.ie : Int) 2 != 0) = false) (w : World) :
    Calls Try.prog 26 #[.agg s.cells] w fun e w' => e = .returned (.int .u8 ((1 : Nat) : Int)) ∧ Below w.heap.size w w' := by
  have HE := hide (fun f w => empty_any f w)
  go_enter Try.func26, Try.ntmps26
  go_wp2_with (first | ((with_reducible refine bx_up w.heap.size s ?_ ?_ ?_); exact rfl; exact rfl; intro W hr hb hz; have fx := hr.cell) | ((with_reducible refine ld_rxp w.heap.size _ _ hr ?_ ?_ ?_); exact rfl; exact rfl) | ((with_reducible refine ld_txp w.heap.size _ _ hr ?_ ?_ ?_); exact rfl; exact rfl) | (go_at_call 15; (with_reducible refine (HE.out _ _).mono ?_); rintro e W ⟨rfl, hbc⟩; replace hr := hr.bl hbc; replace fx := hr.cell; replace hb := below_bl rfl hb hbc))
  go_ret
  exact ⟨rfl, hb⟩

set_option maxHeartbeats 1000000 in
theorem asks_c12 (s : U) (ok : s.Ok) (h0 : s.ov = true) (h1 : (bits .and .u8 (s.ie : Int) 4 != 0) = false) (h2 : (s.rx.n == 0) = false) (h3 : (bits .and .u8 (s.ie : Int) 1 != 0) = false) (h4 : (s.tx.n == 0) = true) (h5 : (bits .and .u8 (s.ie : Int) 2 != 0) = true) (w : World) :
    Calls Try.prog 26 #[.agg s.cells] w fun e w' => e = .returned (.int .u8 ((2 : Nat) : Int)) ∧ Below w.heap.size w w' := by
  have HE := hide (fun f w => empty_any f w)
  go_enter Try.func26, Try.ntmps26
  go_wp2_with (first | ((with_reducible refine bx_up w.heap.size s ?_ ?_ ?_); exact rfl; exact rfl; intro W hr hb hz; have fx := hr.cell) | ((with_reducible refine ld_rxp w.heap.size _ _ hr ?_ ?_ ?_); exact rfl; exact rfl) | ((with_reducible refine ld_txp w.heap.size _ _ hr ?_ ?_ ?_); exact rfl; exact rfl) | (go_at_call 15; (with_reducible refine (HE.out _ _).mono ?_); rintro e W ⟨rfl, hbc⟩; replace hr := hr.bl hbc; replace fx := hr.cell; replace hb := below_bl rfl hb hbc))
  go_ret
  exact ⟨rfl, hb⟩

set_option maxHeartbeats 1000000 in
theorem asks_c13 (s : U) (ok : s.Ok) (h0 : s.ov = true) (h1 : (bits .and .u8 (s.ie : Int) 4 != 0) = false) (h2 : (s.rx.n == 0) = false) (h3 : (bits .and .u8 (s.ie : Int) 1 != 0) = false) (h4 : (s.tx.n == 0) = false) (w : World) :
    Calls Try.prog 26 #[.agg s.cells] w fun e w' => e = .returned (.int .u8 ((1 : Nat) : Int)) ∧ Below w.heap.size w w' := by
  have HE := hide (fun f w => empty_any f w)
  go_enter Try.func26, Try.ntmps26
  go_wp2_with (first | ((with_reducible refine bx_up w.heap.size s ?_ ?_ ?_); exact rfl; exact rfl; intro W hr hb hz; have fx := hr.cell) | ((with_reducible refine ld_rxp w.heap.size _ _ hr ?_ ?_ ?_); exact rfl; exact rfl) | ((with_reducible refine ld_txp w.heap.size _ _ hr ?_ ?_ ?_); exact rfl; exact rfl) | (go_at_call 15; (with_reducible refine (HE.out _ _).mono ?_); rintro e W ⟨rfl, hbc⟩; replace hr := hr.bl hbc; replace fx := hr.cell; replace hb := below_bl rfl hb hbc))
  go_ret
  exact ⟨rfl, hb⟩

set_option maxHeartbeats 1000000 in
theorem asks_c14 (s : U) (ok : s.Ok) (h0 : s.ov = true) (h1 : (bits .and .u8 (s.ie : Int) 4 != 0) = false) (h2 : (s.rx.n == 0) = false) (h3 : (bits .and .u8 (s.ie : Int) 1 != 0) = false) (h4 : (s.tx.n == 0) = true) (h5 : (bits .and .u8 (s.ie : Int) 2 != 0) = false) (w : World) :
    Calls Try.prog 26 #[.agg s.cells] w fun e w' => e = .returned (.int .u8 ((1 : Nat) : Int)) ∧ Below w.heap.size w w' := by
  have HE := hide (fun f w => empty_any f w)
  go_enter Try.func26, Try.ntmps26
  go_wp2_with (first | ((with_reducible refine bx_up w.heap.size s ?_ ?_ ?_); exact rfl; exact rfl; intro W hr hb hz; have fx := hr.cell) | ((with_reducible refine ld_rxp w.heap.size _ _ hr ?_ ?_ ?_); exact rfl; exact rfl) | ((with_reducible refine ld_txp w.heap.size _ _ hr ?_ ?_ ?_); exact rfl; exact rfl) | (go_at_call 15; (with_reducible refine (HE.out _ _).mono ?_); rintro e W ⟨rfl, hbc⟩; replace hr := hr.bl hbc; replace fx := hr.cell; replace hb := below_bl rfl hb hbc))
  go_ret
  exact ⟨rfl, hb⟩

theorem asks_any (s : U) (ok : s.Ok) (w : World) :
    Calls Try.prog 26 #[.agg s.cells] w fun e w' => e = .returned (.int .u8 (asksN s : Nat)) ∧ Below w.heap.size w w' := by
  have e4 := and4 s.ie ok.ie
  have e2 := and2 s.ie ok.ie
  have e1 := and1 s.ie ok.ie
  have er : decide (s.rx.n ≠ 0) = !(s.rx.n == 0) := by by_cases h : s.rx.n = 0 <;> simp [h]
  have et : decide (s.tx.n = 0) = (s.tx.n == 0) := rfl
  have ev : asksN s = (if (s.ov && (bits .and .u8 (s.ie : Int) 4 != 0)) = true then 6 else if (!(s.rx.n == 0) && (bits .and .u8 (s.ie : Int) 1 != 0)) = true then 4 else if ((s.tx.n == 0) && (bits .and .u8 (s.ie : Int) 2 != 0)) = true then 2 else 1) := by
    unfold asksN; rw [e4, e2, e1, er, et]
  rw [ev]
  clear ev er et e1 e2 e4
  cases h0 : s.ov with
  | false =>
    cases h1 : (s.rx.n == 0) with
    | true =>
      cases h2 : (s.tx.n == 0) with
      | false =>
        exact asks_c3 s ok h0 h1 h2 w
      | true =>
        cases h3 : (bits .and .u8 (s.ie : Int) 2 != 0) with
        | true =>
          exact asks_c2 s ok h0 h1 h2 h3 w
        | false =>
          exact asks_c4 s ok h0 h1 h2 h3 w
    | false =>
      cases h2 : (bits .and .u8 (s.ie : Int) 1 != 0) with
      | true =>
        exact asks_c1 s ok h0 h1 h2 w
      | false =>
        cases h3 : (s.tx.n == 0) with
        | false =>
          exact asks_c6 s ok h0 h1 h2 h3 w
        | true =>
          cases h4 : (bits .and .u8 (s.ie : Int) 2 != 0) with
          | true =>
            exact asks_c5 s ok h0 h1 h2 h3 h4 w
          | false =>
            exact asks_c7 s ok h0 h1 h2 h3 h4 w
  | true =>
    cases h1 : (bits .and .u8 (s.ie : Int) 4 != 0) with
    | true =>
      exact asks_c0 s ok h0 h1 w
    | false =>
      cases h2 : (s.rx.n == 0) with
      | true =>
        cases h3 : (s.tx.n == 0) with
        | false =>
          exact asks_c10 s ok h0 h1 h2 h3 w
        | true =>
          cases h4 : (bits .and .u8 (s.ie : Int) 2 != 0) with
          | true =>
            exact asks_c9 s ok h0 h1 h2 h3 h4 w
          | false =>
            exact asks_c11 s ok h0 h1 h2 h3 h4 w
      | false =>
        cases h3 : (bits .and .u8 (s.ie : Int) 1 != 0) with
        | true =>
          exact asks_c8 s ok h0 h1 h2 h3 w
        | false =>
          cases h4 : (s.tx.n == 0) with
          | false =>
            exact asks_c13 s ok h0 h1 h2 h3 h4 w
          | true =>
            cases h5 : (bits .and .u8 (s.ie : Int) 2 != 0) with
            | true =>
              exact asks_c12 s ok h0 h1 h2 h3 h4 h5 w
            | false =>
              exact asks_c14 s ok h0 h1 h2 h3 h4 h5 w
set_option maxHeartbeats 1000000 in
theorem stat_c0 (s : U) (ok : s.Ok) (h0 : (s.rx.n == 0) = false) (h1 : s.ov = false) (h2 : (s.tx.n == 0) = false) (w : World) :
    Calls Try.prog 27 #[.agg s.cells] w fun e w' => e = .returned (.int .u8 ((1 : Nat) : Int)) ∧ Below w.heap.size w w' := by
  have HE := hide (fun f w => empty_any f w)
  go_enter Try.func27, Try.ntmps27
  go_wp2_with (first | ((with_reducible refine bx_up w.heap.size s ?_ ?_ ?_); exact rfl; exact rfl; intro W hr hb hz; have fx := hr.cell) | ((with_reducible refine ld_rxp w.heap.size _ _ hr ?_ ?_ ?_); exact rfl; exact rfl) | ((with_reducible refine ld_txp w.heap.size _ _ hr ?_ ?_ ?_); exact rfl; exact rfl) | (go_at_call 15; (with_reducible refine (HE.out _ _).mono ?_); rintro e W ⟨rfl, hbc⟩; replace hr := hr.bl hbc; replace fx := hr.cell; replace hb := below_bl rfl hb hbc))
  go_ret
  exact ⟨rfl, hb⟩

set_option maxHeartbeats 1000000 in
theorem stat_c1 (s : U) (ok : s.Ok) (h0 : (s.rx.n == 0) = false) (h1 : s.ov = false) (h2 : (s.tx.n == 0) = true) (w : World) :
    Calls Try.prog 27 #[.agg s.cells] w fun e w' => e = .returned (.int .u8 ((97 : Nat) : Int)) ∧ Below w.heap.size w w' := by
  have HE := hide (fun f w => empty_any f w)
  go_enter Try.func27, Try.ntmps27
  go_wp2_with (first | ((with_reducible refine bx_up w.heap.size s ?_ ?_ ?_); exact rfl; exact rfl; intro W hr hb hz; have fx := hr.cell) | ((with_reducible refine ld_rxp w.heap.size _ _ hr ?_ ?_ ?_); exact rfl; exact rfl) | ((with_reducible refine ld_txp w.heap.size _ _ hr ?_ ?_ ?_); exact rfl; exact rfl) | (go_at_call 15; (with_reducible refine (HE.out _ _).mono ?_); rintro e W ⟨rfl, hbc⟩; replace hr := hr.bl hbc; replace fx := hr.cell; replace hb := below_bl rfl hb hbc))
  go_ret
  exact ⟨rfl, hb⟩

set_option maxHeartbeats 1000000 in
theorem stat_c2 (s : U) (ok : s.Ok) (h0 : (s.rx.n == 0) = false) (h1 : s.ov = true) (h2 : (s.tx.n == 0) = false) (w : World) :
    Calls Try.prog 27 #[.agg s.cells] w fun e w' => e = .returned (.int .u8 ((3 : Nat) : Int)) ∧ Below w.heap.size w w' := by
  have HE := hide (fun f w => empty_any f w)
  go_enter Try.func27, Try.ntmps27
  go_wp2_with (first | ((with_reducible refine bx_up w.heap.size s ?_ ?_ ?_); exact rfl; exact rfl; intro W hr hb hz; have fx := hr.cell) | ((with_reducible refine ld_rxp w.heap.size _ _ hr ?_ ?_ ?_); exact rfl; exact rfl) | ((with_reducible refine ld_txp w.heap.size _ _ hr ?_ ?_ ?_); exact rfl; exact rfl) | (go_at_call 15; (with_reducible refine (HE.out _ _).mono ?_); rintro e W ⟨rfl, hbc⟩; replace hr := hr.bl hbc; replace fx := hr.cell; replace hb := below_bl rfl hb hbc))
  go_ret
  exact ⟨rfl, hb⟩

set_option maxHeartbeats 1000000 in
theorem stat_c3 (s : U) (ok : s.Ok) (h0 : (s.rx.n == 0) = false) (h1 : s.ov = true) (h2 : (s.tx.n == 0) = true) (w : World) :
    Calls Try.prog 27 #[.agg s.cells] w fun e w' => e = .returned (.int .u8 ((99 : Nat) : Int)) ∧ Below w.heap.size w w' := by
  have HE := hide (fun f w => empty_any f w)
  go_enter Try.func27, Try.ntmps27
  go_wp2_with (first | ((with_reducible refine bx_up w.heap.size s ?_ ?_ ?_); exact rfl; exact rfl; intro W hr hb hz; have fx := hr.cell) | ((with_reducible refine ld_rxp w.heap.size _ _ hr ?_ ?_ ?_); exact rfl; exact rfl) | ((with_reducible refine ld_txp w.heap.size _ _ hr ?_ ?_ ?_); exact rfl; exact rfl) | (go_at_call 15; (with_reducible refine (HE.out _ _).mono ?_); rintro e W ⟨rfl, hbc⟩; replace hr := hr.bl hbc; replace fx := hr.cell; replace hb := below_bl rfl hb hbc))
  go_ret
  exact ⟨rfl, hb⟩

set_option maxHeartbeats 1000000 in
theorem stat_c4 (s : U) (ok : s.Ok) (h0 : (s.rx.n == 0) = true) (h1 : s.ov = false) (h2 : (s.tx.n == 0) = false) (w : World) :
    Calls Try.prog 27 #[.agg s.cells] w fun e w' => e = .returned (.int .u8 ((0 : Nat) : Int)) ∧ Below w.heap.size w w' := by
  have HE := hide (fun f w => empty_any f w)
  go_enter Try.func27, Try.ntmps27
  go_wp2_with (first | ((with_reducible refine bx_up w.heap.size s ?_ ?_ ?_); exact rfl; exact rfl; intro W hr hb hz; have fx := hr.cell) | ((with_reducible refine ld_rxp w.heap.size _ _ hr ?_ ?_ ?_); exact rfl; exact rfl) | ((with_reducible refine ld_txp w.heap.size _ _ hr ?_ ?_ ?_); exact rfl; exact rfl) | (go_at_call 15; (with_reducible refine (HE.out _ _).mono ?_); rintro e W ⟨rfl, hbc⟩; replace hr := hr.bl hbc; replace fx := hr.cell; replace hb := below_bl rfl hb hbc))
  go_ret
  exact ⟨rfl, hb⟩

set_option maxHeartbeats 1000000 in
theorem stat_c5 (s : U) (ok : s.Ok) (h0 : (s.rx.n == 0) = true) (h1 : s.ov = false) (h2 : (s.tx.n == 0) = true) (w : World) :
    Calls Try.prog 27 #[.agg s.cells] w fun e w' => e = .returned (.int .u8 ((96 : Nat) : Int)) ∧ Below w.heap.size w w' := by
  have HE := hide (fun f w => empty_any f w)
  go_enter Try.func27, Try.ntmps27
  go_wp2_with (first | ((with_reducible refine bx_up w.heap.size s ?_ ?_ ?_); exact rfl; exact rfl; intro W hr hb hz; have fx := hr.cell) | ((with_reducible refine ld_rxp w.heap.size _ _ hr ?_ ?_ ?_); exact rfl; exact rfl) | ((with_reducible refine ld_txp w.heap.size _ _ hr ?_ ?_ ?_); exact rfl; exact rfl) | (go_at_call 15; (with_reducible refine (HE.out _ _).mono ?_); rintro e W ⟨rfl, hbc⟩; replace hr := hr.bl hbc; replace fx := hr.cell; replace hb := below_bl rfl hb hbc))
  go_ret
  exact ⟨rfl, hb⟩

set_option maxHeartbeats 1000000 in
theorem stat_c6 (s : U) (ok : s.Ok) (h0 : (s.rx.n == 0) = true) (h1 : s.ov = true) (h2 : (s.tx.n == 0) = false) (w : World) :
    Calls Try.prog 27 #[.agg s.cells] w fun e w' => e = .returned (.int .u8 ((2 : Nat) : Int)) ∧ Below w.heap.size w w' := by
  have HE := hide (fun f w => empty_any f w)
  go_enter Try.func27, Try.ntmps27
  go_wp2_with (first | ((with_reducible refine bx_up w.heap.size s ?_ ?_ ?_); exact rfl; exact rfl; intro W hr hb hz; have fx := hr.cell) | ((with_reducible refine ld_rxp w.heap.size _ _ hr ?_ ?_ ?_); exact rfl; exact rfl) | ((with_reducible refine ld_txp w.heap.size _ _ hr ?_ ?_ ?_); exact rfl; exact rfl) | (go_at_call 15; (with_reducible refine (HE.out _ _).mono ?_); rintro e W ⟨rfl, hbc⟩; replace hr := hr.bl hbc; replace fx := hr.cell; replace hb := below_bl rfl hb hbc))
  go_ret
  exact ⟨rfl, hb⟩

set_option maxHeartbeats 1000000 in
theorem stat_c7 (s : U) (ok : s.Ok) (h0 : (s.rx.n == 0) = true) (h1 : s.ov = true) (h2 : (s.tx.n == 0) = true) (w : World) :
    Calls Try.prog 27 #[.agg s.cells] w fun e w' => e = .returned (.int .u8 ((98 : Nat) : Int)) ∧ Below w.heap.size w w' := by
  have HE := hide (fun f w => empty_any f w)
  go_enter Try.func27, Try.ntmps27
  go_wp2_with (first | ((with_reducible refine bx_up w.heap.size s ?_ ?_ ?_); exact rfl; exact rfl; intro W hr hb hz; have fx := hr.cell) | ((with_reducible refine ld_rxp w.heap.size _ _ hr ?_ ?_ ?_); exact rfl; exact rfl) | ((with_reducible refine ld_txp w.heap.size _ _ hr ?_ ?_ ?_); exact rfl; exact rfl) | (go_at_call 15; (with_reducible refine (HE.out _ _).mono ?_); rintro e W ⟨rfl, hbc⟩; replace hr := hr.bl hbc; replace fx := hr.cell; replace hb := below_bl rfl hb hbc))
  go_ret
  exact ⟨rfl, hb⟩

theorem stat_any (s : U) (ok : s.Ok) (w : World) :
    Calls Try.prog 27 #[.agg s.cells] w fun e w' => e = .returned (.int .u8 (statN s : Nat)) ∧ Below w.heap.size w w' := by
  have ev : statN s = (if (s.rx.n == 0) = true then 0 else 1) + (if s.ov = true then 2 else 0) + (if (s.tx.n == 0) = true then 96 else 0) := by
    unfold statN; by_cases h : s.rx.n = 0 <;> by_cases h2 : s.tx.n = 0 <;> simp [h, h2]
  rw [ev]
  clear ev
  cases h0 : (s.rx.n == 0) <;> cases h1 : s.ov <;> cases h2 : (s.tx.n == 0)
  · exact stat_c0 s ok h0 h1 h2 w
  · exact stat_c1 s ok h0 h1 h2 w
  · exact stat_c2 s ok h0 h1 h2 w
  · exact stat_c3 s ok h0 h1 h2 w
  · exact stat_c4 s ok h0 h1 h2 w
  · exact stat_c5 s ok h0 h1 h2 w
  · exact stat_c6 s ok h0 h1 h2 w
  · exact stat_c7 s ok h0 h1 h2 w
end Go.Proofs.Ythopfecjnbfnmaa
