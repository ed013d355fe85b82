/-
  What the document's Asks answers.
-/
import Derived.Test.YthopfecjnbfnmaaDoorUaRow
namespace Go.Proofs.YthopfecjnbfnmaaDoor
open Go.RowKit
set_option linter.unusedVariables false

attribute [local go_sem] U.at0 U.at1 U.at2 U.at3 U.at4 U.at5 U.at6 U.at7 U.at8 U.at9 U.at10 U.at11 U.at12 U.at13 U.at14 U.at15 U.at16 U.at17 U.at18 U.at19 U.at20 U.at21 U.at22 U.at23 U.at24 U.at25 U.at26 U.at27 U.at28 U.at29 U.at30 U.at31 U.at32 U.at33 U.at34 U.at35 U.at36 U.at37 U.at38 U.at39 U.at40 U.at41
set_option maxHeartbeats 1000000 in
theorem rasks_c0 (s : U) (ok : s.Ok) (h0 : s.ov = true) (h1 : ((s.ie : Int) / 4 % 2 == 1) = true) (w : World) :
    Calls Tryd.prog 9 #[.agg s.cells] w fun e w' => e = .returned (.int .u8 ((6 : Nat) : Int)) ∧ Below w.heap.size w w' := by
  have n1 : (s.ie / 4 % 2 == 1) = true := by rw [← h1, Bool.eq_iff_iff]; simp; omega
  go_enter Tryd.func9, Tryd.ntmps9
  go_wp2_with (first | ((with_reducible refine bx_ur w.heap.size s ?_ ?_ ?_); exact rfl; exact rfl; intro W hr hb hz; have fx := hr.cell))
  go_ret
  exact ⟨rfl, hb⟩

set_option maxHeartbeats 1000000 in
theorem rasks_c1 (s : U) (ok : s.Ok) (h0 : s.ov = false) (h1 : decide (0 < s.rx.n) = true) (h2 : ((s.ie : Int) % 2 == 1) = true) (w : World) :
    Calls Tryd.prog 9 #[.agg s.cells] w fun e w' => e = .returned (.int .u8 ((4 : Nat) : Int)) ∧ Below w.heap.size w w' := by
  have n1 : 0 < s.rx.n := of_decide_eq_true h1
  have n2 : (s.ie % 2 == 1) = true := by rw [← h2, Bool.eq_iff_iff]; simp; omega
  go_enter Tryd.func9, Tryd.ntmps9
  go_wp2_with (first | ((with_reducible refine bx_ur w.heap.size s ?_ ?_ ?_); exact rfl; exact rfl; intro W hr hb hz; have fx := hr.cell))
  go_ret
  exact ⟨rfl, hb⟩

set_option maxHeartbeats 1000000 in
theorem rasks_c2 (s : U) (ok : s.Ok) (h0 : s.ov = false) (h1 : decide (0 < s.rx.n) = false) (h2 : (s.tx.n == 0) = true) (h3 : ((s.ie : Int) / 2 % 2 == 1) = true) (w : World) :
    Calls Tryd.prog 9 #[.agg s.cells] w fun e w' => e = .returned (.int .u8 ((2 : Nat) : Int)) ∧ Below w.heap.size w w' := by
  have n1 : decide (s.rx.n > 0) = false := h1
  have n3 : (s.ie / 2 % 2 == 1) = true := by rw [← h3, Bool.eq_iff_iff]; simp; omega
  go_enter Tryd.func9, Tryd.ntmps9
  go_wp2_with (first | ((with_reducible refine bx_ur w.heap.size s ?_ ?_ ?_); exact rfl; exact rfl; intro W hr hb hz; have fx := hr.cell))
  go_ret
  exact ⟨rfl, hb⟩

set_option maxHeartbeats 1000000 in
theorem rasks_c3 (s : U) (ok : s.Ok) (h0 : s.ov = false) (h1 : decide (0 < s.rx.n) = false) (h2 : (s.tx.n == 0) = false) (w : World) :
    Calls Tryd.prog 9 #[.agg s.cells] w fun e w' => e = .returned (.int .u8 ((1 : Nat) : Int)) ∧ Below w.heap.size w w' := by
  have n1 : decide (s.rx.n > 0) = false := h1
  go_enter Tryd.func9, Tryd.ntmps9
  go_wp2_with (first | ((with_reducible refine bx_ur w.heap.size s ?_ ?_ ?_); exact rfl; exact rfl; intro W hr hb hz; have fx := hr.cell))
  go_ret
  exact ⟨rfl, hb⟩

set_option maxHeartbeats 1000000 in
theorem rasks_c4 (s : U) (ok : s.Ok) (h0 : s.ov = false) (h1 : decide (0 < s.rx.n) = false) (h2 : (s.tx.n == 0) = true) (h3 : ((s.ie : Int) / 2 % 2 == 1) = false) (w : World) :
    Calls Tryd.prog 9 #[.agg s.cells] w fun e w' => e = .returned (.int .u8 ((1 : Nat) : Int)) ∧ Below w.heap.size w w' := by
  have n1 : decide (s.rx.n > 0) = false := h1
  have n3 : (s.ie / 2 % 2 == 1) = false := by rw [← h3, Bool.eq_iff_iff]; simp; omega
  go_enter Tryd.func9, Tryd.ntmps9
  go_wp2_with (first | ((with_reducible refine bx_ur w.heap.size s ?_ ?_ ?_); exact rfl; exact rfl; intro W hr hb hz; have fx := hr.cell))
  go_ret
  exact ⟨rfl, hb⟩

set_option maxHeartbeats 1000000 in
theorem rasks_c5 (s : U) (ok : s.Ok) (h0 : s.ov = false) (h1 : decide (0 < s.rx.n) = true) (h2 : ((s.ie : Int) % 2 == 1) = false) (h3 : (s.tx.n == 0) = true) (h4 : ((s.ie : Int) / 2 % 2 == 1) = true) (w : World) :
    Calls Tryd.prog 9 #[.agg s.cells] w fun e w' => e = .returned (.int .u8 ((2 : Nat) : Int)) ∧ Below w.heap.size w w' := by
  have n1 : 0 < s.rx.n := of_decide_eq_true h1
  have n2 : (s.ie % 2 == 1) = false := by rw [← h2, Bool.eq_iff_iff]; simp; omega
  have n4 : (s.ie / 2 % 2 == 1) = true := by rw [← h4, Bool.eq_iff_iff]; simp; omega
  go_enter Tryd.func9, Tryd.ntmps9
  go_wp2_with (first | ((with_reducible refine bx_ur w.heap.size s ?_ ?_ ?_); exact rfl; exact rfl; intro W hr hb hz; have fx := hr.cell))
  go_ret
  exact ⟨rfl, hb⟩

set_option maxHeartbeats 1000000 in
theorem rasks_c6 (s : U) (ok : s.Ok) (h0 : s.ov = false) (h1 : decide (0 < s.rx.n) = true) (h2 : ((s.ie : Int) % 2 == 1) = false) (h3 : (s.tx.n == 0) = false) (w : World) :
    Calls Tryd.prog 9 #[.agg s.cells] w fun e w' => e = .returned (.int .u8 ((1 : Nat) : Int)) ∧ Below w.heap.size w w' := by
  have n1 : 0 < s.rx.n := of_decide_eq_true h1
  have n2 : (s.ie % 2 == 1) = false := by rw [← h2, Bool.eq_iff_iff]; simp; omega
  go_enter Tryd.func9, Tryd.ntmps9
  go_wp2_with (first | ((with_reducible refine bx_ur w.heap.size s ?_ ?_ ?_); exact rfl; exact rfl; intro W hr hb hz; have fx := hr.cell))
  go_ret
  exact ⟨rfl, hb⟩

set_option maxHeartbeats 1000000 in
theorem rasks_c7 (s : U) (ok : s.Ok) (h0 : s.ov = false) (h1 : decide (0 < s.rx.n) = true) (h2 : ((s.ie : Int) % 2 == 1) = false) (h3 : (s.tx.n == 0) = true) (h4 : ((s.ie : Int) / 2 % 2 == 1) = false) (w : World) :
    Calls Tryd.prog 9 #[.agg s.cells] w fun e w' => e = .returned (.int .u8 ((1 : Nat) : Int)) ∧ Below w.heap.size w w' := by
  have n1 : 0 < s.rx.n := of_decide_eq_true h1
  have n2 : (s.ie % 2 == 1) = false := by rw [← h2, Bool.eq_iff_iff]; simp; omega
  have n4 : (s.ie / 2 % 2 == 1) = false := by rw [← h4, Bool.eq_iff_iff]; simp; omega
  go_enter Tryd.func9, Tryd.ntmps9
  go_wp2_with (first | ((with_reducible refine bx_ur w.heap.size s ?_ ?_ ?_); exact rfl; exact rfl; intro W hr hb hz; have fx := hr.cell))
  go_ret
  exact ⟨rfl, hb⟩

set_option maxHeartbeats 1000000 in
theorem rasks_c8 (s : U) (ok : s.Ok) (h0 : s.ov = true) (h1 : ((s.ie : Int) / 4 % 2 == 1) = false) (h2 : decide (0 < s.rx.n) = true) (h3 : ((s.ie : Int) % 2 == 1) = true) (w : World) :
    Calls Tryd.prog 9 #[.agg s.cells] w fun e w' => e = .returned (.int .u8 ((4 : Nat) : Int)) ∧ Below w.heap.size w w' := by
  have n1 : (s.ie / 4 % 2 == 1) = false := by rw [← h1, Bool.eq_iff_iff]; simp; omega
  have n2 : 0 < s.rx.n := of_decide_eq_true h2
  have n3 : (s.ie % 2 == 1) = true := by rw [← h3, Bool.eq_iff_iff]; simp; omega
  go_enter Tryd.func9, Tryd.ntmps9
  go_wp2_with (first | ((with_reducible refine bx_ur w.heap.size s ?_ ?_ ?_); exact rfl; exact rfl; intro W hr hb hz; have fx := hr.cell))
  go_ret
  exact ⟨rfl, hb⟩

set_option maxHeartbeats 1000000 in
theorem rasks_c9 (s : U) (ok : s.Ok) (h0 : s.ov = true) (h1 : ((s.ie : Int) / 4 % 2 == 1) = false) (h2 : decide (0 < s.rx.n) = false) (h3 : (s.tx.n == 0) = true) (h4 : ((s.ie : Int) / 2 % 2 == 1) = true) (w : World) :
    Calls Tryd.prog 9 #[.agg s.cells] w fun e w' => e = .returned (.int .u8 ((2 : Nat) : Int)) ∧ Below w.heap.size w w' := by
  have n1 : (s.ie / 4 % 2 == 1) = false := by rw [← h1, Bool.eq_iff_iff]; simp; omega
  have n2 : decide (s.rx.n > 0) = false := h2
  have n4 : (s.ie / 2 % 2 == 1) = true := by rw [← h4, Bool.eq_iff_iff]; simp; omega
  go_enter Tryd.func9, Tryd.ntmps9
  go_wp2_with (first | ((with_reducible refine bx_ur w.heap.size s ?_ ?_ ?_); exact rfl; exact rfl; intro W hr hb hz; have fx := hr.cell))
  go_ret
  exact ⟨rfl, hb⟩

set_option maxHeartbeats 1000000 in
theorem rasks_c10 (s : U) (ok : s.Ok) (h0 : s.ov = true) (h1 : ((s.ie : Int) / 4 % 2 == 1) = false) (h2 : decide (0 < s.rx.n) = false) (h3 : (s.tx.n == 0) = false) (w : World) :
    Calls Tryd.prog 9 #[.agg s.cells] w fun e w' => e = .returned (.int .u8 ((1 : Nat) : Int)) ∧ Below w.heap.size w w' := by
  have n1 : (s.ie / 4 % 2 == 1) = false := by rw [← h1, Bool.eq_iff_iff]; simp; omega
  have n2 : decide (s.rx.n > 0) = false := h2
  go_enter Tryd.func9, Tryd.ntmps9
  go_wp2_with (first | ((with_reducible refine bx_ur w.heap.size s ?_ ?_ ?_); exact rfl; exact rfl; intro W hr hb hz; have fx := hr.cell))
  go_ret
  exact ⟨rfl, hb⟩

set_option maxHeartbeats 1000000 in
theorem rasks_c11 (s : U) (ok : s.Ok) (h0 : s.ov = true) (h1 : ((s.ie : Int) / 4 % 2 == 1) = false) (h2 : decide (0 < s.rx.n) = false) (h3 : (s.tx.n == 0) = true) (h4 : ((s.ie : Int) / 2 % 2 == 1) = false) (w : World) :
    Calls Tryd.prog 9 #[.agg s.cells] w fun e w' => e = .returned (.int .u8 ((1 : Nat) : Int)) ∧ Below w.heap.size w w' := by
  have n1 : (s.ie / 4 % 2 == 1) = false := by rw [← h1, Bool.eq_iff_iff]; simp; omega
  have n2 : decide (s.rx.n > 0) = false := h2
  have n4 : (s.ie / 2 % 2 == 1) = false := by rw [← h4, Bool.eq_iff_iff]; simp; omega
  go_enter Tryd.func9, Tryd.ntmps9
  go_wp2_with (first | ((with_reducible refine bx_ur w.heap.size s ?_ ?_ ?_); exact rfl; exact rfl; intro W hr hb hz; have fx := hr.cell))
  go_ret
  exact ⟨rfl, hb⟩

set_option maxHeartbeats 1000000 in
theorem rasks_c12 (s : U) (ok : s.Ok) (h0 : s.ov = true) (h1 : ((s.ie : Int) / 4 % 2 == 1) = false) (h2 : decide (0 < s.rx.n) = true) (h3 : ((s.ie : Int) % 2 == 1) = false) (h4 : (s.tx.n == 0) = true) (h5 : ((s.ie : Int) / 2 % 2 == 1) = true) (w : World) :
    Calls Tryd.prog 9 #[.agg s.cells] w fun e w' => e = .returned (.int .u8 ((2 : Nat) : Int)) ∧ Below w.heap.size w w' := by
  have n1 : (s.ie / 4 % 2 == 1) = false := by rw [← h1, Bool.eq_iff_iff]; simp; omega
  have n2 : 0 < s.rx.n := of_decide_eq_true h2
  have n3 : (s.ie % 2 == 1) = false := by rw [← h3, Bool.eq_iff_iff]; simp; omega
  have n5 : (s.ie / 2 % 2 == 1) = true := by rw [← h5, Bool.eq_iff_iff]; simp; omega
  go_enter Tryd.func9, Tryd.ntmps9
  go_wp2_with (first | ((with_reducible refine bx_ur w.heap.size s ?_ ?_ ?_); exact rfl; exact rfl; intro W hr hb hz; have fx := hr.cell))
  go_ret
  exact ⟨rfl, hb⟩

set_option maxHeartbeats 1000000 in
theorem rasks_c13 (s : U) (ok : s.Ok) (h0 : s.ov = true) (h1 : ((s.ie : Int) / 4 % 2 == 1) = false) (h2 : decide (0 < s.rx.n) = true) (h3 : ((s.ie : Int) % 2 == 1) = false) (h4 : (s.tx.n == 0) = false) (w : World) :
    Calls Tryd.prog 9 #[.agg s.cells] w fun e w' => e = .returned (.int .u8 ((1 : Nat) : Int)) ∧ Below w.heap.size w w' := by
  have n1 : (s.ie / 4 % 2 == 1) = false := by rw [← h1, Bool.eq_iff_iff]; simp; omega
  have n2 : 0 < s.rx.n := of_decide_eq_true h2
  have n3 : (s.ie % 2 == 1) = false := by rw [← h3, Bool.eq_iff_iff]; simp; omega
  go_enter Tryd.func9, Tryd.ntmps9
  go_wp2_with (first | ((with_reducible refine bx_ur w.heap.size s ?_ ?_ ?_); exact rfl; exact rfl; intro W hr hb hz; have fx := hr.cell))
  go_ret
  exact ⟨rfl, hb⟩

set_option maxHeartbeats 1000000 in
theorem rasks_c14 (s : U) (ok : s.Ok) (h0 : s.ov = true) (h1 : ((s.ie : Int) / 4 % 2 == 1) = false) (h2 : decide (0 < s.rx.n) = true) (h3 : ((s.ie : Int) % 2 == 1) = false) (h4 : (s.tx.n == 0) = true) (h5 : ((s.ie : Int) / 2 % 2 == 1) = false) (w : World) :
    Calls Tryd.prog 9 #[.agg s.cells] w fun e w' => e = .returned (.int .u8 ((1 : Nat) : Int)) ∧ Below w.heap.size w w' := by
  have n1 : (s.ie / 4 % 2 == 1) = false := by rw [← h1, Bool.eq_iff_iff]; simp; omega
  have n2 : 0 < s.rx.n := of_decide_eq_true h2
  have n3 : (s.ie % 2 == 1) = false := by rw [← h3, Bool.eq_iff_iff]; simp; omega
  have n5 : (s.ie / 2 % 2 == 1) = false := by rw [← h5, Bool.eq_iff_iff]; simp; omega
  go_enter Tryd.func9, Tryd.ntmps9
  go_wp2_with (first | ((with_reducible refine bx_ur w.heap.size s ?_ ?_ ?_); exact rfl; exact rfl; intro W hr hb hz; have fx := hr.cell))
  go_ret
  exact ⟨rfl, hb⟩

theorem rasks_any (s : U) (ok : s.Ok) (hx : 0 ≤ s.rx.n) (w : World) :
    Calls Tryd.prog 9 #[.agg s.cells] w fun e w' => e = .returned (.int .u8 (asksN s : Nat)) ∧ Below w.heap.size w w' := by
  have e4 : decide (s.ie / 4 % 2 = 1) = ((s.ie : Int) / 4 % 2 == 1) := by rw [Bool.eq_iff_iff]; simp; omega
  have e2 : decide (s.ie / 2 % 2 = 1) = ((s.ie : Int) / 2 % 2 == 1) := by rw [Bool.eq_iff_iff]; simp; omega
  have e1 : decide (s.ie % 2 = 1) = ((s.ie : Int) % 2 == 1) := by rw [Bool.eq_iff_iff]; simp; omega
  have er : decide (s.rx.n ≠ 0) = decide (0 < s.rx.n) := by rw [Bool.eq_iff_iff]; simp; omega
  have et : decide (s.tx.n = 0) = (s.tx.n == 0) := rfl
  have ev : asksN s = (if (s.ov && ((s.ie : Int) / 4 % 2 == 1)) = true then 6 else if (decide (0 < s.rx.n) && ((s.ie : Int) % 2 == 1)) = true then 4 else if ((s.tx.n == 0) && ((s.ie : Int) / 2 % 2 == 1)) = true then 2 else 1) := by
    unfold asksN; rw [e4, e2, e1, er, et]
  rw [ev]
  clear ev er et e1 e2 e4
  cases h0 : s.ov with
  | false =>
    cases h1 : decide (0 < s.rx.n) with
    | false =>
      cases h2 : (s.tx.n == 0) with
      | false =>
        exact rasks_c3 s ok h0 h1 h2 w
      | true =>
        cases h3 : ((s.ie : Int) / 2 % 2 == 1) with
        | true =>
          exact rasks_c2 s ok h0 h1 h2 h3 w
        | false =>
          exact rasks_c4 s ok h0 h1 h2 h3 w
    | true =>
      cases h2 : ((s.ie : Int) % 2 == 1) with
      | true =>
        exact rasks_c1 s ok h0 h1 h2 w
      | false =>
        cases h3 : (s.tx.n == 0) with
        | false =>
          exact rasks_c6 s ok h0 h1 h2 h3 w
        | true =>
          cases h4 : ((s.ie : Int) / 2 % 2 == 1) with
          | true =>
            exact rasks_c5 s ok h0 h1 h2 h3 h4 w
          | false =>
            exact rasks_c7 s ok h0 h1 h2 h3 h4 w
  | true =>
    cases h1 : ((s.ie : Int) / 4 % 2 == 1) with
    | true =>
      exact rasks_c0 s ok h0 h1 w
    | false =>
      cases h2 : decide (0 < s.rx.n) with
      | false =>
        cases h3 : (s.tx.n == 0) with
        | false =>
          exact rasks_c10 s ok h0 h1 h2 h3 w
        | true =>
          cases h4 : ((s.ie : Int) / 2 % 2 == 1) with
          | true =>
            exact rasks_c9 s ok h0 h1 h2 h3 h4 w
          | false =>
            exact rasks_c11 s ok h0 h1 h2 h3 h4 w
      | true =>
        cases h3 : ((s.ie : Int) % 2 == 1) with
        | true =>
          exact rasks_c8 s ok h0 h1 h2 h3 w
        | false =>
          cases h4 : (s.tx.n == 0) with
          | false =>
            exact rasks_c13 s ok h0 h1 h2 h3 h4 w
          | true =>
            cases h5 : ((s.ie : Int) / 2 % 2 == 1) with
            | true =>
              exact rasks_c12 s ok h0 h1 h2 h3 h4 h5 w
            | false =>
              exact rasks_c14 s ok h0 h1 h2 h3 h4 h5 w
end Go.Proofs.YthopfecjnbfnmaaDoor
