/-
  What the document's Read answers.
-/
import Derived.Test.YthopfecjnbfnmaaDoorUaRCheck
import Derived.Test.YthopfecjnbfnmaaDoorUaRTake
import Derived.Test.YthopfecjnbfnmaaDoorUaRAsk
import Derived.Deep.RegionHeld3
import Derived.Great.Walk
namespace Go.Proofs.YthopfecjnbfnmaaDoor
open Go.RowKit
set_option linter.unusedVariables false

attribute [local go_sem] U.at0 U.at1 U.at2 U.at3 U.at4 U.at5 U.at6 U.at7 U.at8 U.at9 U.at10 U.at11 U.at12 U.at13 U.at14 U.at15 U.at16 U.at17 U.at18 U.at19 U.at20 U.at21 U.at22 U.at23 U.at24 U.at25 U.at26 U.at27 U.at28 U.at29 U.at30 U.at31 U.at32 U.at33 U.at34 U.at35 U.at36 U.at37 U.at38 U.at39 U.at40 U.at41
def c8 (g : Nat → Nat) : Array Value := #[.int .u8 (g 0 : Nat), .int .u8 (g 1 : Nat), .int .u8 (g 2 : Nat), .int .u8 (g 3 : Nat), .int .u8 (g 4 : Nat), .int .u8 (g 5 : Nat), .int .u8 (g 6 : Nat), .int .u8 (g 7 : Nat)]
theorem c8_at (g : Nat → Nat) (j : Nat) (h : j < 8) : (c8 g)[j]? = some (.int .u8 (g j : Nat)) := by
  rcases j with _ | _ | _ | _ | _ | _ | _ | _ | j
  all_goals first | rfl | omega
theorem c8_set (g : Nat → Nat) (v : Nat) : (c8 g).setIfInBounds 1 (.int .u8 (v : Nat)) = c8 (setB g 1 v) := by kernel_rfl
def lstG (s : U) (v : Nat) : Nat → Nat
  | 0 => s.dl | 1 => s.ie | 2 => 192 + v | 3 => s.lc | 4 => s.mc | 5 => 0 | 6 => 0 | _ => s.sc
theorem built_8 (s : U) (v : Nat) : Tryd.prog.builtSlice 5 8 [(0, .int .u8 (s.dl : Nat)), (1, .int .u8 (s.ie : Nat)), (2, .int .u8 (192 + (v : Nat))), (3, .int .u8 (s.lc : Nat)), (4, .int .u8 (s.mc : Nat)), (5, .int .u8 0), (6, .int .u8 0), (7, .int .u8 (s.sc : Nat))] = some (c8 (lstG s v)) := by kernel_rfl
variable {ops : Array Oper} {rest : List Oper} {dst : Option Tmp} {ty : TypeId} {pos : String} {after : Array Edge} {a : Act} {w : World} {Q : Exit → Act → World → Prop} {x y : Operand} {S : World → Prop} {K : Act → World → Prop} {parts : Array (Nat × Operand)}
structure BuiltOk (P : Program) (e : TypeId) (n : Nat) (L : List (Nat × Value)) (C : Array Value) : Prop where
  h : P.builtSlice e n L = some C
theorem s_bsn {P : Program} (t e : TypeId) (n : Nat) (hu : P.underlying t = some (.slice e)) (C : Array Value) (N : Nat) (hN : w.heap.size = N) (L : List (Nat × Value)) (hL : (parts.map fun p => (p.1, a.eval p.2)).toList = L) (hf : BuiltOk P e n L C)
    (k : ∀ W, RowAt W N C e → Below N w W → Hid (W.heap.size = N + 1) → K (a.put dst (.slice (some ⟨N, 0, none⟩) n n)) W) :
    Oper.wp P ⟨dst, .buildSlice t n parts, ty, pos, after, none⟩ a w K Q := by
  subst hN hL
  replace hf := hf.h
  unfold Program.builtSlice at hf
  cases hie : P.info? e with
  | none => simp [hie] at hf
  | some ie =>
    simp only [hie] at hf
    cases hz : ie.zero with
    | none => simp [hz] at hf
    | some z =>
      simp only [hz] at hf
      by_cases hc : n * ie.size > 2 ^ 24 ∨ n * ie.size = 0
      · simp [hc] at hf
      · rw [if_neg hc] at hf
        exact wp_buildSlice t e n parts rfl C ie z hu hie hz (fun h' => hc (Or.inl h')) (fun h' => hc (Or.inr h')) hf (k _ (RowAt.new w _ C e rfl) (below_one w _) (hide (by simp)))
theorem y_8 (b j : Nat) (v : Int) (hS : ∀ V, S V → V.cell? ⟨b, j, none⟩ = some (.int .u8 v)) (hx : a.eval x = .pointer (some ⟨b, j, none⟩)) :
    YieldsIf Tryd.prog ops S ⟨dst, .load 5 x, ty, pos, after, none⟩ (.int .u8 v) a := y_cell b j _ hS _ Tryd.underlying5 rfl hx
theorem st_l1 (b : Nat) (g : Nat → Nat) (p : Nat) (hr : RowAt w b (c8 g) 5) (hx : a.eval x = .pointer (some ⟨b, 1, none⟩)) (hy : a.eval y = .int .u8 (p : Nat))
    (k : ∀ W, RowAt W b (c8 (setB g 1 p)) 5 → Only b w W → wpList Tryd.prog ops Q rest (a.put dst undef) W) : wpList Tryd.prog ops Q (⟨dst, .store 5 x y, ty, pos, after, none⟩ :: rest) a w :=
  op_store_cell b 1 hx _ hy (c8 g) _ _ hr size_byte (by show 1 < 8; decide) rfl (c8_set g p) k
set_option maxHeartbeats 1000000 in
theorem rread_no (s : U) (ok : s.Ok) (a : Nat) (hm : mayU s = false) (w : World) :
    Calls Tryd.prog 7 #[.agg s.cells, .int .u32 (a : Nat)] w fun e w' => e = .returned (.tuple #[.agg (readV s a).1.cells, .int .u8 ((readV s a).2.1 : Nat), .int .i64 ((readV s a).2.2 : Nat)]) ∧ Below w.heap.size w w' := by
  have HV : readV s a = (zeroU, 0, 1) := by unfold readV; rw [hm, if_neg (by decide)]
  rw [HV]; clear HV
  have HC := hide (fun w => rcheck_no s ok hm w)
  go_enter Tryd.func7, Tryd.ntmps7
  go_wp2_with (first | ((with_reducible refine bx_ur w.heap.size s ?_ ?_ ?_); exact rfl; exact rfl; intro W hr hb hz) | ((with_reducible refine al_ur (w.heap.size + 1) ?_ ?_); exact hz.out; intro W hq hb' hz'; replace hr := hr.bl (hz.out ▸ hb'); replace hb := hb.trans (hb'.mono (by omega)); replace hz := hz') | (go_at_call 8; (with_reducible refine (HC.out _).mono ?_); rintro e W ⟨rfl, hbc⟩; replace hr := hr.bl hbc; replace hq := hq.bl hbc; replace hb := below_bl rfl hb hbc) | ((with_reducible refine ld_ur w.heap.size _ hr ?_ ?_ ?_); exact rfl; exact rfl) | ((with_reducible refine ld_lc w.heap.size _ _ hr ?_ ?_); exact rfl) | ((with_reducible refine st_ur (w.heap.size + 1) _ zeroU hq ?_ ?_ ?_); exact rfl; exact rfl; intro W hnew ho; replace hr := hr.only ho (by omega); replace hq := hnew; replace hb := ho.bel _ _ (by omega) hb))
  refine bodyPost_ret (results_cell_two Tryd.results7 _ _ (w.heap.size + 1) _ _ _ rfl hq Tryd.underlying26 rfl size_ur) rfl ?_
  exact ⟨rfl, hb⟩

set_option maxHeartbeats 1000000 in
theorem rread_0y (s : U) (ok : s.Ok) (hm : mayU s = true) (hd : dlB s = false) (h0 : 0 < s.rx.n) (w : World) :
    Calls Tryd.prog 7 #[.agg s.cells, .int .u32 ((0 : Nat) : Int)] w fun e w' => e = .returned (.tuple #[.agg (readV s 0).1.cells, .int .u8 ((readV s 0).2.1 : Nat), .int .i64 ((readV s 0).2.2 : Nat)]) ∧ Below w.heap.size w w' := by
  rw [show (((0 : Nat) : Int)) = 0 from rfl]
  have HV : readV s 0 = (withRx s (takeF s.rx), s.rx.b 0, 0) := by unfold readV readS dataS; rw [if_pos hm, if_pos rfl, hd, if_neg (by decide), if_neg (by omega)]
  rw [HV]; clear HV
  have HP := hide (fun w => rtake_any s.rx ((mayU_iff s).1 hm).rx h0 w)
  clear h0
  have HC := hide (fun w => rcheck_ok s ok hm w)
  have d1 : decide ((128 : Int) ≤ (s.lc : Int)) = false := by unfold dlB at hd; have := of_decide_eq_false hd; simp; omega
  have d2 : decide (128 ≤ s.lc) = false := hd
  go_enter Tryd.func7, Tryd.ntmps7
  go_wp2_with (first | ((with_reducible refine bx_ur w.heap.size s ?_ ?_ ?_); exact rfl; exact rfl; intro W hr hb hz) | ((with_reducible refine al_ur (w.heap.size + 1) ?_ ?_); exact hz.out; intro W hq hb' hz'; replace hr := hr.bl (hz.out ▸ hb'); replace hb := hb.trans (hb'.mono (by omega)); replace hz := hz') | (go_at_call 8; (with_reducible refine (HC.out _).mono ?_); rintro e W ⟨rfl, hbc⟩; replace hr := hr.bl hbc; replace hq := hq.bl hbc; replace hb := below_bl rfl hb hbc) | ((with_reducible refine ld_ur w.heap.size _ hr ?_ ?_ ?_); exact rfl; exact rfl) | ((with_reducible refine ld_lc w.heap.size _ _ hr ?_ ?_); exact rfl) | ((with_reducible refine ld_rxr w.heap.size _ _ hr ?_ ?_ ?_); exact rfl; exact rfl) | (go_at_call 20; (with_reducible refine (HP.out _).mono ?_); rintro e W ⟨rfl, hbc⟩; replace hr := hr.bl hbc; replace hq := hq.bl hbc; obtain ⟨NX, hNX⟩ : ∃ n, W.heap.size = n := ⟨_, rfl⟩; have lNX : w.heap.size + 2 ≤ NX := (by (have := hq.lt; omega)); replace hNX := hide hNX; replace hb := below_bl rfl hb hbc) | ((with_reducible refine al_fr NX ?_ ?_); exact hNX.out; intro W hx hb' hz2; replace hr := hr.bl (hNX.out ▸ hb'); replace hq := hq.bl (hNX.out ▸ hb'); replace hb := hb.trans (hb'.mono (by omega))) | ((with_reducible refine st_fr NX _ (takeF s.rx) hx ?_ ?_ ?_); exact rfl; exact rfl; intro W hnew ho; replace hr := hr.only ho (by omega); replace hq := hq.only ho (by omega); replace hx := hnew; replace hb := ho.bel _ _ (by omega) hb) | ((with_reducible refine ld_fr NX (takeF s.rx) hx ?_ ?_ ?_); exact rfl; exact rfl) | ((with_reducible refine st_rxr w.heap.size _ (takeF s.rx) _ hr ?_ ?_ ?_); exact rfl; exact rfl; intro W hnew ho; replace hq := hq.only ho (by omega); replace hx := hx.only ho (by omega); replace hr := hnew; replace hb := ho.bel _ _ (by omega) hb) | ((with_reducible refine st_ur (w.heap.size + 1) _ (withRx s (takeF s.rx)) hq ?_ ?_ ?_); exact rfl; exact rfl; intro W hnew ho; replace hr := hr.only ho (by omega); replace hx := hx.only ho (by omega); replace hq := hnew; replace hb := ho.bel _ _ (by omega) hb))
  refine bodyPost_ret (results_cell_two Tryd.results7 _ _ (w.heap.size + 1) _ _ _ rfl hq Tryd.underlying26 rfl size_ur) rfl ?_
  exact ⟨rfl, hb⟩

set_option maxHeartbeats 1000000 in
theorem rread_0n (s : U) (ok : s.Ok) (hm : mayU s = true) (hd : dlB s = false) (h0 : s.rx.n = 0) (w : World) :
    Calls Tryd.prog 7 #[.agg s.cells, .int .u32 ((0 : Nat) : Int)] w fun e w' => e = .returned (.tuple #[.agg (readV s 0).1.cells, .int .u8 ((readV s 0).2.1 : Nat), .int .i64 ((readV s 0).2.2 : Nat)]) ∧ Below w.heap.size w w' := by
  rw [show (((0 : Nat) : Int)) = 0 from rfl]
  have HV : readV s 0 = (s, 0, 0) := by unfold readV readS dataS; rw [if_pos hm, if_pos rfl, hd, if_neg (by decide), if_pos h0]
  rw [HV]; clear HV
  have HP := hide (fun w => rtake_no s.rx h0 w)
  clear h0
  have HC := hide (fun w => rcheck_ok s ok hm w)
  have d1 : decide ((128 : Int) ≤ (s.lc : Int)) = false := by unfold dlB at hd; have := of_decide_eq_false hd; simp; omega
  have d2 : decide (128 ≤ s.lc) = false := hd
  go_enter Tryd.func7, Tryd.ntmps7
  go_wp2_with (first | ((with_reducible refine bx_ur w.heap.size s ?_ ?_ ?_); exact rfl; exact rfl; intro W hr hb hz) | ((with_reducible refine al_ur (w.heap.size + 1) ?_ ?_); exact hz.out; intro W hq hb' hz'; replace hr := hr.bl (hz.out ▸ hb'); replace hb := hb.trans (hb'.mono (by omega)); replace hz := hz') | (go_at_call 8; (with_reducible refine (HC.out _).mono ?_); rintro e W ⟨rfl, hbc⟩; replace hr := hr.bl hbc; replace hq := hq.bl hbc; replace hb := below_bl rfl hb hbc) | ((with_reducible refine ld_ur w.heap.size _ hr ?_ ?_ ?_); exact rfl; exact rfl) | ((with_reducible refine ld_lc w.heap.size _ _ hr ?_ ?_); exact rfl) | ((with_reducible refine ld_rxr w.heap.size _ _ hr ?_ ?_ ?_); exact rfl; exact rfl) | (go_at_call 20; (with_reducible refine (HP.out _).mono ?_); rintro e W ⟨rfl, hbc⟩; replace hr := hr.bl hbc; replace hq := hq.bl hbc; obtain ⟨NX, hNX⟩ : ∃ n, W.heap.size = n := ⟨_, rfl⟩; have lNX : w.heap.size + 2 ≤ NX := (by (have := hq.lt; omega)); replace hNX := hide hNX; replace hb := below_bl rfl hb hbc) | ((with_reducible refine al_fr NX ?_ ?_); exact hNX.out; intro W hx hb' hz2; replace hr := hr.bl (hNX.out ▸ hb'); replace hq := hq.bl (hNX.out ▸ hb'); replace hb := hb.trans (hb'.mono (by omega))) | ((with_reducible refine st_fr NX _ s.rx hx ?_ ?_ ?_); exact rfl; exact rfl; intro W hnew ho; replace hr := hr.only ho (by omega); replace hq := hq.only ho (by omega); replace hx := hnew; replace hb := ho.bel _ _ (by omega) hb) | ((with_reducible refine ld_fr NX s.rx hx ?_ ?_ ?_); exact rfl; exact rfl) | ((with_reducible refine st_rxr w.heap.size _ s.rx _ hr ?_ ?_ ?_); exact rfl; exact rfl; intro W hnew ho; replace hq := hq.only ho (by omega); replace hx := hx.only ho (by omega); replace hr := hnew; replace hb := ho.bel _ _ (by omega) hb) | ((with_reducible refine st_ur (w.heap.size + 1) _ (s) hq ?_ ?_ ?_); exact rfl; exact rfl; intro W hnew ho; replace hr := hr.only ho (by omega); replace hx := hx.only ho (by omega); replace hq := hnew; replace hb := ho.bel _ _ (by omega) hb))
  refine bodyPost_ret (results_cell_two Tryd.results7 _ _ (w.heap.size + 1) _ _ _ rfl hq Tryd.underlying26 rfl size_ur) rfl ?_
  exact ⟨rfl, hb⟩

set_option maxHeartbeats 1000000 in
theorem rread_5t0 (s : U) (ok : s.Ok) (hm : mayU s = true) (hst : statN s = 0) (hd : dlB s = true) (h0 : decide (0 < s.rx.n) = false) (h1 : s.ov = false) (h2 : (s.tx.n == 0) = false) (w : World) :
    Calls Tryd.prog 7 #[.agg s.cells, .int .u32 ((5 : Nat) : Int)] w fun e w' => e = .returned (.tuple #[.agg (readV s 5).1.cells, .int .u8 ((readV s 5).2.1 : Nat), .int .i64 ((readV s 5).2.2 : Nat)]) ∧ Below w.heap.size w w' := by
  rw [show (((5 : Nat) : Int)) = 5 from rfl]
  have HV : readV s 5 = (withOv s false, statN s, 0) := by unfold readV readS; rw [if_pos hm, if_neg (by decide), if_neg (by decide), if_neg (by decide), if_neg (by decide), if_neg (by decide), if_pos rfl]
  rw [HV, hst]; clear HV hst
  have n0 : decide (s.rx.n > 0) = false := h0
  have HC := hide (fun w => rcheck_ok s ok hm w)
  have d1 : (128 : Int) ≤ (s.lc : Int) := by unfold dlB at hd; have := of_decide_eq_true hd; omega
  go_enter Tryd.func7, Tryd.ntmps7
  go_wp2_with (first | ((with_reducible refine bx_ur w.heap.size s ?_ ?_ ?_); exact rfl; exact rfl; intro W hr hb hz) | ((with_reducible refine al_ur (w.heap.size + 1) ?_ ?_); exact hz.out; intro W hq hb' hz'; replace hr := hr.bl (hz.out ▸ hb'); replace hb := hb.trans (hb'.mono (by omega)); replace hz := hz') | (go_at_call 8; (with_reducible refine (HC.out _).mono ?_); rintro e W ⟨rfl, hbc⟩; replace hr := hr.bl hbc; replace hq := hq.bl hbc; replace hb := below_bl rfl hb hbc) | ((with_reducible refine ld_ur w.heap.size _ hr ?_ ?_ ?_); exact rfl; exact rfl) | ((with_reducible refine ld_lc w.heap.size s _ hr ?_ ?_); exact rfl; have fx := hr.cell) | ((with_reducible refine st_ov w.heap.size s false _ hr ?_ ?_ ?_); exact rfl; exact rfl; intro W hnew ho; clear fx; replace hq := hq.only ho (by omega); replace hr := hnew; replace hb := ho.bel _ _ (by omega) hb) | ((with_reducible refine st_ur (w.heap.size + 1) _ (withOv s false) hq ?_ ?_ ?_); exact rfl; exact rfl; intro W hnew ho; replace hr := hr.only ho (by omega); replace hq := hnew; replace hb := ho.bel _ _ (by omega) hb))
  refine bodyPost_ret (results_cell_two Tryd.results7 _ _ (w.heap.size + 1) _ _ _ rfl hq Tryd.underlying26 rfl size_ur) rfl ?_
  exact ⟨rfl, hb⟩

set_option maxHeartbeats 1000000 in
theorem rread_5f0 (s : U) (ok : s.Ok) (hm : mayU s = true) (hst : statN s = 0) (hd : dlB s = false) (h0 : decide (0 < s.rx.n) = false) (h1 : s.ov = false) (h2 : (s.tx.n == 0) = false) (w : World) :
    Calls Tryd.prog 7 #[.agg s.cells, .int .u32 ((5 : Nat) : Int)] w fun e w' => e = .returned (.tuple #[.agg (readV s 5).1.cells, .int .u8 ((readV s 5).2.1 : Nat), .int .i64 ((readV s 5).2.2 : Nat)]) ∧ Below w.heap.size w w' := by
  rw [show (((5 : Nat) : Int)) = 5 from rfl]
  have HV : readV s 5 = (withOv s false, statN s, 0) := by unfold readV readS; rw [if_pos hm, if_neg (by decide), if_neg (by decide), if_neg (by decide), if_neg (by decide), if_neg (by decide), if_pos rfl]
  rw [HV, hst]; clear HV hst
  have n0 : decide (s.rx.n > 0) = false := h0
  have HC := hide (fun w => rcheck_ok s ok hm w)
  have d1 : decide ((128 : Int) ≤ (s.lc : Int)) = false := by unfold dlB at hd; have := of_decide_eq_false hd; simp; omega
  have d2 : decide (128 ≤ s.lc) = false := hd
  go_enter Tryd.func7, Tryd.ntmps7
  go_wp2_with (first | ((with_reducible refine bx_ur w.heap.size s ?_ ?_ ?_); exact rfl; exact rfl; intro W hr hb hz) | ((with_reducible refine al_ur (w.heap.size + 1) ?_ ?_); exact hz.out; intro W hq hb' hz'; replace hr := hr.bl (hz.out ▸ hb'); replace hb := hb.trans (hb'.mono (by omega)); replace hz := hz') | (go_at_call 8; (with_reducible refine (HC.out _).mono ?_); rintro e W ⟨rfl, hbc⟩; replace hr := hr.bl hbc; replace hq := hq.bl hbc; replace hb := below_bl rfl hb hbc) | ((with_reducible refine ld_ur w.heap.size _ hr ?_ ?_ ?_); exact rfl; exact rfl) | ((with_reducible refine ld_lc w.heap.size s _ hr ?_ ?_); exact rfl; have fx := hr.cell) | ((with_reducible refine st_ov w.heap.size s false _ hr ?_ ?_ ?_); exact rfl; exact rfl; intro W hnew ho; clear fx; replace hq := hq.only ho (by omega); replace hr := hnew; replace hb := ho.bel _ _ (by omega) hb) | ((with_reducible refine st_ur (w.heap.size + 1) _ (withOv s false) hq ?_ ?_ ?_); exact rfl; exact rfl; intro W hnew ho; replace hr := hr.only ho (by omega); replace hq := hnew; replace hb := ho.bel _ _ (by omega) hb))
  refine bodyPost_ret (results_cell_two Tryd.results7 _ _ (w.heap.size + 1) _ _ _ rfl hq Tryd.underlying26 rfl size_ur) rfl ?_
  exact ⟨rfl, hb⟩

set_option maxHeartbeats 1000000 in
theorem rread_5t1 (s : U) (ok : s.Ok) (hm : mayU s = true) (hst : statN s = 96) (hd : dlB s = true) (h0 : decide (0 < s.rx.n) = false) (h1 : s.ov = false) (h2 : (s.tx.n == 0) = true) (w : World) :
    Calls Tryd.prog 7 #[.agg s.cells, .int .u32 ((5 : Nat) : Int)] w fun e w' => e = .returned (.tuple #[.agg (readV s 5).1.cells, .int .u8 ((readV s 5).2.1 : Nat), .int .i64 ((readV s 5).2.2 : Nat)]) ∧ Below w.heap.size w w' := by
  rw [show (((5 : Nat) : Int)) = 5 from rfl]
  have HV : readV s 5 = (withOv s false, statN s, 0) := by unfold readV readS; rw [if_pos hm, if_neg (by decide), if_neg (by decide), if_neg (by decide), if_neg (by decide), if_neg (by decide), if_pos rfl]
  rw [HV, hst]; clear HV hst
  have n0 : decide (s.rx.n > 0) = false := h0
  have HC := hide (fun w => rcheck_ok s ok hm w)
  have d1 : (128 : Int) ≤ (s.lc : Int) := by unfold dlB at hd; have := of_decide_eq_true hd; omega
  go_enter Tryd.func7, Tryd.ntmps7
  go_wp2_with (first | ((with_reducible refine bx_ur w.heap.size s ?_ ?_ ?_); exact rfl; exact rfl; intro W hr hb hz) | ((with_reducible refine al_ur (w.heap.size + 1) ?_ ?_); exact hz.out; intro W hq hb' hz'; replace hr := hr.bl (hz.out ▸ hb'); replace hb := hb.trans (hb'.mono (by omega)); replace hz := hz') | (go_at_call 8; (with_reducible refine (HC.out _).mono ?_); rintro e W ⟨rfl, hbc⟩; replace hr := hr.bl hbc; replace hq := hq.bl hbc; replace hb := below_bl rfl hb hbc) | ((with_reducible refine ld_ur w.heap.size _ hr ?_ ?_ ?_); exact rfl; exact rfl) | ((with_reducible refine ld_lc w.heap.size s _ hr ?_ ?_); exact rfl; have fx := hr.cell) | ((with_reducible refine st_ov w.heap.size s false _ hr ?_ ?_ ?_); exact rfl; exact rfl; intro W hnew ho; clear fx; replace hq := hq.only ho (by omega); replace hr := hnew; replace hb := ho.bel _ _ (by omega) hb) | ((with_reducible refine st_ur (w.heap.size + 1) _ (withOv s false) hq ?_ ?_ ?_); exact rfl; exact rfl; intro W hnew ho; replace hr := hr.only ho (by omega); replace hq := hnew; replace hb := ho.bel _ _ (by omega) hb))
  refine bodyPost_ret (results_cell_two Tryd.results7 _ _ (w.heap.size + 1) _ _ _ rfl hq Tryd.underlying26 rfl size_ur) rfl ?_
  exact ⟨rfl, hb⟩

set_option maxHeartbeats 1000000 in
theorem rread_5f1 (s : U) (ok : s.Ok) (hm : mayU s = true) (hst : statN s = 96) (hd : dlB s = false) (h0 : decide (0 < s.rx.n) = false) (h1 : s.ov = false) (h2 : (s.tx.n == 0) = true) (w : World) :
    Calls Tryd.prog 7 #[.agg s.cells, .int .u32 ((5 : Nat) : Int)] w fun e w' => e = .returned (.tuple #[.agg (readV s 5).1.cells, .int .u8 ((readV s 5).2.1 : Nat), .int .i64 ((readV s 5).2.2 : Nat)]) ∧ Below w.heap.size w w' := by
  rw [show (((5 : Nat) : Int)) = 5 from rfl]
  have HV : readV s 5 = (withOv s false, statN s, 0) := by unfold readV readS; rw [if_pos hm, if_neg (by decide), if_neg (by decide), if_neg (by decide), if_neg (by decide), if_neg (by decide), if_pos rfl]
  rw [HV, hst]; clear HV hst
  have n0 : decide (s.rx.n > 0) = false := h0
  have HC := hide (fun w => rcheck_ok s ok hm w)
  have d1 : decide ((128 : Int) ≤ (s.lc : Int)) = false := by unfold dlB at hd; have := of_decide_eq_false hd; simp; omega
  have d2 : decide (128 ≤ s.lc) = false := hd
  go_enter Tryd.func7, Tryd.ntmps7
  go_wp2_with (first | ((with_reducible refine bx_ur w.heap.size s ?_ ?_ ?_); exact rfl; exact rfl; intro W hr hb hz) | ((with_reducible refine al_ur (w.heap.size + 1) ?_ ?_); exact hz.out; intro W hq hb' hz'; replace hr := hr.bl (hz.out ▸ hb'); replace hb := hb.trans (hb'.mono (by omega)); replace hz := hz') | (go_at_call 8; (with_reducible refine (HC.out _).mono ?_); rintro e W ⟨rfl, hbc⟩; replace hr := hr.bl hbc; replace hq := hq.bl hbc; replace hb := below_bl rfl hb hbc) | ((with_reducible refine ld_ur w.heap.size _ hr ?_ ?_ ?_); exact rfl; exact rfl) | ((with_reducible refine ld_lc w.heap.size s _ hr ?_ ?_); exact rfl; have fx := hr.cell) | ((with_reducible refine st_ov w.heap.size s false _ hr ?_ ?_ ?_); exact rfl; exact rfl; intro W hnew ho; clear fx; replace hq := hq.only ho (by omega); replace hr := hnew; replace hb := ho.bel _ _ (by omega) hb) | ((with_reducible refine st_ur (w.heap.size + 1) _ (withOv s false) hq ?_ ?_ ?_); exact rfl; exact rfl; intro W hnew ho; replace hr := hr.only ho (by omega); replace hq := hnew; replace hb := ho.bel _ _ (by omega) hb))
  refine bodyPost_ret (results_cell_two Tryd.results7 _ _ (w.heap.size + 1) _ _ _ rfl hq Tryd.underlying26 rfl size_ur) rfl ?_
  exact ⟨rfl, hb⟩

set_option maxHeartbeats 1000000 in
theorem rread_5t2 (s : U) (ok : s.Ok) (hm : mayU s = true) (hst : statN s = 2) (hd : dlB s = true) (h0 : decide (0 < s.rx.n) = false) (h1 : s.ov = true) (h2 : (s.tx.n == 0) = false) (w : World) :
    Calls Tryd.prog 7 #[.agg s.cells, .int .u32 ((5 : Nat) : Int)] w fun e w' => e = .returned (.tuple #[.agg (readV s 5).1.cells, .int .u8 ((readV s 5).2.1 : Nat), .int .i64 ((readV s 5).2.2 : Nat)]) ∧ Below w.heap.size w w' := by
  rw [show (((5 : Nat) : Int)) = 5 from rfl]
  have HV : readV s 5 = (withOv s false, statN s, 0) := by unfold readV readS; rw [if_pos hm, if_neg (by decide), if_neg (by decide), if_neg (by decide), if_neg (by decide), if_neg (by decide), if_pos rfl]
  rw [HV, hst]; clear HV hst
  have n0 : decide (s.rx.n > 0) = false := h0
  have HC := hide (fun w => rcheck_ok s ok hm w)
  have d1 : (128 : Int) ≤ (s.lc : Int) := by unfold dlB at hd; have := of_decide_eq_true hd; omega
  go_enter Tryd.func7, Tryd.ntmps7
  go_wp2_with (first | ((with_reducible refine bx_ur w.heap.size s ?_ ?_ ?_); exact rfl; exact rfl; intro W hr hb hz) | ((with_reducible refine al_ur (w.heap.size + 1) ?_ ?_); exact hz.out; intro W hq hb' hz'; replace hr := hr.bl (hz.out ▸ hb'); replace hb := hb.trans (hb'.mono (by omega)); replace hz := hz') | (go_at_call 8; (with_reducible refine (HC.out _).mono ?_); rintro e W ⟨rfl, hbc⟩; replace hr := hr.bl hbc; replace hq := hq.bl hbc; replace hb := below_bl rfl hb hbc) | ((with_reducible refine ld_ur w.heap.size _ hr ?_ ?_ ?_); exact rfl; exact rfl) | ((with_reducible refine ld_lc w.heap.size s _ hr ?_ ?_); exact rfl; have fx := hr.cell) | ((with_reducible refine st_ov w.heap.size s false _ hr ?_ ?_ ?_); exact rfl; exact rfl; intro W hnew ho; clear fx; replace hq := hq.only ho (by omega); replace hr := hnew; replace hb := ho.bel _ _ (by omega) hb) | ((with_reducible refine st_ur (w.heap.size + 1) _ (withOv s false) hq ?_ ?_ ?_); exact rfl; exact rfl; intro W hnew ho; replace hr := hr.only ho (by omega); replace hq := hnew; replace hb := ho.bel _ _ (by omega) hb))
  refine bodyPost_ret (results_cell_two Tryd.results7 _ _ (w.heap.size + 1) _ _ _ rfl hq Tryd.underlying26 rfl size_ur) rfl ?_
  exact ⟨rfl, hb⟩

set_option maxHeartbeats 1000000 in
theorem rread_5f2 (s : U) (ok : s.Ok) (hm : mayU s = true) (hst : statN s = 2) (hd : dlB s = false) (h0 : decide (0 < s.rx.n) = false) (h1 : s.ov = true) (h2 : (s.tx.n == 0) = false) (w : World) :
    Calls Tryd.prog 7 #[.agg s.cells, .int .u32 ((5 : Nat) : Int)] w fun e w' => e = .returned (.tuple #[.agg (readV s 5).1.cells, .int .u8 ((readV s 5).2.1 : Nat), .int .i64 ((readV s 5).2.2 : Nat)]) ∧ Below w.heap.size w w' := by
  rw [show (((5 : Nat) : Int)) = 5 from rfl]
  have HV : readV s 5 = (withOv s false, statN s, 0) := by unfold readV readS; rw [if_pos hm, if_neg (by decide), if_neg (by decide), if_neg (by decide), if_neg (by decide), if_neg (by decide), if_pos rfl]
  rw [HV, hst]; clear HV hst
  have n0 : decide (s.rx.n > 0) = false := h0
  have HC := hide (fun w => rcheck_ok s ok hm w)
  have d1 : decide ((128 : Int) ≤ (s.lc : Int)) = false := by unfold dlB at hd; have := of_decide_eq_false hd; simp; omega
  have d2 : decide (128 ≤ s.lc) = false := hd
  go_enter Tryd.func7, Tryd.ntmps7
  go_wp2_with (first | ((with_reducible refine bx_ur w.heap.size s ?_ ?_ ?_); exact rfl; exact rfl; intro W hr hb hz) | ((with_reducible refine al_ur (w.heap.size + 1) ?_ ?_); exact hz.out; intro W hq hb' hz'; replace hr := hr.bl (hz.out ▸ hb'); replace hb := hb.trans (hb'.mono (by omega)); replace hz := hz') | (go_at_call 8; (with_reducible refine (HC.out _).mono ?_); rintro e W ⟨rfl, hbc⟩; replace hr := hr.bl hbc; replace hq := hq.bl hbc; replace hb := below_bl rfl hb hbc) | ((with_reducible refine ld_ur w.heap.size _ hr ?_ ?_ ?_); exact rfl; exact rfl) | ((with_reducible refine ld_lc w.heap.size s _ hr ?_ ?_); exact rfl; have fx := hr.cell) | ((with_reducible refine st_ov w.heap.size s false _ hr ?_ ?_ ?_); exact rfl; exact rfl; intro W hnew ho; clear fx; replace hq := hq.only ho (by omega); replace hr := hnew; replace hb := ho.bel _ _ (by omega) hb) | ((with_reducible refine st_ur (w.heap.size + 1) _ (withOv s false) hq ?_ ?_ ?_); exact rfl; exact rfl; intro W hnew ho; replace hr := hr.only ho (by omega); replace hq := hnew; replace hb := ho.bel _ _ (by omega) hb))
  refine bodyPost_ret (results_cell_two Tryd.results7 _ _ (w.heap.size + 1) _ _ _ rfl hq Tryd.underlying26 rfl size_ur) rfl ?_
  exact ⟨rfl, hb⟩

set_option maxHeartbeats 1000000 in
theorem rread_5t3 (s : U) (ok : s.Ok) (hm : mayU s = true) (hst : statN s = 98) (hd : dlB s = true) (h0 : decide (0 < s.rx.n) = false) (h1 : s.ov = true) (h2 : (s.tx.n == 0) = true) (w : World) :
    Calls Tryd.prog 7 #[.agg s.cells, .int .u32 ((5 : Nat) : Int)] w fun e w' => e = .returned (.tuple #[.agg (readV s 5).1.cells, .int .u8 ((readV s 5).2.1 : Nat), .int .i64 ((readV s 5).2.2 : Nat)]) ∧ Below w.heap.size w w' := by
  rw [show (((5 : Nat) : Int)) = 5 from rfl]
  have HV : readV s 5 = (withOv s false, statN s, 0) := by unfold readV readS; rw [if_pos hm, if_neg (by decide), if_neg (by decide), if_neg (by decide), if_neg (by decide), if_neg (by decide), if_pos rfl]
  rw [HV, hst]; clear HV hst
  have n0 : decide (s.rx.n > 0) = false := h0
  have HC := hide (fun w => rcheck_ok s ok hm w)
  have d1 : (128 : Int) ≤ (s.lc : Int) := by unfold dlB at hd; have := of_decide_eq_true hd; omega
  go_enter Tryd.func7, Tryd.ntmps7
  go_wp2_with (first | ((with_reducible refine bx_ur w.heap.size s ?_ ?_ ?_); exact rfl; exact rfl; intro W hr hb hz) | ((with_reducible refine al_ur (w.heap.size + 1) ?_ ?_); exact hz.out; intro W hq hb' hz'; replace hr := hr.bl (hz.out ▸ hb'); replace hb := hb.trans (hb'.mono (by omega)); replace hz := hz') | (go_at_call 8; (with_reducible refine (HC.out _).mono ?_); rintro e W ⟨rfl, hbc⟩; replace hr := hr.bl hbc; replace hq := hq.bl hbc; replace hb := below_bl rfl hb hbc) | ((with_reducible refine ld_ur w.heap.size _ hr ?_ ?_ ?_); exact rfl; exact rfl) | ((with_reducible refine ld_lc w.heap.size s _ hr ?_ ?_); exact rfl; have fx := hr.cell) | ((with_reducible refine st_ov w.heap.size s false _ hr ?_ ?_ ?_); exact rfl; exact rfl; intro W hnew ho; clear fx; replace hq := hq.only ho (by omega); replace hr := hnew; replace hb := ho.bel _ _ (by omega) hb) | ((with_reducible refine st_ur (w.heap.size + 1) _ (withOv s false) hq ?_ ?_ ?_); exact rfl; exact rfl; intro W hnew ho; replace hr := hr.only ho (by omega); replace hq := hnew; replace hb := ho.bel _ _ (by omega) hb))
  refine bodyPost_ret (results_cell_two Tryd.results7 _ _ (w.heap.size + 1) _ _ _ rfl hq Tryd.underlying26 rfl size_ur) rfl ?_
  exact ⟨rfl, hb⟩

set_option maxHeartbeats 1000000 in
theorem rread_5f3 (s : U) (ok : s.Ok) (hm : mayU s = true) (hst : statN s = 98) (hd : dlB s = false) (h0 : decide (0 < s.rx.n) = false) (h1 : s.ov = true) (h2 : (s.tx.n == 0) = true) (w : World) :
    Calls Tryd.prog 7 #[.agg s.cells, .int .u32 ((5 : Nat) : Int)] w fun e w' => e = .returned (.tuple #[.agg (readV s 5).1.cells, .int .u8 ((readV s 5).2.1 : Nat), .int .i64 ((readV s 5).2.2 : Nat)]) ∧ Below w.heap.size w w' := by
  rw [show (((5 : Nat) : Int)) = 5 from rfl]
  have HV : readV s 5 = (withOv s false, statN s, 0) := by unfold readV readS; rw [if_pos hm, if_neg (by decide), if_neg (by decide), if_neg (by decide), if_neg (by decide), if_neg (by decide), if_pos rfl]
  rw [HV, hst]; clear HV hst
  have n0 : decide (s.rx.n > 0) = false := h0
  have HC := hide (fun w => rcheck_ok s ok hm w)
  have d1 : decide ((128 : Int) ≤ (s.lc : Int)) = false := by unfold dlB at hd; have := of_decide_eq_false hd; simp; omega
  have d2 : decide (128 ≤ s.lc) = false := hd
  go_enter Tryd.func7, Tryd.ntmps7
  go_wp2_with (first | ((with_reducible refine bx_ur w.heap.size s ?_ ?_ ?_); exact rfl; exact rfl; intro W hr hb hz) | ((with_reducible refine al_ur (w.heap.size + 1) ?_ ?_); exact hz.out; intro W hq hb' hz'; replace hr := hr.bl (hz.out ▸ hb'); replace hb := hb.trans (hb'.mono (by omega)); replace hz := hz') | (go_at_call 8; (with_reducible refine (HC.out _).mono ?_); rintro e W ⟨rfl, hbc⟩; replace hr := hr.bl hbc; replace hq := hq.bl hbc; replace hb := below_bl rfl hb hbc) | ((with_reducible refine ld_ur w.heap.size _ hr ?_ ?_ ?_); exact rfl; exact rfl) | ((with_reducible refine ld_lc w.heap.size s _ hr ?_ ?_); exact rfl; have fx := hr.cell) | ((with_reducible refine st_ov w.heap.size s false _ hr ?_ ?_ ?_); exact rfl; exact rfl; intro W hnew ho; clear fx; replace hq := hq.only ho (by omega); replace hr := hnew; replace hb := ho.bel _ _ (by omega) hb) | ((with_reducible refine st_ur (w.heap.size + 1) _ (withOv s false) hq ?_ ?_ ?_); exact rfl; exact rfl; intro W hnew ho; replace hr := hr.only ho (by omega); replace hq := hnew; replace hb := ho.bel _ _ (by omega) hb))
  refine bodyPost_ret (results_cell_two Tryd.results7 _ _ (w.heap.size + 1) _ _ _ rfl hq Tryd.underlying26 rfl size_ur) rfl ?_
  exact ⟨rfl, hb⟩

set_option maxHeartbeats 1000000 in
theorem rread_5t4 (s : U) (ok : s.Ok) (hm : mayU s = true) (hst : statN s = 1) (hd : dlB s = true) (h0 : decide (0 < s.rx.n) = true) (h1 : s.ov = false) (h2 : (s.tx.n == 0) = false) (w : World) :
    Calls Tryd.prog 7 #[.agg s.cells, .int .u32 ((5 : Nat) : Int)] w fun e w' => e = .returned (.tuple #[.agg (readV s 5).1.cells, .int .u8 ((readV s 5).2.1 : Nat), .int .i64 ((readV s 5).2.2 : Nat)]) ∧ Below w.heap.size w w' := by
  rw [show (((5 : Nat) : Int)) = 5 from rfl]
  have HV : readV s 5 = (withOv s false, statN s, 0) := by unfold readV readS; rw [if_pos hm, if_neg (by decide), if_neg (by decide), if_neg (by decide), if_neg (by decide), if_neg (by decide), if_pos rfl]
  rw [HV, hst]; clear HV hst
  have n0 : 0 < s.rx.n := of_decide_eq_true h0
  have HC := hide (fun w => rcheck_ok s ok hm w)
  have d1 : (128 : Int) ≤ (s.lc : Int) := by unfold dlB at hd; have := of_decide_eq_true hd; omega
  go_enter Tryd.func7, Tryd.ntmps7
  go_wp2_with (first | ((with_reducible refine bx_ur w.heap.size s ?_ ?_ ?_); exact rfl; exact rfl; intro W hr hb hz) | ((with_reducible refine al_ur (w.heap.size + 1) ?_ ?_); exact hz.out; intro W hq hb' hz'; replace hr := hr.bl (hz.out ▸ hb'); replace hb := hb.trans (hb'.mono (by omega)); replace hz := hz') | (go_at_call 8; (with_reducible refine (HC.out _).mono ?_); rintro e W ⟨rfl, hbc⟩; replace hr := hr.bl hbc; replace hq := hq.bl hbc; replace hb := below_bl rfl hb hbc) | ((with_reducible refine ld_ur w.heap.size _ hr ?_ ?_ ?_); exact rfl; exact rfl) | ((with_reducible refine ld_lc w.heap.size s _ hr ?_ ?_); exact rfl; have fx := hr.cell) | ((with_reducible refine st_ov w.heap.size s false _ hr ?_ ?_ ?_); exact rfl; exact rfl; intro W hnew ho; clear fx; replace hq := hq.only ho (by omega); replace hr := hnew; replace hb := ho.bel _ _ (by omega) hb) | ((with_reducible refine st_ur (w.heap.size + 1) _ (withOv s false) hq ?_ ?_ ?_); exact rfl; exact rfl; intro W hnew ho; replace hr := hr.only ho (by omega); replace hq := hnew; replace hb := ho.bel _ _ (by omega) hb))
  refine bodyPost_ret (results_cell_two Tryd.results7 _ _ (w.heap.size + 1) _ _ _ rfl hq Tryd.underlying26 rfl size_ur) rfl ?_
  exact ⟨rfl, hb⟩

set_option maxHeartbeats 1000000 in
theorem rread_5f4 (s : U) (ok : s.Ok) (hm : mayU s = true) (hst : statN s = 1) (hd : dlB s = false) (h0 : decide (0 < s.rx.n) = true) (h1 : s.ov = false) (h2 : (s.tx.n == 0) = false) (w : World) :
    Calls Tryd.prog 7 #[.agg s.cells, .int .u32 ((5 : Nat) : Int)] w fun e w' => e = .returned (.tuple #[.agg (readV s 5).1.cells, .int .u8 ((readV s 5).2.1 : Nat), .int .i64 ((readV s 5).2.2 : Nat)]) ∧ Below w.heap.size w w' := by
  rw [show (((5 : Nat) : Int)) = 5 from rfl]
  have HV : readV s 5 = (withOv s false, statN s, 0) := by unfold readV readS; rw [if_pos hm, if_neg (by decide), if_neg (by decide), if_neg (by decide), if_neg (by decide), if_neg (by decide), if_pos rfl]
  rw [HV, hst]; clear HV hst
  have n0 : 0 < s.rx.n := of_decide_eq_true h0
  have HC := hide (fun w => rcheck_ok s ok hm w)
  have d1 : decide ((128 : Int) ≤ (s.lc : Int)) = false := by unfold dlB at hd; have := of_decide_eq_false hd; simp; omega
  have d2 : decide (128 ≤ s.lc) = false := hd
  go_enter Tryd.func7, Tryd.ntmps7
  go_wp2_with (first | ((with_reducible refine bx_ur w.heap.size s ?_ ?_ ?_); exact rfl; exact rfl; intro W hr hb hz) | ((with_reducible refine al_ur (w.heap.size + 1) ?_ ?_); exact hz.out; intro W hq hb' hz'; replace hr := hr.bl (hz.out ▸ hb'); replace hb := hb.trans (hb'.mono (by omega)); replace hz := hz') | (go_at_call 8; (with_reducible refine (HC.out _).mono ?_); rintro e W ⟨rfl, hbc⟩; replace hr := hr.bl hbc; replace hq := hq.bl hbc; replace hb := below_bl rfl hb hbc) | ((with_reducible refine ld_ur w.heap.size _ hr ?_ ?_ ?_); exact rfl; exact rfl) | ((with_reducible refine ld_lc w.heap.size s _ hr ?_ ?_); exact rfl; have fx := hr.cell) | ((with_reducible refine st_ov w.heap.size s false _ hr ?_ ?_ ?_); exact rfl; exact rfl; intro W hnew ho; clear fx; replace hq := hq.only ho (by omega); replace hr := hnew; replace hb := ho.bel _ _ (by omega) hb) | ((with_reducible refine st_ur (w.heap.size + 1) _ (withOv s false) hq ?_ ?_ ?_); exact rfl; exact rfl; intro W hnew ho; replace hr := hr.only ho (by omega); replace hq := hnew; replace hb := ho.bel _ _ (by omega) hb))
  refine bodyPost_ret (results_cell_two Tryd.results7 _ _ (w.heap.size + 1) _ _ _ rfl hq Tryd.underlying26 rfl size_ur) rfl ?_
  exact ⟨rfl, hb⟩

set_option maxHeartbeats 1000000 in
theorem rread_5t5 (s : U) (ok : s.Ok) (hm : mayU s = true) (hst : statN s = 97) (hd : dlB s = true) (h0 : decide (0 < s.rx.n) = true) (h1 : s.ov = false) (h2 : (s.tx.n == 0) = true) (w : World) :
    Calls Tryd.prog 7 #[.agg s.cells, .int .u32 ((5 : Nat) : Int)] w fun e w' => e = .returned (.tuple #[.agg (readV s 5).1.cells, .int .u8 ((readV s 5).2.1 : Nat), .int .i64 ((readV s 5).2.2 : Nat)]) ∧ Below w.heap.size w w' := by
  rw [show (((5 : Nat) : Int)) = 5 from rfl]
  have HV : readV s 5 = (withOv s false, statN s, 0) := by unfold readV readS; rw [if_pos hm, if_neg (by decide), if_neg (by decide), if_neg (by decide), if_neg (by decide), if_neg (by decide), if_pos rfl]
  rw [HV, hst]; clear HV hst
  have n0 : 0 < s.rx.n := of_decide_eq_true h0
  have HC := hide (fun w => rcheck_ok s ok hm w)
  have d1 : (128 : Int) ≤ (s.lc : Int) := by unfold dlB at hd; have := of_decide_eq_true hd; omega
  go_enter Tryd.func7, Tryd.ntmps7
  go_wp2_with (first | ((with_reducible refine bx_ur w.heap.size s ?_ ?_ ?_); exact rfl; exact rfl; intro W hr hb hz) | ((with_reducible refine al_ur (w.heap.size + 1) ?_ ?_); exact hz.out; intro W hq hb' hz'; replace hr := hr.bl (hz.out ▸ hb'); replace hb := hb.trans (hb'.mono (by omega)); replace hz := hz') | (go_at_call 8; (with_reducible refine (HC.out _).mono ?_); rintro e W ⟨rfl, hbc⟩; replace hr := hr.bl hbc; replace hq := hq.bl hbc; replace hb := below_bl rfl hb hbc) | ((with_reducible refine ld_ur w.heap.size _ hr ?_ ?_ ?_); exact rfl; exact rfl) | ((with_reducible refine ld_lc w.heap.size s _ hr ?_ ?_); exact rfl; have fx := hr.cell) | ((with_reducible refine st_ov w.heap.size s false _ hr ?_ ?_ ?_); exact rfl; exact rfl; intro W hnew ho; clear fx; replace hq := hq.only ho (by omega); replace hr := hnew; replace hb := ho.bel _ _ (by omega) hb) | ((with_reducible refine st_ur (w.heap.size + 1) _ (withOv s false) hq ?_ ?_ ?_); exact rfl; exact rfl; intro W hnew ho; replace hr := hr.only ho (by omega); replace hq := hnew; replace hb := ho.bel _ _ (by omega) hb))
  refine bodyPost_ret (results_cell_two Tryd.results7 _ _ (w.heap.size + 1) _ _ _ rfl hq Tryd.underlying26 rfl size_ur) rfl ?_
  exact ⟨rfl, hb⟩

set_option maxHeartbeats 1000000 in
theorem rread_5f5 (s : U) (ok : s.Ok) (hm : mayU s = true) (hst : statN s = 97) (hd : dlB s = false) (h0 : decide (0 < s.rx.n) = true) (h1 : s.ov = false) (h2 : (s.tx.n == 0) = true) (w : World) :
    Calls Tryd.prog 7 #[.agg s.cells, .int .u32 ((5 : Nat) : Int)] w fun e w' => e = .returned (.tuple #[.agg (readV s 5).1.cells, .int .u8 ((readV s 5).2.1 : Nat), .int .i64 ((readV s 5).2.2 : Nat)]) ∧ Below w.heap.size w w' := by
  rw [show (((5 : Nat) : Int)) = 5 from rfl]
  have HV : readV s 5 = (withOv s false, statN s, 0) := by unfold readV readS; rw [if_pos hm, if_neg (by decide), if_neg (by decide), if_neg (by decide), if_neg (by decide), if_neg (by decide), if_pos rfl]
  rw [HV, hst]; clear HV hst
  have n0 : 0 < s.rx.n := of_decide_eq_true h0
  have HC := hide (fun w => rcheck_ok s ok hm w)
  have d1 : decide ((128 : Int) ≤ (s.lc : Int)) = false := by unfold dlB at hd; have := of_decide_eq_false hd; simp; omega
  have d2 : decide (128 ≤ s.lc) = false := hd
  go_enter Tryd.func7, Tryd.ntmps7
  go_wp2_with (first | ((with_reducible refine bx_ur w.heap.size s ?_ ?_ ?_); exact rfl; exact rfl; intro W hr hb hz) | ((with_reducible refine al_ur (w.heap.size + 1) ?_ ?_); exact hz.out; intro W hq hb' hz'; replace hr := hr.bl (hz.out ▸ hb'); replace hb := hb.trans (hb'.mono (by omega)); replace hz := hz') | (go_at_call 8; (with_reducible refine (HC.out _).mono ?_); rintro e W ⟨rfl, hbc⟩; replace hr := hr.bl hbc; replace hq := hq.bl hbc; replace hb := below_bl rfl hb hbc) | ((with_reducible refine ld_ur w.heap.size _ hr ?_ ?_ ?_); exact rfl; exact rfl) | ((with_reducible refine ld_lc w.heap.size s _ hr ?_ ?_); exact rfl; have fx := hr.cell) | ((with_reducible refine st_ov w.heap.size s false _ hr ?_ ?_ ?_); exact rfl; exact rfl; intro W hnew ho; clear fx; replace hq := hq.only ho (by omega); replace hr := hnew; replace hb := ho.bel _ _ (by omega) hb) | ((with_reducible refine st_ur (w.heap.size + 1) _ (withOv s false) hq ?_ ?_ ?_); exact rfl; exact rfl; intro W hnew ho; replace hr := hr.only ho (by omega); replace hq := hnew; replace hb := ho.bel _ _ (by omega) hb))
  refine bodyPost_ret (results_cell_two Tryd.results7 _ _ (w.heap.size + 1) _ _ _ rfl hq Tryd.underlying26 rfl size_ur) rfl ?_
  exact ⟨rfl, hb⟩

set_option maxHeartbeats 1000000 in
theorem rread_5t6 (s : U) (ok : s.Ok) (hm : mayU s = true) (hst : statN s = 3) (hd : dlB s = true) (h0 : decide (0 < s.rx.n) = true) (h1 : s.ov = true) (h2 : (s.tx.n == 0) = false) (w : World) :
    Calls Tryd.prog 7 #[.agg s.cells, .int .u32 ((5 : Nat) : Int)] w fun e w' => e = .returned (.tuple #[.agg (readV s 5).1.cells, .int .u8 ((readV s 5).2.1 : Nat), .int .i64 ((readV s 5).2.2 : Nat)]) ∧ Below w.heap.size w w' := by
  rw [show (((5 : Nat) : Int)) = 5 from rfl]
  have HV : readV s 5 = (withOv s false, statN s, 0) := by unfold readV readS; rw [if_pos hm, if_neg (by decide), if_neg (by decide), if_neg (by decide), if_neg (by decide), if_neg (by decide), if_pos rfl]
  rw [HV, hst]; clear HV hst
  have n0 : 0 < s.rx.n := of_decide_eq_true h0
  have HC := hide (fun w => rcheck_ok s ok hm w)
  have d1 : (128 : Int) ≤ (s.lc : Int) := by unfold dlB at hd; have := of_decide_eq_true hd; omega
  go_enter Tryd.func7, Tryd.ntmps7
  go_wp2_with (first | ((with_reducible refine bx_ur w.heap.size s ?_ ?_ ?_); exact rfl; exact rfl; intro W hr hb hz) | ((with_reducible refine al_ur (w.heap.size + 1) ?_ ?_); exact hz.out; intro W hq hb' hz'; replace hr := hr.bl (hz.out ▸ hb'); replace hb := hb.trans (hb'.mono (by omega)); replace hz := hz') | (go_at_call 8; (with_reducible refine (HC.out _).mono ?_); rintro e W ⟨rfl, hbc⟩; replace hr := hr.bl hbc; replace hq := hq.bl hbc; replace hb := below_bl rfl hb hbc) | ((with_reducible refine ld_ur w.heap.size _ hr ?_ ?_ ?_); exact rfl; exact rfl) | ((with_reducible refine ld_lc w.heap.size s _ hr ?_ ?_); exact rfl; have fx := hr.cell) | ((with_reducible refine st_ov w.heap.size s false _ hr ?_ ?_ ?_); exact rfl; exact rfl; intro W hnew ho; clear fx; replace hq := hq.only ho (by omega); replace hr := hnew; replace hb := ho.bel _ _ (by omega) hb) | ((with_reducible refine st_ur (w.heap.size + 1) _ (withOv s false) hq ?_ ?_ ?_); exact rfl; exact rfl; intro W hnew ho; replace hr := hr.only ho (by omega); replace hq := hnew; replace hb := ho.bel _ _ (by omega) hb))
  refine bodyPost_ret (results_cell_two Tryd.results7 _ _ (w.heap.size + 1) _ _ _ rfl hq Tryd.underlying26 rfl size_ur) rfl ?_
  exact ⟨rfl, hb⟩

set_option maxHeartbeats 1000000 in
theorem rread_5f6 (s : U) (ok : s.Ok) (hm : mayU s = true) (hst : statN s = 3) (hd : dlB s = false) (h0 : decide (0 < s.rx.n) = true) (h1 : s.ov = true) (h2 : (s.tx.n == 0) = false) (w : World) :
    Calls Tryd.prog 7 #[.agg s.cells, .int .u32 ((5 : Nat) : Int)] w fun e w' => e = .returned (.tuple #[.agg (readV s 5).1.cells, .int .u8 ((readV s 5).2.1 : Nat), .int .i64 ((readV s 5).2.2 : Nat)]) ∧ Below w.heap.size w w' := by
  rw [show (((5 : Nat) : Int)) = 5 from rfl]
  have HV : readV s 5 = (withOv s false, statN s, 0) := by unfold readV readS; rw [if_pos hm, if_neg (by decide), if_neg (by decide), if_neg (by decide), if_neg (by decide), if_neg (by decide), if_pos rfl]
  rw [HV, hst]; clear HV hst
  have n0 : 0 < s.rx.n := of_decide_eq_true h0
  have HC := hide (fun w => rcheck_ok s ok hm w)
  have d1 : decide ((128 : Int) ≤ (s.lc : Int)) = false := by unfold dlB at hd; have := of_decide_eq_false hd; simp; omega
  have d2 : decide (128 ≤ s.lc) = false := hd
  go_enter Tryd.func7, Tryd.ntmps7
  go_wp2_with (first | ((with_reducible refine bx_ur w.heap.size s ?_ ?_ ?_); exact rfl; exact rfl; intro W hr hb hz) | ((with_reducible refine al_ur (w.heap.size + 1) ?_ ?_); exact hz.out; intro W hq hb' hz'; replace hr := hr.bl (hz.out ▸ hb'); replace hb := hb.trans (hb'.mono (by omega)); replace hz := hz') | (go_at_call 8; (with_reducible refine (HC.out _).mono ?_); rintro e W ⟨rfl, hbc⟩; replace hr := hr.bl hbc; replace hq := hq.bl hbc; replace hb := below_bl rfl hb hbc) | ((with_reducible refine ld_ur w.heap.size _ hr ?_ ?_ ?_); exact rfl; exact rfl) | ((with_reducible refine ld_lc w.heap.size s _ hr ?_ ?_); exact rfl; have fx := hr.cell) | ((with_reducible refine st_ov w.heap.size s false _ hr ?_ ?_ ?_); exact rfl; exact rfl; intro W hnew ho; clear fx; replace hq := hq.only ho (by omega); replace hr := hnew; replace hb := ho.bel _ _ (by omega) hb) | ((with_reducible refine st_ur (w.heap.size + 1) _ (withOv s false) hq ?_ ?_ ?_); exact rfl; exact rfl; intro W hnew ho; replace hr := hr.only ho (by omega); replace hq := hnew; replace hb := ho.bel _ _ (by omega) hb))
  refine bodyPost_ret (results_cell_two Tryd.results7 _ _ (w.heap.size + 1) _ _ _ rfl hq Tryd.underlying26 rfl size_ur) rfl ?_
  exact ⟨rfl, hb⟩

set_option maxHeartbeats 1000000 in
theorem rread_5t7 (s : U) (ok : s.Ok) (hm : mayU s = true) (hst : statN s = 99) (hd : dlB s = true) (h0 : decide (0 < s.rx.n) = true) (h1 : s.ov = true) (h2 : (s.tx.n == 0) = true) (w : World) :
    Calls Tryd.prog 7 #[.agg s.cells, .int .u32 ((5 : Nat) : Int)] w fun e w' => e = .returned (.tuple #[.agg (readV s 5).1.cells, .int .u8 ((readV s 5).2.1 : Nat), .int .i64 ((readV s 5).2.2 : Nat)]) ∧ Below w.heap.size w w' := by
  rw [show (((5 : Nat) : Int)) = 5 from rfl]
  have HV : readV s 5 = (withOv s false, statN s, 0) := by unfold readV readS; rw [if_pos hm, if_neg (by decide), if_neg (by decide), if_neg (by decide), if_neg (by decide), if_neg (by decide), if_pos rfl]
  rw [HV, hst]; clear HV hst
  have n0 : 0 < s.rx.n := of_decide_eq_true h0
  have HC := hide (fun w => rcheck_ok s ok hm w)
  have d1 : (128 : Int) ≤ (s.lc : Int) := by unfold dlB at hd; have := of_decide_eq_true hd; omega
  go_enter Tryd.func7, Tryd.ntmps7
  go_wp2_with (first | ((with_reducible refine bx_ur w.heap.size s ?_ ?_ ?_); exact rfl; exact rfl; intro W hr hb hz) | ((with_reducible refine al_ur (w.heap.size + 1) ?_ ?_); exact hz.out; intro W hq hb' hz'; replace hr := hr.bl (hz.out ▸ hb'); replace hb := hb.trans (hb'.mono (by omega)); replace hz := hz') | (go_at_call 8; (with_reducible refine (HC.out _).mono ?_); rintro e W ⟨rfl, hbc⟩; replace hr := hr.bl hbc; replace hq := hq.bl hbc; replace hb := below_bl rfl hb hbc) | ((with_reducible refine ld_ur w.heap.size _ hr ?_ ?_ ?_); exact rfl; exact rfl) | ((with_reducible refine ld_lc w.heap.size s _ hr ?_ ?_); exact rfl; have fx := hr.cell) | ((with_reducible refine st_ov w.heap.size s false _ hr ?_ ?_ ?_); exact rfl; exact rfl; intro W hnew ho; clear fx; replace hq := hq.only ho (by omega); replace hr := hnew; replace hb := ho.bel _ _ (by omega) hb) | ((with_reducible refine st_ur (w.heap.size + 1) _ (withOv s false) hq ?_ ?_ ?_); exact rfl; exact rfl; intro W hnew ho; replace hr := hr.only ho (by omega); replace hq := hnew; replace hb := ho.bel _ _ (by omega) hb))
  refine bodyPost_ret (results_cell_two Tryd.results7 _ _ (w.heap.size + 1) _ _ _ rfl hq Tryd.underlying26 rfl size_ur) rfl ?_
  exact ⟨rfl, hb⟩

set_option maxHeartbeats 1000000 in
theorem rread_5f7 (s : U) (ok : s.Ok) (hm : mayU s = true) (hst : statN s = 99) (hd : dlB s = false) (h0 : decide (0 < s.rx.n) = true) (h1 : s.ov = true) (h2 : (s.tx.n == 0) = true) (w : World) :
    Calls Tryd.prog 7 #[.agg s.cells, .int .u32 ((5 : Nat) : Int)] w fun e w' => e = .returned (.tuple #[.agg (readV s 5).1.cells, .int .u8 ((readV s 5).2.1 : Nat), .int .i64 ((readV s 5).2.2 : Nat)]) ∧ Below w.heap.size w w' := by
  rw [show (((5 : Nat) : Int)) = 5 from rfl]
  have HV : readV s 5 = (withOv s false, statN s, 0) := by unfold readV readS; rw [if_pos hm, if_neg (by decide), if_neg (by decide), if_neg (by decide), if_neg (by decide), if_neg (by decide), if_pos rfl]
  rw [HV, hst]; clear HV hst
  have n0 : 0 < s.rx.n := of_decide_eq_true h0
  have HC := hide (fun w => rcheck_ok s ok hm w)
  have d1 : decide ((128 : Int) ≤ (s.lc : Int)) = false := by unfold dlB at hd; have := of_decide_eq_false hd; simp; omega
  have d2 : decide (128 ≤ s.lc) = false := hd
  go_enter Tryd.func7, Tryd.ntmps7
  go_wp2_with (first | ((with_reducible refine bx_ur w.heap.size s ?_ ?_ ?_); exact rfl; exact rfl; intro W hr hb hz) | ((with_reducible refine al_ur (w.heap.size + 1) ?_ ?_); exact hz.out; intro W hq hb' hz'; replace hr := hr.bl (hz.out ▸ hb'); replace hb := hb.trans (hb'.mono (by omega)); replace hz := hz') | (go_at_call 8; (with_reducible refine (HC.out _).mono ?_); rintro e W ⟨rfl, hbc⟩; replace hr := hr.bl hbc; replace hq := hq.bl hbc; replace hb := below_bl rfl hb hbc) | ((with_reducible refine ld_ur w.heap.size _ hr ?_ ?_ ?_); exact rfl; exact rfl) | ((with_reducible refine ld_lc w.heap.size s _ hr ?_ ?_); exact rfl; have fx := hr.cell) | ((with_reducible refine st_ov w.heap.size s false _ hr ?_ ?_ ?_); exact rfl; exact rfl; intro W hnew ho; clear fx; replace hq := hq.only ho (by omega); replace hr := hnew; replace hb := ho.bel _ _ (by omega) hb) | ((with_reducible refine st_ur (w.heap.size + 1) _ (withOv s false) hq ?_ ?_ ?_); exact rfl; exact rfl; intro W hnew ho; replace hr := hr.only ho (by omega); replace hq := hnew; replace hb := ho.bel _ _ (by omega) hb))
  refine bodyPost_ret (results_cell_two Tryd.results7 _ _ (w.heap.size + 1) _ _ _ rfl hq Tryd.underlying26 rfl size_ur) rfl ?_
  exact ⟨rfl, hb⟩

end Go.Proofs.YthopfecjnbfnmaaDoor
