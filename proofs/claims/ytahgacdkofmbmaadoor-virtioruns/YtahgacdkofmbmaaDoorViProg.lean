/-
  What virtio's small functions answer.
-/
import Derived.Test.YtahgacdkofmbmaaDoorViRow
import Derived.Test.YtahgacdkofmbmaaDoorRgChk
import Derived.Laws.StructEq
import Derived.ChangeKeysEq
import Derived.Laws.BitsAllLaws
namespace Go.Proofs.YtahgacdkofmbmaaDoor
open Go.RowKit
set_option linter.unusedVariables false

attribute [local go_sem] V.at0 V.at1 V.at2 V.at3 V.at4 V.at5 V.at6 V.at7 V.at8 V.at9 V.at10 V.at11 V.at12 V.at13 V.at14 V.at15 V.at16 V.at17 V.at18 V.at19 V.at20 Qu.at0 Qu.at1 Qu.at2 Qu.at3 Qu.at4 Qu.at5 Qu.at6
/-- What the device can do, as it is laid. -/
def OffAt (w : World) : Prop := w.cell? ⟨0, 0, none⟩ = some (.int .u32 0) ∧ w.cell? ⟨0, 1, none⟩ = some (.int .u32 1)
theorem OffAt.lt {w : World} (h : OffAt w) : 0 < w.heap.size := lt_of_cell h.1
theorem OffAt.bl {w w' : World} (h : OffAt w) (hb : Below w.heap.size w w') : OffAt w' := ⟨cell_bl hb h.1, cell_bl hb h.2⟩
def offV : Array Value := #[.int .u32 0, .int .u32 1]
theorem OffAt.range {w : World} (h : OffAt w) : w.rangeAt 0 0 offV.toList := by
  intro j v hv
  match j, hv with
  | 0, hv => cases hv; exact h.1
  | 1, hv => cases hv; exact h.2
  | n + 2, hv => simp [offV] at hv
theorem castV (a b : Nat) : ((a : Int) == (b : Int)) = (a == b) := by
  by_cases h : a = b
  · subst h; simp
  · rw [beq_false_of_ne h, beq_false_of_ne (by omega)]
theorem n0_eq (a : Nat) : ((a : Int) == 0) = decide (a = 0) := by by_cases h : a = 0 <;> simp [h]
theorem n1_eq (a : Nat) : ((a : Int) == 1) = decide (a = 1) := by
  by_cases h : a = 1
  · simp [h]
  · rw [beq_false_of_ne (by omega), decide_eq_false h]
theorem info_u32 : ∃ i, Tryd.prog.info? 22 = some i ∧ i.size = 1 := by
  have := size_u32i
  cases hq : Tryd.prog.info? 22 with
  | none => simp [hq] at this
  | some i => exact ⟨i, rfl, by simpa [hq] using this⟩
set_option maxHeartbeats 1000000 in
theorem eq_two (a b c d : Nat) (n : Nat) (w : World) : (Op.equalIn (n + 2) 23 (.agg #[.int .u32 (a : Nat), .int .u32 (b : Nat)]) (.agg #[.int .u32 (c : Nat), .int .u32 (d : Nat)])).run Tryd.prog w = .ok ((a == c) && (b == d)) w := by
  obtain ⟨i, hi, h1⟩ := info_u32
  have hc : Tryd.prog.cellsOf 22 = 1 := by kernel_rfl
  rw [run_equalIn_array w (n + 1) _ _ Tryd.underlying23 hi, hc]
  show (Op.eqItems (n + 1) 22 1 _ _ [0, 1]).run Tryd.prog w = _
  have e : ∀ x y : Nat, (Op.equalIn (n + 1) 22 (.int .u32 (x : Nat)) (.int .u32 (y : Nat))).run Tryd.prog w = .ok (x == y) w := fun x y => by
    rw [run_equalIn_int w n 22 .u32 .u32 _ _ Tryd.underlying22, castV]
  have p0 : ∀ x y : Nat, (Go.part 22 #[.int .u32 (x : Nat), .int .u32 (y : Nat)] (0 * 1)).run Tryd.prog w = .ok (.int .u32 (x : Nat)) w := fun x y => by simp [Go.part, go_sem]
  have p1 : ∀ x y : Nat, (Go.part 22 #[.int .u32 (x : Nat), .int .u32 (y : Nat)] (1 * 1)).run Tryd.prog w = .ok (.int .u32 (y : Nat)) w := fun x y => by simp [Go.part, go_sem]
  simp only [Op.eqItems, Sem.run_bind, p0, e, Result.andThen_ok]
  cases h : (a == c)
  · simp
  · cases h' : (b == d) <;> simp [Sem.run_bind, p1, e, h']
theorem eq_drv (s : V) (w : World) : (binOp .eql 23 (.agg s.drv) (.agg offV)).run Tryd.prog w = .ok (.bool (setl s)) w := by
  have h := eq_two s.d0 s.d1 0 1 9998 w
  rw [run_eql_struct]
  have h : (Op.equalIn 10000 23 (.agg s.drv) (.agg offV)).run Tryd.prog w = .ok ((s.d0 == 0) && (s.d1 == 1)) w := h
  rw [h]
  rfl
theorem no_guard_d : Tryd.prog.eqGuardType Tryd.prog.depth 23 = false := by kernel_rfl
variable {ops : Array Oper} {rest : List Oper} {dst : Option Tmp} {ty t2 : TypeId} {after : Array Edge} {a : Act} {x y : Operand} {gd : Option (Nat × Bool)} {pos : String} {S : World → Prop} {w : World} {Q : Exit → Act → World → Prop}
theorem g_eqd (s : V) (hx : a.eval x = .agg s.drv) (hy : a.eval y = .agg offV) (hw : Region.wanted ⟨dst, .binOp .eql 23 x y t2, ty, pos, after, gd⟩ (yielded ops a.tmps) = true)
    (k : wpList Tryd.prog ops Q rest (a.put dst (.bool (setl s))) w) : wpList Tryd.prog ops Q (⟨dst, .binOp .eql 23 x y t2, ty, pos, after, gd⟩ :: rest) a w :=
  BigFrame.wpList_want hw fun K hK => by
    have e : (execOp a.eval ⟨dst, .binOp .eql 23 x y t2, ty, pos, after, gd⟩).run Tryd.prog w = .ok (.value (.bool (setl s))) w := by
      unfold execOp
      simp only [Sem.run_bind, hx, hy, run_eqGuard_agg w .eql 23 x y s.drv offV no_guard_d, eq_drv s, Result.andThen_ok, Sem.run_pure]
    unfold Oper.wp
    rw [e, Oper.upon_value]
    exact hK _ _ k
theorem ld_off (hO : OffAt w) (hx : a.eval x = .pointer (some ⟨0, 0, none⟩)) (hw : Region.wanted ⟨dst, .load 23 x, ty, pos, after, gd⟩ (yielded ops a.tmps) = true)
    (k : wpList Tryd.prog ops Q rest (a.put dst (.agg offV)) w) : wpList Tryd.prog ops Q (⟨dst, .load 23 x, ty, pos, after, gd⟩ :: rest) a w :=
  BigFrame.wpList_want hw fun K hK => wp_load_mid 23 x rfl 0 0 hx offV.toList _ hO.range Tryd.underlying23 rfl size_drv (hK _ _ k)
theorem u32and (a : Nat) (b : Nat) (ha : a < 4294967296) (hb : b < 4294967296) : bits .and .u32 (a : Int) (b : Int) = ((a &&& b : Nat) : Int) := u32_and_nat a b ha hb
theorem p_live (n : Nat) (h : n < 4294967296) : (bits .and .u32 (n : Int) 76 == 12) = (n.testBit 2 && (n.testBit 3 && !n.testBit 6)) := by
  rw [← live_and n, show (76 : Int) = ((76 : Nat) : Int) from rfl, u32_and_nat n 76 h (by decide), show (12 : Int) = ((12 : Nat) : Int) from rfl, castV]
theorem p_bit8 (n : Nat) (h : n < 4294967296) : (bits .and .u32 (n : Int) 8 != 0) = n.testBit 3 := by
  rw [← bit8_and n, show (8 : Int) = ((8 : Nat) : Int) from rfl, u32_and_nat n 8 h (by decide), show (0 : Int) = ((0 : Nat) : Int) from rfl]
  show (!_) = (!_)
  rw [castV]
theorem p_bit8e (n : Nat) (h : n < 4294967296) : (bits .and .u32 (n : Int) 8 == 0) = !n.testBit 3 := by
  rw [← p_bit8 n h]; show _ = !(!_); rw [Bool.not_not]
theorem p_okSt (n : Nat) (h : n < 4294967296) : (bits .andNot .u32 (n : Int) 207 != 0) = !okSt n := by
  rw [← st_and n, show (207 : Int) = ((207 : Nat) : Int) from rfl, u32_andNot_nat n 207 h (by decide), show (0 : Int) = ((0 : Nat) : Int) from rfl]
  show (!_) = (!_)
  rw [castV]
theorem p_ir (n : Nat) (h : n < 4294967296) : (bits .andNot .u32 (n : Int) 3 != 0) = !decide (n ≤ 3) := by
  rw [← ir_and n h, show (3 : Int) = ((3 : Nat) : Int) from rfl, u32_andNot_nat n 3 h (by decide), show (0 : Int) = ((0 : Nat) : Int) from rfl]
  show (!_) = (!_)
  rw [castV]
theorem p_or (n m : Nat) (h : n < 4294967296) (hm : m < 4294967296) : bits .or .u32 (n : Int) (m : Int) = ((n ||| m : Nat) : Int) := u32_or_nat n m h hm
set_option maxHeartbeats 1000000 in
theorem live_any (s : V) (ok : s.Ok) (w : World) :
    Calls Tryd.prog 14 #[.agg s.cells] w fun e w' => e = .returned (.bool (liveV s)) ∧ Below w.heap.size w w' := by
  have HX := hide (p_live s.st ok.st)
  go_enter Tryd.func14, Tryd.ntmps14
  go_wp2_with (first | ((with_reducible refine bx_vp w.heap.size s ?_ ?_ ?_); exact rfl; exact rfl; intro W hr hb hz; have fx := hr.cell))
  go_ret
  exact ⟨by unfold liveV; rw [← HX.out]; rfl, hb⟩

set_option maxHeartbeats 1000000 in
theorem fail_any (s : V) (ok : s.Ok) (w : World) :
    Calls Tryd.prog 16 #[.agg s.cells] w fun e w' => e = .returned (.agg (failV s).cells) ∧ Below w.heap.size w w' := by
  have HA := hide (p_or s.st 64 ok.st (by decide))
  have HB := hide (p_or s.ir 2 ok.ir (by decide))
  go_enter Tryd.func16, Tryd.ntmps16
  go_wp2_with (first | ((with_reducible refine bx_vp w.heap.size s ?_ ?_ ?_); exact rfl; exact rfl; intro W hr hb hz; have fx := hr.cell) | ((with_reducible refine al_vp (w.heap.size + 1) ?_ ?_); exact hz.out; intro W hq hb' hz'; replace hr := hr.bl (hz.out ▸ hb'); replace hb := hb.trans (hb'.mono (by omega)); replace hz := hz'; replace fx := hr.cell) | ((with_reducible refine ld_st w.heap.size _ _ hr ?_ ?_ ?_); exact rfl; exact rfl) | ((with_reducible refine ld_ir w.heap.size _ _ hr ?_ ?_ ?_); exact rfl; exact rfl) | ((with_reducible refine st_st w.heap.size _ (s.st ||| 64) _ hr ?_ ?_ ?_); exact rfl; exact congrArg (Value.int .u32) HA.out; intro W hnew ho; replace hq := hq.only ho (by omega); replace hr := hnew; replace hb := ho.bel _ _ (by omega) hb; (try clear fx)) | ((with_reducible refine st_ir w.heap.size _ (s.ir ||| 2) _ hr ?_ ?_ ?_); exact rfl; exact congrArg (Value.int .u32) HB.out; intro W hnew ho; replace hq := hq.only ho (by omega); replace hr := hnew; replace hb := ho.bel _ _ (by omega) hb; (try clear fx)) | ((with_reducible refine ld_vp w.heap.size _ hr ?_ ?_ ?_); exact rfl; exact rfl) | ((with_reducible refine st_vp (w.heap.size + 1) _ (failV s) hq ?_ ?_ ?_); exact rfl; exact rfl; intro W hnew ho; replace hr := hr.only ho (by omega); replace hq := hnew; replace hb := ho.bel _ _ (by omega) hb))
  refine bodyPost_ret (results_cell_row Tryd.results16 _ _ (w.heap.size + 1) _ _ _ _ rfl hq Tryd.underlying37 rfl size_vp) rfl ?_
  exact ⟨rfl, hb⟩

set_option maxHeartbeats 1000000 in
theorem used_any (s : V) (ok : s.Ok) (w : World) :
    Calls Tryd.prog 18 #[.agg s.cells] w fun e w' => e = .returned (.agg (usedV s).cells) ∧ Below w.heap.size w w' := by
  have HB := hide (p_or s.ir 1 ok.ir (by decide))
  go_enter Tryd.func18, Tryd.ntmps18
  go_wp2_with (first | ((with_reducible refine bx_vp w.heap.size s ?_ ?_ ?_); exact rfl; exact rfl; intro W hr hb hz; have fx := hr.cell) | ((with_reducible refine al_vp (w.heap.size + 1) ?_ ?_); exact hz.out; intro W hq hb' hz'; replace hr := hr.bl (hz.out ▸ hb'); replace hb := hb.trans (hb'.mono (by omega)); replace hz := hz'; replace fx := hr.cell) | ((with_reducible refine ld_ir w.heap.size _ _ hr ?_ ?_ ?_); exact rfl; exact rfl) | ((with_reducible refine st_ir w.heap.size _ (s.ir ||| 1) _ hr ?_ ?_ ?_); exact rfl; exact congrArg (Value.int .u32) HB.out; intro W hnew ho; replace hq := hq.only ho (by omega); replace hr := hnew; replace hb := ho.bel _ _ (by omega) hb; (try clear fx)) | ((with_reducible refine ld_vp w.heap.size _ hr ?_ ?_ ?_); exact rfl; exact rfl) | ((with_reducible refine st_vp (w.heap.size + 1) _ (usedV s) hq ?_ ?_ ?_); exact rfl; exact rfl; intro W hnew ho; replace hr := hr.only ho (by omega); replace hq := hnew; replace hb := ho.bel _ _ (by omega) hb))
  refine bodyPost_ret (results_cell_row Tryd.results18 _ _ (w.heap.size + 1) _ _ _ _ rfl hq Tryd.underlying37 rfl size_vp) rfl ?_
  exact ⟨rfl, hb⟩

set_option maxHeartbeats 1000000 in
theorem settle_any (s : V) (w : World) (hO : OffAt w) :
    Calls Tryd.prog 28 #[.agg s.cells] w fun e w' => e = .returned (.bool (setl s)) ∧ Below w.heap.size w w' := by
  go_enter Tryd.func28, Tryd.ntmps28
  go_wp2_with (first | ((with_reducible refine bx_vp w.heap.size s ?_ ?_ ?_); exact rfl; exact rfl; intro W hr hb hz; have fx := hr.cell) | ((with_reducible refine ld_drv w.heap.size _ _ hr ?_ ?_ ?_); exact rfl; exact rfl) | ((with_reducible refine ld_off (hO.bl hb) ?_ ?_ ?_); exact rfl; exact rfl) | ((with_reducible refine g_eqd s ?_ ?_ ?_ ?_); exact rfl; exact rfl; exact rfl))
  go_ret
  exact ⟨rfl, hb⟩

set_option maxHeartbeats 1000000 in
theorem maybe_t (s : Qu) (ok : s.r.Ok) (h : s.rd = true) (w : World) :
    Calls Tryd.prog 29 #[.agg s.cells] w fun e w' => e = .returned (.bool (mayQ s)) ∧ Below w.heap.size w w' := by
  have HV : mayQ s = chkR s.r := by unfold mayQ; rw [if_pos h]
  rw [HV]; clear HV
  have HC := hide (fun w => rcheck_any s.r ok w)
  generalize chkR s.r = c at HC ⊢
  cases c with
  | true =>
    have HC : Hid (∀ w, Calls Tryd.prog 23 #[.agg s.r.cells] w fun e w' => e = .returned .nilIface ∧ Below w.heap.size w w') := HC
    go_enter Tryd.func29, Tryd.ntmps29
    go_wp2_with (first | ((with_reducible refine bx_qp w.heap.size s ?_ ?_ ?_); exact rfl; exact rfl; intro W hr hb hz; have fx := hr.cell) | ((with_reducible refine ld_qurp w.heap.size _ _ hr ?_ ?_ ?_); exact rfl; exact rfl) | (go_at_call 23; (with_reducible refine (HC.out _).mono ?_); rintro e W ⟨rfl, hbc⟩; replace hr := hr.bl hbc; replace fx := hr.cell; replace hb := below_bl rfl hb hbc))
    go_ret
    exact ⟨rfl, hb⟩
  | false =>
    have HC : Hid (∀ w, Calls Tryd.prog 23 #[.agg s.r.cells] w fun e w' => e = .returned (.iface 65 (.int .i64 1)) ∧ Below w.heap.size w w') := HC
    go_enter Tryd.func29, Tryd.ntmps29
    go_wp2_with (first | ((with_reducible refine bx_qp w.heap.size s ?_ ?_ ?_); exact rfl; exact rfl; intro W hr hb hz; have fx := hr.cell) | ((with_reducible refine ld_qurp w.heap.size _ _ hr ?_ ?_ ?_); exact rfl; exact rfl) | (go_at_call 23; (with_reducible refine (HC.out _).mono ?_); rintro e W ⟨rfl, hbc⟩; replace hr := hr.bl hbc; replace fx := hr.cell; replace hb := below_bl rfl hb hbc))
    go_ret
    exact ⟨rfl, hb⟩

set_option maxHeartbeats 1000000 in
theorem maybe_fa (s : Qu) (h : s.rd = false) (h0 : s.r.sz < 0) (w : World) :
    Calls Tryd.prog 29 #[.agg s.cells] w fun e w' => e = .returned (.bool (mayQ s)) ∧ Below w.heap.size w w' := by
  have HV : mayQ s = false := by unfold mayQ; rw [h, if_neg (by decide), decide_eq_false (show ¬ 0 ≤ s.r.sz by omega)]; rfl
  rw [HV]; clear HV
  have l1 : decide (s.r.sz ≥ 0) = false := by simp; omega
  have l1b : decide (0 ≤ s.r.sz) = false := by simp; omega
  clear h0
  go_enter Tryd.func29, Tryd.ntmps29
  go_wp2_with (first | ((with_reducible refine bx_qp w.heap.size s ?_ ?_ ?_); exact rfl; exact rfl; intro W hr hb hz; have fx := hr.cell))
  go_ret
  exact ⟨rfl, hb⟩

set_option maxHeartbeats 1000000 in
theorem maybe_fb (s : Qu) (h : s.rd = false) (h0 : 0 ≤ s.r.sz) (h1 : 256 < s.r.sz) (w : World) :
    Calls Tryd.prog 29 #[.agg s.cells] w fun e w' => e = .returned (.bool (mayQ s)) ∧ Below w.heap.size w w' := by
  have HV : mayQ s = false := by unfold mayQ; rw [h, if_neg (by decide), decide_eq_false (show ¬ s.r.sz ≤ 256 by omega), Bool.and_false]
  rw [HV]; clear HV
  have l1 : decide (s.r.sz ≤ 256) = false := by simp; omega
  go_enter Tryd.func29, Tryd.ntmps29
  go_wp2_with (first | ((with_reducible refine bx_qp w.heap.size s ?_ ?_ ?_); exact rfl; exact rfl; intro W hr hb hz; have fx := hr.cell))
  go_ret
  exact ⟨rfl, hb⟩

set_option maxHeartbeats 1000000 in
theorem maybe_fc (s : Qu) (h : s.rd = false) (h0 : 0 ≤ s.r.sz) (h1 : s.r.sz ≤ 256) (w : World) :
    Calls Tryd.prog 29 #[.agg s.cells] w fun e w' => e = .returned (.bool (mayQ s)) ∧ Below w.heap.size w w' := by
  have HV : mayQ s = true := by unfold mayQ; rw [h, if_neg (by decide), decide_eq_true h0, decide_eq_true h1]; rfl
  rw [HV]; clear HV
  go_enter Tryd.func29, Tryd.ntmps29
  go_wp2_with (first | ((with_reducible refine bx_qp w.heap.size s ?_ ?_ ?_); exact rfl; exact rfl; intro W hr hb hz; have fx := hr.cell))
  go_ret
  exact ⟨rfl, hb⟩

theorem maybe_any (s : Qu) (ok : s.r.Ok) (w : World) : Calls Tryd.prog 29 #[.agg s.cells] w fun e w' => e = .returned (.bool (mayQ s)) ∧ Below w.heap.size w w' := by
  cases h : s.rd with
  | true => exact maybe_t s ok h w
  | false =>
    by_cases h0 : 0 ≤ s.r.sz
    · by_cases h1 : s.r.sz ≤ 256
      · exact maybe_fc s h h0 h1 w
      · exact maybe_fb s h h0 (by omega) w
    · exact maybe_fa s h (by omega) w
set_option maxHeartbeats 1000000 in
theorem feature_any (n : Nat) (w : World) (hO : OffAt w) :
    Calls Tryd.prog 25 #[.int .u32 (n : Nat)] w fun e w' => e = .returned (.int .u32 ((if n = 1 then 1 else 0 : Nat) : Int)) ∧ Below w.heap.size w w' := by
  have c0 := hO.1
  have c1 := hO.2
  by_cases h0 : n = 0
  · subst h0
    rw [show (((0 : Nat)) : Int) = 0 from rfl]
    go_enter Tryd.func25, Tryd.ntmps25
    go_wp2
    go_ret
    exact ⟨rfl, Below.refl _ _⟩
  by_cases h1 : n = 1
  · subst h1
    rw [show (((1 : Nat)) : Int) = 1 from rfl]
    go_enter Tryd.func25, Tryd.ntmps25
    go_wp2
    go_ret
    exact ⟨rfl, Below.refl _ _⟩
  · rw [if_neg h1]
    have l1 : decide ((n : Int) < 2) = false := by simp; omega
    have l1b : decide (n < 2) = false := by simp; omega
    go_enter Tryd.func25, Tryd.ntmps25
    go_wp2
    go_ret
    exact ⟨rfl, Below.refl _ _⟩

set_option maxHeartbeats 1000000 in
theorem readq_52 (s : Qu) (a : Nat) (h : a = 52) (w : World) :
    Calls Tryd.prog 26 #[.agg s.cells, .int .u32 (a : Nat)] w fun e w' => e = .returned (.int .u32 (256)) ∧ Below w.heap.size w w' := by
  subst h
  rw [show ((52 : Nat) : Int) = 52 from rfl]
  go_enter Tryd.func26, Tryd.ntmps26
  go_wp2_with (first | ((with_reducible refine bx_qp w.heap.size s ?_ ?_ ?_); exact rfl; exact rfl; intro W hr hb hz; have fx := hr.cell))
  go_ret
  exact ⟨rfl, hb⟩

set_option maxHeartbeats 1000000 in
theorem readq_t (s : Qu) (a : Nat) (h : a = 68) (hr0 : s.rd = true) (w : World) :
    Calls Tryd.prog 26 #[.agg s.cells, .int .u32 (a : Nat)] w fun e w' => e = .returned (.int .u32 (1)) ∧ Below w.heap.size w w' := by
  subst h
  rw [show ((68 : Nat) : Int) = 68 from rfl]
  go_enter Tryd.func26, Tryd.ntmps26
  go_wp2_with (first | ((with_reducible refine bx_qp w.heap.size s ?_ ?_ ?_); exact rfl; exact rfl; intro W hr hb hz; have fx := hr.cell))
  go_ret
  exact ⟨rfl, hb⟩

set_option maxHeartbeats 1000000 in
theorem readq_f (s : Qu) (a : Nat) (h : a = 68) (hr0 : s.rd = false) (w : World) :
    Calls Tryd.prog 26 #[.agg s.cells, .int .u32 (a : Nat)] w fun e w' => e = .returned (.int .u32 (0)) ∧ Below w.heap.size w w' := by
  subst h
  rw [show ((68 : Nat) : Int) = 68 from rfl]
  go_enter Tryd.func26, Tryd.ntmps26
  go_wp2_with (first | ((with_reducible refine bx_qp w.heap.size s ?_ ?_ ?_); exact rfl; exact rfl; intro W hr hb hz; have fx := hr.cell))
  go_ret
  exact ⟨rfl, hb⟩

set_option maxHeartbeats 1000000 in
theorem readq_o (s : Qu) (a : Nat) (h1 : a ≠ 52) (h2 : a ≠ 68) (w : World) :
    Calls Tryd.prog 26 #[.agg s.cells, .int .u32 (a : Nat)] w fun e w' => e = .returned (.int .u32 (0)) ∧ Below w.heap.size w w' := by
  have l1 : ((a : Int) == 52) = false := by simp; omega
  have l1b : (a == 52) = false := by simp; omega
  have l2 : ((a : Int) == 68) = false := by simp; omega
  have l2b : (a == 68) = false := by simp; omega
  clear h1 h2
  go_enter Tryd.func26, Tryd.ntmps26
  go_wp2_with (first | ((with_reducible refine bx_qp w.heap.size s ?_ ?_ ?_); exact rfl; exact rfl; intro W hr hb hz; have fx := hr.cell))
  go_ret
  exact ⟨rfl, hb⟩

theorem readq_any (s : Qu) (a : Nat) (w : World) : Calls Tryd.prog 26 #[.agg s.cells, .int .u32 (a : Nat)] w fun e w' => e = .returned (.int .u32 ((if a = 52 then 256 else if a = 68 then (if s.rd = true then 1 else 0) else 0 : Nat) : Int)) ∧ Below w.heap.size w w' := by
  by_cases h1 : a = 52
  · rw [if_pos h1]; exact readq_52 s a h1 w
  rw [if_neg h1]
  by_cases h2 : a = 68
  · rw [if_pos h2]
    cases h : s.rd with
    | true => rw [if_pos rfl]; exact readq_t s a h2 h w
    | false => rw [if_neg (by decide)]; exact readq_f s a h2 h w
  · rw [if_neg h2]; exact readq_o s a h1 h2 w
end Go.Proofs.YtahgacdkofmbmaaDoor
