/-
  Two states of devices compared.
-/
import Derived.Test.YtbggkoahofnnjaaGreatDoorJR6
import Derived.Laws.StructEq
import Derived.ChangeKeysEq
import Derived.Laws.BitsAllLaws
open Go.Proofs.Tryz
set_option linter.unusedVariables false
set_option linter.unusedSimpArgs false
namespace Go.Proofs.YtbggkoahofnnjaaGreatDoor
open Go.RowKit
set_option maxHeartbeats 1000000
attribute [local go_sem] V.at0 V.at1 V.at2 V.at3 V.at4 V.at5 V.at6 V.at7 V.at8 V.at9 V.at10 V.at11 V.at12 V.at13 V.at14 V.at15 V.at16 V.at17 V.at18 V.at19 V.at20 Qu.at0 Qu.at1 Qu.at2 Qu.at3 Qu.at4 Qu.at5 Qu.at6
def OffAt (w : World) : Prop := w.cell? ⟨1, 0, none⟩ = some (.int .u32 0) ∧ w.cell? ⟨1, 1, none⟩ = some (.int .u32 1)
theorem OffAt.lt {w : World} (h : OffAt w) : 1 < w.heap.size := lt_of_cell h.1
theorem OffAt.bl {w w' : World} (h : OffAt w) (hb : Below w.heap.size w w') : OffAt w' := ⟨cell_bl hb h.1, cell_bl hb h.2⟩
def offV : Array Value := #[.int .u32 0, .int .u32 1]
theorem OffAt.range {w : World} (h : OffAt w) : w.rangeAt 1 0 offV.toList := by
  intro j v hv
  match j, hv with
  | 0, hv => cases hv; exact h.1
  | 1, hv => cases hv; exact h.2
  | n + 2, hv => simp [offV] at hv
theorem castV (a b : Nat) : ((a : Int) == (b : Int)) = (a == b) := by
  by_cases h : a = b
  · subst h; simp
  · rw [beq_false_of_ne h, beq_false_of_ne (by omega)]
theorem info_u32 : ∃ i, prog.info? 22 = some i ∧ i.size = 1 := by
  have := size_u32i
  cases hq : prog.info? 22 with
  | none => simp [hq] at this
  | some i => exact ⟨i, rfl, by simpa [hq] using this⟩
theorem eq_two (a b c d : Nat) (n : Nat) (w : World) : (Op.equalIn (n + 2) 23 (.agg #[.int .u32 (a : Nat), .int .u32 (b : Nat)]) (.agg #[.int .u32 (c : Nat), .int .u32 (d : Nat)])).run prog w = .ok ((a == c) && (b == d)) w := by
  obtain ⟨i, hi, h1⟩ := info_u32
  have hc : prog.cellsOf 22 = 1 := by kernel_rfl
  rw [run_equalIn_array w (n + 1) _ _ underlying23 hi, hc]
  show (Op.eqItems (n + 1) 22 1 _ _ [0, 1]).run prog w = _
  have e : ∀ x y : Nat, (Op.equalIn (n + 1) 22 (.int .u32 (x : Nat)) (.int .u32 (y : Nat))).run prog w = .ok (x == y) w := fun x y => by
    rw [run_equalIn_int w n 22 .u32 .u32 _ _ underlying22, castV]
  have p0 : ∀ x y : Nat, (Go.part 22 #[.int .u32 (x : Nat), .int .u32 (y : Nat)] (0 * 1)).run prog w = .ok (.int .u32 (x : Nat)) w := fun x y => by simp [Go.part, go_sem]
  have p1 : ∀ x y : Nat, (Go.part 22 #[.int .u32 (x : Nat), .int .u32 (y : Nat)] (1 * 1)).run prog w = .ok (.int .u32 (y : Nat)) w := fun x y => by simp [Go.part, go_sem]
  simp only [Op.eqItems, Sem.run_bind, p0, e, Result.andThen_ok]
  cases h : (a == c)
  · simp
  · cases h' : (b == d) <;> simp [Sem.run_bind, p1, e, h']
theorem eq_drv (s : V) (w : World) : (binOp .eql 23 (.agg s.drv) (.agg offV)).run prog w = .ok (.bool (setl s)) w := by
  have h := eq_two s.d0 s.d1 0 1 9998 w
  rw [run_eql_struct]
  have h : (Op.equalIn 10000 23 (.agg s.drv) (.agg offV)).run prog w = .ok ((s.d0 == 0) && (s.d1 == 1)) w := h
  rw [h]
  rfl
theorem no_guard_d : prog.eqGuardType prog.depth 23 = false := by kernel_rfl
variable {ops : Array Oper} {rest : List Oper} {dst : Option Tmp} {ty t2 : TypeId} {after : Array Edge} {a : Act} {x y : Operand} {gd : Option (Nat × Bool)} {pos : String} {S : World → Prop} {w : World} {Q : Exit → Act → World → Prop}
theorem g_eqd (s : V) (hx : a.eval x = .agg s.drv) (hy : a.eval y = .agg offV) (hw : Region.wanted ⟨dst, .binOp .eql 23 x y t2, ty, pos, after, gd⟩ (yielded ops a.tmps) = true)
    (k : wpList prog ops Q rest (a.put dst (.bool (setl s))) w) : wpList prog ops Q (⟨dst, .binOp .eql 23 x y t2, ty, pos, after, gd⟩ :: rest) a w :=
  BigFrame.wpList_want hw fun K hK => by
    have e : (execOp a.eval ⟨dst, .binOp .eql 23 x y t2, ty, pos, after, gd⟩).run prog w = .ok (.value (.bool (setl s))) w := by
      unfold execOp
      simp only [Sem.run_bind, hx, hy, run_eqGuard_agg w .eql 23 x y s.drv offV no_guard_d, eq_drv s, Result.andThen_ok, Sem.run_pure]
    unfold Oper.wp
    rw [e, Oper.upon_value]
    exact hK _ _ k
theorem ld_off (hO : OffAt w) (hx : a.eval x = .pointer (some ⟨1, 0, none⟩)) (hw : Region.wanted ⟨dst, .load 23 x, ty, pos, after, gd⟩ (yielded ops a.tmps) = true)
    (k : wpList prog ops Q rest (a.put dst (.agg offV)) w) : wpList prog ops Q (⟨dst, .load 23 x, ty, pos, after, gd⟩ :: rest) a w :=
  BigFrame.wpList_want hw fun K hK => wp_load_mid 23 x rfl 1 0 hx offV.toList _ hO.range underlying23 rfl size_drv (hK _ _ k)
theorem p_live (n : Nat) (h : n < 4294967296) : (bits .and .u32 (n : Int) 76 == 12) = (n.testBit 2 && (n.testBit 3 && !n.testBit 6)) := by
  rw [← live_and n, show (76 : Int) = ((76 : Nat) : Int) from rfl, u32_and_nat n 76 h (by decide), show (12 : Int) = ((12 : Nat) : Int) from rfl, castV]
theorem p_bit8 (n : Nat) (h : n < 4294967296) : (bits .and .u32 (n : Int) 8 != 0) = n.testBit 3 := by
  rw [← bit8_and n, show (8 : Int) = ((8 : Nat) : Int) from rfl, u32_and_nat n 8 h (by decide), show (0 : Int) = ((0 : Nat) : Int) from rfl]
  show (!_) = (!_)
  rw [castV]
theorem p_bit8e (n : Nat) (h : n < 4294967296) : (bits .and .u32 (n : Int) 8 == 0) = !n.testBit 3 := by
  rw [← p_bit8 n h]; show _ = !(!_); rw [Bool.not_not]
theorem p_okSt (n : Nat) (h : n < 4294967296) : (bits .andNot .u32 (n : Int) 207 != 0) = !okSt n := by
  rw [← st_and n, show (207 : Int) = ((207 : Nat) : Int) from rfl, u32_andNot_nat n 207 h (by decide), show (0 : Int) = ((0 : Nat) : Int) from rfl]
  show (!_) = (!_)
  rw [castV]
theorem p_ir (n : Nat) (h : n < 4294967296) : (bits .andNot .u32 (n : Int) 3 != 0) = !decide (n ≤ 3) := by
  rw [← ir_and n h, show (3 : Int) = ((3 : Nat) : Int) from rfl, u32_andNot_nat n 3 h (by decide), show (0 : Int) = ((0 : Nat) : Int) from rfl]
  show (!_) = (!_)
  rw [castV]
theorem p_or (n m : Nat) (h : n < 4294967296) (hm : m < 4294967296) : bits .or .u32 (n : Int) (m : Int) = ((n ||| m : Nat) : Int) := u32_or_nat n m h hm
theorem live_any (s : V) (ok : s.Ok) (w : World) :
    Calls prog 78 #[.agg s.cells] w fun e w' => e = .returned (.bool (liveV s)) ∧ Below w.heap.size w w' := by
  have HX := hide (p_live s.st ok.st)
  go_enter func78, ntmps78
  go_wp2_with (first | ((with_reducible refine bx_vp w.heap.size s ?_ ?_ ?_); exact rfl; exact rfl; intro W hr hb hz; have fx := hr.cell))
  go_ret
  exact ⟨by unfold liveV; rw [← HX.out]; rfl, hb⟩
theorem fail_any (s : V) (ok : s.Ok) (w : World) :
    Calls prog 81 #[.agg s.cells] w fun e w' => e = .returned (.agg (failV s).cells) ∧ Below w.heap.size w w' := by
  have HA := hide (p_or s.st 64 ok.st (by decide))
  have HB := hide (p_or s.ir 2 ok.ir (by decide))
  go_enter func81, ntmps81
  go_wp2_with (first | ((with_reducible refine bx_vp w.heap.size s ?_ ?_ ?_); exact rfl; exact rfl; intro W hr hb hz; have fx := hr.cell) | ((with_reducible refine al_vp (w.heap.size + 1) ?_ ?_); exact hz.out; intro W hq hb' hz'; replace hr := hr.bl (hz.out ▸ hb'); replace hb := hb.trans (hb'.mono (by omega)); replace hz := hz'; replace fx := hr.cell) | ((with_reducible refine ld_st w.heap.size _ _ hr ?_ ?_ ?_); exact rfl; exact rfl) | ((with_reducible refine ld_ir w.heap.size _ _ hr ?_ ?_ ?_); exact rfl; exact rfl) | ((with_reducible refine st_st w.heap.size _ (s.st ||| 64) _ hr ?_ ?_ ?_); exact rfl; exact congrArg (Value.int .u32) HA.out; intro W hnew ho; replace hq := hq.only ho (by omega); replace hr := hnew; replace hb := ho.bel _ _ (by omega) hb; (try clear fx)) | ((with_reducible refine st_ir w.heap.size _ (s.ir ||| 2) _ hr ?_ ?_ ?_); exact rfl; exact congrArg (Value.int .u32) HB.out; intro W hnew ho; replace hq := hq.only ho (by omega); replace hr := hnew; replace hb := ho.bel _ _ (by omega) hb; (try clear fx)) | ((with_reducible refine ld_vp w.heap.size _ hr ?_ ?_ ?_); exact rfl; exact rfl) | ((with_reducible refine st_vp (w.heap.size + 1) _ (failV s) hq ?_ ?_ ?_); exact rfl; exact rfl; intro W hnew ho; replace hr := hr.only ho (by omega); replace hq := hnew; replace hb := ho.bel _ _ (by omega) hb))
  refine bodyPost_ret (results_cell_row results81 _ _ (w.heap.size + 1) _ _ _ _ rfl hq underlying39 rfl size_vp) rfl ?_
  exact ⟨rfl, hb⟩
theorem used_any (s : V) (ok : s.Ok) (w : World) :
    Calls prog 85 #[.agg s.cells] w fun e w' => e = .returned (.agg (usedV s).cells) ∧ Below w.heap.size w w' := by
  have HB := hide (p_or s.ir 1 ok.ir (by decide))
  go_enter func85, ntmps85
  go_wp2_with (first | ((with_reducible refine bx_vp w.heap.size s ?_ ?_ ?_); exact rfl; exact rfl; intro W hr hb hz; have fx := hr.cell) | ((with_reducible refine al_vp (w.heap.size + 1) ?_ ?_); exact hz.out; intro W hq hb' hz'; replace hr := hr.bl (hz.out ▸ hb'); replace hb := hb.trans (hb'.mono (by omega)); replace hz := hz'; replace fx := hr.cell) | ((with_reducible refine ld_ir w.heap.size _ _ hr ?_ ?_ ?_); exact rfl; exact rfl) | ((with_reducible refine st_ir w.heap.size _ (s.ir ||| 1) _ hr ?_ ?_ ?_); exact rfl; exact congrArg (Value.int .u32) HB.out; intro W hnew ho; replace hq := hq.only ho (by omega); replace hr := hnew; replace hb := ho.bel _ _ (by omega) hb; (try clear fx)) | ((with_reducible refine ld_vp w.heap.size _ hr ?_ ?_ ?_); exact rfl; exact rfl) | ((with_reducible refine st_vp (w.heap.size + 1) _ (usedV s) hq ?_ ?_ ?_); exact rfl; exact rfl; intro W hnew ho; replace hr := hr.only ho (by omega); replace hq := hnew; replace hb := ho.bel _ _ (by omega) hb))
  refine bodyPost_ret (results_cell_row results85 _ _ (w.heap.size + 1) _ _ _ _ rfl hq underlying39 rfl size_vp) rfl ?_
  exact ⟨rfl, hb⟩
theorem settle_any (s : V) (w : World) (hO : OffAt w) :
    Calls prog 70 #[.agg s.cells] w fun e w' => e = .returned (.bool (setl s)) ∧ Below w.heap.size w w' := by
  go_enter func70, ntmps70
  go_wp2_with (first | ((with_reducible refine bx_vp w.heap.size s ?_ ?_ ?_); exact rfl; exact rfl; intro W hr hb hz; have fx := hr.cell) | ((with_reducible refine ld_drv w.heap.size _ _ hr ?_ ?_ ?_); exact rfl; exact rfl) | ((with_reducible refine ld_off (hO.bl hb) ?_ ?_ ?_); exact rfl; exact rfl) | ((with_reducible refine g_eqd s ?_ ?_ ?_ ?_); exact rfl; exact rfl; exact rfl))
  go_ret
  exact ⟨rfl, hb⟩
theorem maybe_t (s : Qu) (ok : s.r.Ok) (h : s.rd = true) (w : World) :
    Calls prog 71 #[.agg s.cells] w fun e w' => e = .returned (.bool (mayQ s)) ∧ Below w.heap.size w w' := by
  have HV : mayQ s = chkR s.r := by unfold mayQ; rw [if_pos h]
  rw [HV]; clear HV
  have HC := hide (fun w => rcheck_any s.r ok w)
  generalize chkR s.r = c at HC ⊢
  cases c with
  | true =>
    have HC : Hid (∀ w, Calls prog 100 #[.agg s.r.cells] w fun e w' => e = .returned .nilIface ∧ Below w.heap.size w w') := HC
    go_enter func71, ntmps71
    go_wp2_with (first | ((with_reducible refine bx_qp w.heap.size s ?_ ?_ ?_); exact rfl; exact rfl; intro W hr hb hz; have fx := hr.cell) | ((with_reducible refine ld_qurp w.heap.size _ _ hr ?_ ?_ ?_); exact rfl; exact rfl) | (go_at_call 100; (with_reducible refine (HC.out _).mono ?_); rintro e W ⟨rfl, hbc⟩; replace hr := hr.bl hbc; replace fx := hr.cell; replace hb := below_bl rfl hb hbc))
    go_ret
    exact ⟨rfl, hb⟩
  | false =>
    have HC : Hid (∀ w, Calls prog 100 #[.agg s.r.cells] w fun e w' => e = .returned (.iface 82 (.int .i64 1)) ∧ Below w.heap.size w w') := HC
    go_enter func71, ntmps71
    go_wp2_with (first | ((with_reducible refine bx_qp w.heap.size s ?_ ?_ ?_); exact rfl; exact rfl; intro W hr hb hz; have fx := hr.cell) | ((with_reducible refine ld_qurp w.heap.size _ _ hr ?_ ?_ ?_); exact rfl; exact rfl) | (go_at_call 100; (with_reducible refine (HC.out _).mono ?_); rintro e W ⟨rfl, hbc⟩; replace hr := hr.bl hbc; replace fx := hr.cell; replace hb := below_bl rfl hb hbc))
    go_ret
    exact ⟨rfl, hb⟩
theorem maybe_fa (s : Qu) (h : s.rd = false) (h0 : s.r.sz < 0) (w : World) :
    Calls prog 71 #[.agg s.cells] w fun e w' => e = .returned (.bool (mayQ s)) ∧ Below w.heap.size w w' := by
  have HV : mayQ s = false := by unfold mayQ; rw [h, if_neg (by decide), decide_eq_false (show ¬ 0 ≤ s.r.sz by omega)]; rfl
  rw [HV]; clear HV
  have l1 : decide (s.r.sz ≥ 0) = false := by simp; omega
  have l1b : decide (0 ≤ s.r.sz) = false := by simp; omega
  clear h0
  go_enter func71, ntmps71
  go_wp2_with (first | ((with_reducible refine bx_qp w.heap.size s ?_ ?_ ?_); exact rfl; exact rfl; intro W hr hb hz; have fx := hr.cell))
  go_ret
  exact ⟨rfl, hb⟩
theorem maybe_fb (s : Qu) (h : s.rd = false) (h0 : 0 ≤ s.r.sz) (h1 : 256 < s.r.sz) (w : World) :
    Calls prog 71 #[.agg s.cells] w fun e w' => e = .returned (.bool (mayQ s)) ∧ Below w.heap.size w w' := by
  have HV : mayQ s = false := by unfold mayQ; rw [h, if_neg (by decide), decide_eq_false (show ¬ s.r.sz ≤ 256 by omega), Bool.and_false]
  rw [HV]; clear HV
  have l1 : decide (s.r.sz ≤ 256) = false := by simp; omega
  go_enter func71, ntmps71
  go_wp2_with (first | ((with_reducible refine bx_qp w.heap.size s ?_ ?_ ?_); exact rfl; exact rfl; intro W hr hb hz; have fx := hr.cell))
  go_ret
  exact ⟨rfl, hb⟩
theorem maybe_fc (s : Qu) (h : s.rd = false) (h0 : 0 ≤ s.r.sz) (h1 : s.r.sz ≤ 256) (w : World) :
    Calls prog 71 #[.agg s.cells] w fun e w' => e = .returned (.bool (mayQ s)) ∧ Below w.heap.size w w' := by
  have HV : mayQ s = true := by unfold mayQ; rw [h, if_neg (by decide), decide_eq_true h0, decide_eq_true h1]; rfl
  rw [HV]; clear HV
  go_enter func71, ntmps71
  go_wp2_with (first | ((with_reducible refine bx_qp w.heap.size s ?_ ?_ ?_); exact rfl; exact rfl; intro W hr hb hz; have fx := hr.cell))
  go_ret
  exact ⟨rfl, hb⟩
theorem maybe_any (s : Qu) (ok : s.r.Ok) (w : World) : Calls prog 71 #[.agg s.cells] w fun e w' => e = .returned (.bool (mayQ s)) ∧ Below w.heap.size w w' := by
  cases h : s.rd with
  | true => exact maybe_t s ok h w
  | false =>
    by_cases h0 : 0 ≤ s.r.sz
    · by_cases h1 : s.r.sz ≤ 256
      · exact maybe_fc s h h0 h1 w
      · exact maybe_fb s h h0 (by omega) w
    · exact maybe_fa s h (by omega) w
theorem feature_any (n : Nat) (w : World) (hO : OffAt w) :
    Calls prog 58 #[.int .u32 (n : Nat)] w fun e w' => e = .returned (.int .u32 ((if n = 1 then 1 else 0 : Nat) : Int)) ∧ Below w.heap.size w w' := by
  have c0 := hO.1
  have c1 := hO.2
  by_cases h0 : n = 0
  · subst h0
    rw [show (((0 : Nat)) : Int) = 0 from rfl]
    go_enter func58, ntmps58
    go_wp2
    go_ret
    exact ⟨rfl, Below.refl _ _⟩
  by_cases h1 : n = 1
  · subst h1
    rw [show (((1 : Nat)) : Int) = 1 from rfl]
    go_enter func58, ntmps58
    go_wp2
    go_ret
    exact ⟨rfl, Below.refl _ _⟩
  · rw [if_neg h1]
    have l1 : decide ((n : Int) < 2) = false := by simp; omega
    have l1b : decide (n < 2) = false := by simp; omega
    go_enter func58, ntmps58
    go_wp2
    go_ret
    exact ⟨rfl, Below.refl _ _⟩
theorem readq_52 (s : Qu) (a : Nat) (h : a = 52) (w : World) :
    Calls prog 59 #[.agg s.cells, .int .u32 (a : Nat)] w fun e w' => e = .returned (.int .u32 (256)) ∧ Below w.heap.size w w' := by
  subst h
  rw [show ((52 : Nat) : Int) = 52 from rfl]
  go_enter func59, ntmps59
  go_wp2_with (first | ((with_reducible refine bx_qp w.heap.size s ?_ ?_ ?_); exact rfl; exact rfl; intro W hr hb hz; have fx := hr.cell))
  go_ret
  exact ⟨rfl, hb⟩
theorem readq_t (s : Qu) (a : Nat) (h : a = 68) (hr0 : s.rd = true) (w : World) :
    Calls prog 59 #[.agg s.cells, .int .u32 (a : Nat)] w fun e w' => e = .returned (.int .u32 (1)) ∧ Below w.heap.size w w' := by
  subst h
  rw [show ((68 : Nat) : Int) = 68 from rfl]
  go_enter func59, ntmps59
  go_wp2_with (first | ((with_reducible refine bx_qp w.heap.size s ?_ ?_ ?_); exact rfl; exact rfl; intro W hr hb hz; have fx := hr.cell))
  go_ret
  exact ⟨rfl, hb⟩
theorem readq_f (s : Qu) (a : Nat) (h : a = 68) (hr0 : s.rd = false) (w : World) :
    Calls prog 59 #[.agg s.cells, .int .u32 (a : Nat)] w fun e w' => e = .returned (.int .u32 (0)) ∧ Below w.heap.size w w' := by
  subst h
  rw [show ((68 : Nat) : Int) = 68 from rfl]
  go_enter func59, ntmps59
  go_wp2_with (first | ((with_reducible refine bx_qp w.heap.size s ?_ ?_ ?_); exact rfl; exact rfl; intro W hr hb hz; have fx := hr.cell))
  go_ret
  exact ⟨rfl, hb⟩
theorem readq_o (s : Qu) (a : Nat) (h1 : a ≠ 52) (h2 : a ≠ 68) (w : World) :
    Calls prog 59 #[.agg s.cells, .int .u32 (a : Nat)] w fun e w' => e = .returned (.int .u32 (0)) ∧ Below w.heap.size w w' := by
  have l1 : ((a : Int) == 52) = false := by simp; omega
  have l1b : (a == 52) = false := by simp; omega
  have l2 : ((a : Int) == 68) = false := by simp; omega
  have l2b : (a == 68) = false := by simp; omega
  clear h1 h2
  go_enter func59, ntmps59
  go_wp2_with (first | ((with_reducible refine bx_qp w.heap.size s ?_ ?_ ?_); exact rfl; exact rfl; intro W hr hb hz; have fx := hr.cell))
  go_ret
  exact ⟨rfl, hb⟩
theorem readq_any (s : Qu) (a : Nat) (w : World) : Calls prog 59 #[.agg s.cells, .int .u32 (a : Nat)] w fun e w' => e = .returned (.int .u32 ((if a = 52 then 256 else if a = 68 then (if s.rd = true then 1 else 0) else 0 : Nat) : Int)) ∧ Below w.heap.size w w' := by
  by_cases h1 : a = 52
  · rw [if_pos h1]; exact readq_52 s a h1 w
  rw [if_neg h1]
  by_cases h2 : a = 68
  · rw [if_pos h2]
    cases h : s.rd with
    | true => rw [if_pos rfl]; exact readq_t s a h2 h w
    | false => rw [if_neg (by decide)]; exact readq_f s a h2 h w
  · rw [if_neg h2]; exact readq_o s a h1 h2 w
end Go.Proofs.YtbggkoahofnnjaaGreatDoor
namespace Go.Proofs.YtbggkoahofnnjaaGreatDoor
open Go.RowKit
set_option maxHeartbeats 2000000
attribute [local go_sem] V.at0 V.at1 V.at2 V.at3 V.at4 V.at5 V.at6 V.at7 V.at8 V.at9 V.at10 V.at11 V.at12 V.at13 V.at14 V.at15 V.at16 V.at17 V.at18 V.at19 V.at20 Qu.at0 Qu.at1 Qu.at2 Qu.at3 Qu.at4 Qu.at5 Qu.at6
def StViCheck0 (s : V) (a : Nat) (w : World) : Prop := Calls prog 57 #[.agg s.cells, .int .u32 (a : Nat)] w fun e w' => e = .returned (errR (accV s a)) ∧ Below w.heap.size w w'
theorem check_c1 (s : V) (ok : s.Ok) (h1 : okSt s.st = false) (w : World) (hO : OffAt w) :
    Calls prog 29 #[.agg s.cells] w fun e w' => e = .returned (.iface 82 (.int .i64 1)) ∧ Below w.heap.size w w' := by
  have HS := hide (fun w (hO : OffAt w) => settle_any s w hO)
  have HM0 := hide (fun w => maybe_any s.q0 ok.q0 w)
  have HM1 := hide (fun w => maybe_any s.q1 ok.q1 w)
  have t1 : (bits .andNot .u32 (s.st : Int) 207 != 0) = true := by rw [p_okSt _ ok.st, h1]; rfl
  go_enter func29, ntmps29
  go_wp2_with (first | ((with_reducible refine bx_vp w.heap.size s ?_ ?_ ?_); exact rfl; exact rfl; intro W hr hb hz; have fx := hr.cell) | ((with_reducible refine ld_vp w.heap.size _ hr ?_ ?_ ?_); exact rfl; exact rfl) | ((with_reducible refine ld_qs w.heap.size _ _ hr ?_ ?_ ?_); exact rfl; exact rfl) | (go_at_call 70; (with_reducible refine (HS.out _ (hO.bl hb)).mono ?_); rintro e W ⟨rfl, hbc⟩; replace hr := hr.bl hbc; replace fx := hr.cell; replace hb := below_bl rfl hb hbc))
  go_ret
  exact ⟨rfl, hb⟩
theorem check_c2 (s : V) (ok : s.Ok) (h1 : okSt s.st = true) (h2 : decide (s.ir ≤ 3) = false) (w : World) (hO : OffAt w) :
    Calls prog 29 #[.agg s.cells] w fun e w' => e = .returned (.iface 82 (.int .i64 1)) ∧ Below w.heap.size w w' := by
  have HS := hide (fun w (hO : OffAt w) => settle_any s w hO)
  have HM0 := hide (fun w => maybe_any s.q0 ok.q0 w)
  have HM1 := hide (fun w => maybe_any s.q1 ok.q1 w)
  have t1 : (bits .andNot .u32 (s.st : Int) 207 != 0) = false := by rw [p_okSt _ ok.st, h1]; rfl
  have t2 : (bits .andNot .u32 (s.ir : Int) 3 != 0) = true := by rw [p_ir _ ok.ir, h2]; rfl
  go_enter func29, ntmps29
  go_wp2_with (first | ((with_reducible refine bx_vp w.heap.size s ?_ ?_ ?_); exact rfl; exact rfl; intro W hr hb hz; have fx := hr.cell) | ((with_reducible refine ld_vp w.heap.size _ hr ?_ ?_ ?_); exact rfl; exact rfl) | ((with_reducible refine ld_qs w.heap.size _ _ hr ?_ ?_ ?_); exact rfl; exact rfl) | (go_at_call 70; (with_reducible refine (HS.out _ (hO.bl hb)).mono ?_); rintro e W ⟨rfl, hbc⟩; replace hr := hr.bl hbc; replace fx := hr.cell; replace hb := below_bl rfl hb hbc))
  go_ret
  exact ⟨rfl, hb⟩
theorem check_c3 (s : V) (ok : s.Ok) (h1 : okSt s.st = true) (h2 : decide (s.ir ≤ 3) = true) (h3 : s.st.testBit 3 = true) (h4 : setl s = false) (w : World) (hO : OffAt w) :
    Calls prog 29 #[.agg s.cells] w fun e w' => e = .returned (.iface 82 (.int .i64 1)) ∧ Below w.heap.size w w' := by
  have HS := hide (fun w (hO : OffAt w) => settle_any s w hO)
  have HM0 := hide (fun w => maybe_any s.q0 ok.q0 w)
  have HM1 := hide (fun w => maybe_any s.q1 ok.q1 w)
  have t1 : (bits .andNot .u32 (s.st : Int) 207 != 0) = false := by rw [p_okSt _ ok.st, h1]; rfl
  have t2 : (bits .andNot .u32 (s.ir : Int) 3 != 0) = false := by rw [p_ir _ ok.ir, h2]; rfl
  have t3 : (bits .and .u32 (s.st : Int) 8 != 0) = true := by rw [p_bit8 _ ok.st, h3]
  go_enter func29, ntmps29
  go_wp2_with (first | ((with_reducible refine bx_vp w.heap.size s ?_ ?_ ?_); exact rfl; exact rfl; intro W hr hb hz; have fx := hr.cell) | ((with_reducible refine ld_vp w.heap.size _ hr ?_ ?_ ?_); exact rfl; exact rfl) | ((with_reducible refine ld_qs w.heap.size _ _ hr ?_ ?_ ?_); exact rfl; exact rfl) | (go_at_call 70; (with_reducible refine (HS.out _ (hO.bl hb)).mono ?_); rintro e W ⟨rfl, hbc⟩; replace hr := hr.bl hbc; replace fx := hr.cell; replace hb := below_bl rfl hb hbc))
  go_ret
  exact ⟨rfl, hb⟩
theorem check_c4 (s : V) (ok : s.Ok) (h1 : okSt s.st = true) (h2 : decide (s.ir ≤ 3) = true) (h3 : s.st.testBit 3 = false) (h34 : (!s.st.testBit 3 || setl s) = true) (w : World) (hO : OffAt w) :
    Calls prog 29 #[.agg s.cells] w fun e w' => e = .returned (errR (if mayV s = true then 0 else 1)) ∧ Below w.heap.size w w' := by
  obtain ⟨z, hz⟩ : ∃ z : Nat, (if mayV s = true then 0 else 1) = z := ⟨_, rfl⟩
  rw [hz]
  have HZ := hide hz
  clear hz
  have HS := hide (fun w (hO : OffAt w) => settle_any s w hO)
  have HM0 := hide (fun w => maybe_any s.q0 ok.q0 w)
  have HM1 := hide (fun w => maybe_any s.q1 ok.q1 w)
  have t1 : (bits .andNot .u32 (s.st : Int) 207 != 0) = false := by rw [p_okSt _ ok.st, h1]; rfl
  have t2 : (bits .andNot .u32 (s.ir : Int) 3 != 0) = false := by rw [p_ir _ ok.ir, h2]; rfl
  have t3 : (bits .and .u32 (s.st : Int) 8 != 0) = false := by rw [p_bit8 _ ok.st, h3]
  go_enter func29, ntmps29
  go_wp2_with (first | ((with_reducible refine bx_vp w.heap.size s ?_ ?_ ?_); exact rfl; exact rfl; intro W hr hb hz; have fx := hr.cell) | ((with_reducible refine ld_vp w.heap.size _ hr ?_ ?_ ?_); exact rfl; exact rfl) | ((with_reducible refine ld_qs w.heap.size _ _ hr ?_ ?_ ?_); exact rfl; exact rfl) | (go_at_call 70; (with_reducible refine (HS.out _ (hO.bl hb)).mono ?_); rintro e W ⟨rfl, hbc⟩; replace hr := hr.bl hbc; replace fx := hr.cell; replace hb := below_bl rfl hb hbc))
  go_loopw [28] (fun iv wr => ∃ i : Nat, i ≤ 2 ∧ iv = .int .i64 i ∧ (0 < i → mayQ s.q0 = true) ∧ (1 < i → mayQ s.q1 = true) ∧ RowAt wr w.heap.size s.cells 39 ∧ Below w.heap.size w wr) (fun iv _ => 2 - (intOf iv).toNat)
  case atStart => exact ⟨0, by omega, rfl, fun h => absurd h (by omega), fun h => absurd h (by omega), hr, hb⟩
  case round =>
    clear hr hb hz
    obtain ⟨i, hi, rfl, q0, q1, hr, hb⟩ := hrel
    obtain ⟨NQ, hNQ⟩ : ∃ n, wr.heap.size = n := ⟨_, rfl⟩
    have lNQ : w.heap.size + 1 ≤ NQ := by have := hr.lt; omega
    replace hNQ := hide hNQ
    have hi3 : i = 0 ∨ i = 1 ∨ i = 2 := by omega
    rcases hi3 with rfl | rfl | rfl
    · replace q0 := hide q0
      replace q1 := hide q1
      have HM := HM0
      obtain ⟨c, hc⟩ : ∃ c, mayQ s.q0 = c := ⟨_, rfl⟩
      have HC := hide hc
      rw [hc] at HM
      clear hc
      have ix := fun w => index_q0 s w
      cases c with
      | true =>
        go_wp2_with (first | ((with_reducible refine al_qp NQ ?_ ?_); exact hNQ.out; intro W hq hb' hz'; replace hr := hr.bl (hNQ.out ▸ hb'); replace hb := hb.trans (hb'.mono (by omega))) | ((with_reducible refine st_qp NQ _ s.q0 hq ?_ ?_ ?_); exact rfl; exact rfl; intro W hnew ho; replace hr := hr.only ho (by omega); replace hq := hnew; replace hb := ho.bel _ _ (by omega) hb) | ((with_reducible refine ld_qp NQ _ hq ?_ ?_ ?_); exact rfl; exact rfl) | (go_at_call 71; (with_reducible refine (HM.out _).mono ?_); rintro e W ⟨rfl, hbc⟩; replace hr := hr.bl hbc; replace hq := hq.bl hbc; replace hb := below_bl rfl hb hbc))
        go_roundw
        case rel => exact ⟨1, by omega, rfl, fun _ => HC.out, fun h => absurd h (by omega), hr, hb⟩
        case measure => decide
      | false =>
        go_wp2_with (first | ((with_reducible refine al_qp NQ ?_ ?_); exact hNQ.out; intro W hq hb' hz'; replace hr := hr.bl (hNQ.out ▸ hb'); replace hb := hb.trans (hb'.mono (by omega))) | ((with_reducible refine st_qp NQ _ s.q0 hq ?_ ?_ ?_); exact rfl; exact rfl; intro W hnew ho; replace hr := hr.only ho (by omega); replace hq := hnew; replace hb := ho.bel _ _ (by omega) hb) | ((with_reducible refine ld_qp NQ _ hq ?_ ?_ ?_); exact rfl; exact rfl) | (go_at_call 71; (with_reducible refine (HM.out _).mono ?_); rintro e W ⟨rfl, hbc⟩; replace hr := hr.bl hbc; replace hq := hq.bl hbc; replace hb := below_bl rfl hb hbc))
        go_ret
        exact ⟨by rw [← HZ.out, show mayV s = false by unfold mayV; rw [HC.out]; simp]; rfl, hb⟩
    · replace q0 := hide q0
      replace q1 := hide q1
      have HM := HM1
      obtain ⟨c, hc⟩ : ∃ c, mayQ s.q1 = c := ⟨_, rfl⟩
      have HC := hide hc
      rw [hc] at HM
      clear hc
      have ix := fun w => index_q1 s w
      cases c with
      | true =>
        go_wp2_with (first | ((with_reducible refine al_qp NQ ?_ ?_); exact hNQ.out; intro W hq hb' hz'; replace hr := hr.bl (hNQ.out ▸ hb'); replace hb := hb.trans (hb'.mono (by omega))) | ((with_reducible refine st_qp NQ _ s.q1 hq ?_ ?_ ?_); exact rfl; exact rfl; intro W hnew ho; replace hr := hr.only ho (by omega); replace hq := hnew; replace hb := ho.bel _ _ (by omega) hb) | ((with_reducible refine ld_qp NQ _ hq ?_ ?_ ?_); exact rfl; exact rfl) | (go_at_call 71; (with_reducible refine (HM.out _).mono ?_); rintro e W ⟨rfl, hbc⟩; replace hr := hr.bl hbc; replace hq := hq.bl hbc; replace hb := below_bl rfl hb hbc))
        go_roundw
        case rel => exact ⟨2, by omega, rfl, fun _ => q0.out (by omega), fun _ => HC.out, hr, hb⟩
        case measure => decide
      | false =>
        go_wp2_with (first | ((with_reducible refine al_qp NQ ?_ ?_); exact hNQ.out; intro W hq hb' hz'; replace hr := hr.bl (hNQ.out ▸ hb'); replace hb := hb.trans (hb'.mono (by omega))) | ((with_reducible refine st_qp NQ _ s.q1 hq ?_ ?_ ?_); exact rfl; exact rfl; intro W hnew ho; replace hr := hr.only ho (by omega); replace hq := hnew; replace hb := ho.bel _ _ (by omega) hb) | ((with_reducible refine ld_qp NQ _ hq ?_ ?_ ?_); exact rfl; exact rfl) | (go_at_call 71; (with_reducible refine (HM.out _).mono ?_); rintro e W ⟨rfl, hbc⟩; replace hr := hr.bl hbc; replace hq := hq.bl hbc; replace hb := below_bl rfl hb hbc))
        go_ret
        exact ⟨by rw [← HZ.out, show mayV s = false by unfold mayV; rw [HC.out]; simp]; rfl, hb⟩
    · have HQ := hide (And.intro (q0 (by omega)) (q1 (by omega)))
      clear q0 q1
      go_wp2
      go_ret
      exact ⟨by rw [← HZ.out, show mayV s = true by unfold mayV; rw [h1, h2, HQ.out.1, HQ.out.2, h34]; rfl]; rfl, hb⟩
theorem check_c5 (s : V) (ok : s.Ok) (h1 : okSt s.st = true) (h2 : decide (s.ir ≤ 3) = true) (h3 : s.st.testBit 3 = true) (h4 : setl s = true) (h34 : (!s.st.testBit 3 || setl s) = true) (w : World) (hO : OffAt w) :
    Calls prog 29 #[.agg s.cells] w fun e w' => e = .returned (errR (if mayV s = true then 0 else 1)) ∧ Below w.heap.size w w' := by
  obtain ⟨z, hz⟩ : ∃ z : Nat, (if mayV s = true then 0 else 1) = z := ⟨_, rfl⟩
  rw [hz]
  have HZ := hide hz
  clear hz
  have HS := hide (fun w (hO : OffAt w) => settle_any s w hO)
  have HM0 := hide (fun w => maybe_any s.q0 ok.q0 w)
  have HM1 := hide (fun w => maybe_any s.q1 ok.q1 w)
  have t1 : (bits .andNot .u32 (s.st : Int) 207 != 0) = false := by rw [p_okSt _ ok.st, h1]; rfl
  have t2 : (bits .andNot .u32 (s.ir : Int) 3 != 0) = false := by rw [p_ir _ ok.ir, h2]; rfl
  have t3 : (bits .and .u32 (s.st : Int) 8 != 0) = true := by rw [p_bit8 _ ok.st, h3]
  go_enter func29, ntmps29
  go_wp2_with (first | ((with_reducible refine bx_vp w.heap.size s ?_ ?_ ?_); exact rfl; exact rfl; intro W hr hb hz; have fx := hr.cell) | ((with_reducible refine ld_vp w.heap.size _ hr ?_ ?_ ?_); exact rfl; exact rfl) | ((with_reducible refine ld_qs w.heap.size _ _ hr ?_ ?_ ?_); exact rfl; exact rfl) | (go_at_call 70; (with_reducible refine (HS.out _ (hO.bl hb)).mono ?_); rintro e W ⟨rfl, hbc⟩; replace hr := hr.bl hbc; replace fx := hr.cell; replace hb := below_bl rfl hb hbc))
  go_loopw [28] (fun iv wr => ∃ i : Nat, i ≤ 2 ∧ iv = .int .i64 i ∧ (0 < i → mayQ s.q0 = true) ∧ (1 < i → mayQ s.q1 = true) ∧ RowAt wr w.heap.size s.cells 39 ∧ Below w.heap.size w wr) (fun iv _ => 2 - (intOf iv).toNat)
  case atStart => exact ⟨0, by omega, rfl, fun h => absurd h (by omega), fun h => absurd h (by omega), hr, hb⟩
  case round =>
    clear hr hb hz
    obtain ⟨i, hi, rfl, q0, q1, hr, hb⟩ := hrel
    obtain ⟨NQ, hNQ⟩ : ∃ n, wr.heap.size = n := ⟨_, rfl⟩
    have lNQ : w.heap.size + 1 ≤ NQ := by have := hr.lt; omega
    replace hNQ := hide hNQ
    have hi3 : i = 0 ∨ i = 1 ∨ i = 2 := by omega
    rcases hi3 with rfl | rfl | rfl
    · replace q0 := hide q0
      replace q1 := hide q1
      have HM := HM0
      obtain ⟨c, hc⟩ : ∃ c, mayQ s.q0 = c := ⟨_, rfl⟩
      have HC := hide hc
      rw [hc] at HM
      clear hc
      have ix := fun w => index_q0 s w
      cases c with
      | true =>
        go_wp2_with (first | ((with_reducible refine al_qp NQ ?_ ?_); exact hNQ.out; intro W hq hb' hz'; replace hr := hr.bl (hNQ.out ▸ hb'); replace hb := hb.trans (hb'.mono (by omega))) | ((with_reducible refine st_qp NQ _ s.q0 hq ?_ ?_ ?_); exact rfl; exact rfl; intro W hnew ho; replace hr := hr.only ho (by omega); replace hq := hnew; replace hb := ho.bel _ _ (by omega) hb) | ((with_reducible refine ld_qp NQ _ hq ?_ ?_ ?_); exact rfl; exact rfl) | (go_at_call 71; (with_reducible refine (HM.out _).mono ?_); rintro e W ⟨rfl, hbc⟩; replace hr := hr.bl hbc; replace hq := hq.bl hbc; replace hb := below_bl rfl hb hbc))
        go_roundw
        case rel => exact ⟨1, by omega, rfl, fun _ => HC.out, fun h => absurd h (by omega), hr, hb⟩
        case measure => decide
      | false =>
        go_wp2_with (first | ((with_reducible refine al_qp NQ ?_ ?_); exact hNQ.out; intro W hq hb' hz'; replace hr := hr.bl (hNQ.out ▸ hb'); replace hb := hb.trans (hb'.mono (by omega))) | ((with_reducible refine st_qp NQ _ s.q0 hq ?_ ?_ ?_); exact rfl; exact rfl; intro W hnew ho; replace hr := hr.only ho (by omega); replace hq := hnew; replace hb := ho.bel _ _ (by omega) hb) | ((with_reducible refine ld_qp NQ _ hq ?_ ?_ ?_); exact rfl; exact rfl) | (go_at_call 71; (with_reducible refine (HM.out _).mono ?_); rintro e W ⟨rfl, hbc⟩; replace hr := hr.bl hbc; replace hq := hq.bl hbc; replace hb := below_bl rfl hb hbc))
        go_ret
        exact ⟨by rw [← HZ.out, show mayV s = false by unfold mayV; rw [HC.out]; simp]; rfl, hb⟩
    · replace q0 := hide q0
      replace q1 := hide q1
      have HM := HM1
      obtain ⟨c, hc⟩ : ∃ c, mayQ s.q1 = c := ⟨_, rfl⟩
      have HC := hide hc
      rw [hc] at HM
      clear hc
      have ix := fun w => index_q1 s w
      cases c with
      | true =>
        go_wp2_with (first | ((with_reducible refine al_qp NQ ?_ ?_); exact hNQ.out; intro W hq hb' hz'; replace hr := hr.bl (hNQ.out ▸ hb'); replace hb := hb.trans (hb'.mono (by omega))) | ((with_reducible refine st_qp NQ _ s.q1 hq ?_ ?_ ?_); exact rfl; exact rfl; intro W hnew ho; replace hr := hr.only ho (by omega); replace hq := hnew; replace hb := ho.bel _ _ (by omega) hb) | ((with_reducible refine ld_qp NQ _ hq ?_ ?_ ?_); exact rfl; exact rfl) | (go_at_call 71; (with_reducible refine (HM.out _).mono ?_); rintro e W ⟨rfl, hbc⟩; replace hr := hr.bl hbc; replace hq := hq.bl hbc; replace hb := below_bl rfl hb hbc))
        go_roundw
        case rel => exact ⟨2, by omega, rfl, fun _ => q0.out (by omega), fun _ => HC.out, hr, hb⟩
        case measure => decide
      | false =>
        go_wp2_with (first | ((with_reducible refine al_qp NQ ?_ ?_); exact hNQ.out; intro W hq hb' hz'; replace hr := hr.bl (hNQ.out ▸ hb'); replace hb := hb.trans (hb'.mono (by omega))) | ((with_reducible refine st_qp NQ _ s.q1 hq ?_ ?_ ?_); exact rfl; exact rfl; intro W hnew ho; replace hr := hr.only ho (by omega); replace hq := hnew; replace hb := ho.bel _ _ (by omega) hb) | ((with_reducible refine ld_qp NQ _ hq ?_ ?_ ?_); exact rfl; exact rfl) | (go_at_call 71; (with_reducible refine (HM.out _).mono ?_); rintro e W ⟨rfl, hbc⟩; replace hr := hr.bl hbc; replace hq := hq.bl hbc; replace hb := below_bl rfl hb hbc))
        go_ret
        exact ⟨by rw [← HZ.out, show mayV s = false by unfold mayV; rw [HC.out]; simp]; rfl, hb⟩
    · have HQ := hide (And.intro (q0 (by omega)) (q1 (by omega)))
      clear q0 q1
      go_wp2
      go_ret
      exact ⟨by rw [← HZ.out, show mayV s = true by unfold mayV; rw [h1, h2, HQ.out.1, HQ.out.2, h34]; rfl]; rfl, hb⟩
theorem vcheck_any (s : V) (ok : s.Ok) (w : World) (hO : OffAt w) : Calls prog 29 #[.agg s.cells] w fun e w' => e = .returned (errR (if mayV s = true then 0 else 1)) ∧ Below w.heap.size w w' := by
  have no : mayV s = false → errR (if mayV s = true then 0 else 1) = .iface 82 (.int .i64 1) := fun h => by rw [h]; rfl
  cases h1 : okSt s.st with
  | false => rw [no (by unfold mayV; rw [h1]; rfl)]; exact check_c1 s ok h1 w hO
  | true =>
    cases h2 : decide (s.ir ≤ 3) with
    | false => rw [no (by unfold mayV; rw [h1, h2]; rfl)]; exact check_c2 s ok h1 h2 w hO
    | true =>
      cases h3 : s.st.testBit 3 with
      | false => exact check_c4 s ok h1 h2 h3 (by rw [h3]; rfl) w hO
      | true =>
        cases h4 : setl s with
        | false => rw [no (by unfold mayV; rw [h1, h2, h3, h4]; rfl)]; exact check_c3 s ok h1 h2 h3 h4 w hO
        | true => exact check_c5 s ok h1 h2 h3 h4 (by rw [h4]; simp) w hO
theorem acc_no (s : V) (ok : s.Ok) (a : Nat) (hm : mayV s = false) (w : World) (hO : OffAt w) :
    StViCheck0 s a w := by
  unfold StViCheck0
  have HV : accV s a = 1 := by unfold accV; rw [hm, if_neg (by decide)]
  rw [HV]; clear HV
  have HC := hide (fun w (hO : OffAt w) => vcheck_any s ok w hO)
  rw [hm] at HC
  have HC : Hid (∀ w, OffAt w → Calls prog 29 #[.agg s.cells] w fun e w' => e = .returned (.iface 82 (.int .i64 1)) ∧ Below w.heap.size w w') := HC
  go_enter func57, ntmps57
  go_wp2_with (first | ((with_reducible refine bx_vp w.heap.size s ?_ ?_ ?_); exact rfl; exact rfl; intro W hr hb hz; have fx := hr.cell) | ((with_reducible refine ld_vp w.heap.size _ hr ?_ ?_ ?_); exact rfl; exact rfl) | (go_at_call 29; (with_reducible refine (HC.out _ (hO.bl hb)).mono ?_); rintro e W ⟨rfl, hbc⟩; replace hr := hr.bl hbc; replace fx := hr.cell; replace hb := below_bl rfl hb hbc))
  go_ret
  exact ⟨rfl, hb⟩
theorem acc_ge (s : V) (ok : s.Ok) (a : Nat) (hm : mayV s = true) (h : 256 ≤ a) (w : World) (hO : OffAt w) :
    StViCheck0 s a w := by
  unfold StViCheck0
  have HV : accV s a = 20 := by unfold accV; rw [if_pos hm]; rw [if_neg (by unfold vaccN; rw [decide_eq_false (show ¬ a < 256 by omega)]; simp)]
  rw [HV]; clear HV
  have HC := hide (fun w (hO : OffAt w) => vcheck_any s ok w hO)
  rw [hm] at HC
  have HC : Hid (∀ w, OffAt w → Calls prog 29 #[.agg s.cells] w fun e w' => e = .returned .nilIface ∧ Below w.heap.size w w') := HC
  have l1 : (a : Int) ≥ 256 := by omega
  have l1b : (256 : Int) ≤ (a : Int) := by omega
  go_enter func57, ntmps57
  go_wp2_with (first | ((with_reducible refine bx_vp w.heap.size s ?_ ?_ ?_); exact rfl; exact rfl; intro W hr hb hz; have fx := hr.cell) | ((with_reducible refine ld_vp w.heap.size _ hr ?_ ?_ ?_); exact rfl; exact rfl) | (go_at_call 29; (with_reducible refine (HC.out _ (hO.bl hb)).mono ?_); rintro e W ⟨rfl, hbc⟩; replace hr := hr.bl hbc; replace fx := hr.cell; replace hb := below_bl rfl hb hbc))
  go_ret
  exact ⟨rfl, hb⟩
theorem acc_od (s : V) (ok : s.Ok) (a : Nat) (hm : mayV s = true) (h : a < 256) (h4 : a % 4 ≠ 0) (w : World) (hO : OffAt w) :
    StViCheck0 s a w := by
  unfold StViCheck0
  have HV : accV s a = 20 := by unfold accV; rw [if_pos hm]; rw [if_neg (by unfold vaccN; rw [decide_eq_false h4, Bool.and_false]; decide)]
  rw [HV]; clear HV
  have HC := hide (fun w (hO : OffAt w) => vcheck_any s ok w hO)
  rw [hm] at HC
  have HC : Hid (∀ w, OffAt w → Calls prog 29 #[.agg s.cells] w fun e w' => e = .returned .nilIface ∧ Below w.heap.size w w') := HC
  have l1 : decide ((a : Int) ≥ 256) = false := by simp; omega
  have l1b : decide ((256 : Int) ≤ (a : Int)) = false := by simp; omega
  have l1c : decide (256 ≤ a) = false := by simp; omega
  have l2 : (((a : Int) % 4) != 0) = true := by simp; omega
  have l2b : ((((a % 4 : Nat)) : Int) != 0) = true := by simp; omega
  clear h4
  go_enter func57, ntmps57
  go_wp2_with (first | ((with_reducible refine bx_vp w.heap.size s ?_ ?_ ?_); exact rfl; exact rfl; intro W hr hb hz; have fx := hr.cell) | ((with_reducible refine ld_vp w.heap.size _ hr ?_ ?_ ?_); exact rfl; exact rfl) | (go_at_call 29; (with_reducible refine (HC.out _ (hO.bl hb)).mono ?_); rintro e W ⟨rfl, hbc⟩; replace hr := hr.bl hbc; replace fx := hr.cell; replace hb := below_bl rfl hb hbc))
  go_ret
  exact ⟨rfl, hb⟩
theorem acc_ok (s : V) (ok : s.Ok) (a : Nat) (hm : mayV s = true) (h : a < 256) (h4 : a % 4 = 0) (w : World) (hO : OffAt w) :
    StViCheck0 s a w := by
  unfold StViCheck0
  have HV : accV s a = 0 := by unfold accV; rw [if_pos hm]; rw [if_pos (by unfold vaccN; rw [decide_eq_true h, decide_eq_true h4]; rfl)]
  rw [HV]; clear HV
  have HC := hide (fun w (hO : OffAt w) => vcheck_any s ok w hO)
  rw [hm] at HC
  have HC : Hid (∀ w, OffAt w → Calls prog 29 #[.agg s.cells] w fun e w' => e = .returned .nilIface ∧ Below w.heap.size w w') := HC
  have l1 : decide ((a : Int) ≥ 256) = false := by simp; omega
  have l1b : decide ((256 : Int) ≤ (a : Int)) = false := by simp; omega
  have l1c : decide (256 ≤ a) = false := by simp; omega
  have l2 : (((a : Int) % 4) != 0) = false := by simp; omega
  have l2b : ((((a % 4 : Nat)) : Int) != 0) = false := by simp; omega
  clear h4
  go_enter func57, ntmps57
  go_wp2_with (first | ((with_reducible refine bx_vp w.heap.size s ?_ ?_ ?_); exact rfl; exact rfl; intro W hr hb hz; have fx := hr.cell) | ((with_reducible refine ld_vp w.heap.size _ hr ?_ ?_ ?_); exact rfl; exact rfl) | (go_at_call 29; (with_reducible refine (HC.out _ (hO.bl hb)).mono ?_); rintro e W ⟨rfl, hbc⟩; replace hr := hr.bl hbc; replace fx := hr.cell; replace hb := below_bl rfl hb hbc))
  go_ret
  exact ⟨rfl, hb⟩
theorem acc_any (s : V) (ok : s.Ok) (a : Nat) (w : World) (hO : OffAt w) : Calls prog 57 #[.agg s.cells, .int .u32 (a : Nat)] w fun e w' => e = .returned (errR (accV s a)) ∧ Below w.heap.size w w' := by
  cases hm : mayV s with
  | false => exact acc_no s ok a hm w hO
  | true =>
    by_cases h : a < 256
    · by_cases h4 : a % 4 = 0
      · exact acc_ok s ok a hm h h4 w hO
      · exact acc_od s ok a hm h h4 w hO
    · exact acc_ge s ok a hm (by omega) w hO
theorem accV_cases (s : V) (a : Nat) : accV s a = 0 ∨ accV s a = 1 ∨ accV s a = 20 := by
  unfold accV; split
  · split
    · exact Or.inl rfl
    · exact Or.inr (Or.inr rfl)
  · exact Or.inr (Or.inl rfl)
end Go.Proofs.YtbggkoahofnnjaaGreatDoor
namespace Go.Proofs.YtbggkoahofnnjaaGreatDoor
open Go.RowKit
set_option maxHeartbeats 1000000
attribute [local go_sem] V.at0 V.at1 V.at2 V.at3 V.at4 V.at5 V.at6 V.at7 V.at8 V.at9 V.at10 V.at11 V.at12 V.at13 V.at14 V.at15 V.at16 V.at17 V.at18 V.at19 V.at20 Qu.at0 Qu.at1 Qu.at2 Qu.at3 Qu.at4 Qu.at5 Qu.at6
def StViRead0 (s : V) (id : Nat) (a : Nat) (w : World) : Prop := Calls prog 24 #[.agg s.cells, .int .u32 (id : Nat), .int .u32 (a : Nat)] w fun e w' => e = .returned (.tuple #[.int .u32 ((vreadV s id a).1 : Nat), errR (vreadV s id a).2]) ∧ Below w.heap.size w w'
theorem read_e1 (s : V) (ok : s.Ok) (id a : Nat) (hm : accV s a = 1) (w : World) (hO : OffAt w) :
    StViRead0 s id a w := by
  unfold StViRead0
  have HV : vreadV s id a = (0, 1) := by unfold vreadV; rw [hm]; rfl
  rw [HV]; clear HV
  have HC := hide (fun w (hO : OffAt w) => acc_any s ok a w hO)
  rw [hm] at HC
  have HC : Hid (∀ w, OffAt w → Calls prog 57 #[.agg s.cells, .int .u32 (a : Nat)] w fun e w' => e = .returned (.iface 82 (.int .i64 1)) ∧ Below w.heap.size w w') := HC
  go_enter func24, ntmps24
  go_wp2_with (first | ((with_reducible refine bx_vp w.heap.size s ?_ ?_ ?_); exact rfl; exact rfl; intro W hr hb hz; have fx := hr.cell) | ((with_reducible refine ld_vp w.heap.size _ hr ?_ ?_ ?_); exact rfl; exact rfl) | (go_at_call 57; (with_reducible refine (HC.out _ (hO.bl hb)).mono ?_); rintro e W ⟨rfl, hbc⟩; replace hr := hr.bl hbc; replace fx := hr.cell; replace hb := below_bl rfl hb hbc))
  go_ret2
  exact ⟨rfl, hb⟩
theorem read_e20 (s : V) (ok : s.Ok) (id a : Nat) (hm : accV s a = 20) (w : World) (hO : OffAt w) :
    StViRead0 s id a w := by
  unfold StViRead0
  have HV : vreadV s id a = (0, 20) := by unfold vreadV; rw [hm]; rfl
  rw [HV]; clear HV
  have HC := hide (fun w (hO : OffAt w) => acc_any s ok a w hO)
  rw [hm] at HC
  have HC : Hid (∀ w, OffAt w → Calls prog 57 #[.agg s.cells, .int .u32 (a : Nat)] w fun e w' => e = .returned (.iface 82 (.int .i64 20)) ∧ Below w.heap.size w w') := HC
  go_enter func24, ntmps24
  go_wp2_with (first | ((with_reducible refine bx_vp w.heap.size s ?_ ?_ ?_); exact rfl; exact rfl; intro W hr hb hz; have fx := hr.cell) | ((with_reducible refine ld_vp w.heap.size _ hr ?_ ?_ ?_); exact rfl; exact rfl) | (go_at_call 57; (with_reducible refine (HC.out _ (hO.bl hb)).mono ?_); rintro e W ⟨rfl, hbc⟩; replace hr := hr.bl hbc; replace fx := hr.cell; replace hb := below_bl rfl hb hbc))
  go_ret2
  exact ⟨rfl, hb⟩
theorem read_0 (s : V) (ok : s.Ok) (id a : Nat) (hm : accV s a = 0) (h : a = 0) (w : World) (hO : OffAt w) :
    StViRead0 s id a w := by
  unfold StViRead0
  have HV : vreadV s id a = (1953655158, 0) := by unfold vreadV; rw [if_pos hm]; unfold readS; subst h; rfl
  rw [HV]; clear HV
  have HC := hide (fun w (hO : OffAt w) => acc_any s ok a w hO)
  rw [hm] at HC
  have HC : Hid (∀ w, OffAt w → Calls prog 57 #[.agg s.cells, .int .u32 (a : Nat)] w fun e w' => e = .returned (.nilIface) ∧ Below w.heap.size w w') := HC
  subst h
  rw [show ((0 : Nat) : Int) = 0 from rfl] at HC ⊢
  go_enter func24, ntmps24
  go_wp2_with (first | ((with_reducible refine bx_vp w.heap.size s ?_ ?_ ?_); exact rfl; exact rfl; intro W hr hb hz; have fx := hr.cell) | ((with_reducible refine ld_vp w.heap.size _ hr ?_ ?_ ?_); exact rfl; exact rfl) | (go_at_call 57; (with_reducible refine (HC.out _ (hO.bl hb)).mono ?_); rintro e W ⟨rfl, hbc⟩; replace hr := hr.bl hbc; replace fx := hr.cell; replace hb := below_bl rfl hb hbc))
  go_ret2
  exact ⟨rfl, hb⟩
theorem read_4 (s : V) (ok : s.Ok) (id a : Nat) (hm : accV s a = 0) (h : a = 4) (w : World) (hO : OffAt w) :
    StViRead0 s id a w := by
  unfold StViRead0
  have HV : vreadV s id a = (2, 0) := by unfold vreadV; rw [if_pos hm]; unfold readS; subst h; rfl
  rw [HV]; clear HV
  have HC := hide (fun w (hO : OffAt w) => acc_any s ok a w hO)
  rw [hm] at HC
  have HC : Hid (∀ w, OffAt w → Calls prog 57 #[.agg s.cells, .int .u32 (a : Nat)] w fun e w' => e = .returned (.nilIface) ∧ Below w.heap.size w w') := HC
  subst h
  rw [show ((4 : Nat) : Int) = 4 from rfl] at HC ⊢
  go_enter func24, ntmps24
  go_wp2_with (first | ((with_reducible refine bx_vp w.heap.size s ?_ ?_ ?_); exact rfl; exact rfl; intro W hr hb hz; have fx := hr.cell) | ((with_reducible refine ld_vp w.heap.size _ hr ?_ ?_ ?_); exact rfl; exact rfl) | (go_at_call 57; (with_reducible refine (HC.out _ (hO.bl hb)).mono ?_); rintro e W ⟨rfl, hbc⟩; replace hr := hr.bl hbc; replace fx := hr.cell; replace hb := below_bl rfl hb hbc))
  go_ret2
  exact ⟨rfl, hb⟩
theorem read_8 (s : V) (ok : s.Ok) (id a : Nat) (hm : accV s a = 0) (h : a = 8) (w : World) (hO : OffAt w) :
    StViRead0 s id a w := by
  unfold StViRead0
  have HV : vreadV s id a = (id, 0) := by unfold vreadV; rw [if_pos hm]; unfold readS; subst h; rfl
  rw [HV]; clear HV
  have HC := hide (fun w (hO : OffAt w) => acc_any s ok a w hO)
  rw [hm] at HC
  have HC : Hid (∀ w, OffAt w → Calls prog 57 #[.agg s.cells, .int .u32 (a : Nat)] w fun e w' => e = .returned (.nilIface) ∧ Below w.heap.size w w') := HC
  subst h
  rw [show ((8 : Nat) : Int) = 8 from rfl] at HC ⊢
  go_enter func24, ntmps24
  go_wp2_with (first | ((with_reducible refine bx_vp w.heap.size s ?_ ?_ ?_); exact rfl; exact rfl; intro W hr hb hz; have fx := hr.cell) | ((with_reducible refine ld_vp w.heap.size _ hr ?_ ?_ ?_); exact rfl; exact rfl) | (go_at_call 57; (with_reducible refine (HC.out _ (hO.bl hb)).mono ?_); rintro e W ⟨rfl, hbc⟩; replace hr := hr.bl hbc; replace fx := hr.cell; replace hb := below_bl rfl hb hbc))
  go_ret2
  exact ⟨rfl, hb⟩
theorem read_12 (s : V) (ok : s.Ok) (id a : Nat) (hm : accV s a = 0) (h : a = 12) (w : World) (hO : OffAt w) :
    StViRead0 s id a w := by
  unfold StViRead0
  have HV : vreadV s id a = (1347305795, 0) := by unfold vreadV; rw [if_pos hm]; unfold readS; subst h; rfl
  rw [HV]; clear HV
  have HC := hide (fun w (hO : OffAt w) => acc_any s ok a w hO)
  rw [hm] at HC
  have HC : Hid (∀ w, OffAt w → Calls prog 57 #[.agg s.cells, .int .u32 (a : Nat)] w fun e w' => e = .returned (.nilIface) ∧ Below w.heap.size w w') := HC
  subst h
  rw [show ((12 : Nat) : Int) = 12 from rfl] at HC ⊢
  go_enter func24, ntmps24
  go_wp2_with (first | ((with_reducible refine bx_vp w.heap.size s ?_ ?_ ?_); exact rfl; exact rfl; intro W hr hb hz; have fx := hr.cell) | ((with_reducible refine ld_vp w.heap.size _ hr ?_ ?_ ?_); exact rfl; exact rfl) | (go_at_call 57; (with_reducible refine (HC.out _ (hO.bl hb)).mono ?_); rintro e W ⟨rfl, hbc⟩; replace hr := hr.bl hbc; replace fx := hr.cell; replace hb := below_bl rfl hb hbc))
  go_ret2
  exact ⟨rfl, hb⟩
theorem read_96 (s : V) (ok : s.Ok) (id a : Nat) (hm : accV s a = 0) (h : a = 96) (w : World) (hO : OffAt w) :
    StViRead0 s id a w := by
  unfold StViRead0
  have HV : vreadV s id a = (s.ir, 0) := by unfold vreadV; rw [if_pos hm]; unfold readS; subst h; rfl
  rw [HV]; clear HV
  have HC := hide (fun w (hO : OffAt w) => acc_any s ok a w hO)
  rw [hm] at HC
  have HC : Hid (∀ w, OffAt w → Calls prog 57 #[.agg s.cells, .int .u32 (a : Nat)] w fun e w' => e = .returned (.nilIface) ∧ Below w.heap.size w w') := HC
  subst h
  rw [show ((96 : Nat) : Int) = 96 from rfl] at HC ⊢
  go_enter func24, ntmps24
  go_wp2_with (first | ((with_reducible refine bx_vp w.heap.size s ?_ ?_ ?_); exact rfl; exact rfl; intro W hr hb hz; have fx := hr.cell) | ((with_reducible refine ld_vp w.heap.size _ hr ?_ ?_ ?_); exact rfl; exact rfl) | (go_at_call 57; (with_reducible refine (HC.out _ (hO.bl hb)).mono ?_); rintro e W ⟨rfl, hbc⟩; replace hr := hr.bl hbc; replace fx := hr.cell; replace hb := below_bl rfl hb hbc))
  go_ret2
  exact ⟨rfl, hb⟩
theorem read_112 (s : V) (ok : s.Ok) (id a : Nat) (hm : accV s a = 0) (h : a = 112) (w : World) (hO : OffAt w) :
    StViRead0 s id a w := by
  unfold StViRead0
  have HV : vreadV s id a = (s.st, 0) := by unfold vreadV; rw [if_pos hm]; unfold readS; subst h; rfl
  rw [HV]; clear HV
  have HC := hide (fun w (hO : OffAt w) => acc_any s ok a w hO)
  rw [hm] at HC
  have HC : Hid (∀ w, OffAt w → Calls prog 57 #[.agg s.cells, .int .u32 (a : Nat)] w fun e w' => e = .returned (.nilIface) ∧ Below w.heap.size w w') := HC
  subst h
  rw [show ((112 : Nat) : Int) = 112 from rfl] at HC ⊢
  go_enter func24, ntmps24
  go_wp2_with (first | ((with_reducible refine bx_vp w.heap.size s ?_ ?_ ?_); exact rfl; exact rfl; intro W hr hb hz; have fx := hr.cell) | ((with_reducible refine ld_vp w.heap.size _ hr ?_ ?_ ?_); exact rfl; exact rfl) | (go_at_call 57; (with_reducible refine (HC.out _ (hO.bl hb)).mono ?_); rintro e W ⟨rfl, hbc⟩; replace hr := hr.bl hbc; replace fx := hr.cell; replace hb := below_bl rfl hb hbc))
  go_ret2
  exact ⟨rfl, hb⟩
theorem read_16 (s : V) (ok : s.Ok) (id a : Nat) (hm : accV s a = 0) (h : a = 16) (w : World) (hO : OffAt w) :
    StViRead0 s id a w := by
  unfold StViRead0
  have HV : vreadV s id a = (if s.fs = 1 then 1 else 0, 0) := by unfold vreadV; rw [if_pos hm]; unfold readS; subst h; rfl
  rw [HV]; clear HV
  have HC := hide (fun w (hO : OffAt w) => acc_any s ok a w hO)
  rw [hm] at HC
  have HC : Hid (∀ w, OffAt w → Calls prog 57 #[.agg s.cells, .int .u32 (a : Nat)] w fun e w' => e = .returned (.nilIface) ∧ Below w.heap.size w w') := HC
  subst h
  rw [show ((16 : Nat) : Int) = 16 from rfl] at HC ⊢
  have HF := hide (fun w (hO : OffAt w) => feature_any s.fs w hO)
  generalize (if s.fs = 1 then 1 else 0) = z at HF ⊢
  go_enter func24, ntmps24
  go_wp2_with (first | ((with_reducible refine bx_vp w.heap.size s ?_ ?_ ?_); exact rfl; exact rfl; intro W hr hb hz; have fx := hr.cell) | ((with_reducible refine ld_vp w.heap.size _ hr ?_ ?_ ?_); exact rfl; exact rfl) | (go_at_call 57; (with_reducible refine (HC.out _ (hO.bl hb)).mono ?_); rintro e W ⟨rfl, hbc⟩; replace hr := hr.bl hbc; replace fx := hr.cell; replace hb := below_bl rfl hb hbc) | (go_at_call 58; (with_reducible refine (HF.out _ (hO.bl hb)).mono ?_); rintro e W ⟨rfl, hbc⟩; replace hr := hr.bl hbc; replace fx := hr.cell; replace hb := below_bl rfl hb hbc))
  go_ret2
  exact ⟨rfl, hb⟩
theorem vread_far (s : V) (ok : s.Ok) (id a : Nat) (hm : accV s a = 0) (n0 : a ≠ 0) (n4 : a ≠ 4) (n8 : a ≠ 8) (n12 : a ≠ 12) (n16 : a ≠ 16) (n96 : a ≠ 96) (n112 : a ≠ 112) (hs : 2 ≤ s.se) (w : World) (hO : OffAt w) :
    StViRead0 s id a w := by
  unfold StViRead0
  have HV : vreadV s id a = (0, 0) := by unfold vreadV; rw [if_pos hm]; unfold readS; rw [if_neg n0, if_neg n4, if_neg n8, if_neg n12, if_neg n16, if_neg n96, if_neg n112, if_neg (show ¬ s.se < 2 by omega)]
  rw [HV]; clear HV
  have l0 : ((a : Int) == 0) = false := by simp; omega
  have m0 : (a == 0) = false := by simp; omega
  have l4 : ((a : Int) == 4) = false := by simp; omega
  have m4 : (a == 4) = false := by simp; omega
  have l8 : ((a : Int) == 8) = false := by simp; omega
  have m8 : (a == 8) = false := by simp; omega
  have l12 : ((a : Int) == 12) = false := by simp; omega
  have m12 : (a == 12) = false := by simp; omega
  have l16 : ((a : Int) == 16) = false := by simp; omega
  have m16 : (a == 16) = false := by simp; omega
  have l96 : ((a : Int) == 96) = false := by simp; omega
  have m96 : (a == 96) = false := by simp; omega
  have l112 : ((a : Int) == 112) = false := by simp; omega
  have m112 : (a == 112) = false := by simp; omega
  have lt : decide ((s.se : Int) < 2) = false := by simp; omega
  have ltb : decide (s.se < 2) = false := by simp; omega
  clear n0 n4 n8 n12 n16 n96 n112
  have HC := hide (fun w (hO : OffAt w) => acc_any s ok a w hO)
  rw [hm] at HC
  have HC : Hid (∀ w, OffAt w → Calls prog 57 #[.agg s.cells, .int .u32 (a : Nat)] w fun e w' => e = .returned (.nilIface) ∧ Below w.heap.size w w') := HC
  go_enter func24, ntmps24
  go_wp2_with (first | ((with_reducible refine bx_vp w.heap.size s ?_ ?_ ?_); exact rfl; exact rfl; intro W hr hb hz; have fx := hr.cell) | ((with_reducible refine ld_vp w.heap.size _ hr ?_ ?_ ?_); exact rfl; exact rfl) | (go_at_call 57; (with_reducible refine (HC.out _ (hO.bl hb)).mono ?_); rintro e W ⟨rfl, hbc⟩; replace hr := hr.bl hbc; replace fx := hr.cell; replace hb := below_bl rfl hb hbc))
  go_ret2
  exact ⟨rfl, hb⟩
theorem read_q0 (s : V) (ok : s.Ok) (id a : Nat) (hm : accV s a = 0) (n0 : a ≠ 0) (n4 : a ≠ 4) (n8 : a ≠ 8) (n12 : a ≠ 12) (n16 : a ≠ 16) (n96 : a ≠ 96) (n112 : a ≠ 112) (hs : s.se = 0) (w : World) (hO : OffAt w) :
    StViRead0 s id a w := by
  unfold StViRead0
  have HV : vreadV s id a = (if a = 52 then 256 else if a = 68 then (if s.q0.rd = true then 1 else 0) else 0, 0) := by unfold vreadV; rw [if_pos hm]; unfold readS; rw [if_neg n0, if_neg n4, if_neg n8, if_neg n12, if_neg n16, if_neg n96, if_neg n112, if_pos (show s.se < 2 by omega), hs]; rfl
  rw [HV]; clear HV
  have l0 : ((a : Int) == 0) = false := by simp; omega
  have m0 : (a == 0) = false := by simp; omega
  have l4 : ((a : Int) == 4) = false := by simp; omega
  have m4 : (a == 4) = false := by simp; omega
  have l8 : ((a : Int) == 8) = false := by simp; omega
  have m8 : (a == 8) = false := by simp; omega
  have l12 : ((a : Int) == 12) = false := by simp; omega
  have m12 : (a == 12) = false := by simp; omega
  have l16 : ((a : Int) == 16) = false := by simp; omega
  have m16 : (a == 16) = false := by simp; omega
  have l96 : ((a : Int) == 96) = false := by simp; omega
  have m96 : (a == 96) = false := by simp; omega
  have l112 : ((a : Int) == 112) = false := by simp; omega
  have m112 : (a == 112) = false := by simp; omega
  have hse : ((s.se : Nat) : Int) = 0 := by omega
  clear n0 n4 n8 n12 n16 n96 n112
  have HC := hide (fun w (hO : OffAt w) => acc_any s ok a w hO)
  rw [hm] at HC
  have HC : Hid (∀ w, OffAt w → Calls prog 57 #[.agg s.cells, .int .u32 (a : Nat)] w fun e w' => e = .returned (.nilIface) ∧ Below w.heap.size w w') := HC
  have HQ := hide (fun w => readq_any s.q0 a w)
  generalize (if a = 52 then 256 else if a = 68 then (if s.q0.rd = true then 1 else 0) else 0) = z at HQ ⊢
  clear hs
  go_enter func24, ntmps24
  go_wp2_with (first | ((with_reducible refine bx_vp w.heap.size s ?_ ?_ ?_); exact rfl; exact rfl; intro W hr hb hz; have fx := hr.cell) | ((with_reducible refine ld_vp w.heap.size _ hr ?_ ?_ ?_); exact rfl; exact rfl) | (go_at_call 57; (with_reducible refine (HC.out _ (hO.bl hb)).mono ?_); rintro e W ⟨rfl, hbc⟩; replace hr := hr.bl hbc; replace fx := hr.cell; replace hb := below_bl rfl hb hbc) | ((with_reducible refine ld_q0p w.heap.size _ _ hr ?_ ?_ ?_); exact rfl; exact rfl) | (go_at_call 59; (with_reducible refine (HQ.out _).mono ?_); rintro e W ⟨rfl, hbc⟩; replace hr := hr.bl hbc; replace fx := hr.cell; replace hb := below_bl rfl hb hbc))
  go_ret2
  exact ⟨rfl, hb⟩
theorem read_q1 (s : V) (ok : s.Ok) (id a : Nat) (hm : accV s a = 0) (n0 : a ≠ 0) (n4 : a ≠ 4) (n8 : a ≠ 8) (n12 : a ≠ 12) (n16 : a ≠ 16) (n96 : a ≠ 96) (n112 : a ≠ 112) (hs : s.se = 1) (w : World) (hO : OffAt w) :
    StViRead0 s id a w := by
  unfold StViRead0
  have HV : vreadV s id a = (if a = 52 then 256 else if a = 68 then (if s.q1.rd = true then 1 else 0) else 0, 0) := by unfold vreadV; rw [if_pos hm]; unfold readS; rw [if_neg n0, if_neg n4, if_neg n8, if_neg n12, if_neg n16, if_neg n96, if_neg n112, if_pos (show s.se < 2 by omega), hs]; rfl
  rw [HV]; clear HV
  have l0 : ((a : Int) == 0) = false := by simp; omega
  have m0 : (a == 0) = false := by simp; omega
  have l4 : ((a : Int) == 4) = false := by simp; omega
  have m4 : (a == 4) = false := by simp; omega
  have l8 : ((a : Int) == 8) = false := by simp; omega
  have m8 : (a == 8) = false := by simp; omega
  have l12 : ((a : Int) == 12) = false := by simp; omega
  have m12 : (a == 12) = false := by simp; omega
  have l16 : ((a : Int) == 16) = false := by simp; omega
  have m16 : (a == 16) = false := by simp; omega
  have l96 : ((a : Int) == 96) = false := by simp; omega
  have m96 : (a == 96) = false := by simp; omega
  have l112 : ((a : Int) == 112) = false := by simp; omega
  have m112 : (a == 112) = false := by simp; omega
  have hse : ((s.se : Nat) : Int) = 1 := by omega
  clear n0 n4 n8 n12 n16 n96 n112
  have HC := hide (fun w (hO : OffAt w) => acc_any s ok a w hO)
  rw [hm] at HC
  have HC : Hid (∀ w, OffAt w → Calls prog 57 #[.agg s.cells, .int .u32 (a : Nat)] w fun e w' => e = .returned (.nilIface) ∧ Below w.heap.size w w') := HC
  have HQ := hide (fun w => readq_any s.q1 a w)
  generalize (if a = 52 then 256 else if a = 68 then (if s.q1.rd = true then 1 else 0) else 0) = z at HQ ⊢
  clear hs
  go_enter func24, ntmps24
  go_wp2_with (first | ((with_reducible refine bx_vp w.heap.size s ?_ ?_ ?_); exact rfl; exact rfl; intro W hr hb hz; have fx := hr.cell) | ((with_reducible refine ld_vp w.heap.size _ hr ?_ ?_ ?_); exact rfl; exact rfl) | (go_at_call 57; (with_reducible refine (HC.out _ (hO.bl hb)).mono ?_); rintro e W ⟨rfl, hbc⟩; replace hr := hr.bl hbc; replace fx := hr.cell; replace hb := below_bl rfl hb hbc) | ((with_reducible refine ld_q1p w.heap.size _ _ hr ?_ ?_ ?_); exact rfl; exact rfl) | (go_at_call 59; (with_reducible refine (HQ.out _).mono ?_); rintro e W ⟨rfl, hbc⟩; replace hr := hr.bl hbc; replace fx := hr.cell; replace hb := below_bl rfl hb hbc))
  go_ret2
  exact ⟨rfl, hb⟩
theorem read_any (s : V) (ok : s.Ok) (id a : Nat) (w : World) (hO : OffAt w) : Calls prog 24 #[.agg s.cells, .int .u32 (id : Nat), .int .u32 (a : Nat)] w fun e w' => e = .returned (.tuple #[.int .u32 ((vreadV s id a).1 : Nat), errR (vreadV s id a).2]) ∧ Below w.heap.size w w' := by
  rcases accV_cases s a with hm | hm | hm
  · by_cases n0 : a = 0
    · exact read_0 s ok id a hm n0 w hO
    by_cases n4 : a = 4
    · exact read_4 s ok id a hm n4 w hO
    by_cases n8 : a = 8
    · exact read_8 s ok id a hm n8 w hO
    by_cases n12 : a = 12
    · exact read_12 s ok id a hm n12 w hO
    by_cases n16 : a = 16
    · exact read_16 s ok id a hm n16 w hO
    by_cases n96 : a = 96
    · exact read_96 s ok id a hm n96 w hO
    by_cases n112 : a = 112
    · exact read_112 s ok id a hm n112 w hO
    by_cases h2 : 2 ≤ s.se
    · exact vread_far s ok id a hm n0 n4 n8 n12 n16 n96 n112 h2 w hO
    by_cases h0 : s.se = 0
    · exact read_q0 s ok id a hm n0 n4 n8 n12 n16 n96 n112 h0 w hO
    · exact read_q1 s ok id a hm n0 n4 n8 n12 n16 n96 n112 (by omega) w hO
  · exact read_e1 s ok id a hm w hO
  · exact read_e20 s ok id a hm w hO
end Go.Proofs.YtbggkoahofnnjaaGreatDoor
namespace Go.Proofs.YtbggkoahofnnjaaGreatDoor
open Go.RowKit
theorem part_qr (q : Qu) : q.cells.extract 1 7 = q.r.cells := by kernel_rfl
theorem part_drv (s : V) : s.cells.extract 5 7 = s.drv := by kernel_rfl
theorem part_qs (s : V) : s.cells.extract 7 21 = s.qs := by kernel_rfl
theorem part_q0 (s : V) : s.qs.extract 0 7 = s.q0.cells := by kernel_rfl
theorem part_q1 (s : V) : s.qs.extract 7 14 = s.q1.cells := by kernel_rfl
theorem info_qp : ∃ i, prog.info? 36 = some i ∧ i.size = 7 := by
  have := size_qp
  cases hq : prog.info? 36 with
  | none => simp [hq] at this
  | some i => exact ⟨i, rfl, by simpa [hq] using this⟩
variable {ops : Array Oper} {rest : List Oper} {dst : Option Tmp} {ty t2 : TypeId} {after : Array Edge} {a : Act} {x y : Operand} {gd : Option (Nat × Bool)} {pos : String} {S : World → Prop} {w : World} {Q : Exit → Act → World → Prop} {K : Act → World → Prop}
end Go.Proofs.YtbggkoahofnnjaaGreatDoor
