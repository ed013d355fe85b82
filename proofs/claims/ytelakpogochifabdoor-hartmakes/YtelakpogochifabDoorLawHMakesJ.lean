/-
  HartMakes: of every hart that may be, every operation on two registers and every three registers: the word made of them is what alu makes of them; nothing else changes but where the hart is, and its count; what must come whatever the input is comes; the arguments stay. The conditions: inst's kinds and words, hart's operations on numbers and widths read as the program's text lays them, to which the card ties them.
-/
import Derived.Test.YtelakpogochifabDoorHaG
import Derived.Test.YtelakpogochifabDoorHInBackM
import Derived.Deep.RegionHeld3
import Derived.Test.YtelakpogochifabDoorHaOpen
import Derived.Test.YtelakpogochifabDoorHaLaid
import Derived.Test.YtelakpogochifabDoorArrays
namespace Go.Proofs.YtelakpogochifabDoor
open Go.RowKit
set_option linter.unusedVariables false

def f3L : List Nat := [0, 0, 1, 2, 3, 4, 5, 5, 6, 7, 0, 1, 2, 3, 4, 5, 6, 7]
def f7L : List Nat := [0, 32, 0, 0, 0, 0, 0, 32, 0, 0, 1, 1, 1, 1, 1, 1, 1, 1]
def f3N (k : Nat) : Nat := f3L.getD k 0
def f7N (k : Nat) : Nat := f7L.getD k 0
def f3C : Array Value := #[.int .u32 0, .int .u32 0, .int .u32 1, .int .u32 2, .int .u32 3, .int .u32 4, .int .u32 5, .int .u32 5, .int .u32 6, .int .u32 7, .int .u32 0, .int .u32 1, .int .u32 2, .int .u32 3, .int .u32 4, .int .u32 5, .int .u32 6, .int .u32 7]
def f7C : Array Value := #[.int .u32 0, .int .u32 32, .int .u32 0, .int .u32 0, .int .u32 0, .int .u32 0, .int .u32 0, .int .u32 32, .int .u32 0, .int .u32 0, .int .u32 1, .int .u32 1, .int .u32 1, .int .u32 1, .int .u32 1, .int .u32 1, .int .u32 1, .int .u32 1]
theorem f3C_at (k : Nat) (hk : k < 18) : f3C[k]? = some (.int .u32 (f3N k : Nat)) := by
  rcases k with _ | _ | _ | _ | _ | _ | _ | _ | _ | _ | _ | _ | _ | _ | _ | _ | _ | _ | k
  all_goals first | rfl | omega
theorem f7C_at (k : Nat) (hk : k < 18) : f7C[k]? = some (.int .u32 (f7N k : Nat)) := by
  rcases k with _ | _ | _ | _ | _ | _ | _ | _ | _ | _ | _ | _ | _ | _ | _ | _ | _ | _ | k
  all_goals first | rfl | omega
theorem f3N_lt (k : Nat) (hk : k < 18) : f3N k < 8 := by
  rcases k with _ | _ | _ | _ | _ | _ | _ | _ | _ | _ | _ | _ | _ | _ | _ | _ | _ | _ | k
  all_goals first | decide | omega
theorem f7N_lt (k : Nat) (hk : k < 18) : f7N k < 64 := by
  rcases k with _ | _ | _ | _ | _ | _ | _ | _ | _ | _ | _ | _ | _ | _ | _ | _ | _ | _ | k
  all_goals first | decide | omega
theorem word_k (k : Nat) (hk : k < 18) : wordN (27 + k) = f7N k * 33554432 + f3N k * 4096 + 51 := by
  rcases k with _ | _ | _ | _ | _ | _ | _ | _ | _ | _ | _ | _ | _ | _ | _ | _ | _ | _ | k
  all_goals first | rfl | omega
theorem kind_k (k : Nat) (hk : k < 18) : kindN (27 + k) = 82 := by
  rcases k with _ | _ | _ | _ | _ | _ | _ | _ | _ | _ | _ | _ | _ | _ | _ | _ | _ | _ | k
  all_goals first | rfl | omega
/-- The word. -/
def mkW (k rd a b : Nat) : Nat := f7N k * 33554432 + b * 1048576 + a * 32768 + f3N k * 4096 + rd * 128 + 51
theorem mkW_lt (k rd a b : Nat) (hk : k < 18) (h0 : rd < 32) (h1 : a < 32) (h2 : b < 32) : mkW k rd a b < 4294967296 := by
  have := f3N_lt k hk
  have := f7N_lt k hk
  unfold mkW; omega
theorem mkW_laid (k rd a b : Nat) (hk : k < 18) (h0 : rd < 32) (h1 : a < 32) (h2 : b < 32) : laidN (27 + k) ⟨(27 + k : Nat), rd, a, b, 0, 0⟩ = mkW k rd a b := by
  rw [laidN_K, kind_k k hk]
  have hw := word_k k hk
  have g3 := f3N_lt k hk
  have g7 := f7N_lt k hk
  rw [laid_R (wordN (27 + k)) (by rw [hw]; omega) _ rd a b h0 h1 h2, hw]
  unfold mkW; omega
theorem decOp_of {v op : Nat} (hop : op < 57) (h : matchN op v = true) : decOp v = some op := by
  cases hd : decOp v with
  | none => have := decOp_none hd op hop; rw [h] at this; cases this
  | some o => obtain ⟨h1, h2, _⟩ := decOp_some hd; rw [match_one o op v h1 hop h2 h]
theorem doOp_R (h : H) (k : Nat) (hk : k < 18) (rd a b v : Nat) : doOp h (27 + k) ⟨(27 + k : Nat), rd, a, b, 0, 0⟩ v 0 = (nextH (writeH h rd (doN k (h.x a) (h.x b))), noA) := by
  rcases k with _ | _ | _ | _ | _ | _ | _ | _ | _ | _ | _ | _ | _ | _ | _ | _ | _ | _ | k
  all_goals first | rfl | omega
theorem doH_of (h : H) (v op l : Nat) (i : I6) (hd : decOp v = some op) (ht : toldN op v = i) : doH h v l = doOp h op i v l := by
  subst ht
  simp only [doH, hd]
theorem mk_do (h : H) (k rd a b : Nat) (hk : k < 18) (h0 : rd < 32) (h1 : a < 32) (h2 : b < 32) : doH h (mkW k rd a b) 0 = (nextH (writeH h rd (doN k (h.x a) (h.x b))), noA) := by
  have hv : ValidK (kindN (27 + k)) ⟨(27 + k : Nat), rd, a, b, 0, 0⟩ := by
    rw [kind_k k hk]
    simp [ValidK]
    omega
  obtain ⟨e1, e2⟩ := valid_ok (27 + k) (by omega) ⟨(27 + k : Nat), rd, a, b, 0, 0⟩ rfl hv
  rw [mkW_laid k rd a b hk h0 h1 h2] at e1 e2
  generalize mkW k rd a b = v at e1 e2
  rw [doH_of h v (27 + k) 0 _ (decOp_of (by omega) e2) e1, doOp_R h k hk]
theorem or_add (x y n : Nat) (hy : y < 2 ^ n) : x * 2 ^ n ||| y = x * 2 ^ n + y := by
  rw [Nat.mul_comm]; exact (Nat.two_pow_add_eq_or_of_lt hy x).symm
theorem mk_or (k rd a b : Nat) (hk : k < 18) (h0 : rd < 32) (h1 : a < 32) (h2 : b < 32) :
    ((((f7N k * 33554432 ||| b * 1048576) ||| a * 32768) ||| f3N k * 4096) ||| rd * 128) ||| 51 = mkW k rd a b := by
  have g3 := f3N_lt k hk
  have g7 := f7N_lt k hk
  have e1 : f7N k * 33554432 ||| b * 1048576 = (f7N k * 32 + b) * 1048576 := by
    have := or_add (f7N k) (b * 1048576) 25 (by omega)
    rw [show (2 : Nat) ^ 25 = 33554432 from rfl] at this
    rw [this]; omega
  have e2 : (f7N k * 32 + b) * 1048576 ||| a * 32768 = ((f7N k * 32 + b) * 32 + a) * 32768 := by
    have := or_add (f7N k * 32 + b) (a * 32768) 20 (by omega)
    rw [show (2 : Nat) ^ 20 = 1048576 from rfl] at this
    rw [this]; omega
  have e3 : ((f7N k * 32 + b) * 32 + a) * 32768 ||| f3N k * 4096 = (((f7N k * 32 + b) * 32 + a) * 8 + f3N k) * 4096 := by
    have := or_add ((f7N k * 32 + b) * 32 + a) (f3N k * 4096) 15 (by omega)
    rw [show (2 : Nat) ^ 15 = 32768 from rfl] at this
    rw [this]; omega
  have e4 : (((f7N k * 32 + b) * 32 + a) * 8 + f3N k) * 4096 ||| rd * 128 = ((((f7N k * 32 + b) * 32 + a) * 8 + f3N k) * 32 + rd) * 128 := by
    have := or_add (((f7N k * 32 + b) * 32 + a) * 8 + f3N k) (rd * 128) 12 (by omega)
    rw [show (2 : Nat) ^ 12 = 4096 from rfl] at this
    rw [this]; omega
  have e5 : ((((f7N k * 32 + b) * 32 + a) * 8 + f3N k) * 32 + rd) * 128 ||| 51 = ((((f7N k * 32 + b) * 32 + a) * 8 + f3N k) * 32 + rd) * 128 + 51 := by
    have := or_add ((((f7N k * 32 + b) * 32 + a) * 8 + f3N k) * 32 + rd) 51 7 (by decide)
    rw [show (2 : Nat) ^ 7 = 128 from rfl] at this
    exact this
  rw [e1, e2, e3, e4, e5]
  unfold mkW; omega
/-- The same as the program's words. -/
theorem mk_bits (k rd a b : Nat) (hk : k < 18) (h0 : rd < 32) (h1 : a < 32) (h2 : b < 32) :
    bits .or .u32 (bits .or .u32 (bits .or .u32 (bits .or .u32 (bits .or .u32 (((f7N k : Nat) : Int) * 33554432) ((b : Int) * 1048576)) ((a : Int) * 32768)) (((f3N k : Nat) : Int) * 4096)) ((rd : Int) * 128)) 51 = ((mkW k rd a b : Nat) : Int) := by
  have g3 := f3N_lt k hk
  have g7 := f7N_lt k hk
  have c7 : ((f7N k : Nat) : Int) * 33554432 = ((f7N k * 33554432 : Nat) : Int) := by omega
  have cb : (b : Int) * 1048576 = ((b * 1048576 : Nat) : Int) := by omega
  have ca : (a : Int) * 32768 = ((a * 32768 : Nat) : Int) := by omega
  have c3 : ((f3N k : Nat) : Int) * 4096 = ((f3N k * 4096 : Nat) : Int) := by omega
  have cr : (rd : Int) * 128 = ((rd * 128 : Nat) : Int) := by omega
  rw [c7, cb, ca, c3, cr, u32_or_nat _ _ (by omega) (by omega), u32_or_nat _ _ (or_lt32 (by omega) (by omega)) (by omega), u32_or_nat _ _ (or_lt32 (or_lt32 (by omega) (by omega)) (by omega)) (by omega),
    u32_or_nat _ _ (or_lt32 (or_lt32 (or_lt32 (by omega) (by omega)) (by omega)) (by omega)) (by omega)]
  have := u32_or_nat ((((f7N k * 33554432 ||| b * 1048576) ||| a * 32768) ||| f3N k * 4096) ||| rd * 128) 51 (or_lt32 (or_lt32 (or_lt32 (or_lt32 (by omega) (by omega)) (by omega)) (by omega)) (by omega)) (by decide)
  rw [show ((51 : Nat) : Int) = 51 from rfl] at this
  rw [this, mk_or k rd a b hk h0 h1 h2]
end Go.Proofs.YtelakpogochifabDoor
namespace Go.Proofs.YtelakpogochifabDoor
open Go.RowKit
set_option linter.unusedVariables false

attribute [local go_sem] H.at0 H.at33 H.at41 A6.at0

variable {ops : Array Oper} {rest : List Oper} {dst : Option Tmp} {ty t2 : TypeId} {after : Array Edge} {a : Act} {w : World} {Q : Exit → Act → World → Prop} {x y : Operand} {gd : Option (Nat × Bool)} {parts : Array (Nat × Operand)}
theorem gl_h {pos : String} (b : Nat) (h : H) (hr : RowAt w b h.cells 32) (hx : a.eval x = .pointer (some ⟨b, 0, none⟩)) (hw : Region.wanted ⟨dst, .load 32 x, ty, pos, after, gd⟩ (yielded ops a.tmps) = true)
    (k : wpList Tryd.prog ops Q rest (a.put dst (.agg h.cells)) w) : wpList Tryd.prog ops Q (⟨dst, .load 32 x, ty, pos, after, gd⟩ :: rest) a w :=
  BigFrame.wpList_want hw fun K hK => wp_load_row 32 x rfl b hx _ h.cells (0, 0) _ hr Tryd.underlying32 rfl size_hart (hK _ _ k)
theorem no_guard : Tryd.prog.eqGuardType Tryd.prog.depth 32 = false := by kernel_rfl
theorem g_eqh {pos : String} (h : H) (hx : a.eval x = .agg h.cells) (hy : a.eval y = .agg h.cells) (hw : Region.wanted ⟨dst, .binOp .eql 32 x y t2, ty, pos, after, gd⟩ (yielded ops a.tmps) = true)
    (k : wpList Tryd.prog ops Q rest (a.put dst (.bool true)) w) : wpList Tryd.prog ops Q (⟨dst, .binOp .eql 32 x y t2, ty, pos, after, gd⟩ :: rest) a w :=
  BigFrame.wpList_want hw fun K hK => by
    have hrun : (execOp a.eval ⟨dst, .binOp .eql 32 x y t2, ty, pos, after, gd⟩).run Tryd.prog w = .ok (.value (.bool true)) w := by
      unfold execOp
      simp only [Sem.run_bind, hx, hy, run_eqGuard_agg w .eql 32 x y h.cells h.cells no_guard, eq_h h, Result.andThen_ok, Sem.run_pure]
    unfold Oper.wp
    rw [hrun, Oper.upon_value]
    exact hK _ _ k
theorem bx_3 {pos : String} (N : Nat) (o0 o1 o2 : Int) (hN : w.heap.size = N) (hx : a.eval x = .agg #[.int .i64 o0, .int .i64 o1, .int .i64 o2])
    (k : ∀ W, RowAt W N #[.int .i64 o0, .int .i64 o1, .int .i64 o2] 29 → Below N w W → Hid (W.heap.size = N + 1) → wpList Tryd.prog ops Q rest (a.put dst (.pointer (some ⟨N, 0, none⟩))) W) :
    wpList Tryd.prog ops Q (⟨dst, .box 29 x, ty, pos, after, none⟩ :: rest) a w := op_box N hN _ hx k
theorem bs_tab (pos : String) (C : Array Value) (N : Nat) (hN : w.heap.size = N) (hp : Tryd.prog.builtSlice 22 18 (parts.map fun (i, x) => (i, a.eval x)).toList = some C)
    (k : ∀ W, RowAt W N C 22 → Below N w W → Hid (W.heap.size = N + 1) → wpList Tryd.prog ops Q rest (a.put dst (.slice (some ⟨N, 0, none⟩) 18 18)) W) :
    wpList Tryd.prog ops Q (⟨dst, .buildSlice 39 18 parts, ty, pos, after, none⟩ :: rest) a w := by
  subst hN
  exact Great.wpList_buildSliceTo rfl _ 22 18 parts rfl _ rfl dst rfl Tryd.underlying39 C hp (k _ (RowAt.new w _ C 22 rfl) (below_one w _) (hide (by simp)))
theorem ld_tab {pos : String} (b k : Nat) (C : Array Value) (v : Nat) (hr : RowAt w b C 22) (hv : C[k]? = some (.int .u32 (v : Nat))) (hx : a.eval x = .pointer (some ⟨b, k, none⟩))
    (k' : wpList Tryd.prog ops Q rest (a.put dst (.int .u32 (v : Nat))) w) : wpList Tryd.prog ops Q (⟨dst, .load 22 x, ty, pos, after, none⟩ :: rest) a w :=
  op_load_cell b k hx C _ _ hr hv _ Tryd.underlying22 rfl k'

set_option maxHeartbeats 1000000 in
set_option maxRecDepth 20000 in
theorem makes_no (h : H) (ok : h.Ok) (op o0 o1 o2 : Int) (hm : mayH h = false) (w : World) (hA : HartAt w) :
    Calls Tryd.prog 3 #[.agg h.cells, .int .i64 op, .agg #[.int .i64 o0, .int .i64 o1, .int .i64 o2]] w fun e w' => e = .returned (.bool true) ∧ Below w.heap.size w w' := by
  have HA := hide hA
  clear hA
  have HG := hide (fun w => give_any h w)
  have HC := hide (fun w => check_any h ok w)
  have HS := hide (fun w hw => sure_any w hw)
  rw [hm] at HC
  simp only [checkV] at HC
  clear hm
  go_enter Tryd.func3, Tryd.ntmps3
  go_wp2_with (first | ((with_reducible refine bx_g w.heap.size h ?_ ?_ ?_); exact rfl; exact rfl; intro W hg hb hz) | ((with_reducible refine bx_3 (w.heap.size + 1) o0 o1 o2 ?_ ?_ ?_); exact hz.out; exact rfl; intro W h3 hb' hz'; replace hg := hg.bl (hz.out ▸ hb'); replace hb := hb.trans (hb'.mono (by omega)); replace hz := hz') | ((with_reducible refine ld_g w.heap.size h hg ?_ ?_); exact rfl) | (go_at_call 4; refine (HG.out _).mono ?_; rintro e W ⟨rfl, hbc⟩; replace h3 := h3.bl hbc; obtain ⟨NX, hNX⟩ : ∃ n, W.heap.size = n := ⟨_, rfl⟩; have lNX : w.heap.size + 2 ≤ NX := (by (have := hz.out; have := hbc.size; omega)); replace hNX := hide hNX; replace hb := below_bl rfl hb hbc) | ((with_reducible refine al_h NX ?_ ?_); exact hNX.out; intro W hx hb' hz2; replace h3 := h3.bl (hNX.out ▸ hb'); replace hb := hb.trans (hb'.mono (by omega))) | ((with_reducible refine st_h NX _ h hx ?_ ?_ ?_); exact rfl; exact rfl; intro W hnew ho; replace h3 := h3.only ho (by omega); replace hx := hnew; replace hb := ho.bel _ _ (by omega) hb) | ((with_reducible refine ld_h NX h hx ?_ ?_); exact rfl) | (go_at_call 5; refine (HC.out _).mono ?_; rintro e W ⟨rfl, hbc⟩; replace hx := hx.bl hbc; replace h3 := h3.bl hbc; replace hb := below_bl rfl hb hbc) | (go_at_call 6; refine (HS.out _ (HA.out.below hb)).mono ?_; rintro e W ⟨rfl, hbc⟩; replace hb := below_bl rfl hb hbc))
  go_ret
  exact ⟨rfl, hb⟩

set_option maxHeartbeats 4000000 in
set_option maxRecDepth 20000 in
theorem makes_0 (h : H) (ok : h.Ok) (op o0 o1 o2 : Int) (hm : mayH h = true) (k rd ra rb : Nat) (hk : k < 18) (hrd : rd < 32) (hra : ra < 32) (hrb : rb < 32) (hk1 : (IntKind.u64.wrap op).tmod 18 = (k : Int)) (HR0 : Hid ((o0 % 18446744073709551616) % 32 = (rd : Int))) (HR1 : Hid ((o1 % 18446744073709551616) % 32 = (ra : Int))) (HR2 : Hid ((o2 % 18446744073709551616) % 32 = (rb : Int))) (HQ0 : Hid ((o0 % 18446744073709551616).tmod 32 = (rd : Int))) (HQ1 : Hid ((o1 % 18446744073709551616).tmod 32 = (ra : Int))) (HQ2 : Hid ((o2 % 18446744073709551616).tmod 32 = (rb : Int))) (Y : H) (hY : nextH (writeH h rd (doN k (h.x ra) (h.x rb))) = Y) (hr0 : rd = 0) (w : World) (hA : HartAt w) :
    Calls Tryd.prog 3 #[.agg h.cells, .int .i64 op, .agg #[.int .i64 o0, .int .i64 o1, .int .i64 o2]] w fun e w' => e = .returned (.bool true) ∧ Below w.heap.size w w' := by
  obtain ⟨hp, h0, hmb⟩ := (mayH_iff h).1 hm
  have HA := hide hA
  clear hA
  have HG := hide (fun w => give_any h w)
  have HC := hide (fun w => check_any h ok w)
  have HS := hide (fun w hw => sure_any w hw)
  rw [hm] at HC
  simp only [checkV] at HC
  clear hm hmb h0
  have hV := doN_lt k (h.x ra) (h.x rb) (ok.x _) (ok.x _)
  have HD : Hid (∀ z : Int, z = ((mkW k rd ra rb : Nat) : Int) → ∀ w, HartAt w → Calls Tryd.prog 7 #[.agg h.cells, .int .u32 z, .int .u32 0] w fun e w' => e = .returned (.tuple #[.agg Y.cells, .agg noA.cells]) ∧ Below w.heap.size w w') := hide (fun z hz w hA => by
    have := do_all h ok (mkW k rd ra rb) (mkW_lt k rd ra rb hk hrd hra hrb) 0 (by decide) w hA
    rw [mk_do h k rd ra rb hk hrd hra hrb, hY] at this
    rw [hz]; exact this)
  have HM := hide (mk_bits k rd ra rb hk hrd hra hrb)
  have HAl := hide (fun w => do_any k hk (h.x ra) (h.x rb) (ok.x _) (ok.x _) w)
  have q0 : (0 : Int) ≤ k := by omega
  have q1 : (k : Int) < 18 := by omega
  have q2 : (0 : Int) ≤ rd := by omega
  have q3 : (rd : Int) < 32 := by omega
  have q4 : (0 : Int) ≤ ra := by omega
  have q5 : (ra : Int) < 32 := by omega
  have q6 : (0 : Int) ≤ rb := by omega
  have q7 : (rb : Int) < 32 := by omega
  have q8 : (0 : Int) ≤ ((f3N k : Nat) : Int) := by omega
  have q9 : ((f3N k : Nat) : Int) < 8 := by have := f3N_lt k hk; omega
  have q10 : (0 : Int) ≤ ((f7N k : Nat) : Int) := by omega
  have q11 : ((f7N k : Nat) : Int) < 64 := by have := f7N_lt k hk; omega
  have t9 : ((rd : Int) != 0) = false := by simp; omega
  have HYe : Hid (Y = ⟨(h.pc + 4) % 4294967296, h.x, h.wt, upCt h.c⟩) := hide (by
    rw [← hY]
    unfold nextH writeH goH
    rw [if_pos hr0]
    show (if (h.pc + 4) % 4294967296 % 4 = 0 then _ else _) = _
    rw [if_pos (by omega)])
  have HP : Hid (Value.int .u32 (((h.pc : Int) + 4) % 4294967296) = .int .u32 (((h.pc + 4) % 4294967296 : Nat) : Int)) := hide (by congr 1)
  have HCt : Hid (Value.int .u64 ((((h.c.ct : Nat) : Int) + 1) % 18446744073709551616) = .int .u64 (((h.c.ct + 1) % 18446744073709551616 : Nat) : Int)) := hide (by congr 1)
  have a0 : noA.kind = 0 := rfl
  clear hp hr0 hY
  go_enter Tryd.func3, Tryd.ntmps3
  go_wp2_with (first | ((with_reducible refine bx_g w.heap.size h ?_ ?_ ?_); exact rfl; exact rfl; intro W hg hb hz) | ((with_reducible refine bx_3 (w.heap.size + 1) o0 o1 o2 ?_ ?_ ?_); exact hz.out; exact rfl; intro W h3 hb' hz'; replace hg := hg.bl (hz.out ▸ hb'); replace hb := hb.trans (hb'.mono (by omega)); replace hz := hz') | ((with_reducible refine ld_g w.heap.size h hg ?_ ?_); exact rfl) | (go_at_call 4; refine (HG.out _).mono ?_; rintro e W ⟨rfl, hbc⟩; replace h3 := h3.bl hbc; obtain ⟨NX, hNX⟩ : ∃ n, W.heap.size = n := ⟨_, rfl⟩; have lNX : w.heap.size + 2 ≤ NX := (by (have := hz.out; have := hbc.size; omega)); replace hNX := hide hNX; replace hb := below_bl rfl hb hbc) | ((with_reducible refine al_h NX ?_ ?_); exact hNX.out; intro W hx hb' hz2; replace h3 := h3.bl (hNX.out ▸ hb'); replace hb := hb.trans (hb'.mono (by omega))) | ((with_reducible refine st_h NX _ h hx ?_ ?_ ?_); exact rfl; exact rfl; intro W hnew ho; replace h3 := h3.only ho (by omega); replace hx := hnew; replace hb := ho.bel _ _ (by omega) hb) | ((with_reducible refine ld_h NX h hx ?_ ?_); exact rfl) | (go_at_call 5; refine (HC.out _).mono ?_; rintro e W ⟨rfl, hbc⟩; replace hx := hx.bl hbc; replace h3 := h3.bl hbc; replace hb := below_bl rfl hb hbc))
  refine wp_region_held_drew (S := (fun V => RowAt V NX h.cells 32 ∧ RowAt V (w.heap.size + 1) #[.int .i64 o0, .int .i64 o1, .int .i64 o2] 29 ∧ Below w.heap.size w V)) (by kernel_rfl) ?_ (fun hHeld => ?_)
  · exact ⟨hx.dr, h3.dr, hb.drew⟩
  generalize W.drew = V at hHeld ⊢
  refine wpAnyH_take (i := 0) (oi := ?oi1) (v := .pointer (some ⟨w.heap.size + 1, 0, none⟩)) ?hi1 (by kernel_rfl) (by kernel_rfl) (by kernel_rfl) ?hQ1 ?hy1 (by assumption) ?rest1
  case hi1 => (simp only [List.getElem?_toArray, List.getElem?_cons_zero]; rfl)
  case hQ1 => exact fun _ _ _ h => h
  case hy1 => exact Or.inl ⟨by rfl, by (intro w hSw; (try dsimp only at hSw); go_simp )⟩
  simp only [Act.put, List.setIfInBounds_toArray, List.set_cons_zero, List.set_cons_succ]
  refine wpAnyH_take (i := 1) (oi := ?oi2) (v := .int .i64 o0) ?hi2 (by kernel_rfl) (by kernel_rfl) (by kernel_rfl) ?hQ2 ?hy2 (by assumption) ?rest2
  case hi2 => (simp only [List.getElem?_toArray, List.getElem?_cons_zero, List.getElem?_cons_succ]; rfl)
  case hQ2 => exact fun _ _ _ h => h
  case hy2 => exact y_int (w.heap.size + 1) 0 _ (fun V hV => (hV.2.1.cell 0).trans rfl) rfl
  simp only [Act.put, List.setIfInBounds_toArray, List.set_cons_zero, List.set_cons_succ]
  refine wpAnyH_take (i := 2) (oi := ?oi3) (v := .int .u64 (o0 % 18446744073709551616)) ?hi3 (by kernel_rfl) (by kernel_rfl) (by kernel_rfl) ?hQ3 ?hy3 (by assumption) ?rest3
  case hi3 => (simp only [List.getElem?_toArray, List.getElem?_cons_zero, List.getElem?_cons_succ]; rfl)
  case hQ3 => exact fun _ _ _ h => h
  case hy3 => exact Or.inl ⟨by rfl, by (intro w hSw; (try dsimp only at hSw); go_simp <;> first | rfl | exact IntKind.wrap_u64 _)⟩
  simp only [Act.put, List.setIfInBounds_toArray, List.set_cons_zero, List.set_cons_succ]
  refine wpAnyH_take (i := 3) (oi := ?oi4) (v := .int .u64 (rd : Nat)) ?hi4 (by kernel_rfl) (by kernel_rfl) (by kernel_rfl) ?hQ4 ?hy4 (by assumption) ?rest4
  case hi4 => (simp only [List.getElem?_toArray, List.getElem?_cons_zero, List.getElem?_cons_succ]; rfl)
  case hQ4 => exact fun _ _ _ h => h
  case hy4 => exact Or.inl ⟨by rfl, by (intro w hSw; (try dsimp only at hSw); go_simp <;> first | exact HQ0.out | exact HR0.out)⟩
  simp only [Act.put, List.setIfInBounds_toArray, List.set_cons_zero, List.set_cons_succ]
  refine wpAnyH_take (i := 4) (oi := ?oi5) (v := .int .i64 (rd : Nat)) ?hi5 (by kernel_rfl) (by kernel_rfl) (by kernel_rfl) ?hQ5 ?hy5 (by assumption) ?rest5
  case hi5 => (simp only [List.getElem?_toArray, List.getElem?_cons_zero, List.getElem?_cons_succ]; rfl)
  case hQ5 => exact fun _ _ _ h => h
  case hy5 => exact Or.inl ⟨by rfl, by (intro w hSw; (try dsimp only at hSw); go_simp <;> first | rfl | exact i64_in _ (by omega) (by omega))⟩
  simp only [Act.put, List.setIfInBounds_toArray, List.set_cons_zero, List.set_cons_succ]
  refine wpAnyH_take (i := 5) (oi := ?oi6) (v := .pointer (some ⟨w.heap.size + 1, 1, none⟩)) ?hi6 (by kernel_rfl) (by kernel_rfl) (by kernel_rfl) ?hQ6 ?hy6 (by assumption) ?rest6
  case hi6 => (simp only [List.getElem?_toArray, List.getElem?_cons_zero, List.getElem?_cons_succ]; rfl)
  case hQ6 => exact fun _ _ _ h => h
  case hy6 => exact Or.inl ⟨by rfl, by (intro w hSw; (try dsimp only at hSw); go_simp )⟩
  simp only [Act.put, List.setIfInBounds_toArray, List.set_cons_zero, List.set_cons_succ]
  refine wpAnyH_take (i := 6) (oi := ?oi7) (v := .int .i64 o1) ?hi7 (by kernel_rfl) (by kernel_rfl) (by kernel_rfl) ?hQ7 ?hy7 (by assumption) ?rest7
  case hi7 => (simp only [List.getElem?_toArray, List.getElem?_cons_zero, List.getElem?_cons_succ]; rfl)
  case hQ7 => exact fun _ _ _ h => h
  case hy7 => exact y_int (w.heap.size + 1) 1 _ (fun V hV => (hV.2.1.cell 1).trans rfl) rfl
  simp only [Act.put, List.setIfInBounds_toArray, List.set_cons_zero, List.set_cons_succ]
  refine wpAnyH_take (i := 7) (oi := ?oi8) (v := .int .u64 (o1 % 18446744073709551616)) ?hi8 (by kernel_rfl) (by kernel_rfl) (by kernel_rfl) ?hQ8 ?hy8 (by assumption) ?rest8
  case hi8 => (simp only [List.getElem?_toArray, List.getElem?_cons_zero, List.getElem?_cons_succ]; rfl)
  case hQ8 => exact fun _ _ _ h => h
  case hy8 => exact Or.inl ⟨by rfl, by (intro w hSw; (try dsimp only at hSw); go_simp <;> first | rfl | exact IntKind.wrap_u64 _)⟩
  simp only [Act.put, List.setIfInBounds_toArray, List.set_cons_zero, List.set_cons_succ]
  refine wpAnyH_take (i := 8) (oi := ?oi9) (v := .int .u64 (ra : Nat)) ?hi9 (by kernel_rfl) (by kernel_rfl) (by kernel_rfl) ?hQ9 ?hy9 (by assumption) ?rest9
  case hi9 => (simp only [List.getElem?_toArray, List.getElem?_cons_zero, List.getElem?_cons_succ]; rfl)
  case hQ9 => exact fun _ _ _ h => h
  case hy9 => exact Or.inl ⟨by rfl, by (intro w hSw; (try dsimp only at hSw); go_simp <;> first | exact HQ1.out | exact HR1.out)⟩
  simp only [Act.put, List.setIfInBounds_toArray, List.set_cons_zero, List.set_cons_succ]
  refine wpAnyH_take (i := 9) (oi := ?oi10) (v := .int .i64 (ra : Nat)) ?hi10 (by kernel_rfl) (by kernel_rfl) (by kernel_rfl) ?hQ10 ?hy10 (by assumption) ?rest10
  case hi10 => (simp only [List.getElem?_toArray, List.getElem?_cons_zero, List.getElem?_cons_succ]; rfl)
  case hQ10 => exact fun _ _ _ h => h
  case hy10 => exact Or.inl ⟨by rfl, by (intro w hSw; (try dsimp only at hSw); go_simp <;> first | rfl | exact i64_in _ (by omega) (by omega))⟩
  simp only [Act.put, List.setIfInBounds_toArray, List.set_cons_zero, List.set_cons_succ]
  refine wpAnyH_take (i := 10) (oi := ?oi11) (v := .pointer (some ⟨w.heap.size + 1, 2, none⟩)) ?hi11 (by kernel_rfl) (by kernel_rfl) (by kernel_rfl) ?hQ11 ?hy11 (by assumption) ?rest11
  case hi11 => (simp only [List.getElem?_toArray, List.getElem?_cons_zero, List.getElem?_cons_succ]; rfl)
  case hQ11 => exact fun _ _ _ h => h
  case hy11 => exact Or.inl ⟨by rfl, by (intro w hSw; (try dsimp only at hSw); go_simp )⟩
  simp only [Act.put, List.setIfInBounds_toArray, List.set_cons_zero, List.set_cons_succ]
  refine wpAnyH_take (i := 11) (oi := ?oi12) (v := .int .i64 o2) ?hi12 (by kernel_rfl) (by kernel_rfl) (by kernel_rfl) ?hQ12 ?hy12 (by assumption) ?rest12
  case hi12 => (simp only [List.getElem?_toArray, List.getElem?_cons_zero, List.getElem?_cons_succ]; rfl)
  case hQ12 => exact fun _ _ _ h => h
  case hy12 => exact y_int (w.heap.size + 1) 2 _ (fun V hV => (hV.2.1.cell 2).trans rfl) rfl
  simp only [Act.put, List.setIfInBounds_toArray, List.set_cons_zero, List.set_cons_succ]
  refine wpAnyH_take (i := 12) (oi := ?oi13) (v := .int .u64 (o2 % 18446744073709551616)) ?hi13 (by kernel_rfl) (by kernel_rfl) (by kernel_rfl) ?hQ13 ?hy13 (by assumption) ?rest13
  case hi13 => (simp only [List.getElem?_toArray, List.getElem?_cons_zero, List.getElem?_cons_succ]; rfl)
  case hQ13 => exact fun _ _ _ h => h
  case hy13 => exact Or.inl ⟨by rfl, by (intro w hSw; (try dsimp only at hSw); go_simp <;> first | rfl | exact IntKind.wrap_u64 _)⟩
  simp only [Act.put, List.setIfInBounds_toArray, List.set_cons_zero, List.set_cons_succ]
  refine wpAnyH_take (i := 13) (oi := ?oi14) (v := .int .u64 (rb : Nat)) ?hi14 (by kernel_rfl) (by kernel_rfl) (by kernel_rfl) ?hQ14 ?hy14 (by assumption) ?rest14
  case hi14 => (simp only [List.getElem?_toArray, List.getElem?_cons_zero, List.getElem?_cons_succ]; rfl)
  case hQ14 => exact fun _ _ _ h => h
  case hy14 => exact Or.inl ⟨by rfl, by (intro w hSw; (try dsimp only at hSw); go_simp <;> first | exact HQ2.out | exact HR2.out)⟩
  simp only [Act.put, List.setIfInBounds_toArray, List.set_cons_zero, List.set_cons_succ]
  refine wpAnyH_take (i := 14) (oi := ?oi15) (v := .int .i64 (rb : Nat)) ?hi15 (by kernel_rfl) (by kernel_rfl) (by kernel_rfl) ?hQ15 ?hy15 (by assumption) ?rest15
  case hi15 => (simp only [List.getElem?_toArray, List.getElem?_cons_zero, List.getElem?_cons_succ]; rfl)
  case hQ15 => exact fun _ _ _ h => h
  case hy15 => exact Or.inl ⟨by rfl, by (intro w hSw; (try dsimp only at hSw); go_simp <;> first | rfl | exact i64_in _ (by omega) (by omega))⟩
  simp only [Act.put, List.setIfInBounds_toArray, List.set_cons_zero, List.set_cons_succ]
  refine wpAnyH_take (i := 15) (oi := ?oi16) (v := .int .i64 (rd : Nat)) ?hi16 (by kernel_rfl) (by kernel_rfl) (by kernel_rfl) ?hQ16 ?hy16 (by assumption) ?rest16
  case hi16 => (simp only [List.getElem?_toArray, List.getElem?_cons_zero, List.getElem?_cons_succ]; rfl)
  case hQ16 => exact fun _ _ _ h => h
  case hy16 => exact Or.inl ⟨by rfl, by (intro w hSw; (try dsimp only at hSw); go_simp )⟩
  simp only [Act.put, List.setIfInBounds_toArray, List.set_cons_zero, List.set_cons_succ]
  refine wpAnyH_take (i := 16) (oi := ?oi17) (v := .int .i64 (ra : Nat)) ?hi17 (by kernel_rfl) (by kernel_rfl) (by kernel_rfl) ?hQ17 ?hy17 (by assumption) ?rest17
  case hi17 => (simp only [List.getElem?_toArray, List.getElem?_cons_zero, List.getElem?_cons_succ]; rfl)
  case hQ17 => exact fun _ _ _ h => h
  case hy17 => exact Or.inl ⟨by rfl, by (intro w hSw; (try dsimp only at hSw); go_simp )⟩
  simp only [Act.put, List.setIfInBounds_toArray, List.set_cons_zero, List.set_cons_succ]
  refine wpAnyH_take (i := 17) (oi := ?oi18) (v := .int .i64 (rb : Nat)) ?hi18 (by kernel_rfl) (by kernel_rfl) (by kernel_rfl) ?hQ18 ?hy18 (by assumption) ?rest18
  case hi18 => (simp only [List.getElem?_toArray, List.getElem?_cons_zero, List.getElem?_cons_succ]; rfl)
  case hQ18 => exact fun _ _ _ h => h
  case hy18 => exact Or.inl ⟨by rfl, by (intro w hSw; (try dsimp only at hSw); go_simp )⟩
  simp only [Act.put, List.setIfInBounds_toArray, List.set_cons_zero, List.set_cons_succ]
  refine wpAnyH_done (by kernel_rfl) ?_ _
  replace hx := hHeld.1
  replace hb := hHeld.2.2
  clear hHeld h3
  obtain ⟨NB, hNB⟩ : ∃ n, V.heap.size = n := ⟨_, rfl⟩
  have lNB : NX + 1 ≤ NB := by have := hx.lt; omega
  replace hNB := hide hNB
  go_wp2_with (first | ((with_reducible refine bs_tab "law.go:139" f3C NB ?_ ?_ ?_); exact hNB.out; (kernel_rfl); intro W hf3 hb' hzB; replace hx := hx.bl (hNB.out ▸ hb'); replace hb := hb.trans (hb'.mono (by omega))) | ((with_reducible refine bs_tab "law.go:140" f7C (NB + 1) ?_ ?_ ?_); exact hzB.out; (kernel_rfl); intro W hf7 hb' hzB'; replace hx := hx.bl (hzB.out ▸ hb'); replace hb := hb.trans (hb'.mono (by omega))) | ((with_reducible refine ld_tab NB k f3C (f3N k) hf3 ?_ ?_ ?_); exact f3C_at k hk; exact rfl) | ((with_reducible refine ld_tab (NB + 1) k f7C (f7N k) hf7 ?_ ?_ ?_); exact f7C_at k hk; exact rfl) | ((with_reducible refine ld_h NX h hx ?_ ?_); exact rfl) | (go_at_call 7; (with_reducible refine (HD.out _ ?_ _ ?_).mono ?_); exact HM.out; exact HA.out.below hb; rintro e W ⟨rfl, hbc⟩; replace hx := hx.bl hbc; obtain ⟨NY, hNY⟩ : ∃ n, W.heap.size = n := ⟨_, rfl⟩; have lNY : NX + 1 ≤ NY := (by (have := hx.lt; omega)); replace hNY := hide hNY; replace hb := below_bl rfl hb hbc) | ((with_reducible refine al_h NY ?_ ?_); exact hNY.out; intro W hy hb' hzY; replace hx := hx.bl (hNY.out ▸ hb'); replace hb := hb.trans (hb'.mono (by omega))) | ((with_reducible refine al_a (NY + 1) ?_ ?_); exact hzY.out; intro W ha hb' hzY'; replace hx := hx.bl (hzY.out ▸ hb'); replace hy := hy.bl (hzY.out ▸ hb'); replace hb := hb.trans (hb'.mono (by omega))) | ((with_reducible refine st_h NY _ Y hy ?_ ?_ ?_); exact rfl; exact rfl; intro W hnew ho; replace hx := hx.only ho (by omega); replace ha := ha.only ho (by omega); replace hy := hnew; replace hb := ho.bel _ _ (by omega) hb) | ((with_reducible refine st_a (NY + 1) _ noA ha ?_ ?_ ?_); exact rfl; exact rfl; intro W hnew ho; replace hx := hx.only ho (by omega); replace hy := hy.only ho (by omega); replace ha := hnew; replace hb := ho.bel _ _ (by omega) hb))
  refine wp_region_held_drew (S := (fun V => RowAt V NX h.cells 32 ∧ RowAt V NY Y.cells 32 ∧ RowAt V (NY + 1) noA.cells 41 ∧ Below w.heap.size w V)) (by kernel_rfl) ?_ (fun hHeld => ?_)
  · exact ⟨hx.dr, hy.dr, ha.dr, hb.drew⟩
  generalize W.drew = V at hHeld ⊢
  refine wpAnyH_take (i := 0) (oi := ?oi19) (v := .int .i64 (k : Nat)) ?hi19 (by kernel_rfl) (by kernel_rfl) (by kernel_rfl) ?hQ19 ?hy19 (by assumption) ?rest19
  case hi19 => (simp only [List.getElem?_toArray, List.getElem?_cons_zero]; rfl)
  case hQ19 => exact fun _ _ _ h => h
  case hy19 => exact Or.inl ⟨by rfl, by (intro w hSw; (try dsimp only at hSw); go_simp )⟩
  simp only [Act.put, List.setIfInBounds_toArray, List.set_cons_zero, List.set_cons_succ]
  refine wpAnyH_take (i := 1) (oi := ?oi20) (v := .int .i64 (ra : Nat)) ?hi20 (by kernel_rfl) (by kernel_rfl) (by kernel_rfl) ?hQ20 ?hy20 (by assumption) ?rest20
  case hi20 => (simp only [List.getElem?_toArray, List.getElem?_cons_zero, List.getElem?_cons_succ]; rfl)
  case hQ20 => exact fun _ _ _ h => h
  case hy20 => exact Or.inl ⟨by rfl, by (intro w hSw; (try dsimp only at hSw); go_simp )⟩
  simp only [Act.put, List.setIfInBounds_toArray, List.set_cons_zero, List.set_cons_succ]
  refine wpAnyH_take (i := 2) (oi := ?oi21) (v := .pointer (some ⟨NX, 1, none⟩)) ?hi21 (by kernel_rfl) (by kernel_rfl) (by kernel_rfl) ?hQ21 ?hy21 (by assumption) ?rest21
  case hi21 => (simp only [List.getElem?_toArray, List.getElem?_cons_zero, List.getElem?_cons_succ]; rfl)
  case hQ21 => exact fun _ _ _ h => h
  case hy21 => exact Or.inl ⟨by rfl, by (intro w hSw; (try dsimp only at hSw); go_simp )⟩
  simp only [Act.put, List.setIfInBounds_toArray, List.set_cons_zero, List.set_cons_succ]
  refine wpAnyH_take (i := 3) (oi := ?oi22) (v := .pointer (some ⟨NX, 1 + ra, none⟩)) ?hi22 (by kernel_rfl) (by kernel_rfl) (by kernel_rfl) ?hQ22 ?hy22 (by assumption) ?rest22
  case hi22 => (simp only [List.getElem?_toArray, List.getElem?_cons_zero, List.getElem?_cons_succ]; rfl)
  case hQ22 => exact fun _ _ _ h => h
  case hy22 => exact Or.inl ⟨by rfl, by (intro w hSw; (try dsimp only at hSw); go_simp )⟩
  simp only [Act.put, List.setIfInBounds_toArray, List.set_cons_zero, List.set_cons_succ]
  refine wpAnyH_take (i := 4) (oi := ?oi23) (v := .int .u32 (h.x ra : Nat)) ?hi23 (by kernel_rfl) (by kernel_rfl) (by kernel_rfl) ?hQ23 ?hy23 (by assumption) ?rest23
  case hi23 => (simp only [List.getElem?_toArray, List.getElem?_cons_zero, List.getElem?_cons_succ]; rfl)
  case hQ23 => exact fun _ _ _ h => h
  case hy23 => exact y_word NX (1 + ra) _ (fun V hV => (hV.1.cell _).trans (h.cell_x ra hra)) rfl
  simp only [Act.put, List.setIfInBounds_toArray, List.set_cons_zero, List.set_cons_succ]
  refine wpAnyH_take (i := 5) (oi := ?oi24) (v := .int .i64 (rb : Nat)) ?hi24 (by kernel_rfl) (by kernel_rfl) (by kernel_rfl) ?hQ24 ?hy24 (by assumption) ?rest24
  case hi24 => (simp only [List.getElem?_toArray, List.getElem?_cons_zero, List.getElem?_cons_succ]; rfl)
  case hQ24 => exact fun _ _ _ h => h
  case hy24 => exact Or.inl ⟨by rfl, by (intro w hSw; (try dsimp only at hSw); go_simp )⟩
  simp only [Act.put, List.setIfInBounds_toArray, List.set_cons_zero, List.set_cons_succ]
  refine wpAnyH_take (i := 6) (oi := ?oi25) (v := .pointer (some ⟨NX, 1, none⟩)) ?hi25 (by kernel_rfl) (by kernel_rfl) (by kernel_rfl) ?hQ25 ?hy25 (by assumption) ?rest25
  case hi25 => (simp only [List.getElem?_toArray, List.getElem?_cons_zero, List.getElem?_cons_succ]; rfl)
  case hQ25 => exact fun _ _ _ h => h
  case hy25 => exact Or.inl ⟨by rfl, by (intro w hSw; (try dsimp only at hSw); go_simp )⟩
  simp only [Act.put, List.setIfInBounds_toArray, List.set_cons_zero, List.set_cons_succ]
  refine wpAnyH_take (i := 7) (oi := ?oi26) (v := .pointer (some ⟨NX, 1 + rb, none⟩)) ?hi26 (by kernel_rfl) (by kernel_rfl) (by kernel_rfl) ?hQ26 ?hy26 (by assumption) ?rest26
  case hi26 => (simp only [List.getElem?_toArray, List.getElem?_cons_zero, List.getElem?_cons_succ]; rfl)
  case hQ26 => exact fun _ _ _ h => h
  case hy26 => exact Or.inl ⟨by rfl, by (intro w hSw; (try dsimp only at hSw); go_simp )⟩
  simp only [Act.put, List.setIfInBounds_toArray, List.set_cons_zero, List.set_cons_succ]
  refine wpAnyH_take (i := 8) (oi := ?oi27) (v := .int .u32 (h.x rb : Nat)) ?hi27 (by kernel_rfl) (by kernel_rfl) (by kernel_rfl) ?hQ27 ?hy27 (by assumption) ?rest27
  case hi27 => (simp only [List.getElem?_toArray, List.getElem?_cons_zero, List.getElem?_cons_succ]; rfl)
  case hQ27 => exact fun _ _ _ h => h
  case hy27 => exact y_word NX (1 + rb) _ (fun V hV => (hV.1.cell _).trans (h.cell_x rb hrb)) rfl
  simp only [Act.put, List.setIfInBounds_toArray, List.set_cons_zero, List.set_cons_succ]
  refine wpAnyH_ready (rs := [9]) (by kernel_rfl) (by simp) ?_
  refine AllReadyH.cons (o := ?oi28) ?hi28 (fun K hK => ?_) AllReadyH.nil
  case hi28 => (simp only [List.getElem?_toArray, List.getElem?_cons_zero, List.getElem?_cons_succ]; rfl)
  go_simp
  refine (HAl.out _).mono ?_
  rintro e V2 ⟨rfl, nd, rfl⟩
  go_simp
  refine hK.out _ _ ?_ (fun hHeld => ?_)
  · exact ⟨hHeld.1.dn nd, hHeld.2.1.dn nd, hHeld.2.2.1.dn nd, below_dn hHeld.2.2.2 nd⟩
  clear hK K
  refine wpAnyH_take (i := 10) (oi := ?oi29) (v := .tuple #[.int .u32 (doN k (h.x ra) (h.x rb) : Nat), .nilIface]) ?hi29 (by kernel_rfl) (by kernel_rfl) (by kernel_rfl) ?hQ29 ?hy29 (by assumption) ?rest29
  case hi29 => (simp only [List.getElem?_toArray, List.getElem?_cons_zero, List.getElem?_cons_succ]; rfl)
  case hQ29 => exact fun _ _ _ h => h
  case hy29 => exact Or.inl ⟨by rfl, by (intro w hSw; (try dsimp only at hSw); go_simp )⟩
  simp only [Act.put, List.setIfInBounds_toArray, List.set_cons_zero, List.set_cons_succ]
  refine wpAnyH_take (i := 11) (oi := ?oi30) (v := .int .u32 (doN k (h.x ra) (h.x rb) : Nat)) ?hi30 (by kernel_rfl) (by kernel_rfl) (by kernel_rfl) ?hQ30 ?hy30 (by assumption) ?rest30
  case hi30 => (simp only [List.getElem?_toArray, List.getElem?_cons_zero, List.getElem?_cons_succ]; rfl)
  case hQ30 => exact fun _ _ _ h => h
  case hy30 => exact Or.inl ⟨by rfl, by (intro w hSw; (try dsimp only at hSw); go_simp )⟩
  simp only [Act.put, List.setIfInBounds_toArray, List.set_cons_zero, List.set_cons_succ]
  refine wpAnyH_take (i := 12) (oi := ?oi31) (v := .nilIface) ?hi31 (by kernel_rfl) (by kernel_rfl) (by kernel_rfl) ?hQ31 ?hy31 (by assumption) ?rest31
  case hi31 => (simp only [List.getElem?_toArray, List.getElem?_cons_zero, List.getElem?_cons_succ]; rfl)
  case hQ31 => exact fun _ _ _ h => h
  case hy31 => exact Or.inl ⟨by rfl, by (intro w hSw; (try dsimp only at hSw); go_simp )⟩
  simp only [Act.put, List.setIfInBounds_toArray, List.set_cons_zero, List.set_cons_succ]
  refine wpAnyH_take (i := 13) (oi := ?oi32) (v := .int .u32 (doN k (h.x ra) (h.x rb) : Nat)) ?hi32 (by kernel_rfl) (by kernel_rfl) (by kernel_rfl) ?hQ32 ?hy32 (by assumption) ?rest32
  case hi32 => (simp only [List.getElem?_toArray, List.getElem?_cons_zero, List.getElem?_cons_succ]; rfl)
  case hQ32 => exact fun _ _ _ h => h
  case hy32 => exact Or.inl ⟨by rfl, by (intro w hSw; (try dsimp only at hSw); go_simp )⟩
  simp only [Act.put, List.setIfInBounds_toArray, List.set_cons_zero, List.set_cons_succ]
  refine wpAnyH_take (i := 14) (oi := ?oi33) (v := .nilIface) ?hi33 (by kernel_rfl) (by kernel_rfl) (by kernel_rfl) ?hQ33 ?hy33 (by assumption) ?rest33
  case hi33 => (simp only [List.getElem?_toArray, List.getElem?_cons_zero, List.getElem?_cons_succ]; rfl)
  case hQ33 => exact fun _ _ _ h => h
  case hy33 => exact Or.inl ⟨by rfl, by (intro w hSw; (try dsimp only at hSw); go_simp )⟩
  simp only [Act.put, List.setIfInBounds_toArray, List.set_cons_zero, List.set_cons_succ]
  refine wpAnyH_done (by kernel_rfl) ?_ _
  generalize V.drewN nd = W at hHeld ⊢
  replace hx := hHeld.1
  replace hy := hHeld.2.1
  replace ha := hHeld.2.2.1
  replace hb := hHeld.2.2.2
  clear hHeld
  go_wp2_with (first | ((with_reducible refine ld_pc NX _ hx ?_ ?_); exact rfl) | ((with_reducible refine st_pc NX _ ((h.pc + 4) % 4294967296) hx ?_ ?_ ?_); exact rfl; exact HP.out; intro W hnew ho; replace hx := hnew; replace hy := hy.only ho (by omega); replace ha := ha.only ho (by omega); replace hb := ho.bel _ _ (by omega) hb) | ((with_reducible refine ld_ct NX _ hx ?_ ?_); exact rfl) | ((with_reducible refine st_ct NX _ ((h.c.ct + 1) % 18446744073709551616) hx ?_ ?_ ?_); exact rfl; exact HCt.out; intro W hnew ho; replace hx : RowAt W NX Y.cells 32 := (by rw [HYe.out]; exact hnew); replace hy := hy.only ho (by omega); replace ha := ha.only ho (by omega); replace hb := ho.bel _ _ (by omega) hb; have fa := ha.cell) | ((with_reducible refine gl_h NY Y hy ?_ ?_ ?_); exact rfl; exact rfl) | ((with_reducible refine gl_h NX Y hx ?_ ?_ ?_); exact rfl; exact rfl) | ((with_reducible refine g_eqh Y ?_ ?_ ?_ ?_); exact rfl; exact rfl; exact rfl) | (go_at_call 6; refine (HS.out _ (HA.out.below hb)).mono ?_; rintro e W ⟨rfl, hbc⟩; replace hb := below_bl rfl hb hbc))
  go_ret
  exact ⟨rfl, hb⟩

set_option maxHeartbeats 4000000 in
set_option maxRecDepth 20000 in
theorem makes_r (h : H) (ok : h.Ok) (op o0 o1 o2 : Int) (hm : mayH h = true) (k rd ra rb : Nat) (hk : k < 18) (hrd : rd < 32) (hra : ra < 32) (hrb : rb < 32) (hk1 : (IntKind.u64.wrap op).tmod 18 = (k : Int)) (HR0 : Hid ((o0 % 18446744073709551616) % 32 = (rd : Int))) (HR1 : Hid ((o1 % 18446744073709551616) % 32 = (ra : Int))) (HR2 : Hid ((o2 % 18446744073709551616) % 32 = (rb : Int))) (HQ0 : Hid ((o0 % 18446744073709551616).tmod 32 = (rd : Int))) (HQ1 : Hid ((o1 % 18446744073709551616).tmod 32 = (ra : Int))) (HQ2 : Hid ((o2 % 18446744073709551616).tmod 32 = (rb : Int))) (Y : H) (hY : nextH (writeH h rd (doN k (h.x ra) (h.x rb))) = Y) (hr0 : rd ≠ 0) (w : World) (hA : HartAt w) :
    Calls Tryd.prog 3 #[.agg h.cells, .int .i64 op, .agg #[.int .i64 o0, .int .i64 o1, .int .i64 o2]] w fun e w' => e = .returned (.bool true) ∧ Below w.heap.size w w' := by
  obtain ⟨hp, h0, hmb⟩ := (mayH_iff h).1 hm
  have HA := hide hA
  clear hA
  have HG := hide (fun w => give_any h w)
  have HC := hide (fun w => check_any h ok w)
  have HS := hide (fun w hw => sure_any w hw)
  rw [hm] at HC
  simp only [checkV] at HC
  clear hm hmb h0
  have hV := doN_lt k (h.x ra) (h.x rb) (ok.x _) (ok.x _)
  have HD : Hid (∀ z : Int, z = ((mkW k rd ra rb : Nat) : Int) → ∀ w, HartAt w → Calls Tryd.prog 7 #[.agg h.cells, .int .u32 z, .int .u32 0] w fun e w' => e = .returned (.tuple #[.agg Y.cells, .agg noA.cells]) ∧ Below w.heap.size w w') := hide (fun z hz w hA => by
    have := do_all h ok (mkW k rd ra rb) (mkW_lt k rd ra rb hk hrd hra hrb) 0 (by decide) w hA
    rw [mk_do h k rd ra rb hk hrd hra hrb, hY] at this
    rw [hz]; exact this)
  have HM := hide (mk_bits k rd ra rb hk hrd hra hrb)
  have HAl := hide (fun w => do_any k hk (h.x ra) (h.x rb) (ok.x _) (ok.x _) w)
  have q0 : (0 : Int) ≤ k := by omega
  have q1 : (k : Int) < 18 := by omega
  have q2 : (0 : Int) ≤ rd := by omega
  have q3 : (rd : Int) < 32 := by omega
  have q4 : (0 : Int) ≤ ra := by omega
  have q5 : (ra : Int) < 32 := by omega
  have q6 : (0 : Int) ≤ rb := by omega
  have q7 : (rb : Int) < 32 := by omega
  have q8 : (0 : Int) ≤ ((f3N k : Nat) : Int) := by omega
  have q9 : ((f3N k : Nat) : Int) < 8 := by have := f3N_lt k hk; omega
  have q10 : (0 : Int) ≤ ((f7N k : Nat) : Int) := by omega
  have q11 : ((f7N k : Nat) : Int) < 64 := by have := f7N_lt k hk; omega
  have t9 : ((rd : Int) != 0) = true := by simp; omega
  have HYe : Hid (Y = ⟨(h.pc + 4) % 4294967296, setX h.x rd (doN k (h.x ra) (h.x rb)), h.wt, upCt h.c⟩) := hide (by
    rw [← hY]
    unfold nextH writeH goH
    rw [if_neg hr0]
    show (if (h.pc + 4) % 4294967296 % 4 = 0 then _ else _) = _
    rw [if_pos (by omega)])
  have HP : Hid (Value.int .u32 (((h.pc : Int) + 4) % 4294967296) = .int .u32 (((h.pc + 4) % 4294967296 : Nat) : Int)) := hide (by congr 1)
  have HCt : Hid (Value.int .u64 ((((h.c.ct : Nat) : Int) + 1) % 18446744073709551616) = .int .u64 (((h.c.ct + 1) % 18446744073709551616 : Nat) : Int)) := hide (by congr 1)
  have a0 : noA.kind = 0 := rfl
  clear hp hr0 hY
  go_enter Tryd.func3, Tryd.ntmps3
  go_wp2_with (first | ((with_reducible refine bx_g w.heap.size h ?_ ?_ ?_); exact rfl; exact rfl; intro W hg hb hz) | ((with_reducible refine bx_3 (w.heap.size + 1) o0 o1 o2 ?_ ?_ ?_); exact hz.out; exact rfl; intro W h3 hb' hz'; replace hg := hg.bl (hz.out ▸ hb'); replace hb := hb.trans (hb'.mono (by omega)); replace hz := hz') | ((with_reducible refine ld_g w.heap.size h hg ?_ ?_); exact rfl) | (go_at_call 4; refine (HG.out _).mono ?_; rintro e W ⟨rfl, hbc⟩; replace h3 := h3.bl hbc; obtain ⟨NX, hNX⟩ : ∃ n, W.heap.size = n := ⟨_, rfl⟩; have lNX : w.heap.size + 2 ≤ NX := (by (have := hz.out; have := hbc.size; omega)); replace hNX := hide hNX; replace hb := below_bl rfl hb hbc) | ((with_reducible refine al_h NX ?_ ?_); exact hNX.out; intro W hx hb' hz2; replace h3 := h3.bl (hNX.out ▸ hb'); replace hb := hb.trans (hb'.mono (by omega))) | ((with_reducible refine st_h NX _ h hx ?_ ?_ ?_); exact rfl; exact rfl; intro W hnew ho; replace h3 := h3.only ho (by omega); replace hx := hnew; replace hb := ho.bel _ _ (by omega) hb) | ((with_reducible refine ld_h NX h hx ?_ ?_); exact rfl) | (go_at_call 5; refine (HC.out _).mono ?_; rintro e W ⟨rfl, hbc⟩; replace hx := hx.bl hbc; replace h3 := h3.bl hbc; replace hb := below_bl rfl hb hbc))
  refine wp_region_held_drew (S := (fun V => RowAt V NX h.cells 32 ∧ RowAt V (w.heap.size + 1) #[.int .i64 o0, .int .i64 o1, .int .i64 o2] 29 ∧ Below w.heap.size w V)) (by kernel_rfl) ?_ (fun hHeld => ?_)
  · exact ⟨hx.dr, h3.dr, hb.drew⟩
  generalize W.drew = V at hHeld ⊢
  refine wpAnyH_take (i := 0) (oi := ?oi1) (v := .pointer (some ⟨w.heap.size + 1, 0, none⟩)) ?hi1 (by kernel_rfl) (by kernel_rfl) (by kernel_rfl) ?hQ1 ?hy1 (by assumption) ?rest1
  case hi1 => (simp only [List.getElem?_toArray, List.getElem?_cons_zero]; rfl)
  case hQ1 => exact fun _ _ _ h => h
  case hy1 => exact Or.inl ⟨by rfl, by (intro w hSw; (try dsimp only at hSw); go_simp )⟩
  simp only [Act.put, List.setIfInBounds_toArray, List.set_cons_zero, List.set_cons_succ]
  refine wpAnyH_take (i := 1) (oi := ?oi2) (v := .int .i64 o0) ?hi2 (by kernel_rfl) (by kernel_rfl) (by kernel_rfl) ?hQ2 ?hy2 (by assumption) ?rest2
  case hi2 => (simp only [List.getElem?_toArray, List.getElem?_cons_zero, List.getElem?_cons_succ]; rfl)
  case hQ2 => exact fun _ _ _ h => h
  case hy2 => exact y_int (w.heap.size + 1) 0 _ (fun V hV => (hV.2.1.cell 0).trans rfl) rfl
  simp only [Act.put, List.setIfInBounds_toArray, List.set_cons_zero, List.set_cons_succ]
  refine wpAnyH_take (i := 2) (oi := ?oi3) (v := .int .u64 (o0 % 18446744073709551616)) ?hi3 (by kernel_rfl) (by kernel_rfl) (by kernel_rfl) ?hQ3 ?hy3 (by assumption) ?rest3
  case hi3 => (simp only [List.getElem?_toArray, List.getElem?_cons_zero, List.getElem?_cons_succ]; rfl)
  case hQ3 => exact fun _ _ _ h => h
  case hy3 => exact Or.inl ⟨by rfl, by (intro w hSw; (try dsimp only at hSw); go_simp <;> first | rfl | exact IntKind.wrap_u64 _)⟩
  simp only [Act.put, List.setIfInBounds_toArray, List.set_cons_zero, List.set_cons_succ]
  refine wpAnyH_take (i := 3) (oi := ?oi4) (v := .int .u64 (rd : Nat)) ?hi4 (by kernel_rfl) (by kernel_rfl) (by kernel_rfl) ?hQ4 ?hy4 (by assumption) ?rest4
  case hi4 => (simp only [List.getElem?_toArray, List.getElem?_cons_zero, List.getElem?_cons_succ]; rfl)
  case hQ4 => exact fun _ _ _ h => h
  case hy4 => exact Or.inl ⟨by rfl, by (intro w hSw; (try dsimp only at hSw); go_simp <;> first | exact HQ0.out | exact HR0.out)⟩
  simp only [Act.put, List.setIfInBounds_toArray, List.set_cons_zero, List.set_cons_succ]
  refine wpAnyH_take (i := 4) (oi := ?oi5) (v := .int .i64 (rd : Nat)) ?hi5 (by kernel_rfl) (by kernel_rfl) (by kernel_rfl) ?hQ5 ?hy5 (by assumption) ?rest5
  case hi5 => (simp only [List.getElem?_toArray, List.getElem?_cons_zero, List.getElem?_cons_succ]; rfl)
  case hQ5 => exact fun _ _ _ h => h
  case hy5 => exact Or.inl ⟨by rfl, by (intro w hSw; (try dsimp only at hSw); go_simp <;> first | rfl | exact i64_in _ (by omega) (by omega))⟩
  simp only [Act.put, List.setIfInBounds_toArray, List.set_cons_zero, List.set_cons_succ]
  refine wpAnyH_take (i := 5) (oi := ?oi6) (v := .pointer (some ⟨w.heap.size + 1, 1, none⟩)) ?hi6 (by kernel_rfl) (by kernel_rfl) (by kernel_rfl) ?hQ6 ?hy6 (by assumption) ?rest6
  case hi6 => (simp only [List.getElem?_toArray, List.getElem?_cons_zero, List.getElem?_cons_succ]; rfl)
  case hQ6 => exact fun _ _ _ h => h
  case hy6 => exact Or.inl ⟨by rfl, by (intro w hSw; (try dsimp only at hSw); go_simp )⟩
  simp only [Act.put, List.setIfInBounds_toArray, List.set_cons_zero, List.set_cons_succ]
  refine wpAnyH_take (i := 6) (oi := ?oi7) (v := .int .i64 o1) ?hi7 (by kernel_rfl) (by kernel_rfl) (by kernel_rfl) ?hQ7 ?hy7 (by assumption) ?rest7
  case hi7 => (simp only [List.getElem?_toArray, List.getElem?_cons_zero, List.getElem?_cons_succ]; rfl)
  case hQ7 => exact fun _ _ _ h => h
  case hy7 => exact y_int (w.heap.size + 1) 1 _ (fun V hV => (hV.2.1.cell 1).trans rfl) rfl
  simp only [Act.put, List.setIfInBounds_toArray, List.set_cons_zero, List.set_cons_succ]
  refine wpAnyH_take (i := 7) (oi := ?oi8) (v := .int .u64 (o1 % 18446744073709551616)) ?hi8 (by kernel_rfl) (by kernel_rfl) (by kernel_rfl) ?hQ8 ?hy8 (by assumption) ?rest8
  case hi8 => (simp only [List.getElem?_toArray, List.getElem?_cons_zero, List.getElem?_cons_succ]; rfl)
  case hQ8 => exact fun _ _ _ h => h
  case hy8 => exact Or.inl ⟨by rfl, by (intro w hSw; (try dsimp only at hSw); go_simp <;> first | rfl | exact IntKind.wrap_u64 _)⟩
  simp only [Act.put, List.setIfInBounds_toArray, List.set_cons_zero, List.set_cons_succ]
  refine wpAnyH_take (i := 8) (oi := ?oi9) (v := .int .u64 (ra : Nat)) ?hi9 (by kernel_rfl) (by kernel_rfl) (by kernel_rfl) ?hQ9 ?hy9 (by assumption) ?rest9
  case hi9 => (simp only [List.getElem?_toArray, List.getElem?_cons_zero, List.getElem?_cons_succ]; rfl)
  case hQ9 => exact fun _ _ _ h => h
  case hy9 => exact Or.inl ⟨by rfl, by (intro w hSw; (try dsimp only at hSw); go_simp <;> first | exact HQ1.out | exact HR1.out)⟩
  simp only [Act.put, List.setIfInBounds_toArray, List.set_cons_zero, List.set_cons_succ]
  refine wpAnyH_take (i := 9) (oi := ?oi10) (v := .int .i64 (ra : Nat)) ?hi10 (by kernel_rfl) (by kernel_rfl) (by kernel_rfl) ?hQ10 ?hy10 (by assumption) ?rest10
  case hi10 => (simp only [List.getElem?_toArray, List.getElem?_cons_zero, List.getElem?_cons_succ]; rfl)
  case hQ10 => exact fun _ _ _ h => h
  case hy10 => exact Or.inl ⟨by rfl, by (intro w hSw; (try dsimp only at hSw); go_simp <;> first | rfl | exact i64_in _ (by omega) (by omega))⟩
  simp only [Act.put, List.setIfInBounds_toArray, List.set_cons_zero, List.set_cons_succ]
  refine wpAnyH_take (i := 10) (oi := ?oi11) (v := .pointer (some ⟨w.heap.size + 1, 2, none⟩)) ?hi11 (by kernel_rfl) (by kernel_rfl) (by kernel_rfl) ?hQ11 ?hy11 (by assumption) ?rest11
  case hi11 => (simp only [List.getElem?_toArray, List.getElem?_cons_zero, List.getElem?_cons_succ]; rfl)
  case hQ11 => exact fun _ _ _ h => h
  case hy11 => exact Or.inl ⟨by rfl, by (intro w hSw; (try dsimp only at hSw); go_simp )⟩
  simp only [Act.put, List.setIfInBounds_toArray, List.set_cons_zero, List.set_cons_succ]
  refine wpAnyH_take (i := 11) (oi := ?oi12) (v := .int .i64 o2) ?hi12 (by kernel_rfl) (by kernel_rfl) (by kernel_rfl) ?hQ12 ?hy12 (by assumption) ?rest12
  case hi12 => (simp only [List.getElem?_toArray, List.getElem?_cons_zero, List.getElem?_cons_succ]; rfl)
  case hQ12 => exact fun _ _ _ h => h
  case hy12 => exact y_int (w.heap.size + 1) 2 _ (fun V hV => (hV.2.1.cell 2).trans rfl) rfl
  simp only [Act.put, List.setIfInBounds_toArray, List.set_cons_zero, List.set_cons_succ]
  refine wpAnyH_take (i := 12) (oi := ?oi13) (v := .int .u64 (o2 % 18446744073709551616)) ?hi13 (by kernel_rfl) (by kernel_rfl) (by kernel_rfl) ?hQ13 ?hy13 (by assumption) ?rest13
  case hi13 => (simp only [List.getElem?_toArray, List.getElem?_cons_zero, List.getElem?_cons_succ]; rfl)
  case hQ13 => exact fun _ _ _ h => h
  case hy13 => exact Or.inl ⟨by rfl, by (intro w hSw; (try dsimp only at hSw); go_simp <;> first | rfl | exact IntKind.wrap_u64 _)⟩
  simp only [Act.put, List.setIfInBounds_toArray, List.set_cons_zero, List.set_cons_succ]
  refine wpAnyH_take (i := 13) (oi := ?oi14) (v := .int .u64 (rb : Nat)) ?hi14 (by kernel_rfl) (by kernel_rfl) (by kernel_rfl) ?hQ14 ?hy14 (by assumption) ?rest14
  case hi14 => (simp only [List.getElem?_toArray, List.getElem?_cons_zero, List.getElem?_cons_succ]; rfl)
  case hQ14 => exact fun _ _ _ h => h
  case hy14 => exact Or.inl ⟨by rfl, by (intro w hSw; (try dsimp only at hSw); go_simp <;> first | exact HQ2.out | exact HR2.out)⟩
  simp only [Act.put, List.setIfInBounds_toArray, List.set_cons_zero, List.set_cons_succ]
  refine wpAnyH_take (i := 14) (oi := ?oi15) (v := .int .i64 (rb : Nat)) ?hi15 (by kernel_rfl) (by kernel_rfl) (by kernel_rfl) ?hQ15 ?hy15 (by assumption) ?rest15
  case hi15 => (simp only [List.getElem?_toArray, List.getElem?_cons_zero, List.getElem?_cons_succ]; rfl)
  case hQ15 => exact fun _ _ _ h => h
  case hy15 => exact Or.inl ⟨by rfl, by (intro w hSw; (try dsimp only at hSw); go_simp <;> first | rfl | exact i64_in _ (by omega) (by omega))⟩
  simp only [Act.put, List.setIfInBounds_toArray, List.set_cons_zero, List.set_cons_succ]
  refine wpAnyH_take (i := 15) (oi := ?oi16) (v := .int .i64 (rd : Nat)) ?hi16 (by kernel_rfl) (by kernel_rfl) (by kernel_rfl) ?hQ16 ?hy16 (by assumption) ?rest16
  case hi16 => (simp only [List.getElem?_toArray, List.getElem?_cons_zero, List.getElem?_cons_succ]; rfl)
  case hQ16 => exact fun _ _ _ h => h
  case hy16 => exact Or.inl ⟨by rfl, by (intro w hSw; (try dsimp only at hSw); go_simp )⟩
  simp only [Act.put, List.setIfInBounds_toArray, List.set_cons_zero, List.set_cons_succ]
  refine wpAnyH_take (i := 16) (oi := ?oi17) (v := .int .i64 (ra : Nat)) ?hi17 (by kernel_rfl) (by kernel_rfl) (by kernel_rfl) ?hQ17 ?hy17 (by assumption) ?rest17
  case hi17 => (simp only [List.getElem?_toArray, List.getElem?_cons_zero, List.getElem?_cons_succ]; rfl)
  case hQ17 => exact fun _ _ _ h => h
  case hy17 => exact Or.inl ⟨by rfl, by (intro w hSw; (try dsimp only at hSw); go_simp )⟩
  simp only [Act.put, List.setIfInBounds_toArray, List.set_cons_zero, List.set_cons_succ]
  refine wpAnyH_take (i := 17) (oi := ?oi18) (v := .int .i64 (rb : Nat)) ?hi18 (by kernel_rfl) (by kernel_rfl) (by kernel_rfl) ?hQ18 ?hy18 (by assumption) ?rest18
  case hi18 => (simp only [List.getElem?_toArray, List.getElem?_cons_zero, List.getElem?_cons_succ]; rfl)
  case hQ18 => exact fun _ _ _ h => h
  case hy18 => exact Or.inl ⟨by rfl, by (intro w hSw; (try dsimp only at hSw); go_simp )⟩
  simp only [Act.put, List.setIfInBounds_toArray, List.set_cons_zero, List.set_cons_succ]
  refine wpAnyH_done (by kernel_rfl) ?_ _
  replace hx := hHeld.1
  replace hb := hHeld.2.2
  clear hHeld h3
  obtain ⟨NB, hNB⟩ : ∃ n, V.heap.size = n := ⟨_, rfl⟩
  have lNB : NX + 1 ≤ NB := by have := hx.lt; omega
  replace hNB := hide hNB
  go_wp2_with (first | ((with_reducible refine bs_tab "law.go:139" f3C NB ?_ ?_ ?_); exact hNB.out; (kernel_rfl); intro W hf3 hb' hzB; replace hx := hx.bl (hNB.out ▸ hb'); replace hb := hb.trans (hb'.mono (by omega))) | ((with_reducible refine bs_tab "law.go:140" f7C (NB + 1) ?_ ?_ ?_); exact hzB.out; (kernel_rfl); intro W hf7 hb' hzB'; replace hx := hx.bl (hzB.out ▸ hb'); replace hb := hb.trans (hb'.mono (by omega))) | ((with_reducible refine ld_tab NB k f3C (f3N k) hf3 ?_ ?_ ?_); exact f3C_at k hk; exact rfl) | ((with_reducible refine ld_tab (NB + 1) k f7C (f7N k) hf7 ?_ ?_ ?_); exact f7C_at k hk; exact rfl) | ((with_reducible refine ld_h NX h hx ?_ ?_); exact rfl) | (go_at_call 7; (with_reducible refine (HD.out _ ?_ _ ?_).mono ?_); exact HM.out; exact HA.out.below hb; rintro e W ⟨rfl, hbc⟩; replace hx := hx.bl hbc; obtain ⟨NY, hNY⟩ : ∃ n, W.heap.size = n := ⟨_, rfl⟩; have lNY : NX + 1 ≤ NY := (by (have := hx.lt; omega)); replace hNY := hide hNY; replace hb := below_bl rfl hb hbc) | ((with_reducible refine al_h NY ?_ ?_); exact hNY.out; intro W hy hb' hzY; replace hx := hx.bl (hNY.out ▸ hb'); replace hb := hb.trans (hb'.mono (by omega))) | ((with_reducible refine al_a (NY + 1) ?_ ?_); exact hzY.out; intro W ha hb' hzY'; replace hx := hx.bl (hzY.out ▸ hb'); replace hy := hy.bl (hzY.out ▸ hb'); replace hb := hb.trans (hb'.mono (by omega))) | ((with_reducible refine st_h NY _ Y hy ?_ ?_ ?_); exact rfl; exact rfl; intro W hnew ho; replace hx := hx.only ho (by omega); replace ha := ha.only ho (by omega); replace hy := hnew; replace hb := ho.bel _ _ (by omega) hb) | ((with_reducible refine st_a (NY + 1) _ noA ha ?_ ?_ ?_); exact rfl; exact rfl; intro W hnew ho; replace hx := hx.only ho (by omega); replace hy := hy.only ho (by omega); replace ha := hnew; replace hb := ho.bel _ _ (by omega) hb))
  refine wp_region_held_drew (S := (fun V => RowAt V NX h.cells 32 ∧ RowAt V NY Y.cells 32 ∧ RowAt V (NY + 1) noA.cells 41 ∧ Below w.heap.size w V)) (by kernel_rfl) ?_ (fun hHeld => ?_)
  · exact ⟨hx.dr, hy.dr, ha.dr, hb.drew⟩
  generalize W.drew = V at hHeld ⊢
  refine wpAnyH_take (i := 0) (oi := ?oi19) (v := .int .i64 (k : Nat)) ?hi19 (by kernel_rfl) (by kernel_rfl) (by kernel_rfl) ?hQ19 ?hy19 (by assumption) ?rest19
  case hi19 => (simp only [List.getElem?_toArray, List.getElem?_cons_zero]; rfl)
  case hQ19 => exact fun _ _ _ h => h
  case hy19 => exact Or.inl ⟨by rfl, by (intro w hSw; (try dsimp only at hSw); go_simp )⟩
  simp only [Act.put, List.setIfInBounds_toArray, List.set_cons_zero, List.set_cons_succ]
  refine wpAnyH_take (i := 1) (oi := ?oi20) (v := .int .i64 (ra : Nat)) ?hi20 (by kernel_rfl) (by kernel_rfl) (by kernel_rfl) ?hQ20 ?hy20 (by assumption) ?rest20
  case hi20 => (simp only [List.getElem?_toArray, List.getElem?_cons_zero, List.getElem?_cons_succ]; rfl)
  case hQ20 => exact fun _ _ _ h => h
  case hy20 => exact Or.inl ⟨by rfl, by (intro w hSw; (try dsimp only at hSw); go_simp )⟩
  simp only [Act.put, List.setIfInBounds_toArray, List.set_cons_zero, List.set_cons_succ]
  refine wpAnyH_take (i := 2) (oi := ?oi21) (v := .pointer (some ⟨NX, 1, none⟩)) ?hi21 (by kernel_rfl) (by kernel_rfl) (by kernel_rfl) ?hQ21 ?hy21 (by assumption) ?rest21
  case hi21 => (simp only [List.getElem?_toArray, List.getElem?_cons_zero, List.getElem?_cons_succ]; rfl)
  case hQ21 => exact fun _ _ _ h => h
  case hy21 => exact Or.inl ⟨by rfl, by (intro w hSw; (try dsimp only at hSw); go_simp )⟩
  simp only [Act.put, List.setIfInBounds_toArray, List.set_cons_zero, List.set_cons_succ]
  refine wpAnyH_take (i := 3) (oi := ?oi22) (v := .pointer (some ⟨NX, 1 + ra, none⟩)) ?hi22 (by kernel_rfl) (by kernel_rfl) (by kernel_rfl) ?hQ22 ?hy22 (by assumption) ?rest22
  case hi22 => (simp only [List.getElem?_toArray, List.getElem?_cons_zero, List.getElem?_cons_succ]; rfl)
  case hQ22 => exact fun _ _ _ h => h
  case hy22 => exact Or.inl ⟨by rfl, by (intro w hSw; (try dsimp only at hSw); go_simp )⟩
  simp only [Act.put, List.setIfInBounds_toArray, List.set_cons_zero, List.set_cons_succ]
  refine wpAnyH_take (i := 4) (oi := ?oi23) (v := .int .u32 (h.x ra : Nat)) ?hi23 (by kernel_rfl) (by kernel_rfl) (by kernel_rfl) ?hQ23 ?hy23 (by assumption) ?rest23
  case hi23 => (simp only [List.getElem?_toArray, List.getElem?_cons_zero, List.getElem?_cons_succ]; rfl)
  case hQ23 => exact fun _ _ _ h => h
  case hy23 => exact y_word NX (1 + ra) _ (fun V hV => (hV.1.cell _).trans (h.cell_x ra hra)) rfl
  simp only [Act.put, List.setIfInBounds_toArray, List.set_cons_zero, List.set_cons_succ]
  refine wpAnyH_take (i := 5) (oi := ?oi24) (v := .int .i64 (rb : Nat)) ?hi24 (by kernel_rfl) (by kernel_rfl) (by kernel_rfl) ?hQ24 ?hy24 (by assumption) ?rest24
  case hi24 => (simp only [List.getElem?_toArray, List.getElem?_cons_zero, List.getElem?_cons_succ]; rfl)
  case hQ24 => exact fun _ _ _ h => h
  case hy24 => exact Or.inl ⟨by rfl, by (intro w hSw; (try dsimp only at hSw); go_simp )⟩
  simp only [Act.put, List.setIfInBounds_toArray, List.set_cons_zero, List.set_cons_succ]
  refine wpAnyH_take (i := 6) (oi := ?oi25) (v := .pointer (some ⟨NX, 1, none⟩)) ?hi25 (by kernel_rfl) (by kernel_rfl) (by kernel_rfl) ?hQ25 ?hy25 (by assumption) ?rest25
  case hi25 => (simp only [List.getElem?_toArray, List.getElem?_cons_zero, List.getElem?_cons_succ]; rfl)
  case hQ25 => exact fun _ _ _ h => h
  case hy25 => exact Or.inl ⟨by rfl, by (intro w hSw; (try dsimp only at hSw); go_simp )⟩
  simp only [Act.put, List.setIfInBounds_toArray, List.set_cons_zero, List.set_cons_succ]
  refine wpAnyH_take (i := 7) (oi := ?oi26) (v := .pointer (some ⟨NX, 1 + rb, none⟩)) ?hi26 (by kernel_rfl) (by kernel_rfl) (by kernel_rfl) ?hQ26 ?hy26 (by assumption) ?rest26
  case hi26 => (simp only [List.getElem?_toArray, List.getElem?_cons_zero, List.getElem?_cons_succ]; rfl)
  case hQ26 => exact fun _ _ _ h => h
  case hy26 => exact Or.inl ⟨by rfl, by (intro w hSw; (try dsimp only at hSw); go_simp )⟩
  simp only [Act.put, List.setIfInBounds_toArray, List.set_cons_zero, List.set_cons_succ]
  refine wpAnyH_take (i := 8) (oi := ?oi27) (v := .int .u32 (h.x rb : Nat)) ?hi27 (by kernel_rfl) (by kernel_rfl) (by kernel_rfl) ?hQ27 ?hy27 (by assumption) ?rest27
  case hi27 => (simp only [List.getElem?_toArray, List.getElem?_cons_zero, List.getElem?_cons_succ]; rfl)
  case hQ27 => exact fun _ _ _ h => h
  case hy27 => exact y_word NX (1 + rb) _ (fun V hV => (hV.1.cell _).trans (h.cell_x rb hrb)) rfl
  simp only [Act.put, List.setIfInBounds_toArray, List.set_cons_zero, List.set_cons_succ]
  refine wpAnyH_ready (rs := [9]) (by kernel_rfl) (by simp) ?_
  refine AllReadyH.cons (o := ?oi28) ?hi28 (fun K hK => ?_) AllReadyH.nil
  case hi28 => (simp only [List.getElem?_toArray, List.getElem?_cons_zero, List.getElem?_cons_succ]; rfl)
  go_simp
  refine (HAl.out _).mono ?_
  rintro e V2 ⟨rfl, nd, rfl⟩
  go_simp
  refine hK.out _ _ ?_ (fun hHeld => ?_)
  · exact ⟨hHeld.1.dn nd, hHeld.2.1.dn nd, hHeld.2.2.1.dn nd, below_dn hHeld.2.2.2 nd⟩
  clear hK K
  refine wpAnyH_take (i := 10) (oi := ?oi29) (v := .tuple #[.int .u32 (doN k (h.x ra) (h.x rb) : Nat), .nilIface]) ?hi29 (by kernel_rfl) (by kernel_rfl) (by kernel_rfl) ?hQ29 ?hy29 (by assumption) ?rest29
  case hi29 => (simp only [List.getElem?_toArray, List.getElem?_cons_zero, List.getElem?_cons_succ]; rfl)
  case hQ29 => exact fun _ _ _ h => h
  case hy29 => exact Or.inl ⟨by rfl, by (intro w hSw; (try dsimp only at hSw); go_simp )⟩
  simp only [Act.put, List.setIfInBounds_toArray, List.set_cons_zero, List.set_cons_succ]
  refine wpAnyH_take (i := 11) (oi := ?oi30) (v := .int .u32 (doN k (h.x ra) (h.x rb) : Nat)) ?hi30 (by kernel_rfl) (by kernel_rfl) (by kernel_rfl) ?hQ30 ?hy30 (by assumption) ?rest30
  case hi30 => (simp only [List.getElem?_toArray, List.getElem?_cons_zero, List.getElem?_cons_succ]; rfl)
  case hQ30 => exact fun _ _ _ h => h
  case hy30 => exact Or.inl ⟨by rfl, by (intro w hSw; (try dsimp only at hSw); go_simp )⟩
  simp only [Act.put, List.setIfInBounds_toArray, List.set_cons_zero, List.set_cons_succ]
  refine wpAnyH_take (i := 12) (oi := ?oi31) (v := .nilIface) ?hi31 (by kernel_rfl) (by kernel_rfl) (by kernel_rfl) ?hQ31 ?hy31 (by assumption) ?rest31
  case hi31 => (simp only [List.getElem?_toArray, List.getElem?_cons_zero, List.getElem?_cons_succ]; rfl)
  case hQ31 => exact fun _ _ _ h => h
  case hy31 => exact Or.inl ⟨by rfl, by (intro w hSw; (try dsimp only at hSw); go_simp )⟩
  simp only [Act.put, List.setIfInBounds_toArray, List.set_cons_zero, List.set_cons_succ]
  refine wpAnyH_take (i := 13) (oi := ?oi32) (v := .int .u32 (doN k (h.x ra) (h.x rb) : Nat)) ?hi32 (by kernel_rfl) (by kernel_rfl) (by kernel_rfl) ?hQ32 ?hy32 (by assumption) ?rest32
  case hi32 => (simp only [List.getElem?_toArray, List.getElem?_cons_zero, List.getElem?_cons_succ]; rfl)
  case hQ32 => exact fun _ _ _ h => h
  case hy32 => exact Or.inl ⟨by rfl, by (intro w hSw; (try dsimp only at hSw); go_simp )⟩
  simp only [Act.put, List.setIfInBounds_toArray, List.set_cons_zero, List.set_cons_succ]
  refine wpAnyH_take (i := 14) (oi := ?oi33) (v := .nilIface) ?hi33 (by kernel_rfl) (by kernel_rfl) (by kernel_rfl) ?hQ33 ?hy33 (by assumption) ?rest33
  case hi33 => (simp only [List.getElem?_toArray, List.getElem?_cons_zero, List.getElem?_cons_succ]; rfl)
  case hQ33 => exact fun _ _ _ h => h
  case hy33 => exact Or.inl ⟨by rfl, by (intro w hSw; (try dsimp only at hSw); go_simp )⟩
  simp only [Act.put, List.setIfInBounds_toArray, List.set_cons_zero, List.set_cons_succ]
  refine wpAnyH_done (by kernel_rfl) ?_ _
  generalize V.drewN nd = W at hHeld ⊢
  replace hx := hHeld.1
  replace hy := hHeld.2.1
  replace ha := hHeld.2.2.1
  replace hb := hHeld.2.2.2
  clear hHeld
  go_wp2_with (first | ((with_reducible refine st_x NX rd h (doN k (h.x ra) (h.x rb)) hrd hx ?_ ?_ ?_); exact rfl; exact rfl; intro W hnew ho; replace hx := hnew; replace hy := hy.only ho (by omega); replace ha := ha.only ho (by omega); replace hb := ho.bel _ _ (by omega) hb) | ((with_reducible refine ld_pc NX _ hx ?_ ?_); exact rfl) | ((with_reducible refine st_pc NX _ ((h.pc + 4) % 4294967296) hx ?_ ?_ ?_); exact rfl; exact HP.out; intro W hnew ho; replace hx := hnew; replace hy := hy.only ho (by omega); replace ha := ha.only ho (by omega); replace hb := ho.bel _ _ (by omega) hb) | ((with_reducible refine ld_ct NX _ hx ?_ ?_); exact rfl) | ((with_reducible refine st_ct NX _ ((h.c.ct + 1) % 18446744073709551616) hx ?_ ?_ ?_); exact rfl; exact HCt.out; intro W hnew ho; replace hx : RowAt W NX Y.cells 32 := (by rw [HYe.out]; exact hnew); replace hy := hy.only ho (by omega); replace ha := ha.only ho (by omega); replace hb := ho.bel _ _ (by omega) hb; have fa := ha.cell) | ((with_reducible refine gl_h NY Y hy ?_ ?_ ?_); exact rfl; exact rfl) | ((with_reducible refine gl_h NX Y hx ?_ ?_ ?_); exact rfl; exact rfl) | ((with_reducible refine g_eqh Y ?_ ?_ ?_ ?_); exact rfl; exact rfl; exact rfl) | (go_at_call 6; refine (HS.out _ (HA.out.below hb)).mono ?_; rintro e W ⟨rfl, hbc⟩; replace hb := below_bl rfl hb hbc))
  go_ret
  exact ⟨rfl, hb⟩

theorem makes_walk (h : H) (ok : h.Ok) (op o0 o1 o2 : Int) (w : World) (hA : HartAt w) :
    Calls Tryd.prog 3 #[.agg h.cells, .int .i64 op, .agg #[.int .i64 o0, .int .i64 o1, .int .i64 o2]] w fun e w' => e = .returned (.bool true) ∧ Below w.heap.size w w' := by
  cases hm : mayH h with
  | false => exact makes_no h ok op o0 o1 o2 hm w hA
  | true =>
    obtain ⟨k, hk⟩ : ∃ k : Nat, op % 18446744073709551616 % 18 = (k : Int) := ⟨(op % 18446744073709551616 % 18).toNat, by omega⟩
    obtain ⟨rd, hrd⟩ : ∃ k : Nat, o0 % 18446744073709551616 % 32 = (k : Int) := ⟨(o0 % 18446744073709551616 % 32).toNat, by omega⟩
    obtain ⟨ra, hra⟩ : ∃ k : Nat, o1 % 18446744073709551616 % 32 = (k : Int) := ⟨(o1 % 18446744073709551616 % 32).toNat, by omega⟩
    obtain ⟨rb, hrb⟩ : ∃ k : Nat, o2 % 18446744073709551616 % 32 = (k : Int) := ⟨(o2 % 18446744073709551616 % 32).toNat, by omega⟩
    have hk1 : (IntKind.u64.wrap op).tmod 18 = (k : Int) := by
      rw [IntKind.wrap_u64, Int.tmod_eq_emod_of_nonneg (by omega)]; exact hk
    have Q0 : (o0 % 18446744073709551616).tmod 32 = (rd : Int) := by rw [Int.tmod_eq_emod_of_nonneg (by omega)]; exact hrd
    have Q1 : (o1 % 18446744073709551616).tmod 32 = (ra : Int) := by rw [Int.tmod_eq_emod_of_nonneg (by omega)]; exact hra
    have Q2 : (o2 % 18446744073709551616).tmod 32 = (rb : Int) := by rw [Int.tmod_eq_emod_of_nonneg (by omega)]; exact hrb
    by_cases h0 : rd = 0
    · exact makes_0 h ok op o0 o1 o2 hm k rd ra rb (by omega) (by omega) (by omega) (by omega) hk1 hrd hra hrb Q0 Q1 Q2 _ rfl h0 w hA
    · exact makes_r h ok op o0 o1 o2 hm k rd ra rb (by omega) (by omega) (by omega) (by omega) hk1 hrd hra hrb Q0 Q1 Q2 _ rfl h0 w hA
end Go.Proofs.YtelakpogochifabDoor
namespace Go.Proofs.YtelakpogochifabDoor
open Go.ChangeShapes Go.WideShapes Go.ChangeAt Go.RowKit
set_option linter.unusedVariables false

set_option maxRecDepth 100000 in
theorem hartMakes_lifted (os : Os) (started : os.Started) (H : Type) (enc : TypeId × Value → H) :
    ReturnsInHanded {} Tryd.checked os 3 .any (fun w args => (Rows.hartMakesSpec.pre enc Tryd.prog Tryd.f3 [] false w args ∧ laidMetH Tryd.prog laid4 w) ∧ sizedMet enc Tryd.prog Tryd.f3 (OpenSpec.ofChange Rows.hartMakesSpec) false w args)
      (Rows.hartMakesSpec.post enc Tryd.prog Tryd.f3 false true false false) := by
  refine returnsInHanded_of_change_and (C := Tryd.checked) (X := fun w _ => laidMetH Tryd.prog laid4 w) (fun _ _ _ hh h => h.of_heap hh) own started (by kernel_rfl) Tryd.func3
    (ChangeSpec.witness_shaped (enc := enc) (C := Tryd.checked) (os := os) (X := fun w _ => laidMetH Tryd.prog laid4 w) false (World.doorLaid Tryd.prog 600 os) #[.agg #[.int .u32 0, .int .u32 0, .int .u32 0, .int .u32 0, .int .u32 0, .int .u32 0, .int .u32 0, .int .u32 0, .int .u32 0, .int .u32 0, .int .u32 0, .int .u32 0, .int .u32 0, .int .u32 0, .int .u32 0, .int .u32 0, .int .u32 0, .int .u32 0, .int .u32 0, .int .u32 0, .int .u32 0, .int .u32 0, .int .u32 0, .int .u32 0, .int .u32 0, .int .u32 0, .int .u32 0, .int .u32 0, .int .u32 0, .int .u32 0, .int .u32 0, .int .u32 0, .int .u32 0, .bool false, .int .u32 0, .int .u32 0, .int .u32 0, .int .u32 0, .int .u32 0, .int .u32 0, .int .u32 0, .int .u64 0], .int .i64 0, .agg #[.int .i64 0, .int .i64 0, .int .i64 0]] 8 rfl (World.shaped_of_RefB (by kernel_rfl) (by kernel_rfl)) (by kernel_rfl) (by kernel_rfl) (by kernel_rfl) (door4 os _)) ?_
  intro W base args ds gs before hval0 hW _ _ hL _
  have hval : ∀ (j : Nat) t v, Tryd.f3.params[j]? = some t → args[j]? = some v → Value.okWide Tryd.prog W .any base t v := hval0
  have hW' := hW
  obtain ⟨p, q, hA0, hV, rfl, hfz, hnd⟩ := hW
  have hA : DataW.TrodAll enc Tryd.prog W 0 (fun _ => true) true Tryd.f3.params.toList args.toList ds p := hA0
  rw [Tryd.params3] at hA hval
  obtain ⟨v0, vs0, d0, ds0, p0, q0, hargs, rfl, rfl, h0, r0⟩ := trodAll_cons hA
  obtain ⟨v1, vs1, d1, ds1, p1, q1, rfl, rfl, rfl, h1, r1⟩ := trodAll_cons r0
  obtain ⟨v2, vs2, d2, ds2, p2, q2, rfl, rfl, rfl, h2, r2⟩ := trodAll_cons r1
  obtain ⟨rfl, rfl, rfl⟩ := trodAll_nil r2
  obtain rfl : args = #[v0, v1, v2] := by cases args; simp_all
  obtain ⟨rfl, rfl⟩ := trodVars_none hV
  have lt0 : ∀ x ∈ p0, x.block < W.heap.size := by obtain ⟨m, hm⟩ := h0; exact DataW.trod_lt m _ _ _ hm
  obtain ⟨i0, hi0, rfl⟩ := open_hart (hval 0 28 v0 rfl rfl) h0
  obtain ⟨a1, rfl, rfl, rfl, w1⟩ := open_int Tryd.underlying3 (hval 1 3 v1 rfl rfl) h1
  have lt2 : ∀ x ∈ p2, x.block < W.heap.size := by obtain ⟨m, hm⟩ := h2; exact DataW.trod_lt m _ _ _ hm
  obtain ⟨z0, z1, z2, rfl, hz0, hz1, hz2⟩ := open_array3 Tryd.underlying29 Tryd.underlying3 (by kernel_rfl) (by kernel_rfl) (hval 2 29 v2 rfl rfl) h2
  clear hA0 hval0
  refine (makes_walk i0 hi0 a1 z0 z1 z2 W (hart_of_laid hL)).mono fun e W' ⟨he, bel⟩ => ?_
  subst he
  exact ⟨_, rfl, _, _, _, [], _, [], hW', trodAll_mk1 (shut_bool Tryd.underlying4 _), (trodAll_cons_mk (Below.trod laidOut (by kernel_rfl) (of_decide_eq_true (by kernel_rfl)) h0 bel lt0) (trodAll_cons_mk (shut_int Tryd.underlying3 w1) (trodAll_cons_mk (Below.trod laidOut (by kernel_rfl) (of_decide_eq_true (by kernel_rfl)) h2 bel lt2) trodAll_mk0))), rfl, bel.frame _, fun h => by cases h⟩

theorem hartMakes_over : Rows.HartMakesSaid :=
  OpenClaim.holds_of_wide 3 Tryd.f3 rfl rfl rfl rfl rfl rfl rfl ⟨rfl, rfl, rfl, rfl, rfl⟩ rfl rfl rfl rfl rfl (by kernel_rfl) Tryd.func3 (by kernel_rfl)
    (of_decide_eq_true (by kernel_rfl)) (by unfold Func.isWrapper; first | (rw [if_pos (by decide +kernel)]; kernel_rfl) | (rw [if_neg (by decide +kernel)]; exact ⟨rfl, rfl⟩))
    (fun os started H enc _ => hartMakes_lifted os started H enc)

theorem hartMakes_proved : Rows.HartMakesCardSaid :=
  Claim7.holds_tied_plain_at .later [] [.data, .data, .data, .data] true (true, "112fe3bee90460b1e35931a4c9ee8566fdf72f1422caac06efdf78136fc467c3") false
    hartMakes_over (fun _ h => by cases h) (by kernel_rfl) (fun _ h => by cases h) hartMakes_row_tie rfl ⟨rfl, rfl⟩ (by kernel_rfl) rfl
    (fun f fn hf hfn => by
      obtain rfl : f = 3 := Option.some.inj ((show Tryd.prog.funcNamed Rows.hartMakesRow.func = some 3 by kernel_rfl).symm.trans hf) |>.symm
      obtain rfl : fn = Tryd.f3 := (Option.some.inj (Tryd.func3.symm.trans hfn)).symm
      exact ⟨by kernel_rfl, fun j t ht => by
        rw [Tryd.params3] at ht
        have hm : t ∈ [28, 3, 29] := by simpa using Array.mem_of_getElem? ht
        have hall : ([28, 3, 29].all fun u => !Tryd.prog.wantsStandIn u) = true := by kernel_rfl
        exact (show Tryd.prog.wantsStandIn t = false by simpa using List.all_eq_true.1 hall t hm)⟩)
    (by kernel_rfl)
#print axioms hartMakes_proved
end Go.Proofs.YtelakpogochifabDoor
