/-
  UartKeeps, walked.
-/
import Derived.Test.YthopfecjnbfnmaaUaRead
import Derived.Test.YthopfecjnbfnmaaUaWrite
import Derived.Test.YthopfecjnbfnmaaUaGive
import Derived.Test.YthopfecjnbfnmaaUaSure
namespace Go.Proofs.Ythopfecjnbfnmaa
open Go.RowKit
set_option linter.unusedVariables false

theorem lc_may (s : U) (l : Nat) : mayU (withLc s l) = mayU s := rfl
theorem dm_may (s : U) (l : Nat) : mayU (withDm s l) = mayU s := rfl
theorem sc_may (s : U) (l : Nat) : mayU (withSc s l) = mayU s := rfl
theorem ie_may (s : U) (l : Nat) (hm : mayU s = true) (h : l ≤ 7) : mayU (withIe s l) = true := by
  have := (mayU_iff s).1 hm
  exact (mayU_iff _).2 ⟨this.rx, this.tx, this.w0, this.w3, this.wt, h, this.mc⟩
theorem lc_ok {s : U} (ok : s.Ok) {l : Nat} (h : l < 256) : (withLc s l).Ok := ⟨ok.rx, ok.tx, ok.ie, h, ok.mc, ok.sc, ok.dl, ok.dm, ok.w0, ok.w1⟩
theorem dm_ok {s : U} (ok : s.Ok) {l : Nat} (h : l < 256) : (withDm s l).Ok := ⟨ok.rx, ok.tx, ok.ie, ok.lc, ok.mc, ok.sc, ok.dl, h, ok.w0, ok.w1⟩
theorem sc_ok {s : U} (ok : s.Ok) {l : Nat} (h : l < 256) : (withSc s l).Ok := ⟨ok.rx, ok.tx, ok.ie, ok.lc, ok.mc, h, ok.dl, ok.dm, ok.w0, ok.w1⟩
theorem ie_ok {s : U} (ok : s.Ok) {l : Nat} (h : l < 256) : (withIe s l).Ok := ⟨ok.rx, ok.tx, h, ok.lc, ok.mc, ok.sc, ok.dl, ok.dm, ok.w0, ok.w1⟩
theorem dl_lc (s : U) (l : Nat) : dlB (withLc s l) = decide (128 ≤ l) := rfl
theorem write7 (s : U) (hm : mayU s = true) (v : Nat) : writeV s 7 v = (withSc s v, 0) := by
  unfold writeV writeS; rw [if_pos hm]; rfl
theorem write1t (s : U) (hm : mayU s = true) (hd : dlB s = true) (v : Nat) : writeV s 1 v = (withDm s v, 0) := by
  unfold writeV writeS; rw [if_pos hm, if_neg (by decide), if_pos rfl, if_pos hd]
theorem write1f (s : U) (hm : mayU s = true) (hd : dlB s = false) (v : Nat) : writeV s 1 v = (withIe s (v % 8), 0) := by
  unfold writeV writeS; rw [if_pos hm, if_neg (by decide), if_pos rfl, hd, if_neg (by decide)]
theorem read7 (s : U) (hm : mayU s = true) : readV s 7 = (s, s.sc, 0) := by
  unfold readV readS; rw [if_pos hm]; rfl
theorem read1t (s : U) (hm : mayU s = true) (hd : dlB s = true) : readV s 1 = (s, s.dm, 0) := by
  unfold readV readS; rw [if_pos hm, if_neg (by decide), if_pos rfl, if_pos hd]
theorem read1f (s : U) (hm : mayU s = true) (hd : dlB s = false) : readV s 1 = (s, s.ie, 0) := by
  unfold readV readS; rw [if_pos hm, if_neg (by decide), if_pos rfl, hd, if_neg (by decide)]
theorem low7 (n : Nat) (h : n < 256) : bits .and .u8 (n : Int) 127 = ((n % 128 : Nat) : Int) := by
  rw [show (127 : Int) = ((127 : Nat) : Int) from rfl, u8_and_nat n 127 h (by decide), show n &&& 127 = n % 128 from Nat.and_two_pow_sub_one_eq_mod n 7]
theorem or128 (n : Nat) (h : n < 128) : bits .or .u8 (n : Int) 128 = ((n + 128 : Nat) : Int) := by
  exact (by decide +kernel : ∀ n, n < 128 → bits .or .u8 ((n : Nat) : Int) 128 = ((n + 128 : Nat) : Int)) n h
/-- The choice of the latch. -/
def latch (e : Bool) (n : Nat) : Nat := if e = true then n % 128 + 128 else n % 128
theorem latch_lt (e : Bool) (n : Nat) : latch e n < 256 := by unfold latch; split <;> omega
variable {ops : Array Oper} {rest : List Oper} {dst : Option Tmp} {ty : TypeId} {after : Array Edge} {a : Act} {x : Operand} {gd : Option (Nat × Bool)} {pos : String} {w : World} {Q : Exit → Act → World → Prop}
theorem bx_2 (N v0 v1 : Nat) (hN : w.heap.size = N) (hx : a.eval x = .agg #[.int .u8 (v0 : Nat), .int .u8 (v1 : Nat)])
    (k : ∀ W, RowAt W N #[.int .u8 (v0 : Nat), .int .u8 (v1 : Nat)] 53 → Below N w W → Hid (W.heap.size = N + 1) → wpList Try.prog ops Q rest (a.put dst (.pointer (some ⟨N, 0, none⟩))) W) :
    wpList Try.prog ops Q (⟨dst, .box 53 x, ty, pos, after, none⟩ :: rest) a w := op_box N hN _ hx k
theorem ld_2 (b j : Nat) (cs : Array Value) (v : Value) (t' : TypeId) (hr : RowAt w b cs t') (hv : cs[j]? = some v) (hx : a.eval x = .pointer (some ⟨b, j, none⟩)) (hw : Region.wanted ⟨dst, .load 5 x, ty, pos, after, gd⟩ (yielded ops a.tmps) = true)
    (k : wpList Try.prog ops Q rest (a.put dst v) w) : wpList Try.prog ops Q (⟨dst, .load 5 x, ty, pos, after, gd⟩ :: rest) a w :=
  BigFrame.wpList_want hw fun K hK => by
    have hcell : w.cell? ⟨b, j, none⟩ = some v := (hr.cell j).trans hv
    have hrun : (loadVar 5 ⟨b, j, none⟩).run Try.prog w = .ok v w := by
      have hagg : (isAgg 5).run Try.prog w = .ok false w := by
        unfold isAgg
        rw [Sem.run_bind, run_underlying Try.underlying5 w]
        rfl
      simp [loadVar, Sem.run_bind, hagg, hcell]
    unfold Oper.wp execOp
    simp only [hx, Instr.loadAt, Instr.sureAddr, Sem.run_bind, Sem.run_pure, Result.andThen_ok, hrun]
    exact hK _ _ k
set_option maxHeartbeats 1000000 in
theorem keeps_no (s : U) (ok : s.Ok) (v0 v1 : Nat) (k : Int) (hm : mayU s = false) (w : World) :
    Calls Try.prog 5 #[.agg s.cells, .agg #[.int .u8 (v0 : Nat), .int .u8 (v1 : Nat)], .int .i64 k] w fun e w' => e = .returned (.bool true) ∧ Below w.heap.size w w' := by
  have HS := hide (fun w => sure_any w)
  have HG := hide (fun s w => give_any s w)
  have HC := hide (fun w => check_no s ok hm w)
  go_enter Try.func5, Try.ntmps5
  go_wp2_with (first | ((with_reducible refine bx_ur w.heap.size s ?_ ?_ ?_); exact rfl; exact rfl; intro W hg hb hz) | ((with_reducible refine bx_2 (w.heap.size + 1) v0 v1 ?_ ?_ ?_); exact hz.out; exact rfl; intro W h2 hb' hz'; replace hg := hg.bl (hz.out ▸ hb'); replace hb := hb.trans (hb'.mono (by omega)); replace hz := hz') | ((with_reducible refine ld_ur w.heap.size s hg ?_ ?_ ?_); exact rfl; exact rfl) | (go_at_call 7; (with_reducible refine (HG.out _ _).mono ?_); rintro e W ⟨rfl, hbc⟩; replace hg := hg.bl hbc; replace h2 := h2.bl hbc; obtain ⟨NX, hNX⟩ : ∃ n, W.heap.size = n := ⟨_, rfl⟩; have lNX : w.heap.size + 2 ≤ NX := (by (have := h2.lt; omega)); replace hNX := hide hNX; replace hb := below_bl rfl hb hbc) | ((with_reducible refine al_up NX ?_ ?_); exact hNX.out; intro W hx hb' hz2; replace h2 := h2.bl (hNX.out ▸ hb'); replace hb := hb.trans (hb'.mono (by omega))) | ((with_reducible refine st_up NX _ s hx ?_ ?_ ?_); exact rfl; exact rfl; intro W hnew ho; replace h2 := h2.only ho (by omega); replace hx := hnew; replace hb := ho.bel _ _ (by omega) hb) | ((with_reducible refine ld_up NX _ hx ?_ ?_ ?_); exact rfl; exact rfl) | (go_at_call 14; (with_reducible refine (HC.out _).mono ?_); rintro e W ⟨rfl, hbc⟩; replace h2 := h2.bl hbc; replace hx := hx.bl hbc; replace hb := below_bl rfl hb hbc) | (go_at_call 11; (with_reducible refine (HS.out _).mono ?_); rintro e W ⟨rfl, hbc⟩; replace hb := below_bl rfl hb hbc))
  go_ret
  exact ⟨rfl, hb⟩

set_option maxRecDepth 20000 in
set_option maxHeartbeats 2000000 in
theorem keeps_t (s : U) (ok : s.Ok) (v0 v1 : Nat) (k : Int) (m0 : v0 < 256) (m1 : v1 < 256) (hm : mayU s = true) (hk : k.tmod 2 = 0) (w : World) :
    Calls Try.prog 5 #[.agg s.cells, .agg #[.int .u8 (v0 : Nat), .int .u8 (v1 : Nat)], .int .i64 k] w fun e w' => e = .returned (.bool true) ∧ Below w.heap.size w w' := by
  have HS := hide (fun w => sure_any w)
  have HG := hide (fun s w => give_any s w)
  have hm1 : mayU (withLc s (latch true s.lc)) = true := (lc_may s _).trans hm
  have ok1 : (withLc s (latch true s.lc)).Ok := lc_ok ok (latch_lt _ _)
  have hd1 : dlB (withLc s (latch true s.lc)) = true := by show decide (128 ≤ s.lc % 128 + 128) = true; simp
  have hm2 : mayU (withDm (withLc s (latch true s.lc)) v0) = true := (dm_may _ _).trans hm1
  have ok2 : (withDm (withLc s (latch true s.lc)) v0).Ok := dm_ok ok1 m0
  have hm3 : mayU (withSc (withDm (withLc s (latch true s.lc)) v0) v1) = true := (sc_may _ _).trans hm2
  have ok3 : (withSc (withDm (withLc s (latch true s.lc)) v0) v1).Ok := sc_ok ok2 m1
  have HC := hide (fun w => check_ok s ok hm w)
  have HW1 := hide (fun w => write_any (withLc s (latch true s.lc)) ok1 1 v0 m0 w)
  rw [write1t (withLc s (latch true s.lc)) hm1 hd1, show errP 0 = .nilIface from rfl, show (((1 : Nat) : Int)) = 1 from rfl] at HW1
  have HW2 := hide (fun w => write_any (withDm (withLc s (latch true s.lc)) v0) ok2 7 v1 m1 w)
  rw [write7 (withDm (withLc s (latch true s.lc)) v0) hm2, show errP 0 = .nilIface from rfl, show (((7 : Nat) : Int)) = 7 from rfl] at HW2
  have HR1 := hide (fun w => read_any (withSc (withDm (withLc s (latch true s.lc)) v0) v1) ok3 1 w)
  rw [read1t (withSc (withDm (withLc s (latch true s.lc)) v0) v1) hm3 hd1, show errP 0 = .nilIface from rfl, show (((1 : Nat) : Int)) = 1 from rfl] at HR1
  have HR2 := hide (fun w => read_any (withSc (withDm (withLc s (latch true s.lc)) v0) v1) ok3 7 w)
  rw [read7 (withSc (withDm (withLc s (latch true s.lc)) v0) v1) hm3, show errP 0 = .nilIface from rfl, show (((7 : Nat) : Int)) = 7 from rfl] at HR2
  replace HR1 : Hid (∀ w, Calls Try.prog 13 #[.agg (withSc (withDm (withLc s (latch true s.lc)) v0) v1).cells, .int .u32 1] w fun e w' => e = .returned (.tuple #[.agg (withSc (withDm (withLc s (latch true s.lc)) v0) v1).cells, .int .u8 (v0 : Nat), .nilIface]) ∧ Below w.heap.size w w') := HR1
  replace HR2 : Hid (∀ w, Calls Try.prog 13 #[.agg (withSc (withDm (withLc s (latch true s.lc)) v0) v1).cells, .int .u32 7] w fun e w' => e = .returned (.tuple #[.agg (withSc (withDm (withLc s (latch true s.lc)) v0) v1).cells, .int .u8 (v1 : Nat), .nilIface]) ∧ Below w.heap.size w w') := HR2
  have HO := hide (or128 (s.lc % 128) (by omega))
  have HL := hide (low7 s.lc ok.lc)
  have HT := hide hk
  have k1 : (k.tmod 2 == 0) = true := by simp [hk]
  have k2 : (k.tmod 2 != 0) = false := by simp [hk]
  clear hk hm1 ok1 hd1 hm2 ok2 hm3 ok3
  go_enter Try.func5, Try.ntmps5
  go_wp2_with (first | ((with_reducible refine bx_ur w.heap.size s ?_ ?_ ?_); exact rfl; exact rfl; intro W hg hb hz) | ((with_reducible refine bx_2 (w.heap.size + 1) v0 v1 ?_ ?_ ?_); exact hz.out; exact rfl; intro W h2 hb' hz'; replace hg := hg.bl (hz.out ▸ hb'); replace hb := hb.trans (hb'.mono (by omega)); replace hz := hz') | ((with_reducible refine ld_ur w.heap.size s hg ?_ ?_ ?_); exact rfl; exact rfl) | (go_at_call 7; (with_reducible refine (HG.out _ _).mono ?_); rintro e W ⟨rfl, hbc⟩; replace hg := hg.bl hbc; replace h2 := h2.bl hbc; obtain ⟨NX, hNX⟩ : ∃ n, W.heap.size = n := ⟨_, rfl⟩; have lNX : w.heap.size + 2 ≤ NX := (by (have := h2.lt; omega)); replace hNX := hide hNX; replace hb := below_bl rfl hb hbc) | ((with_reducible refine al_up NX ?_ ?_); exact hNX.out; intro W hx hb' hz2; replace h2 := h2.bl (hNX.out ▸ hb'); replace hb := hb.trans (hb'.mono (by omega))) | ((with_reducible refine st_up NX _ s hx ?_ ?_ ?_); exact rfl; exact rfl; intro W hnew ho; replace h2 := h2.only ho (by omega); replace hx := hnew; replace hb := ho.bel _ _ (by omega) hb) | ((with_reducible refine ld_up NX s hx ?_ ?_ ?_); exact rfl; exact rfl) | (go_at_call 14; (with_reducible refine (HC.out _).mono ?_); rintro e W ⟨rfl, hbc⟩; replace h2 := h2.bl hbc; replace hx := hx.bl hbc; replace hb := below_bl rfl hb hbc) | ((with_reducible refine ld_lc NX s _ hx ?_ ?_); exact rfl) | ((with_reducible refine st_lc NX s (s.lc % 128) _ hx ?_ ?_ ?_); exact rfl; exact congrArg (Value.int .u8) HL.out; intro W hnew ho; replace h2 := h2.only ho (by omega); replace hx := hnew; replace hb := ho.bel _ _ (by omega) hb) | ((with_reducible refine ld_lc NX (withLc s (s.lc % 128)) _ hx ?_ ?_); exact rfl) | ((with_reducible refine st_lc NX (withLc s (s.lc % 128)) (s.lc % 128 + 128) _ hx ?_ ?_ ?_); exact rfl; exact congrArg (Value.int .u8) HO.out; intro W hnew ho; replace h2 := h2.only ho (by omega); replace hx := (show RowAt W NX (withLc s (latch true s.lc)).cells 29 from hnew); replace hb := ho.bel _ _ (by omega) hb) | ((with_reducible refine ld_up NX (withLc s (latch true s.lc)) hx ?_ ?_ ?_); exact rfl; exact rfl) | ((with_reducible refine ld_2 (w.heap.size + 1) 0 _ _ _ h2 rfl ?_ ?_ ?_); exact rfl; exact rfl) | ((with_reducible refine ld_2 (w.heap.size + 1) 1 _ _ _ h2 rfl ?_ ?_ ?_); exact rfl; exact rfl) | (go_at_call 12; first | ((with_reducible refine (HW1.out _).mono ?_); rintro e W ⟨rfl, hbc⟩; replace h2 := h2.bl hbc; replace hx := hx.bl hbc; obtain ⟨NY, hNY⟩ : ∃ n, W.heap.size = n := ⟨_, rfl⟩; have lNY : NX + 1 ≤ NY := (by (have := hx.lt; omega)); replace hNY := hide hNY; replace hb := below_bl rfl hb hbc) | ((with_reducible refine (HW2.out _).mono ?_); rintro e W ⟨rfl, hbc⟩; replace h2 := h2.bl hbc; replace hy := hy.bl hbc; obtain ⟨NZ, hNZ⟩ : ∃ n, W.heap.size = n := ⟨_, rfl⟩; have lNZ : NY + 1 ≤ NZ := (by (have := hy.lt; omega)); replace hNZ := hide hNZ; replace hb := below_bl rfl hb hbc)) | ((with_reducible refine al_up NY ?_ ?_); exact hNY.out; intro W hy hb' hz2; replace h2 := h2.bl (hNY.out ▸ hb'); replace hb := hb.trans (hb'.mono (by omega))) | ((with_reducible refine st_up NY _ (withDm (withLc s (latch true s.lc)) v0) hy ?_ ?_ ?_); exact rfl; exact rfl; intro W hnew ho; replace h2 := h2.only ho (by omega); replace hy := hnew; replace hb := ho.bel _ _ (by omega) hb) | ((with_reducible refine ld_up NY (withDm (withLc s (latch true s.lc)) v0) hy ?_ ?_ ?_); exact rfl; exact rfl) | ((with_reducible refine al_up NZ ?_ ?_); exact hNZ.out; intro W hq hb' hz2; replace h2 := h2.bl (hNZ.out ▸ hb'); replace hb := hb.trans (hb'.mono (by omega))) | ((with_reducible refine st_up NZ _ (withSc (withDm (withLc s (latch true s.lc)) v0) v1) hq ?_ ?_ ?_); exact rfl; exact rfl; intro W hnew ho; replace h2 := h2.only ho (by omega); replace hq := hnew; replace hb := ho.bel _ _ (by omega) hb) | ((with_reducible refine ld_up NZ (withSc (withDm (withLc s (latch true s.lc)) v0) v1) hq ?_ ?_ ?_); exact rfl; exact rfl) | (go_at_call 13; first | ((with_reducible refine (HR1.out _).mono ?_); rintro e W ⟨rfl, hbc⟩; replace h2 := h2.bl hbc; replace hq := hq.bl hbc; obtain ⟨NA, hNA⟩ : ∃ n, W.heap.size = n := ⟨_, rfl⟩; have lNA : NZ + 1 ≤ NA := (by (have := hq.lt; omega)); replace hNA := hide hNA; replace hb := below_bl rfl hb hbc) | ((with_reducible refine (HR2.out _).mono ?_); rintro e W ⟨rfl, hbc⟩; replace h2 := h2.bl hbc; replace hq := hq.bl hbc; obtain ⟨NB, hNB⟩ : ∃ n, W.heap.size = n := ⟨_, rfl⟩; have lNB : NZ + 1 ≤ NB := (by (have := hq.lt; omega)); replace hNB := hide hNB; replace hb := below_bl rfl hb hbc)) | ((with_reducible refine al_up NA ?_ ?_); exact hNA.out; intro W ha hb' hz2; replace h2 := h2.bl (hNA.out ▸ hb'); replace hq := hq.bl (hNA.out ▸ hb'); replace hb := hb.trans (hb'.mono (by omega))) | ((with_reducible refine st_up NA _ (withSc (withDm (withLc s (latch true s.lc)) v0) v1) ha ?_ ?_ ?_); exact rfl; exact rfl; intro W hnew ho; replace h2 := h2.only ho (by omega); replace hq := hq.only ho (by omega); replace ha := hnew; replace hb := ho.bel _ _ (by omega) hb) | ((with_reducible refine al_up NB ?_ ?_); exact hNB.out; intro W hc hb' hz2; replace h2 := h2.bl (hNB.out ▸ hb'); replace hb := hb.trans (hb'.mono (by omega))) | ((with_reducible refine st_up NB _ (withSc (withDm (withLc s (latch true s.lc)) v0) v1) hc ?_ ?_ ?_); exact rfl; exact rfl; intro W hnew ho; replace h2 := h2.only ho (by omega); replace hc := hnew; replace hb := ho.bel _ _ (by omega) hb) | (go_at_call 11; (with_reducible refine (HS.out _).mono ?_); rintro e W ⟨rfl, hbc⟩; replace hb := below_bl rfl hb hbc))
  go_ret
  exact ⟨rfl, hb⟩

set_option maxRecDepth 20000 in
set_option maxHeartbeats 2000000 in
theorem keeps_f (s : U) (ok : s.Ok) (v0 v1 : Nat) (k : Int) (m0 : v0 < 256) (m1 : v1 < 256) (hm : mayU s = true) (hk : k.tmod 2 ≠ 0) (w : World) :
    Calls Try.prog 5 #[.agg s.cells, .agg #[.int .u8 (v0 : Nat), .int .u8 (v1 : Nat)], .int .i64 k] w fun e w' => e = .returned (.bool true) ∧ Below w.heap.size w w' := by
  have HS := hide (fun w => sure_any w)
  have HG := hide (fun s w => give_any s w)
  have hm1 : mayU (withLc s (latch false s.lc)) = true := (lc_may s _).trans hm
  have ok1 : (withLc s (latch false s.lc)).Ok := lc_ok ok (latch_lt _ _)
  have hd1 : dlB (withLc s (latch false s.lc)) = false := by show decide (128 ≤ s.lc % 128) = false; simp; omega
  have hm2 : mayU (withIe (withLc s (latch false s.lc)) (v0 % 8)) = true := ie_may _ _ hm1 (by omega)
  have ok2 : (withIe (withLc s (latch false s.lc)) (v0 % 8)).Ok := ie_ok ok1 (by omega)
  have hm3 : mayU (withSc (withIe (withLc s (latch false s.lc)) (v0 % 8)) v1) = true := (sc_may _ _).trans hm2
  have ok3 : (withSc (withIe (withLc s (latch false s.lc)) (v0 % 8)) v1).Ok := sc_ok ok2 m1
  have HC := hide (fun w => check_ok s ok hm w)
  have HW1 := hide (fun w => write_any (withLc s (latch false s.lc)) ok1 1 v0 m0 w)
  rw [write1f (withLc s (latch false s.lc)) hm1 hd1, show errP 0 = .nilIface from rfl, show (((1 : Nat) : Int)) = 1 from rfl] at HW1
  have HW2 := hide (fun w => write_any (withIe (withLc s (latch false s.lc)) (v0 % 8)) ok2 7 v1 m1 w)
  rw [write7 (withIe (withLc s (latch false s.lc)) (v0 % 8)) hm2, show errP 0 = .nilIface from rfl, show (((7 : Nat) : Int)) = 7 from rfl] at HW2
  have HR1 := hide (fun w => read_any (withSc (withIe (withLc s (latch false s.lc)) (v0 % 8)) v1) ok3 1 w)
  rw [read1f (withSc (withIe (withLc s (latch false s.lc)) (v0 % 8)) v1) hm3 hd1, show errP 0 = .nilIface from rfl, show (((1 : Nat) : Int)) = 1 from rfl] at HR1
  have HR2 := hide (fun w => read_any (withSc (withIe (withLc s (latch false s.lc)) (v0 % 8)) v1) ok3 7 w)
  rw [read7 (withSc (withIe (withLc s (latch false s.lc)) (v0 % 8)) v1) hm3, show errP 0 = .nilIface from rfl, show (((7 : Nat) : Int)) = 7 from rfl] at HR2
  replace HR1 : Hid (∀ w, Calls Try.prog 13 #[.agg (withSc (withIe (withLc s (latch false s.lc)) (v0 % 8)) v1).cells, .int .u32 1] w fun e w' => e = .returned (.tuple #[.agg (withSc (withIe (withLc s (latch false s.lc)) (v0 % 8)) v1).cells, .int .u8 ((v0 % 8) : Nat), .nilIface]) ∧ Below w.heap.size w w') := HR1
  replace HR2 : Hid (∀ w, Calls Try.prog 13 #[.agg (withSc (withIe (withLc s (latch false s.lc)) (v0 % 8)) v1).cells, .int .u32 7] w fun e w' => e = .returned (.tuple #[.agg (withSc (withIe (withLc s (latch false s.lc)) (v0 % 8)) v1).cells, .int .u8 (v1 : Nat), .nilIface]) ∧ Below w.heap.size w w') := HR2
  have HO := hide (or128 (s.lc % 128) (by omega))
  have HL := hide (low7 s.lc ok.lc)
  have HT := hide hk
  have k1 : (k.tmod 2 == 0) = false := by simp [hk]
  have k2 : (k.tmod 2 != 0) = true := by simp [hk]
  clear hk hm1 ok1 hd1 hm2 ok2 hm3 ok3
  have HLL : Hid (0 = 0) := hide rfl
  go_enter Try.func5, Try.ntmps5
  go_wp2_with (first | ((with_reducible refine bx_ur w.heap.size s ?_ ?_ ?_); exact rfl; exact rfl; intro W hg hb hz) | ((with_reducible refine bx_2 (w.heap.size + 1) v0 v1 ?_ ?_ ?_); exact hz.out; exact rfl; intro W h2 hb' hz'; replace hg := hg.bl (hz.out ▸ hb'); replace hb := hb.trans (hb'.mono (by omega)); replace hz := hz') | ((with_reducible refine ld_ur w.heap.size s hg ?_ ?_ ?_); exact rfl; exact rfl) | (go_at_call 7; (with_reducible refine (HG.out _ _).mono ?_); rintro e W ⟨rfl, hbc⟩; replace hg := hg.bl hbc; replace h2 := h2.bl hbc; obtain ⟨NX, hNX⟩ : ∃ n, W.heap.size = n := ⟨_, rfl⟩; have lNX : w.heap.size + 2 ≤ NX := (by (have := h2.lt; omega)); replace hNX := hide hNX; replace hb := below_bl rfl hb hbc) | ((with_reducible refine al_up NX ?_ ?_); exact hNX.out; intro W hx hb' hz2; replace h2 := h2.bl (hNX.out ▸ hb'); replace hb := hb.trans (hb'.mono (by omega))) | ((with_reducible refine st_up NX _ s hx ?_ ?_ ?_); exact rfl; exact rfl; intro W hnew ho; replace h2 := h2.only ho (by omega); replace hx := hnew; replace hb := ho.bel _ _ (by omega) hb) | ((with_reducible refine ld_up NX s hx ?_ ?_ ?_); exact rfl; exact rfl) | (go_at_call 14; (with_reducible refine (HC.out _).mono ?_); rintro e W ⟨rfl, hbc⟩; replace h2 := h2.bl hbc; replace hx := hx.bl hbc; replace hb := below_bl rfl hb hbc) | ((with_reducible refine ld_lc NX s _ hx ?_ ?_); exact rfl) | ((with_reducible refine st_lc NX s (s.lc % 128) _ hx ?_ ?_ ?_); exact rfl; exact congrArg (Value.int .u8) HL.out; intro W hnew ho; replace h2 := h2.only ho (by omega); replace hx := (show RowAt W NX (withLc s (latch false s.lc)).cells 29 from hnew); replace hb := ho.bel _ _ (by omega) hb) | ((with_reducible refine ld_up NX (withLc s (latch false s.lc)) hx ?_ ?_ ?_); exact rfl; exact rfl) | ((with_reducible refine ld_2 (w.heap.size + 1) 0 _ _ _ h2 rfl ?_ ?_ ?_); exact rfl; exact rfl) | ((with_reducible refine ld_2 (w.heap.size + 1) 1 _ _ _ h2 rfl ?_ ?_ ?_); exact rfl; exact rfl) | (go_at_call 12; first | ((with_reducible refine (HW1.out _).mono ?_); rintro e W ⟨rfl, hbc⟩; replace h2 := h2.bl hbc; replace hx := hx.bl hbc; obtain ⟨NY, hNY⟩ : ∃ n, W.heap.size = n := ⟨_, rfl⟩; have lNY : NX + 1 ≤ NY := (by (have := hx.lt; omega)); replace hNY := hide hNY; replace hb := below_bl rfl hb hbc) | ((with_reducible refine (HW2.out _).mono ?_); rintro e W ⟨rfl, hbc⟩; replace h2 := h2.bl hbc; replace hy := hy.bl hbc; obtain ⟨NZ, hNZ⟩ : ∃ n, W.heap.size = n := ⟨_, rfl⟩; have lNZ : NY + 1 ≤ NZ := (by (have := hy.lt; omega)); replace hNZ := hide hNZ; replace hb := below_bl rfl hb hbc)) | ((with_reducible refine al_up NY ?_ ?_); exact hNY.out; intro W hy hb' hz2; replace h2 := h2.bl (hNY.out ▸ hb'); replace hb := hb.trans (hb'.mono (by omega))) | ((with_reducible refine st_up NY _ (withIe (withLc s (latch false s.lc)) (v0 % 8)) hy ?_ ?_ ?_); exact rfl; exact rfl; intro W hnew ho; replace h2 := h2.only ho (by omega); replace hy := hnew; replace hb := ho.bel _ _ (by omega) hb) | ((with_reducible refine ld_up NY (withIe (withLc s (latch false s.lc)) (v0 % 8)) hy ?_ ?_ ?_); exact rfl; exact rfl) | ((with_reducible refine al_up NZ ?_ ?_); exact hNZ.out; intro W hq hb' hz2; replace h2 := h2.bl (hNZ.out ▸ hb'); replace hb := hb.trans (hb'.mono (by omega))) | ((with_reducible refine st_up NZ _ (withSc (withIe (withLc s (latch false s.lc)) (v0 % 8)) v1) hq ?_ ?_ ?_); exact rfl; exact rfl; intro W hnew ho; replace h2 := h2.only ho (by omega); replace hq := hnew; replace hb := ho.bel _ _ (by omega) hb) | ((with_reducible refine ld_up NZ (withSc (withIe (withLc s (latch false s.lc)) (v0 % 8)) v1) hq ?_ ?_ ?_); exact rfl; exact rfl) | (go_at_call 13; first | ((with_reducible refine (HR1.out _).mono ?_); rintro e W ⟨rfl, hbc⟩; replace h2 := h2.bl hbc; replace hq := hq.bl hbc; obtain ⟨NA, hNA⟩ : ∃ n, W.heap.size = n := ⟨_, rfl⟩; have lNA : NZ + 1 ≤ NA := (by (have := hq.lt; omega)); replace hNA := hide hNA; replace hb := below_bl rfl hb hbc) | ((with_reducible refine (HR2.out _).mono ?_); rintro e W ⟨rfl, hbc⟩; replace h2 := h2.bl hbc; replace hq := hq.bl hbc; obtain ⟨NB, hNB⟩ : ∃ n, W.heap.size = n := ⟨_, rfl⟩; have lNB : NZ + 1 ≤ NB := (by (have := hq.lt; omega)); replace hNB := hide hNB; replace hb := below_bl rfl hb hbc)) | ((with_reducible refine al_up NA ?_ ?_); exact hNA.out; intro W ha hb' hz2; replace h2 := h2.bl (hNA.out ▸ hb'); replace hq := hq.bl (hNA.out ▸ hb'); replace hb := hb.trans (hb'.mono (by omega))) | ((with_reducible refine st_up NA _ (withSc (withIe (withLc s (latch false s.lc)) (v0 % 8)) v1) ha ?_ ?_ ?_); exact rfl; exact rfl; intro W hnew ho; replace h2 := h2.only ho (by omega); replace hq := hq.only ho (by omega); replace ha := hnew; replace hb := ho.bel _ _ (by omega) hb) | ((with_reducible refine al_up NB ?_ ?_); exact hNB.out; intro W hc hb' hz2; replace h2 := h2.bl (hNB.out ▸ hb'); replace hb := hb.trans (hb'.mono (by omega))) | ((with_reducible refine st_up NB _ (withSc (withIe (withLc s (latch false s.lc)) (v0 % 8)) v1) hc ?_ ?_ ?_); exact rfl; exact rfl; intro W hnew ho; replace h2 := h2.only ho (by omega); replace hc := hnew; replace hb := ho.bel _ _ (by omega) hb) | (go_at_call 11; (with_reducible refine (HS.out _).mono ?_); rintro e W ⟨rfl, hbc⟩; replace hb := below_bl rfl hb hbc))
  go_ret
  exact ⟨rfl, hb⟩

theorem keeps_walk (s : U) (ok : s.Ok) (v0 v1 : Nat) (k : Int) (m0 : v0 < 256) (m1 : v1 < 256) (w : World) :
    Calls Try.prog 5 #[.agg s.cells, .agg #[.int .u8 (v0 : Nat), .int .u8 (v1 : Nat)], .int .i64 k] w fun e w' => e = .returned (.bool true) ∧ Below w.heap.size w w' := by
  cases hm : mayU s with
  | false => exact keeps_no s ok v0 v1 k hm w
  | true =>
    by_cases hk : k.tmod 2 = 0
    · exact keeps_t s ok v0 v1 k m0 m1 hm hk w
    · exact keeps_f s ok v0 v1 k m0 m1 hm hk w
end Go.Proofs.Ythopfecjnbfnmaa
