/-
  HartTraps, walked.
-/
import Derived.Test.YtelakpogochifaaDoorHaG
namespace Go.Proofs.YtelakpogochifaaDoor
open Go.RowKit
set_option linter.unusedVariables false

attribute [local go_sem] H.at0 H.at1 H.at5 H.at6 H.at33 H.at34 H.at35 H.at36 H.at37 H.at38 H.at39 H.at40 H.at41 A6.at0 A6.at1 A6.at2 A6.at3 A6.at4 A6.at5

theorem st_ve {ops : Array Oper} {rest : List Oper} {dst : Option Tmp} {ty : TypeId} {pos : String} {after : Array Edge} {a : Act} {w : World} {Q : Exit → Act → World → Prop} {x y : Operand} (b : Nat) (h : H) (p : Nat) (hr : RowAt w b h.cells 31) (hx : a.eval x = .pointer (some ⟨b, 36, none⟩)) (hy : a.eval y = .int .u32 (p : Nat))
    (k : ∀ W, RowAt W b (H.cells ⟨h.pc, h.x, h.wt, ⟨h.c.st, h.c.en, p, h.c.sc, h.c.ep, h.c.ca, h.c.va, h.c.ct⟩⟩) 31 → Only b w W → wpList Tryd.prog ops Q rest (a.put dst undef) W) : wpList Tryd.prog ops Q (⟨dst, .store 22 x y, ty, pos, after, none⟩ :: rest) a w :=
  op_store_cell b 36 hx _ hy h.cells _ _ hr size_word (by show 36 < 42; decide) rfl (H.set_ve h p) k
/-- The hart that traps, its trap, and its return. -/
def trX (h : H) (V : Nat) : H := ⟨h.pc, h.x, h.wt, ⟨h.c.st, h.c.en, V, h.c.sc, h.c.ep, h.c.ca, h.c.va, h.c.ct⟩⟩
def trY (h : H) (V : Nat) : H := ⟨V, h.x, h.wt, ⟨trapSt h.c.st, h.c.en, V, h.c.sc, h.pc, 2, 4294967295, h.c.ct⟩⟩
def trZ (h : H) (V : Nat) : H := ⟨h.pc, h.x, h.wt, ⟨retSt (trapSt h.c.st), h.c.en, V, h.c.sc, h.pc, 2, 4294967295, (h.c.ct + 1) % 18446744073709551616⟩⟩
theorem tr_do1 (h : H) (ok : h.Ok) (V : Nat) (hV : V < 4294967296) (h4 : V % 4 = 0) (hp : h.pc % 4 = 0) : doH (trX h V) 4294967295 0 = (trY h V, noA) := by
  have h1 : decOp 4294967295 = none := by decide +kernel
  unfold doH
  rw [h1]
  show (trapH (trX h V) 2 4294967295, noA) = _
  have e1 : trapTo V 2 = V := by
    unfold trapTo
    rw [if_neg (by simp), and_fc V hV h4]
  have e2 : h.pc &&& 4294967292 = h.pc := and_fc h.pc ok.pc hp
  unfold trapH trX trapN trY
  simp only [e1, e2]
theorem tr_do2 (h : H) (ok : h.Ok) (V v : Nat) (hp : h.pc % 4 = 0) : doH (trY h V) 807403635 v = (trZ h V, noA) := by
  have h1 : decOp 807403635 = some 49 := by decide +kernel
  have h2 : toldN 49 807403635 = ⟨49, 0, 0, 0, 0, 0⟩ := (I6.same_iff _ _).1 (by decide +kernel)
  unfold doH
  rw [h1]
  show doOp (trY h V) 49 (toldN 49 807403635) 807403635 v = _
  rw [h2]
  have e0 : doOp (trY h V) 49 ⟨49, 0, 0, 0, 0, 0⟩ 807403635 v = (goH (withC (trY h V) (retN (trY h V).c)) h.pc, noA) := rfl
  rw [e0]
  unfold goH
  rw [if_pos hp]
  rfl
theorem trX_ok (h : H) (ok : h.Ok) (V : Nat) (hV : V < 4294967296) : (trX h V).Ok := ⟨ok.pc, ok.x, ⟨ok.c.st, ok.c.en, hV, ok.c.sc, ok.c.ep, ok.c.ca, ok.c.va, ok.c.ct⟩⟩
theorem trY_ok (h : H) (ok : h.Ok) (V : Nat) (hV : V < 4294967296) : (trY h V).Ok := ⟨hV, ok.x, ⟨trapSt_lt ok.c.st, ok.c.en, hV, ok.c.sc, ok.pc, by show 2 < _; decide, by show 4294967295 < _; decide, ok.c.ct⟩⟩
theorem st_8 (st : Nat) (h : st < 4294967296) : bits .and .u32 ((retSt (trapSt st) : Nat) : Int) 8 = bits .and .u32 (st : Int) 8 := by
  have hr := ret_trap_bit st h
  have l1 := retSt_lt (trapSt_lt h)
  have e1 := u32_and_nat (retSt (trapSt st)) 8 l1 (by decide)
  have e2 := u32_and_nat st 8 h (by decide)
  rw [show ((8 : Nat) : Int) = 8 from rfl] at e1 e2
  rw [e1, e2]
  congr 1
  apply Nat.eq_of_testBit_eq
  intro i
  rw [Nat.testBit_and, Nat.testBit_and]
  by_cases hi : i = 3
  · subst hi; rw [hr]
  · have : Nat.testBit 8 i = false := by
      rw [show (8 : Nat) = 2 ^ 3 from rfl, Nat.testBit_two_pow]; simp; omega
    rw [this]; simp
theorem ve_one (ve : Nat) (h : ve < 4294967296) (h2 : ve &&& 2 = 0) : (ve &&& 4294967294) % 4 = 0 := by
  apply mod4_and
  apply Nat.eq_of_testBit_eq
  intro i
  rw [Nat.testBit_and, Nat.testBit_and]
  rcases i with _ | _ | i
  · simp
  · have := zero_mask ve 2 h2 1
    have e : Nat.testBit 2 1 = true := by decide
    rw [e] at this
    simp at this
    simp [this]
  · have : Nat.testBit 3 (i + 2) = false := by
      rw [Nat.testBit_succ, Nat.testBit_succ]; simp
    rw [this]; simp

set_option maxHeartbeats 1000000 in
theorem traps_no (h : H) (ok : h.Ok) (v : Nat) (hm : mayH h = false) (w : World) (hA : HartAt w) :
    Calls Tryd.prog 6 #[.agg h.cells, .int .u32 v] w fun e w' => e = .returned (.bool true) ∧ Below w.heap.size w w' := by
  have HA := hide hA
  clear hA
  have HG := hide (fun w => give_any h w)
  have HC := hide (fun w => check_any h ok w)
  have HS := hide (fun w hw => sure_any w hw)
  rw [hm] at HC
  simp only [checkV] at HC
  clear hm
  go_enter Tryd.func6, Tryd.ntmps6
  go_wp2_with (first | ((with_reducible refine bx_g w.heap.size h ?_ ?_ ?_); exact rfl; exact rfl; intro W hg hb hz) | ((with_reducible refine ld_g w.heap.size h hg ?_ ?_); exact rfl) | (go_at_call 9; refine (HG.out _).mono ?_; rintro e W ⟨rfl, hbc⟩; obtain ⟨NX, hNX⟩ : ∃ n, W.heap.size = n := ⟨_, rfl⟩; have lNX : w.heap.size + 1 ≤ NX := (by (have := hz.out; have := hbc.size; omega)); replace hNX := hide hNX; replace hb := below_bl rfl hb hbc) | ((with_reducible refine al_h NX ?_ ?_); exact hNX.out; intro W hx hb' hz2; replace hb := hb.trans (hb'.mono (by omega))) | ((with_reducible refine st_h NX _ h hx ?_ ?_ ?_); exact rfl; exact rfl; intro W hnew ho; replace hx := hnew; replace hb := ho.bel _ _ (by omega) hb; replace hz2 := hide (ho.size.trans hz2.out)) | ((with_reducible refine ld_h NX h hx ?_ ?_); exact rfl) | (go_at_call 15; refine (HC.out _).mono ?_; rintro e W ⟨rfl, hbc⟩; replace hx := hx.bl hbc; have lX2 : NX + 1 ≤ W.heap.size := (by (have := hz2.out; have := hbc.size; omega)); replace lX2 := hide lX2; replace hb := below_bl rfl hb hbc; have fx := hx.cell) | (go_at_call 11; refine (HS.out _ (HA.out.below hb)).mono ?_; rintro e W ⟨rfl, hbc⟩; replace hb := below_bl rfl hb hbc))
  go_ret
  exact ⟨rfl, hb⟩

set_option maxHeartbeats 4000000 in
theorem traps_yes (h : H) (ok : h.Ok) (v : Nat) (hv : v < 4294967296) (hm : mayH h = true) (w : World) (hA : HartAt w) :
    Calls Tryd.prog 6 #[.agg h.cells, .int .u32 v] w fun e w' => e = .returned (.bool true) ∧ Below w.heap.size w w' := by
  obtain ⟨hp, h0, hmb⟩ := (mayH_iff h).1 hm
  have HA := hide hA
  clear hA
  have HG := hide (fun w => give_any h w)
  have HC := hide (fun w => check_any h ok w)
  have HS := hide (fun w hw => sure_any w hw)
  rw [hm] at HC
  simp only [checkV] at HC
  obtain ⟨_, _, m2, _⟩ := (mayB_iff h.c).1 hmb
  have HV : bits .andNot .u32 ((h.c.ve : Nat) : Int) 1 = ((h.c.ve &&& 4294967294 : Nat) : Int) := u32_andNot_nat h.c.ve 1 ok.c.ve (by decide)
  have hV4 := ve_one h.c.ve ok.c.ve m2
  have hVl : h.c.ve &&& 4294967294 < 4294967296 := and_lt ok.c.ve
  generalize h.c.ve &&& 4294967294 = V at HV hV4 hVl
  have HD1 := hide (fun w hw => do_all (trX h V) (trX_ok h ok V hVl) 4294967295 (by decide) 0 (by decide) w hw)
  rw [tr_do1 h ok V hVl hV4 hp, show (((0 : Nat) : Int)) = 0 from rfl, show (((4294967295 : Nat) : Int)) = 4294967295 from rfl] at HD1
  have HD2 := hide (fun w hw => do_all (trY h V) (trY_ok h ok V hVl) 807403635 (by decide) v hv w hw)
  rw [tr_do2 h ok V v hp, show (((807403635 : Nat) : Int)) = 807403635 from rfl] at HD2
  have h8 := st_8 h.c.st ok.c.st
  have hex : ∀ w : World, (Op.equalIn 10000 23 (.agg h.xs) (.agg h.xs)).run Tryd.prog w = .ok true w := fun w => eq_xs h 9998 w
  have y0 : (trY h V).pc = V := rfl
  have y1 : (trY h V).c = ⟨trapSt h.c.st, h.c.en, V, h.c.sc, h.pc, 2, 4294967295, h.c.ct⟩ := rfl
  have x0 : (trX h V).pc = h.pc := rfl
  have x1 : (trX h V).c = ⟨h.c.st, h.c.en, V, h.c.sc, h.c.ep, h.c.ca, h.c.va, h.c.ct⟩ := rfl
  have z0 : (trZ h V).pc = h.pc := rfl
  have z1 : (trZ h V).c = ⟨retSt (trapSt h.c.st), h.c.en, V, h.c.sc, h.pc, 2, 4294967295, (h.c.ct + 1) % 18446744073709551616⟩ := rfl
  have a0 : noA.kind = 0 := rfl
  clear hm hp h0 hmb m2 hV4 hVl
  go_enter Tryd.func6, Tryd.ntmps6
  go_wp2_with (first | ((with_reducible refine bx_g w.heap.size h ?_ ?_ ?_); exact rfl; exact rfl; intro W hg hb hz) | ((with_reducible refine ld_g w.heap.size h hg ?_ ?_); exact rfl) | (go_at_call 9; refine (HG.out _).mono ?_; rintro e W ⟨rfl, hbc⟩; obtain ⟨NX, hNX⟩ : ∃ n, W.heap.size = n := ⟨_, rfl⟩; have lNX : w.heap.size + 1 ≤ NX := (by (have := hz.out; have := hbc.size; omega)); replace hNX := hide hNX; replace hb := below_bl rfl hb hbc) | ((with_reducible refine al_h NX ?_ ?_); exact hNX.out; intro W hx hb' hz2; replace hb := hb.trans (hb'.mono (by omega))) | ((with_reducible refine st_h NX _ h hx ?_ ?_ ?_); exact rfl; exact rfl; intro W hnew ho; replace hx := hnew; replace hb := ho.bel _ _ (by omega) hb; replace hz2 := hide (ho.size.trans hz2.out)) | ((with_reducible refine ld_h NX h hx ?_ ?_); exact rfl) | (go_at_call 15; refine (HC.out _).mono ?_; rintro e W ⟨rfl, hbc⟩; replace hx := hx.bl hbc; have lX2 : NX + 1 ≤ W.heap.size := (by (have := hz2.out; have := hbc.size; omega)); replace lX2 := hide lX2; replace hb := below_bl rfl hb hbc; have fx := hx.cell) | ((with_reducible refine st_ve NX h V hx ?_ ?_ ?_); exact rfl; exact rfl; intro W hnew ho; replace hx : RowAt W NX (trX h V).cells 31 := hnew; replace hb := ho.bel _ _ (by omega) hb; replace lX2 := hide (show NX + 1 ≤ W.heap.size from (by (have := lX2.out; have := ho.size; omega)))) | ((with_reducible refine ld_h NX (trX h V) hx ?_ ?_); exact rfl) | ((with_reducible refine ld_h NY (trY h V) hy ?_ ?_); exact rfl) | (go_at_call 8; (with_reducible refine (HD2.out _ ?_).mono ?_); exact HA.out.below hb; rintro e W ⟨rfl, hbc⟩; replace hx := hx.bl hbc; obtain ⟨NZ, hNZ⟩ : ∃ n, W.heap.size = n := ⟨_, rfl⟩; have lNZ : NY + 2 ≤ NZ := (by (have := hzY.out; have := hbc.size; omega)); replace hNZ := hide hNZ; replace hb := below_bl rfl hb hbc) | (go_at_call 8; (with_reducible refine (HD1.out _ ?_).mono ?_); exact HA.out.below hb; rintro e W ⟨rfl, hbc⟩; replace hx := hx.bl hbc; obtain ⟨NY, hNY⟩ : ∃ n, W.heap.size = n := ⟨_, rfl⟩; have lNY : NX + 1 ≤ NY := (by (have := lX2.out; have := hbc.size; omega)); replace hNY := hide hNY; replace hb := below_bl rfl hb hbc) | ((with_reducible refine al_h NY ?_ ?_); exact hNY.out; intro W hy hb' hzY; replace hx := hx.bl (hNY.out ▸ hb'); replace hb := hb.trans (hb'.mono (by omega))) | ((with_reducible refine al_a (NY + 1) ?_ ?_); exact hzY.out; intro W ha hb' hzY'; replace hx := hx.bl (hzY.out ▸ hb'); replace hy := hy.bl (hzY.out ▸ hb'); replace hb := hb.trans (hb'.mono (by omega)); replace hzY := hzY') | ((with_reducible refine st_h NY _ (trY h V) hy ?_ ?_ ?_); exact rfl; exact rfl; intro W hnew ho; replace hx := hx.only ho (by omega); replace ha := ha.only ho (by omega); replace hy := hnew; replace hb := ho.bel _ _ (by omega) hb; replace hzY := hide (ho.size.trans hzY.out)) | ((with_reducible refine st_a (NY + 1) _ noA ha ?_ ?_ ?_); exact rfl; exact rfl; intro W hnew ho; replace hx := hx.only ho (by omega); replace hy := hy.only ho (by omega); replace ha := hnew; replace hb := ho.bel _ _ (by omega) hb; replace hzY := hide (ho.size.trans hzY.out); have fx := hx.cell; have fy := hy.cell; have fa := ha.cell) | ((with_reducible refine al_h NZ ?_ ?_); exact hNZ.out; intro W hzz hb' hzZ; replace hx := hx.bl (hNZ.out ▸ hb'); replace hb := hb.trans (hb'.mono (by omega))) | ((with_reducible refine al_a (NZ + 1) ?_ ?_); exact hzZ.out; intro W ha2 hb' hzZ'; replace hx := hx.bl (hzZ.out ▸ hb'); replace hzz := hzz.bl (hzZ.out ▸ hb'); replace hb := hb.trans (hb'.mono (by omega))) | ((with_reducible refine st_h NZ _ (trZ h V) hzz ?_ ?_ ?_); exact rfl; exact rfl; intro W hnew ho; replace hx := hx.only ho (by omega); replace ha2 := ha2.only ho (by omega); replace hzz := hnew; replace hb := ho.bel _ _ (by omega) hb) | ((with_reducible refine st_a (NZ + 1) _ noA ha2 ?_ ?_ ?_); exact rfl; exact rfl; intro W hnew ho; replace hx := hx.only ho (by omega); replace hzz := hzz.only ho (by omega); replace hb := ho.bel _ _ (by omega) hb; have fx := hx.cell; have fz := hzz.cell) | ((with_reducible refine gl_xs NX (trX h V) h.xs _ hx ?_ ?_ ?_ ?_); exact rfl; exact rfl; exact rfl) | ((with_reducible refine gl_xs NY (trY h V) h.xs _ hy ?_ ?_ ?_ ?_); exact rfl; exact rfl; exact rfl) | ((with_reducible refine gl_xs NZ (trZ h V) h.xs _ hzz ?_ ?_ ?_ ?_); exact rfl; exact rfl; exact rfl) | (go_at_call 11; refine (HS.out _ (HA.out.below hb)).mono ?_; rintro e W ⟨rfl, hbc⟩; replace hb := below_bl rfl hb hbc))
  go_ret
  exact ⟨rfl, hb⟩

theorem traps_walk (h : H) (ok : h.Ok) (v : Nat) (hv : v < 4294967296) (w : World) (hA : HartAt w) :
    Calls Tryd.prog 6 #[.agg h.cells, .int .u32 v] w fun e w' => e = .returned (.bool true) ∧ Below w.heap.size w w' := by
  cases hm : mayH h with
  | false => exact traps_no h ok v hm w hA
  | true => exact traps_yes h ok v hv hm w hA
end Go.Proofs.YtelakpogochifaaDoor
