/-
  What hart.Begin, Done and Fault answer.
-/
import Derived.Test.YtelakpogochifaaDoorHaBeg
import Derived.Test.YtelakpogochifaaDoorHCsAsks
import Derived.Deep.RegionHeld3
namespace Go.Proofs.YtelakpogochifaaDoor
open Go.RowKit
set_option linter.unusedVariables false

attribute [local go_sem] H.at33 H.at35 A6.at0 A6.at1 A6.at2 A6.at3 A6.at4 A6.at5

theorem cs_asks_bl (s : S8) (hs : s.Ok) (l : Nat) (hl : l < 4294967296) (w : World) (hO : OrderAt w) :
    Calls Tryd.prog 38 #[.agg s.cells, .int .u32 l] w fun e w' => e = .returned (.int .u32 (asksN s.st s.en l : Nat)) ∧ Below w.heap.size w w' :=
  (cs_asks_any s hs l hl w hO).mono fun e w' ⟨he, o, hw⟩ => ⟨he, hw ▸ below_one w o⟩
/-- A hart that begins an instruction. -/
def awake (h : H) : H := ⟨h.pc, h.x, false, h.c⟩
def sleeps (h : H) (l : Nat) : Bool := h.wt && ((l &&& h.c.en) &&& 2184 == 0)
def beginH (h : H) (l : Nat) : H × Bool :=
  if sleeps h l then (h, false) else if asksN h.c.st h.c.en l = 0 then (awake h, true) else (trapH (awake h) (asksN h.c.st h.c.en l) 0, true)
theorem asksN_lt (st en l : Nat) : asksN st en l < 4294967296 := by
  unfold asksN
  split
  · decide
  · split
    · decide
    · split
      · decide
      · split <;> decide
theorem awake_ok {h : H} (ok : h.Ok) : (awake h).Ok := ⟨ok.pc, ok.x, ok.c⟩
theorem mask_word (l en : Nat) (hl : l < 4294967296) (he : en < 4294967296) : (bits .and .u32 (bits .and .u32 (l : Int) (en : Int)) 2184 == 0) = ((l &&& en) &&& 2184 == 0) := by
  rw [u32_and_nat l en hl he]
  have := u32_and_nat (l &&& en) 2184 (and_lt hl) (by decide)
  rw [show ((2184 : Nat) : Int) = 2184 from rfl] at this
  rw [this, Bool.eq_iff_iff]; simp
set_option maxHeartbeats 1000000 in
theorem begin_wait (h : H) (ok : h.Ok) (l : Nat) (hl : l < 4294967296) (hw : h.wt = true) (hs : ((l &&& h.c.en) &&& 2184 == 0) = true) (w : World) (hO : OrderAt w) :
    Calls Tryd.prog 12 #[.agg h.cells, .int .u32 l] w fun e w' => e = .returned (.tuple #[.agg (h).cells, .bool false]) ∧ Below w.heap.size w w' := by
  have HO := hide hO
  clear hO
  have HAs := hide (fun w hO => cs_asks_bl h.c ok.c l hl w hO)
  have t0 := mask_word l h.c.en hl ok.c.en
  rw [hs] at t0
  clear hs
  go_enter Tryd.func12, Tryd.ntmps12
  go_wp2_with (first | ((with_reducible refine bx_h w.heap.size h ?_ ?_ ?_); exact rfl; exact rfl; intro W hr hb hz) | ((with_reducible refine al_h (w.heap.size + 1) ?_ ?_); exact hz.out; intro W hq hb' hz'; replace hr := hr.bl (hz.out ▸ hb'); replace hb := hb.trans (hb'.mono (by omega)); replace hz := hz'; have fx := hr.cell) | ((with_reducible refine ld_h w.heap.size _ hr ?_ ?_); exact rfl) | ((with_reducible refine ld_wt w.heap.size _ hr ?_ ?_); exact rfl) | ((with_reducible refine ld_c w.heap.size _ hr ?_ ?_); exact rfl) | ((with_reducible refine st_h (w.heap.size + 1) _ (h) hq ?_ ?_ ?_); exact rfl; exact rfl; intro W hnew ho; replace hr := hr.only ho (by omega); replace hq := hnew; replace hb := ho.bel _ _ (by omega) hb))
  refine bodyPost_ret (results_cell_tmp_row Tryd.results12 _ _ (w.heap.size + 1) _ _ _ _ rfl hq Tryd.underlying31 rfl size_hart) rfl ?_
  exact ⟨rfl, hb⟩

set_option maxHeartbeats 1000000 in
theorem begin_go_a (h : H) (ok : h.Ok) (l : Nat) (hl : l < 4294967296) (hw : h.wt = false) (h0 : asksN h.c.st h.c.en l = 0) (w : World) (hO : OrderAt w) :
    Calls Tryd.prog 12 #[.agg h.cells, .int .u32 l] w fun e w' => e = .returned (.tuple #[.agg (awake h).cells, .bool true]) ∧ Below w.heap.size w w' := by
  have HO := hide hO
  clear hO
  have HAs := hide (fun w hO => cs_asks_bl h.c ok.c l hl w hO)
  have t0 := mask_word l h.c.en hl ok.c.en
  rw [h0] at HAs
  rw [show (((0 : Nat) : Int)) = 0 from rfl] at HAs
  clear h0
  go_enter Tryd.func12, Tryd.ntmps12
  go_wp2_with (first | ((with_reducible refine bx_h w.heap.size h ?_ ?_ ?_); exact rfl; exact rfl; intro W hr hb hz) | ((with_reducible refine al_h (w.heap.size + 1) ?_ ?_); exact hz.out; intro W hq hb' hz'; replace hr := hr.bl (hz.out ▸ hb'); replace hb := hb.trans (hb'.mono (by omega)); replace hz := hz'; have fx := hr.cell) | ((with_reducible refine ld_h w.heap.size _ hr ?_ ?_); exact rfl) | ((with_reducible refine ld_wt w.heap.size _ hr ?_ ?_); exact rfl) | ((with_reducible refine ld_c w.heap.size _ hr ?_ ?_); exact rfl) | ((with_reducible refine st_wt w.heap.size _ false hr ?_ ?_ ?_); exact rfl; exact rfl; intro W hnew ho; replace hq := hq.only ho (by omega); replace hr := hnew; replace hb := ho.bel _ _ (by omega) hb) | (go_at_call 38; refine (HAs.out _ (HO.out.below hb)).mono ?_; rintro e W ⟨rfl, hbc⟩; replace hr := hr.bl hbc; replace hq := hq.bl hbc; replace hb := below_bl rfl hb hbc) | ((with_reducible refine st_h (w.heap.size + 1) _ (awake h) hq ?_ ?_ ?_); exact rfl; exact rfl; intro W hnew ho; replace hr := hr.only ho (by omega); replace hq := hnew; replace hb := ho.bel _ _ (by omega) hb))
  refine bodyPost_ret (results_cell_tmp_row Tryd.results12 _ _ (w.heap.size + 1) _ _ _ _ rfl hq Tryd.underlying31 rfl size_hart) rfl ?_
  exact ⟨rfl, hb⟩

set_option maxHeartbeats 1000000 in
theorem begin_trap_a (h : H) (ok : h.Ok) (l : Nat) (hl : l < 4294967296) (hw : h.wt = false) (h0 : asksN h.c.st h.c.en l ≠ 0) (w : World) (hO : OrderAt w) :
    Calls Tryd.prog 12 #[.agg h.cells, .int .u32 l] w fun e w' => e = .returned (.tuple #[.agg (trapH (awake h) (asksN h.c.st h.c.en l) 0).cells, .bool true]) ∧ Below w.heap.size w w' := by
  have HO := hide hO
  clear hO
  have HAs := hide (fun w hO => cs_asks_bl h.c ok.c l hl w hO)
  have t0 := mask_word l h.c.en hl ok.c.en
  have hal := asksN_lt h.c.st h.c.en l
  have t1 : (((asksN h.c.st h.c.en l : Nat) : Int) != 0) = true := by simp; omega
  clear h0
  generalize asksN h.c.st h.c.en l = ca at HAs t1 hal ⊢
  have HT := hide (fun w => trap_any (awake h) (awake_ok ok) ca 0 hal w)
  rw [show (((0 : Nat) : Int)) = 0 from rfl] at HT
  go_enter Tryd.func12, Tryd.ntmps12
  go_wp2_with (first | ((with_reducible refine bx_h w.heap.size h ?_ ?_ ?_); exact rfl; exact rfl; intro W hr hb hz) | ((with_reducible refine al_h (w.heap.size + 1) ?_ ?_); exact hz.out; intro W hq hb' hz'; replace hr := hr.bl (hz.out ▸ hb'); replace hb := hb.trans (hb'.mono (by omega)); replace hz := hz'; have fx := hr.cell) | ((with_reducible refine ld_h w.heap.size _ hr ?_ ?_); exact rfl) | ((with_reducible refine ld_wt w.heap.size _ hr ?_ ?_); exact rfl) | ((with_reducible refine ld_c w.heap.size _ hr ?_ ?_); exact rfl) | ((with_reducible refine st_wt w.heap.size _ false hr ?_ ?_ ?_); exact rfl; exact rfl; intro W hnew ho; replace hq := hq.only ho (by omega); replace hr := hnew; replace hb := ho.bel _ _ (by omega) hb) | (go_at_call 38; refine (HAs.out _ (HO.out.below hb)).mono ?_; rintro e W ⟨rfl, hbc⟩; replace hr := hr.bl hbc; replace hq := hq.bl hbc; replace hb := below_bl rfl hb hbc) | (go_at_call 22; refine (HT.out _).mono ?_; rintro e W ⟨rfl, hbc⟩; replace hr := hr.bl hbc; replace hq := hq.bl hbc; replace hb := below_bl rfl hb hbc) | ((with_reducible refine st_h w.heap.size _ (trapH (awake h) ca 0) hr ?_ ?_ ?_); exact rfl; exact rfl; intro W hnew ho; replace hq := hq.only ho (by omega); replace hr := hnew; replace hb := ho.bel _ _ (by omega) hb) | ((with_reducible refine st_h (w.heap.size + 1) _ (trapH (awake h) ca 0) hq ?_ ?_ ?_); exact rfl; exact rfl; intro W hnew ho; replace hr := hr.only ho (by omega); replace hq := hnew; replace hb := ho.bel _ _ (by omega) hb))
  refine bodyPost_ret (results_cell_tmp_row Tryd.results12 _ _ (w.heap.size + 1) _ _ _ _ rfl hq Tryd.underlying31 rfl size_hart) rfl ?_
  exact ⟨rfl, hb⟩

set_option maxHeartbeats 1000000 in
theorem begin_go_b (h : H) (ok : h.Ok) (l : Nat) (hl : l < 4294967296) (hw : h.wt = true) (hs : ((l &&& h.c.en) &&& 2184 == 0) = false) (h0 : asksN h.c.st h.c.en l = 0) (w : World) (hO : OrderAt w) :
    Calls Tryd.prog 12 #[.agg h.cells, .int .u32 l] w fun e w' => e = .returned (.tuple #[.agg (awake h).cells, .bool true]) ∧ Below w.heap.size w w' := by
  have HO := hide hO
  clear hO
  have HAs := hide (fun w hO => cs_asks_bl h.c ok.c l hl w hO)
  have t0 := mask_word l h.c.en hl ok.c.en
  rw [hs] at t0
  clear hs
  rw [h0] at HAs
  rw [show (((0 : Nat) : Int)) = 0 from rfl] at HAs
  clear h0
  go_enter Tryd.func12, Tryd.ntmps12
  go_wp2_with (first | ((with_reducible refine bx_h w.heap.size h ?_ ?_ ?_); exact rfl; exact rfl; intro W hr hb hz) | ((with_reducible refine al_h (w.heap.size + 1) ?_ ?_); exact hz.out; intro W hq hb' hz'; replace hr := hr.bl (hz.out ▸ hb'); replace hb := hb.trans (hb'.mono (by omega)); replace hz := hz'; have fx := hr.cell) | ((with_reducible refine ld_h w.heap.size _ hr ?_ ?_); exact rfl) | ((with_reducible refine ld_wt w.heap.size _ hr ?_ ?_); exact rfl) | ((with_reducible refine ld_c w.heap.size _ hr ?_ ?_); exact rfl) | ((with_reducible refine st_wt w.heap.size _ false hr ?_ ?_ ?_); exact rfl; exact rfl; intro W hnew ho; replace hq := hq.only ho (by omega); replace hr := hnew; replace hb := ho.bel _ _ (by omega) hb) | (go_at_call 38; refine (HAs.out _ (HO.out.below hb)).mono ?_; rintro e W ⟨rfl, hbc⟩; replace hr := hr.bl hbc; replace hq := hq.bl hbc; replace hb := below_bl rfl hb hbc) | ((with_reducible refine st_h (w.heap.size + 1) _ (awake h) hq ?_ ?_ ?_); exact rfl; exact rfl; intro W hnew ho; replace hr := hr.only ho (by omega); replace hq := hnew; replace hb := ho.bel _ _ (by omega) hb))
  refine bodyPost_ret (results_cell_tmp_row Tryd.results12 _ _ (w.heap.size + 1) _ _ _ _ rfl hq Tryd.underlying31 rfl size_hart) rfl ?_
  exact ⟨rfl, hb⟩

set_option maxHeartbeats 1000000 in
theorem begin_trap_b (h : H) (ok : h.Ok) (l : Nat) (hl : l < 4294967296) (hw : h.wt = true) (hs : ((l &&& h.c.en) &&& 2184 == 0) = false) (h0 : asksN h.c.st h.c.en l ≠ 0) (w : World) (hO : OrderAt w) :
    Calls Tryd.prog 12 #[.agg h.cells, .int .u32 l] w fun e w' => e = .returned (.tuple #[.agg (trapH (awake h) (asksN h.c.st h.c.en l) 0).cells, .bool true]) ∧ Below w.heap.size w w' := by
  have HO := hide hO
  clear hO
  have HAs := hide (fun w hO => cs_asks_bl h.c ok.c l hl w hO)
  have t0 := mask_word l h.c.en hl ok.c.en
  rw [hs] at t0
  clear hs
  have hal := asksN_lt h.c.st h.c.en l
  have t1 : (((asksN h.c.st h.c.en l : Nat) : Int) != 0) = true := by simp; omega
  clear h0
  generalize asksN h.c.st h.c.en l = ca at HAs t1 hal ⊢
  have HT := hide (fun w => trap_any (awake h) (awake_ok ok) ca 0 hal w)
  rw [show (((0 : Nat) : Int)) = 0 from rfl] at HT
  go_enter Tryd.func12, Tryd.ntmps12
  go_wp2_with (first | ((with_reducible refine bx_h w.heap.size h ?_ ?_ ?_); exact rfl; exact rfl; intro W hr hb hz) | ((with_reducible refine al_h (w.heap.size + 1) ?_ ?_); exact hz.out; intro W hq hb' hz'; replace hr := hr.bl (hz.out ▸ hb'); replace hb := hb.trans (hb'.mono (by omega)); replace hz := hz'; have fx := hr.cell) | ((with_reducible refine ld_h w.heap.size _ hr ?_ ?_); exact rfl) | ((with_reducible refine ld_wt w.heap.size _ hr ?_ ?_); exact rfl) | ((with_reducible refine ld_c w.heap.size _ hr ?_ ?_); exact rfl) | ((with_reducible refine st_wt w.heap.size _ false hr ?_ ?_ ?_); exact rfl; exact rfl; intro W hnew ho; replace hq := hq.only ho (by omega); replace hr := hnew; replace hb := ho.bel _ _ (by omega) hb) | (go_at_call 38; refine (HAs.out _ (HO.out.below hb)).mono ?_; rintro e W ⟨rfl, hbc⟩; replace hr := hr.bl hbc; replace hq := hq.bl hbc; replace hb := below_bl rfl hb hbc) | (go_at_call 22; refine (HT.out _).mono ?_; rintro e W ⟨rfl, hbc⟩; replace hr := hr.bl hbc; replace hq := hq.bl hbc; replace hb := below_bl rfl hb hbc) | ((with_reducible refine st_h w.heap.size _ (trapH (awake h) ca 0) hr ?_ ?_ ?_); exact rfl; exact rfl; intro W hnew ho; replace hq := hq.only ho (by omega); replace hr := hnew; replace hb := ho.bel _ _ (by omega) hb) | ((with_reducible refine st_h (w.heap.size + 1) _ (trapH (awake h) ca 0) hq ?_ ?_ ?_); exact rfl; exact rfl; intro W hnew ho; replace hr := hr.only ho (by omega); replace hq := hnew; replace hb := ho.bel _ _ (by omega) hb))
  refine bodyPost_ret (results_cell_tmp_row Tryd.results12 _ _ (w.heap.size + 1) _ _ _ _ rfl hq Tryd.underlying31 rfl size_hart) rfl ?_
  exact ⟨rfl, hb⟩

theorem begin_any (h : H) (ok : h.Ok) (l : Nat) (hl : l < 4294967296) (w : World) (hO : OrderAt w) :
    Calls Tryd.prog 12 #[.agg h.cells, .int .u32 l] w fun e w' => e = .returned (.tuple #[.agg (beginH h l).1.cells, .bool (beginH h l).2]) ∧ Below w.heap.size w w' := by
  unfold beginH sleeps
  cases hw : h.wt with
  | false =>
    simp only [Bool.false_and, Bool.false_eq_true, if_false]
    by_cases h0 : asksN h.c.st h.c.en l = 0
    · rw [if_pos h0]; exact begin_go_a h ok l hl hw h0 w hO
    · rw [if_neg h0]; exact begin_trap_a h ok l hl hw h0 w hO
  | true =>
    simp only [Bool.true_and]
    cases hs : ((l &&& h.c.en) &&& 2184 == 0) with
    | true => simp only [if_true]; exact begin_wait h ok l hl hw hs w hO
    | false =>
      simp only [Bool.false_eq_true, if_false]
      by_cases h0 : asksN h.c.st h.c.en l = 0
      · rw [if_pos h0]; exact begin_go_b h ok l hl hw hs h0 w hO
      · rw [if_neg h0]; exact begin_trap_b h ok l hl hw hs h0 w hO
set_option maxHeartbeats 400000 in
theorem isReg_yes (r : Nat) (hr : r < 32) (w : World) : Calls Tryd.prog 44 #[.int .i64 r] w fun e w' => e = .returned (.bool true) ∧ w' = w := by
  have t0 : (0 : Int) ≤ r := by omega
  have t1 : (r : Int) < 32 := by omega
  go_enter Tryd.func44, Tryd.ntmps44
  go_wp2
  go_ret
  exact ⟨rfl, rfl⟩
set_option maxHeartbeats 400000 in
theorem loaded_1t (pl rd va v : Nat) (hv : v < 4294967296) (w : World) : Calls Tryd.prog 47 #[.agg (A6.cells ⟨1, pl, 1, true, (rd : Nat), va⟩), .int .u32 v] w fun e w' => e = .returned (.int .u32 (signW v 8 : Nat)) ∧ Below w.heap.size w w' := by
  have HS := hide (fun w => sign_any v hv 8 w)
  go_enter Tryd.func47, Tryd.ntmps47
  go_wp2_with (first | ((with_reducible refine bx_a w.heap.size ⟨1, pl, 1, true, (rd : Nat), va⟩ ?_ ?_ ?_); exact rfl; exact rfl; intro W ha hb hz; have fa := ha.cell) | (go_at_call 81; refine (HS.out _).mono ?_; rintro e W2 ⟨rfl, rfl⟩))
  go_ret
  exact ⟨rfl, hb⟩
set_option maxHeartbeats 400000 in
theorem loaded_1f (pl rd va v : Nat) (hv : v < 4294967296) (w : World) : Calls Tryd.prog 47 #[.agg (A6.cells ⟨1, pl, 1, false, (rd : Nat), va⟩), .int .u32 v] w fun e w' => e = .returned (.int .u32 (fieldW v 0 8 : Nat)) ∧ Below w.heap.size w w' := by
  have HS := hide (fun w => field_any v hv 0 8 (by decide) (by decide) (by decide) w)
  go_enter Tryd.func47, Tryd.ntmps47
  go_wp2_with (first | ((with_reducible refine bx_a w.heap.size ⟨1, pl, 1, false, (rd : Nat), va⟩ ?_ ?_ ?_); exact rfl; exact rfl; intro W ha hb hz; have fa := ha.cell) | (go_at_call 82; refine (HS.out _).mono ?_; rintro e W2 ⟨rfl, rfl⟩))
  go_ret
  exact ⟨rfl, hb⟩
set_option maxHeartbeats 400000 in
theorem loaded_2t (pl rd va v : Nat) (hv : v < 4294967296) (w : World) : Calls Tryd.prog 47 #[.agg (A6.cells ⟨1, pl, 2, true, (rd : Nat), va⟩), .int .u32 v] w fun e w' => e = .returned (.int .u32 (signW v 16 : Nat)) ∧ Below w.heap.size w w' := by
  have HS := hide (fun w => sign_any v hv 16 w)
  go_enter Tryd.func47, Tryd.ntmps47
  go_wp2_with (first | ((with_reducible refine bx_a w.heap.size ⟨1, pl, 2, true, (rd : Nat), va⟩ ?_ ?_ ?_); exact rfl; exact rfl; intro W ha hb hz; have fa := ha.cell) | (go_at_call 81; refine (HS.out _).mono ?_; rintro e W2 ⟨rfl, rfl⟩))
  go_ret
  exact ⟨rfl, hb⟩
set_option maxHeartbeats 400000 in
theorem loaded_2f (pl rd va v : Nat) (hv : v < 4294967296) (w : World) : Calls Tryd.prog 47 #[.agg (A6.cells ⟨1, pl, 2, false, (rd : Nat), va⟩), .int .u32 v] w fun e w' => e = .returned (.int .u32 (fieldW v 0 16 : Nat)) ∧ Below w.heap.size w w' := by
  have HS := hide (fun w => field_any v hv 0 16 (by decide) (by decide) (by decide) w)
  go_enter Tryd.func47, Tryd.ntmps47
  go_wp2_with (first | ((with_reducible refine bx_a w.heap.size ⟨1, pl, 2, false, (rd : Nat), va⟩ ?_ ?_ ?_); exact rfl; exact rfl; intro W ha hb hz; have fa := ha.cell) | (go_at_call 82; refine (HS.out _).mono ?_; rintro e W2 ⟨rfl, rfl⟩))
  go_ret
  exact ⟨rfl, hb⟩
set_option maxHeartbeats 400000 in
theorem loaded_4t (pl rd va v : Nat) (hv : v < 4294967296) (w : World) : Calls Tryd.prog 47 #[.agg (A6.cells ⟨1, pl, 4, true, (rd : Nat), va⟩), .int .u32 v] w fun e w' => e = .returned (.int .u32 (signW v 32 : Nat)) ∧ Below w.heap.size w w' := by
  have HS := hide (fun w => sign_any v hv 32 w)
  go_enter Tryd.func47, Tryd.ntmps47
  go_wp2_with (first | ((with_reducible refine bx_a w.heap.size ⟨1, pl, 4, true, (rd : Nat), va⟩ ?_ ?_ ?_); exact rfl; exact rfl; intro W ha hb hz; have fa := ha.cell) | (go_at_call 81; refine (HS.out _).mono ?_; rintro e W2 ⟨rfl, rfl⟩))
  go_ret
  exact ⟨rfl, hb⟩
set_option maxHeartbeats 400000 in
theorem loaded_4f (pl rd va v : Nat) (hv : v < 4294967296) (w : World) : Calls Tryd.prog 47 #[.agg (A6.cells ⟨1, pl, 4, false, (rd : Nat), va⟩), .int .u32 v] w fun e w' => e = .returned (.int .u32 (fieldW v 0 32 : Nat)) ∧ Below w.heap.size w w' := by
  have HS := hide (fun w => field_any v hv 0 32 (by decide) (by decide) (by decide) w)
  go_enter Tryd.func47, Tryd.ntmps47
  go_wp2_with (first | ((with_reducible refine bx_a w.heap.size ⟨1, pl, 4, false, (rd : Nat), va⟩ ?_ ?_ ?_); exact rfl; exact rfl; intro W ha hb hz; have fa := ha.cell) | (go_at_call 82; refine (HS.out _).mono ?_; rintro e W2 ⟨rfl, rfl⟩))
  go_ret
  exact ⟨rfl, hb⟩
end Go.Proofs.YtelakpogochifaaDoor
