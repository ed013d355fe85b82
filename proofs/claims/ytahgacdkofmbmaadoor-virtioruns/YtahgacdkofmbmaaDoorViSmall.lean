/-
  What virtio's ask, notified and withStatus answer.
-/
import Derived.Test.YtahgacdkofmbmaaDoorViCheck
namespace Go.Proofs.YtahgacdkofmbmaaDoor
open Go.RowKit
set_option linter.unusedVariables false

attribute [local go_sem] V.at0 V.at1 V.at2 V.at3 V.at4 V.at5 V.at6 V.at7 V.at8 V.at9 V.at10 V.at11 V.at12 V.at13 V.at14 V.at15 V.at16 V.at17 V.at18 V.at19 V.at20 Qu.at0 Qu.at1 Qu.at2 Qu.at3 Qu.at4 Qu.at5 Qu.at6
set_option maxHeartbeats 1000000 in
theorem ask_t (s : V) (ok : s.Ok) (v : Nat) (hv : v < 4294967296) (h : s.st.testBit 3 = true) (w : World) :
    Calls Tryd.prog 33 #[.agg s.cells, .int .u32 (v : Nat)] w fun e w' => e = .returned (.agg (askV s v).cells) ∧ Below w.heap.size w w' := by
  have HV : askV s v = s := by unfold askV; rw [if_pos h]
  rw [HV]; clear HV
  have t1 : (bits .and .u32 (s.st : Int) 8 == 0) = false := by rw [p_bit8e _ ok.st, h]; rfl
  go_enter Tryd.func33, Tryd.ntmps33
  go_wp2_with (first | ((with_reducible refine bx_vp w.heap.size s ?_ ?_ ?_); exact rfl; exact rfl; intro W hr hb hz; have fx := hr.cell) | ((with_reducible refine al_vp (w.heap.size + 1) ?_ ?_); exact hz.out; intro W hq hb' hz'; replace hr := hr.bl (hz.out ▸ hb'); replace hb := hb.trans (hb'.mono (by omega)); replace hz := hz'; replace fx := hr.cell) | ((with_reducible refine ld_vp w.heap.size _ hr ?_ ?_ ?_); exact rfl; exact rfl) | ((with_reducible refine st_vp (w.heap.size + 1) _ s hq ?_ ?_ ?_); exact rfl; exact rfl; intro W hnew ho; replace hr := hr.only ho (by omega); replace hq := hnew; replace hb := ho.bel _ _ (by omega) hb))
  refine bodyPost_ret (results_cell_row Tryd.results33 _ _ (w.heap.size + 1) _ _ _ _ rfl hq Tryd.underlying37 rfl size_vp) rfl ?_
  exact ⟨rfl, hb⟩

set_option maxHeartbeats 1000000 in
theorem ask_0 (s : V) (ok : s.Ok) (v : Nat) (hv : v < 4294967296) (h : s.st.testBit 3 = false) (hd : s.ds = 0) (w : World) :
    Calls Tryd.prog 33 #[.agg s.cells, .int .u32 (v : Nat)] w fun e w' => e = .returned (.agg (askV s v).cells) ∧ Below w.heap.size w w' := by
  have HV : askV s v = (s.d0w v) := by unfold askV; rw [h, hd]; rfl
  rw [HV]; clear HV
  have t1 : (bits .and .u32 (s.st : Int) 8 == 0) = true := by rw [p_bit8e _ ok.st, h]; rfl
  have hdi : ((s.ds : Nat) : Int) = 0 := by omega
  clear hd
  go_enter Tryd.func33, Tryd.ntmps33
  go_wp2_with (first | ((with_reducible refine bx_vp w.heap.size s ?_ ?_ ?_); exact rfl; exact rfl; intro W hr hb hz; have fx := hr.cell) | ((with_reducible refine al_vp (w.heap.size + 1) ?_ ?_); exact hz.out; intro W hq hb' hz'; replace hr := hr.bl (hz.out ▸ hb'); replace hb := hb.trans (hb'.mono (by omega)); replace hz := hz'; replace fx := hr.cell) | ((with_reducible refine st_d0 w.heap.size _ v _ hr ?_ ?_ ?_); exact rfl; exact rfl; intro W hnew ho; replace hq := hq.only ho (by omega); replace hr := hnew; replace hb := ho.bel _ _ (by omega) hb; (try clear fx)) | ((with_reducible refine ld_vp w.heap.size _ hr ?_ ?_ ?_); exact rfl; exact rfl) | ((with_reducible refine st_vp (w.heap.size + 1) _ (s.d0w v) hq ?_ ?_ ?_); exact rfl; exact rfl; intro W hnew ho; replace hr := hr.only ho (by omega); replace hq := hnew; replace hb := ho.bel _ _ (by omega) hb))
  refine bodyPost_ret (results_cell_row Tryd.results33 _ _ (w.heap.size + 1) _ _ _ _ rfl hq Tryd.underlying37 rfl size_vp) rfl ?_
  exact ⟨rfl, hb⟩

set_option maxHeartbeats 1000000 in
theorem ask_1 (s : V) (ok : s.Ok) (v : Nat) (hv : v < 4294967296) (h : s.st.testBit 3 = false) (hd : s.ds = 1) (w : World) :
    Calls Tryd.prog 33 #[.agg s.cells, .int .u32 (v : Nat)] w fun e w' => e = .returned (.agg (askV s v).cells) ∧ Below w.heap.size w w' := by
  have HV : askV s v = (s.d1w v) := by unfold askV; rw [h, hd]; rfl
  rw [HV]; clear HV
  have t1 : (bits .and .u32 (s.st : Int) 8 == 0) = true := by rw [p_bit8e _ ok.st, h]; rfl
  have hdi : ((s.ds : Nat) : Int) = 1 := by omega
  clear hd
  go_enter Tryd.func33, Tryd.ntmps33
  go_wp2_with (first | ((with_reducible refine bx_vp w.heap.size s ?_ ?_ ?_); exact rfl; exact rfl; intro W hr hb hz; have fx := hr.cell) | ((with_reducible refine al_vp (w.heap.size + 1) ?_ ?_); exact hz.out; intro W hq hb' hz'; replace hr := hr.bl (hz.out ▸ hb'); replace hb := hb.trans (hb'.mono (by omega)); replace hz := hz'; replace fx := hr.cell) | ((with_reducible refine st_d1 w.heap.size _ v _ hr ?_ ?_ ?_); exact rfl; exact rfl; intro W hnew ho; replace hq := hq.only ho (by omega); replace hr := hnew; replace hb := ho.bel _ _ (by omega) hb; (try clear fx)) | ((with_reducible refine ld_vp w.heap.size _ hr ?_ ?_ ?_); exact rfl; exact rfl) | ((with_reducible refine st_vp (w.heap.size + 1) _ (s.d1w v) hq ?_ ?_ ?_); exact rfl; exact rfl; intro W hnew ho; replace hr := hr.only ho (by omega); replace hq := hnew; replace hb := ho.bel _ _ (by omega) hb))
  refine bodyPost_ret (results_cell_row Tryd.results33 _ _ (w.heap.size + 1) _ _ _ _ rfl hq Tryd.underlying37 rfl size_vp) rfl ?_
  exact ⟨rfl, hb⟩

set_option maxHeartbeats 1000000 in
theorem ask_far (s : V) (ok : s.Ok) (v : Nat) (hv : v < 4294967296) (h : s.st.testBit 3 = false) (hd : 2 ≤ s.ds) (w : World) :
    Calls Tryd.prog 33 #[.agg s.cells, .int .u32 (v : Nat)] w fun e w' => e = .returned (.agg (askV s v).cells) ∧ Below w.heap.size w w' := by
  have HV : askV s v = s := by unfold askV; rw [h, if_neg (by decide), if_neg (show ¬ s.ds = 0 by omega), if_neg (show ¬ s.ds = 1 by omega)]
  rw [HV]; clear HV
  have t1 : (bits .and .u32 (s.st : Int) 8 == 0) = true := by rw [p_bit8e _ ok.st, h]; rfl
  have lt : decide ((s.ds : Int) < 2) = false := by simp; omega
  have ltb : decide (s.ds < 2) = false := by simp; omega
  go_enter Tryd.func33, Tryd.ntmps33
  go_wp2_with (first | ((with_reducible refine bx_vp w.heap.size s ?_ ?_ ?_); exact rfl; exact rfl; intro W hr hb hz; have fx := hr.cell) | ((with_reducible refine al_vp (w.heap.size + 1) ?_ ?_); exact hz.out; intro W hq hb' hz'; replace hr := hr.bl (hz.out ▸ hb'); replace hb := hb.trans (hb'.mono (by omega)); replace hz := hz'; replace fx := hr.cell) | ((with_reducible refine ld_vp w.heap.size _ hr ?_ ?_ ?_); exact rfl; exact rfl) | ((with_reducible refine st_vp (w.heap.size + 1) _ s hq ?_ ?_ ?_); exact rfl; exact rfl; intro W hnew ho; replace hr := hr.only ho (by omega); replace hq := hnew; replace hb := ho.bel _ _ (by omega) hb))
  refine bodyPost_ret (results_cell_row Tryd.results33 _ _ (w.heap.size + 1) _ _ _ _ rfl hq Tryd.underlying37 rfl size_vp) rfl ?_
  exact ⟨rfl, hb⟩

theorem ask_any (s : V) (ok : s.Ok) (v : Nat) (hv : v < 4294967296) (w : World) : Calls Tryd.prog 33 #[.agg s.cells, .int .u32 (v : Nat)] w fun e w' => e = .returned (.agg (askV s v).cells) ∧ Below w.heap.size w w' := by
  cases h : s.st.testBit 3 with
  | true => exact ask_t s ok v hv h w
  | false =>
    by_cases h2 : 2 ≤ s.ds
    · exact ask_far s ok v hv h h2 w
    by_cases h0 : s.ds = 0
    · exact ask_0 s ok v hv h h0 w
    · exact ask_1 s ok v hv h (by omega) w
set_option maxHeartbeats 1000000 in
theorem not_far (s : V) (ok : s.Ok) (v : Nat) (h : 2 ≤ v) (w : World) :
    Calls Tryd.prog 34 #[.agg s.cells, .int .u32 (v : Nat)] w fun e w' => e = .returned (.int .i64 (notV s v)) ∧ Below w.heap.size w w' := by
  have HV : notV s v = -1 := by unfold notV; rw [decide_eq_false (show ¬ v < 2 by omega)]; rfl
  rw [HV]; clear HV
  have HL := hide (fun w => live_any s ok w)
  have lt : decide ((v : Int) < 2) = false := by simp; omega
  have ltb : decide (v < 2) = false := by simp; omega
  go_enter Tryd.func34, Tryd.ntmps34
  go_wp2_with (first | ((with_reducible refine bx_vp w.heap.size s ?_ ?_ ?_); exact rfl; exact rfl; intro W hr hb hz; have fx := hr.cell) | ((with_reducible refine ld_vp w.heap.size _ hr ?_ ?_ ?_); exact rfl; exact rfl) | (go_at_call 14; (with_reducible refine (HL.out _).mono ?_); rintro e W ⟨rfl, hbc⟩; replace hr := hr.bl hbc; replace fx := hr.cell; replace hb := below_bl rfl hb hbc))
  go_ret
  exact ⟨rfl, hb⟩

set_option maxHeartbeats 1000000 in
theorem not_f0 (s : V) (ok : s.Ok) (v : Nat) (h : v = 0) (hr0 : s.q0.rd = false) (w : World) :
    Calls Tryd.prog 34 #[.agg s.cells, .int .u32 (v : Nat)] w fun e w' => e = .returned (.int .i64 (notV s v)) ∧ Below w.heap.size w w' := by
  have HV : notV s v = -1 := by subst h; unfold notV V.q; simp [hr0]
  rw [HV]; clear HV
  have HL := hide (fun w => live_any s ok w)
  subst h
  rw [show ((0 : Nat) : Int) = 0 from rfl]
  go_enter Tryd.func34, Tryd.ntmps34
  go_wp2_with (first | ((with_reducible refine bx_vp w.heap.size s ?_ ?_ ?_); exact rfl; exact rfl; intro W hr hb hz; have fx := hr.cell) | ((with_reducible refine ld_vp w.heap.size _ hr ?_ ?_ ?_); exact rfl; exact rfl) | (go_at_call 14; (with_reducible refine (HL.out _).mono ?_); rintro e W ⟨rfl, hbc⟩; replace hr := hr.bl hbc; replace fx := hr.cell; replace hb := below_bl rfl hb hbc))
  go_ret
  exact ⟨rfl, hb⟩

set_option maxHeartbeats 1000000 in
theorem not_g0 (s : V) (ok : s.Ok) (v : Nat) (h : v = 0) (hr0 : s.q0.rd = true) (hl : liveV s = false) (w : World) :
    Calls Tryd.prog 34 #[.agg s.cells, .int .u32 (v : Nat)] w fun e w' => e = .returned (.int .i64 (notV s v)) ∧ Below w.heap.size w w' := by
  have HV : notV s v = -1 := by subst h; unfold notV V.q; simp [hl]
  rw [HV]; clear HV
  have HL := hide (fun w => live_any s ok w)
  subst h
  rw [show ((0 : Nat) : Int) = 0 from rfl]
  rw [hl] at HL
  go_enter Tryd.func34, Tryd.ntmps34
  go_wp2_with (first | ((with_reducible refine bx_vp w.heap.size s ?_ ?_ ?_); exact rfl; exact rfl; intro W hr hb hz; have fx := hr.cell) | ((with_reducible refine ld_vp w.heap.size _ hr ?_ ?_ ?_); exact rfl; exact rfl) | (go_at_call 14; (with_reducible refine (HL.out _).mono ?_); rintro e W ⟨rfl, hbc⟩; replace hr := hr.bl hbc; replace fx := hr.cell; replace hb := below_bl rfl hb hbc))
  go_ret
  exact ⟨rfl, hb⟩

set_option maxHeartbeats 1000000 in
theorem not_h0 (s : V) (ok : s.Ok) (v : Nat) (h : v = 0) (hr0 : s.q0.rd = true) (hl : liveV s = true) (w : World) :
    Calls Tryd.prog 34 #[.agg s.cells, .int .u32 (v : Nat)] w fun e w' => e = .returned (.int .i64 (notV s v)) ∧ Below w.heap.size w w' := by
  have HV : notV s v = 0 := by subst h; unfold notV V.q; simp [hr0, hl]
  rw [HV]; clear HV
  have HL := hide (fun w => live_any s ok w)
  subst h
  rw [show ((0 : Nat) : Int) = 0 from rfl]
  rw [hl] at HL
  go_enter Tryd.func34, Tryd.ntmps34
  go_wp2_with (first | ((with_reducible refine bx_vp w.heap.size s ?_ ?_ ?_); exact rfl; exact rfl; intro W hr hb hz; have fx := hr.cell) | ((with_reducible refine ld_vp w.heap.size _ hr ?_ ?_ ?_); exact rfl; exact rfl) | (go_at_call 14; (with_reducible refine (HL.out _).mono ?_); rintro e W ⟨rfl, hbc⟩; replace hr := hr.bl hbc; replace fx := hr.cell; replace hb := below_bl rfl hb hbc))
  go_ret
  exact ⟨rfl, hb⟩

set_option maxHeartbeats 1000000 in
theorem not_f1 (s : V) (ok : s.Ok) (v : Nat) (h : v = 1) (hr0 : s.q1.rd = false) (w : World) :
    Calls Tryd.prog 34 #[.agg s.cells, .int .u32 (v : Nat)] w fun e w' => e = .returned (.int .i64 (notV s v)) ∧ Below w.heap.size w w' := by
  have HV : notV s v = -1 := by subst h; unfold notV V.q; simp [hr0]
  rw [HV]; clear HV
  have HL := hide (fun w => live_any s ok w)
  subst h
  rw [show ((1 : Nat) : Int) = 1 from rfl]
  go_enter Tryd.func34, Tryd.ntmps34
  go_wp2_with (first | ((with_reducible refine bx_vp w.heap.size s ?_ ?_ ?_); exact rfl; exact rfl; intro W hr hb hz; have fx := hr.cell) | ((with_reducible refine ld_vp w.heap.size _ hr ?_ ?_ ?_); exact rfl; exact rfl) | (go_at_call 14; (with_reducible refine (HL.out _).mono ?_); rintro e W ⟨rfl, hbc⟩; replace hr := hr.bl hbc; replace fx := hr.cell; replace hb := below_bl rfl hb hbc))
  go_ret
  exact ⟨rfl, hb⟩

set_option maxHeartbeats 1000000 in
theorem not_g1 (s : V) (ok : s.Ok) (v : Nat) (h : v = 1) (hr0 : s.q1.rd = true) (hl : liveV s = false) (w : World) :
    Calls Tryd.prog 34 #[.agg s.cells, .int .u32 (v : Nat)] w fun e w' => e = .returned (.int .i64 (notV s v)) ∧ Below w.heap.size w w' := by
  have HV : notV s v = -1 := by subst h; unfold notV V.q; simp [hl]
  rw [HV]; clear HV
  have HL := hide (fun w => live_any s ok w)
  subst h
  rw [show ((1 : Nat) : Int) = 1 from rfl]
  rw [hl] at HL
  go_enter Tryd.func34, Tryd.ntmps34
  go_wp2_with (first | ((with_reducible refine bx_vp w.heap.size s ?_ ?_ ?_); exact rfl; exact rfl; intro W hr hb hz; have fx := hr.cell) | ((with_reducible refine ld_vp w.heap.size _ hr ?_ ?_ ?_); exact rfl; exact rfl) | (go_at_call 14; (with_reducible refine (HL.out _).mono ?_); rintro e W ⟨rfl, hbc⟩; replace hr := hr.bl hbc; replace fx := hr.cell; replace hb := below_bl rfl hb hbc))
  go_ret
  exact ⟨rfl, hb⟩

set_option maxHeartbeats 1000000 in
theorem not_h1 (s : V) (ok : s.Ok) (v : Nat) (h : v = 1) (hr0 : s.q1.rd = true) (hl : liveV s = true) (w : World) :
    Calls Tryd.prog 34 #[.agg s.cells, .int .u32 (v : Nat)] w fun e w' => e = .returned (.int .i64 (notV s v)) ∧ Below w.heap.size w w' := by
  have HV : notV s v = 1 := by subst h; unfold notV V.q; simp [hr0, hl]
  rw [HV]; clear HV
  have HL := hide (fun w => live_any s ok w)
  subst h
  rw [show ((1 : Nat) : Int) = 1 from rfl]
  rw [hl] at HL
  go_enter Tryd.func34, Tryd.ntmps34
  go_wp2_with (first | ((with_reducible refine bx_vp w.heap.size s ?_ ?_ ?_); exact rfl; exact rfl; intro W hr hb hz; have fx := hr.cell) | ((with_reducible refine ld_vp w.heap.size _ hr ?_ ?_ ?_); exact rfl; exact rfl) | (go_at_call 14; (with_reducible refine (HL.out _).mono ?_); rintro e W ⟨rfl, hbc⟩; replace hr := hr.bl hbc; replace fx := hr.cell; replace hb := below_bl rfl hb hbc))
  go_ret
  exact ⟨rfl, hb⟩

theorem not_any (s : V) (ok : s.Ok) (v : Nat) (w : World) : Calls Tryd.prog 34 #[.agg s.cells, .int .u32 (v : Nat)] w fun e w' => e = .returned (.int .i64 (notV s v)) ∧ Below w.heap.size w w' := by
  by_cases h2 : 2 ≤ v
  · exact not_far s ok v h2 w
  by_cases h0 : v = 0
  · cases hr0 : s.q0.rd with
    | false => exact not_f0 s ok v h0 hr0 w
    | true =>
      cases hl : liveV s with
      | false => exact not_g0 s ok v h0 hr0 hl w
      | true => exact not_h0 s ok v h0 hr0 hl w
  by_cases h1 : v = 1
  · cases hr0 : s.q1.rd with
    | false => exact not_f1 s ok v h1 hr0 w
    | true =>
      cases hl : liveV s with
      | false => exact not_g1 s ok v h1 hr0 hl w
      | true => exact not_h1 s ok v h1 hr0 hl w
  · omega
set_option maxHeartbeats 1000000 in
theorem stat_0 (s : V) (ok : s.Ok) (v : Nat) (hv : v < 4294967296) (h : v = 0) (w : World) :
    Calls Tryd.prog 35 #[.agg s.cells, .int .u32 (v : Nat)] w fun e w' => e = .returned (.agg (statV s v).cells) ∧ Below w.heap.size w w' := by
  have HV : statV s v = zeroV := by unfold statV; rw [if_pos h]
  rw [HV]; clear HV
  subst h
  rw [show ((0 : Nat) : Int) = 0 from rfl]
  go_enter Tryd.func35, Tryd.ntmps35
  go_wp2_with (first | ((with_reducible refine bx_vp w.heap.size s ?_ ?_ ?_); exact rfl; exact rfl; intro W hr hb hz; have fx := hr.cell) | ((with_reducible refine al_vp (w.heap.size + 1) ?_ ?_); exact hz.out; intro W hq hb' hz'; replace hr := hr.bl (hz.out ▸ hb'); replace hb := hb.trans (hb'.mono (by omega)); replace hz := hz'; replace fx := hr.cell) | ((with_reducible refine ld_vp w.heap.size _ hr ?_ ?_ ?_); exact rfl; exact rfl) | ((with_reducible refine st_vp (w.heap.size + 1) _ zeroV hq ?_ ?_ ?_); exact rfl; exact rfl; intro W hnew ho; replace hr := hr.only ho (by omega); replace hq := hnew; replace hb := ho.bel _ _ (by omega) hb))
  refine bodyPost_ret (results_cell_row Tryd.results35 _ _ (w.heap.size + 1) _ _ _ _ rfl hq Tryd.underlying37 rfl size_vp) rfl ?_
  exact ⟨rfl, hb⟩

set_option maxHeartbeats 1000000 in
theorem stat_tt (s : V) (ok : s.Ok) (v : Nat) (hv : v < 4294967296) (h : v ≠ 0) (hs : setl s = true) (ht : (s.st ||| statB s v).testBit 3 = true) (w : World) (hO : OffAt w) :
    Calls Tryd.prog 35 #[.agg s.cells, .int .u32 (v : Nat)] w fun e w' => e = .returned (.agg (statV s v).cells) ∧ Below w.heap.size w w' := by
  have HV : statV s v = s.stw (s.st ||| statM s v) := by unfold statV; rw [if_neg h]
  rw [HV]; clear HV
  have HS := hide (fun w (hO : OffAt w) => settle_any s w hO)
  rw [hs] at HS
  obtain ⟨B1, hB1⟩ : ∃ n, v &&& 143 = n := ⟨_, rfl⟩
  have b1 : B1 < 4294967296 := hB1 ▸ and_lt32 _ hv
  have e1 : bits .and .u32 (v : Int) 143 = (B1 : Int) := by rw [← hB1]; exact u32_and_nat v 143 hv (by decide)
  have HM : Hid (statM s v = (if (s.st ||| statB s v).testBit 3 = true then statB s v else statB s v &&& 4294967291)) := rfl
  have hBB : statB s v = B1 := by unfold statB; rw [if_pos hs, hB1]
  rw [hBB] at HM ht
  have e3 : bits .or .u32 (s.st : Int) (B1 : Int) = ((s.st ||| B1 : Nat) : Int) := u32_or_nat s.st B1 ok.st b1
  obtain ⟨C, hC⟩ : ∃ n, s.st ||| B1 = n := ⟨_, rfl⟩
  have c1 : C < 4294967296 := hC ▸ or_lt32 ok.st b1
  rw [hC] at e3 HM ht
  have t4 : (bits .and .u32 (C : Int) 8 == 0) = false := by rw [p_bit8e _ c1, ht]; rfl
  have HR : Hid (s.stw (s.st ||| statM s v) = s.stw C) := by show _ = _; rw [HM, if_pos ht, hC]
  rw [HR]
  have l0 : ((v : Int) == 0) = false := by simp; omega
  have m0 : (v == 0) = false := by simp; omega
  clear hB1 hBB HM HR hC ht h hs
  go_enter Tryd.func35, Tryd.ntmps35
  go_wp2_with (first | ((with_reducible refine bx_vp w.heap.size s ?_ ?_ ?_); exact rfl; exact rfl; intro W hr hb hz; have fx := hr.cell) | ((with_reducible refine al_vp (w.heap.size + 1) ?_ ?_); exact hz.out; intro W hq hb' hz'; replace hr := hr.bl (hz.out ▸ hb'); replace hb := hb.trans (hb'.mono (by omega)); replace hz := hz'; replace fx := hr.cell) | ((with_reducible refine ld_vp w.heap.size _ hr ?_ ?_ ?_); exact rfl; exact rfl) | (go_at_call 28; (with_reducible refine (HS.out _ (hO.bl hb)).mono ?_); rintro e W ⟨rfl, hbc⟩; replace hr := hr.bl hbc; replace hq := hq.bl hbc; replace fx := hr.cell; replace hb := below_bl rfl hb hbc) | ((with_reducible refine st_st w.heap.size _ C _ hr ?_ ?_ ?_); exact rfl; exact rfl; intro W hnew ho; replace hq := hq.only ho (by omega); replace hr := hnew; replace hb := ho.bel _ _ (by omega) hb; (try clear fx)) | ((with_reducible refine st_vp (w.heap.size + 1) _ (s.stw C) hq ?_ ?_ ?_); exact rfl; exact rfl; intro W hnew ho; replace hr := hr.only ho (by omega); replace hq := hnew; replace hb := ho.bel _ _ (by omega) hb))
  refine bodyPost_ret (results_cell_row Tryd.results35 _ _ (w.heap.size + 1) _ _ _ _ rfl hq Tryd.underlying37 rfl size_vp) rfl ?_
  exact ⟨rfl, hb⟩

set_option maxHeartbeats 1000000 in
theorem stat_tf (s : V) (ok : s.Ok) (v : Nat) (hv : v < 4294967296) (h : v ≠ 0) (hs : setl s = true) (ht : (s.st ||| statB s v).testBit 3 = false) (w : World) (hO : OffAt w) :
    Calls Tryd.prog 35 #[.agg s.cells, .int .u32 (v : Nat)] w fun e w' => e = .returned (.agg (statV s v).cells) ∧ Below w.heap.size w w' := by
  have HV : statV s v = s.stw (s.st ||| statM s v) := by unfold statV; rw [if_neg h]
  rw [HV]; clear HV
  have HS := hide (fun w (hO : OffAt w) => settle_any s w hO)
  rw [hs] at HS
  obtain ⟨B1, hB1⟩ : ∃ n, v &&& 143 = n := ⟨_, rfl⟩
  have b1 : B1 < 4294967296 := hB1 ▸ and_lt32 _ hv
  have e1 : bits .and .u32 (v : Int) 143 = (B1 : Int) := by rw [← hB1]; exact u32_and_nat v 143 hv (by decide)
  have HM : Hid (statM s v = (if (s.st ||| statB s v).testBit 3 = true then statB s v else statB s v &&& 4294967291)) := rfl
  have hBB : statB s v = B1 := by unfold statB; rw [if_pos hs, hB1]
  rw [hBB] at HM ht
  have e3 : bits .or .u32 (s.st : Int) (B1 : Int) = ((s.st ||| B1 : Nat) : Int) := u32_or_nat s.st B1 ok.st b1
  obtain ⟨C, hC⟩ : ∃ n, s.st ||| B1 = n := ⟨_, rfl⟩
  have c1 : C < 4294967296 := hC ▸ or_lt32 ok.st b1
  rw [hC] at e3 HM ht
  have t4 : (bits .and .u32 (C : Int) 8 == 0) = true := by rw [p_bit8e _ c1, ht]; rfl
  obtain ⟨D, hD⟩ : ∃ n, B1 &&& 4294967291 = n := ⟨_, rfl⟩
  have d1 : D < 4294967296 := hD ▸ and_lt32 _ b1
  have e5 : bits .andNot .u32 (B1 : Int) 4 = (D : Int) := by rw [← hD]; exact u32_andNot_nat B1 4 b1 (by decide)
  have e6 : bits .or .u32 (s.st : Int) (D : Int) = ((s.st ||| D : Nat) : Int) := u32_or_nat s.st D ok.st d1
  have HR : Hid (s.stw (s.st ||| statM s v) = s.stw (s.st ||| D)) := by show _ = _; rw [HM, ht, if_neg (by decide), hD]
  rw [HR]
  have l0 : ((v : Int) == 0) = false := by simp; omega
  have m0 : (v == 0) = false := by simp; omega
  clear hB1 hBB HM HR hC ht h hs hD
  go_enter Tryd.func35, Tryd.ntmps35
  go_wp2_with (first | ((with_reducible refine bx_vp w.heap.size s ?_ ?_ ?_); exact rfl; exact rfl; intro W hr hb hz; have fx := hr.cell) | ((with_reducible refine al_vp (w.heap.size + 1) ?_ ?_); exact hz.out; intro W hq hb' hz'; replace hr := hr.bl (hz.out ▸ hb'); replace hb := hb.trans (hb'.mono (by omega)); replace hz := hz'; replace fx := hr.cell) | ((with_reducible refine ld_vp w.heap.size _ hr ?_ ?_ ?_); exact rfl; exact rfl) | (go_at_call 28; (with_reducible refine (HS.out _ (hO.bl hb)).mono ?_); rintro e W ⟨rfl, hbc⟩; replace hr := hr.bl hbc; replace hq := hq.bl hbc; replace fx := hr.cell; replace hb := below_bl rfl hb hbc) | ((with_reducible refine st_st w.heap.size _ (s.st ||| D) _ hr ?_ ?_ ?_); exact rfl; exact rfl; intro W hnew ho; replace hq := hq.only ho (by omega); replace hr := hnew; replace hb := ho.bel _ _ (by omega) hb; (try clear fx)) | ((with_reducible refine st_vp (w.heap.size + 1) _ (s.stw (s.st ||| D)) hq ?_ ?_ ?_); exact rfl; exact rfl; intro W hnew ho; replace hr := hr.only ho (by omega); replace hq := hnew; replace hb := ho.bel _ _ (by omega) hb))
  refine bodyPost_ret (results_cell_row Tryd.results35 _ _ (w.heap.size + 1) _ _ _ _ rfl hq Tryd.underlying37 rfl size_vp) rfl ?_
  exact ⟨rfl, hb⟩

set_option maxHeartbeats 1000000 in
theorem stat_ft (s : V) (ok : s.Ok) (v : Nat) (hv : v < 4294967296) (h : v ≠ 0) (hs : setl s = false) (ht : (s.st ||| statB s v).testBit 3 = true) (w : World) (hO : OffAt w) :
    Calls Tryd.prog 35 #[.agg s.cells, .int .u32 (v : Nat)] w fun e w' => e = .returned (.agg (statV s v).cells) ∧ Below w.heap.size w w' := by
  have HV : statV s v = s.stw (s.st ||| statM s v) := by unfold statV; rw [if_neg h]
  rw [HV]; clear HV
  have HS := hide (fun w (hO : OffAt w) => settle_any s w hO)
  rw [hs] at HS
  obtain ⟨B1, hB1⟩ : ∃ n, v &&& 143 = n := ⟨_, rfl⟩
  have b1 : B1 < 4294967296 := hB1 ▸ and_lt32 _ hv
  have e1 : bits .and .u32 (v : Int) 143 = (B1 : Int) := by rw [← hB1]; exact u32_and_nat v 143 hv (by decide)
  have HM : Hid (statM s v = (if (s.st ||| statB s v).testBit 3 = true then statB s v else statB s v &&& 4294967291)) := rfl
  obtain ⟨B2, hB2⟩ : ∃ n, B1 &&& 4294967287 = n := ⟨_, rfl⟩
  have b2 : B2 < 4294967296 := hB2 ▸ and_lt32 _ b1
  have e2 : bits .andNot .u32 (B1 : Int) 8 = (B2 : Int) := by rw [← hB2]; exact u32_andNot_nat B1 8 b1 (by decide)
  have hBB : statB s v = B2 := by unfold statB; rw [hs, if_neg (by decide), hB1, hB2]
  rw [hBB] at HM ht
  have e3 : bits .or .u32 (s.st : Int) (B2 : Int) = ((s.st ||| B2 : Nat) : Int) := u32_or_nat s.st B2 ok.st b2
  obtain ⟨C, hC⟩ : ∃ n, s.st ||| B2 = n := ⟨_, rfl⟩
  have c1 : C < 4294967296 := hC ▸ or_lt32 ok.st b2
  rw [hC] at e3 HM ht
  have t4 : (bits .and .u32 (C : Int) 8 == 0) = false := by rw [p_bit8e _ c1, ht]; rfl
  have HR : Hid (s.stw (s.st ||| statM s v) = s.stw C) := by show _ = _; rw [HM, if_pos ht, hC]
  rw [HR]
  have l0 : ((v : Int) == 0) = false := by simp; omega
  have m0 : (v == 0) = false := by simp; omega
  clear hB1 hBB HM HR hC ht h hs hB2
  go_enter Tryd.func35, Tryd.ntmps35
  go_wp2_with (first | ((with_reducible refine bx_vp w.heap.size s ?_ ?_ ?_); exact rfl; exact rfl; intro W hr hb hz; have fx := hr.cell) | ((with_reducible refine al_vp (w.heap.size + 1) ?_ ?_); exact hz.out; intro W hq hb' hz'; replace hr := hr.bl (hz.out ▸ hb'); replace hb := hb.trans (hb'.mono (by omega)); replace hz := hz'; replace fx := hr.cell) | ((with_reducible refine ld_vp w.heap.size _ hr ?_ ?_ ?_); exact rfl; exact rfl) | (go_at_call 28; (with_reducible refine (HS.out _ (hO.bl hb)).mono ?_); rintro e W ⟨rfl, hbc⟩; replace hr := hr.bl hbc; replace hq := hq.bl hbc; replace fx := hr.cell; replace hb := below_bl rfl hb hbc) | ((with_reducible refine st_st w.heap.size _ C _ hr ?_ ?_ ?_); exact rfl; exact rfl; intro W hnew ho; replace hq := hq.only ho (by omega); replace hr := hnew; replace hb := ho.bel _ _ (by omega) hb; (try clear fx)) | ((with_reducible refine st_vp (w.heap.size + 1) _ (s.stw C) hq ?_ ?_ ?_); exact rfl; exact rfl; intro W hnew ho; replace hr := hr.only ho (by omega); replace hq := hnew; replace hb := ho.bel _ _ (by omega) hb))
  refine bodyPost_ret (results_cell_row Tryd.results35 _ _ (w.heap.size + 1) _ _ _ _ rfl hq Tryd.underlying37 rfl size_vp) rfl ?_
  exact ⟨rfl, hb⟩

set_option maxHeartbeats 1000000 in
theorem stat_ff (s : V) (ok : s.Ok) (v : Nat) (hv : v < 4294967296) (h : v ≠ 0) (hs : setl s = false) (ht : (s.st ||| statB s v).testBit 3 = false) (w : World) (hO : OffAt w) :
    Calls Tryd.prog 35 #[.agg s.cells, .int .u32 (v : Nat)] w fun e w' => e = .returned (.agg (statV s v).cells) ∧ Below w.heap.size w w' := by
  have HV : statV s v = s.stw (s.st ||| statM s v) := by unfold statV; rw [if_neg h]
  rw [HV]; clear HV
  have HS := hide (fun w (hO : OffAt w) => settle_any s w hO)
  rw [hs] at HS
  obtain ⟨B1, hB1⟩ : ∃ n, v &&& 143 = n := ⟨_, rfl⟩
  have b1 : B1 < 4294967296 := hB1 ▸ and_lt32 _ hv
  have e1 : bits .and .u32 (v : Int) 143 = (B1 : Int) := by rw [← hB1]; exact u32_and_nat v 143 hv (by decide)
  have HM : Hid (statM s v = (if (s.st ||| statB s v).testBit 3 = true then statB s v else statB s v &&& 4294967291)) := rfl
  obtain ⟨B2, hB2⟩ : ∃ n, B1 &&& 4294967287 = n := ⟨_, rfl⟩
  have b2 : B2 < 4294967296 := hB2 ▸ and_lt32 _ b1
  have e2 : bits .andNot .u32 (B1 : Int) 8 = (B2 : Int) := by rw [← hB2]; exact u32_andNot_nat B1 8 b1 (by decide)
  have hBB : statB s v = B2 := by unfold statB; rw [hs, if_neg (by decide), hB1, hB2]
  rw [hBB] at HM ht
  have e3 : bits .or .u32 (s.st : Int) (B2 : Int) = ((s.st ||| B2 : Nat) : Int) := u32_or_nat s.st B2 ok.st b2
  obtain ⟨C, hC⟩ : ∃ n, s.st ||| B2 = n := ⟨_, rfl⟩
  have c1 : C < 4294967296 := hC ▸ or_lt32 ok.st b2
  rw [hC] at e3 HM ht
  have t4 : (bits .and .u32 (C : Int) 8 == 0) = true := by rw [p_bit8e _ c1, ht]; rfl
  obtain ⟨D, hD⟩ : ∃ n, B2 &&& 4294967291 = n := ⟨_, rfl⟩
  have d1 : D < 4294967296 := hD ▸ and_lt32 _ b2
  have e5 : bits .andNot .u32 (B2 : Int) 4 = (D : Int) := by rw [← hD]; exact u32_andNot_nat B2 4 b2 (by decide)
  have e6 : bits .or .u32 (s.st : Int) (D : Int) = ((s.st ||| D : Nat) : Int) := u32_or_nat s.st D ok.st d1
  have HR : Hid (s.stw (s.st ||| statM s v) = s.stw (s.st ||| D)) := by show _ = _; rw [HM, ht, if_neg (by decide), hD]
  rw [HR]
  have l0 : ((v : Int) == 0) = false := by simp; omega
  have m0 : (v == 0) = false := by simp; omega
  clear hB1 hBB HM HR hC ht h hs hB2 hD
  go_enter Tryd.func35, Tryd.ntmps35
  go_wp2_with (first | ((with_reducible refine bx_vp w.heap.size s ?_ ?_ ?_); exact rfl; exact rfl; intro W hr hb hz; have fx := hr.cell) | ((with_reducible refine al_vp (w.heap.size + 1) ?_ ?_); exact hz.out; intro W hq hb' hz'; replace hr := hr.bl (hz.out ▸ hb'); replace hb := hb.trans (hb'.mono (by omega)); replace hz := hz'; replace fx := hr.cell) | ((with_reducible refine ld_vp w.heap.size _ hr ?_ ?_ ?_); exact rfl; exact rfl) | (go_at_call 28; (with_reducible refine (HS.out _ (hO.bl hb)).mono ?_); rintro e W ⟨rfl, hbc⟩; replace hr := hr.bl hbc; replace hq := hq.bl hbc; replace fx := hr.cell; replace hb := below_bl rfl hb hbc) | ((with_reducible refine st_st w.heap.size _ (s.st ||| D) _ hr ?_ ?_ ?_); exact rfl; exact rfl; intro W hnew ho; replace hq := hq.only ho (by omega); replace hr := hnew; replace hb := ho.bel _ _ (by omega) hb; (try clear fx)) | ((with_reducible refine st_vp (w.heap.size + 1) _ (s.stw (s.st ||| D)) hq ?_ ?_ ?_); exact rfl; exact rfl; intro W hnew ho; replace hr := hr.only ho (by omega); replace hq := hnew; replace hb := ho.bel _ _ (by omega) hb))
  refine bodyPost_ret (results_cell_row Tryd.results35 _ _ (w.heap.size + 1) _ _ _ _ rfl hq Tryd.underlying37 rfl size_vp) rfl ?_
  exact ⟨rfl, hb⟩

theorem stat_any (s : V) (ok : s.Ok) (v : Nat) (hv : v < 4294967296) (w : World) (hO : OffAt w) : Calls Tryd.prog 35 #[.agg s.cells, .int .u32 (v : Nat)] w fun e w' => e = .returned (.agg (statV s v).cells) ∧ Below w.heap.size w w' := by
  by_cases h : v = 0
  · exact stat_0 s ok v hv h w
  cases hs : setl s <;> cases ht : (s.st ||| statB s v).testBit 3
  · exact stat_ff s ok v hv h hs ht w hO
  · exact stat_ft s ok v hv h hs ht w hO
  · exact stat_tf s ok v hv h hs ht w hO
  · exact stat_tt s ok v hv h hs ht w hO
end Go.Proofs.YtahgacdkofmbmaaDoor
