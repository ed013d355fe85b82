/-
  What the document's Check answers.
-/
import Derived.Test.YtbggkoahofnnjaaGreatDoorJR7
open Go.Proofs.Tryz
set_option linter.unusedVariables false
set_option linter.unusedSimpArgs false
namespace Go.Proofs.YtbggkoahofnnjaaGreatDoor
open Go.RowKit
set_option maxHeartbeats 1000000
attribute [local go_sem] V.at0 V.at1 V.at2 V.at3 V.at4 V.at5 V.at6 V.at7 V.at8 V.at9 V.at10 V.at11 V.at12 V.at13 V.at14 V.at15 V.at16 V.at17 V.at18 V.at19 V.at20 Qu.at0 Qu.at1 Qu.at2 Qu.at3 Qu.at4 Qu.at5 Qu.at6
def StViSmall0 (s : V) (v : Nat) (w : World) : Prop := Calls prog 61 #[.agg s.cells, .int .u32 (v : Nat)] w fun e w' => e = .returned (.int .i64 (notV s v)) ∧ Below w.heap.size w w'
def StViSmall1 (s : V) (v : Nat) (w : World) : Prop := Calls prog 62 #[.agg s.cells, .int .u32 (v : Nat)] w fun e w' => e = .returned (.agg (statV s v).cells) ∧ Below w.heap.size w w'
def StViSmall2 (s : V) (v : Nat) (w : World) : Prop := Calls prog 60 #[.agg s.cells, .int .u32 (v : Nat)] w fun e w' => e = .returned (.agg (askV s v).cells) ∧ Below w.heap.size w w'
theorem ask_t (s : V) (ok : s.Ok) (v : Nat) (hv : v < 4294967296) (h : s.st.testBit 3 = true) (w : World) :
    StViSmall2 s v w := by
  unfold StViSmall2
  have HV : askV s v = s := by unfold askV; rw [if_pos h]
  rw [HV]; clear HV
  have t1 : (bits .and .u32 (s.st : Int) 8 == 0) = false := by rw [p_bit8e _ ok.st, h]; rfl
  go_enter func60, ntmps60
  go_wp2_with (first | ((with_reducible refine bx_vp w.heap.size s ?_ ?_ ?_); exact rfl; exact rfl; intro W hr hb hz; have fx := hr.cell) | ((with_reducible refine al_vp (w.heap.size + 1) ?_ ?_); exact hz.out; intro W hq hb' hz'; replace hr := hr.bl (hz.out ▸ hb'); replace hb := hb.trans (hb'.mono (by omega)); replace hz := hz'; replace fx := hr.cell) | ((with_reducible refine ld_vp w.heap.size _ hr ?_ ?_ ?_); exact rfl; exact rfl) | ((with_reducible refine st_vp (w.heap.size + 1) _ s hq ?_ ?_ ?_); exact rfl; exact rfl; intro W hnew ho; replace hr := hr.only ho (by omega); replace hq := hnew; replace hb := ho.bel _ _ (by omega) hb))
  refine bodyPost_ret (results_cell_row results60 _ _ (w.heap.size + 1) _ _ _ _ rfl hq underlying39 rfl size_vp) rfl ?_
  exact ⟨rfl, hb⟩
theorem ask_0 (s : V) (ok : s.Ok) (v : Nat) (hv : v < 4294967296) (h : s.st.testBit 3 = false) (hd : s.ds = 0) (w : World) :
    StViSmall2 s v w := by
  unfold StViSmall2
  have HV : askV s v = (s.d0w v) := by unfold askV; rw [h, hd]; rfl
  rw [HV]; clear HV
  have t1 : (bits .and .u32 (s.st : Int) 8 == 0) = true := by rw [p_bit8e _ ok.st, h]; rfl
  have hdi : ((s.ds : Nat) : Int) = 0 := by omega
  clear hd
  go_enter func60, ntmps60
  go_wp2_with (first | ((with_reducible refine bx_vp w.heap.size s ?_ ?_ ?_); exact rfl; exact rfl; intro W hr hb hz; have fx := hr.cell) | ((with_reducible refine al_vp (w.heap.size + 1) ?_ ?_); exact hz.out; intro W hq hb' hz'; replace hr := hr.bl (hz.out ▸ hb'); replace hb := hb.trans (hb'.mono (by omega)); replace hz := hz'; replace fx := hr.cell) | ((with_reducible refine st_d0 w.heap.size _ v _ hr ?_ ?_ ?_); exact rfl; exact rfl; intro W hnew ho; replace hq := hq.only ho (by omega); replace hr := hnew; replace hb := ho.bel _ _ (by omega) hb; (try clear fx)) | ((with_reducible refine ld_vp w.heap.size _ hr ?_ ?_ ?_); exact rfl; exact rfl) | ((with_reducible refine st_vp (w.heap.size + 1) _ (s.d0w v) hq ?_ ?_ ?_); exact rfl; exact rfl; intro W hnew ho; replace hr := hr.only ho (by omega); replace hq := hnew; replace hb := ho.bel _ _ (by omega) hb))
  refine bodyPost_ret (results_cell_row results60 _ _ (w.heap.size + 1) _ _ _ _ rfl hq underlying39 rfl size_vp) rfl ?_
  exact ⟨rfl, hb⟩
theorem ask_1 (s : V) (ok : s.Ok) (v : Nat) (hv : v < 4294967296) (h : s.st.testBit 3 = false) (hd : s.ds = 1) (w : World) :
    StViSmall2 s v w := by
  unfold StViSmall2
  have HV : askV s v = (s.d1w v) := by unfold askV; rw [h, hd]; rfl
  rw [HV]; clear HV
  have t1 : (bits .and .u32 (s.st : Int) 8 == 0) = true := by rw [p_bit8e _ ok.st, h]; rfl
  have hdi : ((s.ds : Nat) : Int) = 1 := by omega
  clear hd
  go_enter func60, ntmps60
  go_wp2_with (first | ((with_reducible refine bx_vp w.heap.size s ?_ ?_ ?_); exact rfl; exact rfl; intro W hr hb hz; have fx := hr.cell) | ((with_reducible refine al_vp (w.heap.size + 1) ?_ ?_); exact hz.out; intro W hq hb' hz'; replace hr := hr.bl (hz.out ▸ hb'); replace hb := hb.trans (hb'.mono (by omega)); replace hz := hz'; replace fx := hr.cell) | ((with_reducible refine st_d1 w.heap.size _ v _ hr ?_ ?_ ?_); exact rfl; exact rfl; intro W hnew ho; replace hq := hq.only ho (by omega); replace hr := hnew; replace hb := ho.bel _ _ (by omega) hb; (try clear fx)) | ((with_reducible refine ld_vp w.heap.size _ hr ?_ ?_ ?_); exact rfl; exact rfl) | ((with_reducible refine st_vp (w.heap.size + 1) _ (s.d1w v) hq ?_ ?_ ?_); exact rfl; exact rfl; intro W hnew ho; replace hr := hr.only ho (by omega); replace hq := hnew; replace hb := ho.bel _ _ (by omega) hb))
  refine bodyPost_ret (results_cell_row results60 _ _ (w.heap.size + 1) _ _ _ _ rfl hq underlying39 rfl size_vp) rfl ?_
  exact ⟨rfl, hb⟩
theorem ask_far (s : V) (ok : s.Ok) (v : Nat) (hv : v < 4294967296) (h : s.st.testBit 3 = false) (hd : 2 ≤ s.ds) (w : World) :
    StViSmall2 s v w := by
  unfold StViSmall2
  have HV : askV s v = s := by unfold askV; rw [h, if_neg (by decide), if_neg (show ¬ s.ds = 0 by omega), if_neg (show ¬ s.ds = 1 by omega)]
  rw [HV]; clear HV
  have t1 : (bits .and .u32 (s.st : Int) 8 == 0) = true := by rw [p_bit8e _ ok.st, h]; rfl
  have lt : decide ((s.ds : Int) < 2) = false := by simp; omega
  have ltb : decide (s.ds < 2) = false := by simp; omega
  go_enter func60, ntmps60
  go_wp2_with (first | ((with_reducible refine bx_vp w.heap.size s ?_ ?_ ?_); exact rfl; exact rfl; intro W hr hb hz; have fx := hr.cell) | ((with_reducible refine al_vp (w.heap.size + 1) ?_ ?_); exact hz.out; intro W hq hb' hz'; replace hr := hr.bl (hz.out ▸ hb'); replace hb := hb.trans (hb'.mono (by omega)); replace hz := hz'; replace fx := hr.cell) | ((with_reducible refine ld_vp w.heap.size _ hr ?_ ?_ ?_); exact rfl; exact rfl) | ((with_reducible refine st_vp (w.heap.size + 1) _ s hq ?_ ?_ ?_); exact rfl; exact rfl; intro W hnew ho; replace hr := hr.only ho (by omega); replace hq := hnew; replace hb := ho.bel _ _ (by omega) hb))
  refine bodyPost_ret (results_cell_row results60 _ _ (w.heap.size + 1) _ _ _ _ rfl hq underlying39 rfl size_vp) rfl ?_
  exact ⟨rfl, hb⟩
theorem ask_any (s : V) (ok : s.Ok) (v : Nat) (hv : v < 4294967296) (w : World) : Calls prog 60 #[.agg s.cells, .int .u32 (v : Nat)] w fun e w' => e = .returned (.agg (askV s v).cells) ∧ Below w.heap.size w w' := by
  cases h : s.st.testBit 3 with
  | true => exact ask_t s ok v hv h w
  | false =>
    by_cases h2 : 2 ≤ s.ds
    · exact ask_far s ok v hv h h2 w
    by_cases h0 : s.ds = 0
    · exact ask_0 s ok v hv h h0 w
    · exact ask_1 s ok v hv h (by omega) w
theorem not_far (s : V) (ok : s.Ok) (v : Nat) (h : 2 ≤ v) (w : World) :
    StViSmall0 s v w := by
  unfold StViSmall0
  have HV : notV s v = -1 := by unfold notV; rw [decide_eq_false (show ¬ v < 2 by omega)]; rfl
  rw [HV]; clear HV
  have HL := hide (fun w => live_any s ok w)
  have lt : decide ((v : Int) < 2) = false := by simp; omega
  have ltb : decide (v < 2) = false := by simp; omega
  go_enter func61, ntmps61
  go_wp2_with (first | ((with_reducible refine bx_vp w.heap.size s ?_ ?_ ?_); exact rfl; exact rfl; intro W hr hb hz; have fx := hr.cell) | ((with_reducible refine ld_vp w.heap.size _ hr ?_ ?_ ?_); exact rfl; exact rfl) | (go_at_call 78; (with_reducible refine (HL.out _).mono ?_); rintro e W ⟨rfl, hbc⟩; replace hr := hr.bl hbc; replace fx := hr.cell; replace hb := below_bl rfl hb hbc))
  go_ret
  exact ⟨rfl, hb⟩
theorem not_f0 (s : V) (ok : s.Ok) (v : Nat) (h : v = 0) (hr0 : s.q0.rd = false) (w : World) :
    StViSmall0 s v w := by
  unfold StViSmall0
  have HV : notV s v = -1 := by subst h; unfold notV V.q; simp [hr0]
  rw [HV]; clear HV
  have HL := hide (fun w => live_any s ok w)
  subst h
  rw [show ((0 : Nat) : Int) = 0 from rfl]
  go_enter func61, ntmps61
  go_wp2_with (first | ((with_reducible refine bx_vp w.heap.size s ?_ ?_ ?_); exact rfl; exact rfl; intro W hr hb hz; have fx := hr.cell) | ((with_reducible refine ld_vp w.heap.size _ hr ?_ ?_ ?_); exact rfl; exact rfl) | (go_at_call 78; (with_reducible refine (HL.out _).mono ?_); rintro e W ⟨rfl, hbc⟩; replace hr := hr.bl hbc; replace fx := hr.cell; replace hb := below_bl rfl hb hbc))
  go_ret
  exact ⟨rfl, hb⟩
theorem not_g0 (s : V) (ok : s.Ok) (v : Nat) (h : v = 0) (hr0 : s.q0.rd = true) (hl : liveV s = false) (w : World) :
    StViSmall0 s v w := by
  unfold StViSmall0
  have HV : notV s v = -1 := by subst h; unfold notV V.q; simp [hl]
  rw [HV]; clear HV
  have HL := hide (fun w => live_any s ok w)
  subst h
  rw [show ((0 : Nat) : Int) = 0 from rfl]
  rw [hl] at HL
  go_enter func61, ntmps61
  go_wp2_with (first | ((with_reducible refine bx_vp w.heap.size s ?_ ?_ ?_); exact rfl; exact rfl; intro W hr hb hz; have fx := hr.cell) | ((with_reducible refine ld_vp w.heap.size _ hr ?_ ?_ ?_); exact rfl; exact rfl) | (go_at_call 78; (with_reducible refine (HL.out _).mono ?_); rintro e W ⟨rfl, hbc⟩; replace hr := hr.bl hbc; replace fx := hr.cell; replace hb := below_bl rfl hb hbc))
  go_ret
  exact ⟨rfl, hb⟩
theorem not_h0 (s : V) (ok : s.Ok) (v : Nat) (h : v = 0) (hr0 : s.q0.rd = true) (hl : liveV s = true) (w : World) :
    StViSmall0 s v w := by
  unfold StViSmall0
  have HV : notV s v = 0 := by subst h; unfold notV V.q; simp [hr0, hl]
  rw [HV]; clear HV
  have HL := hide (fun w => live_any s ok w)
  subst h
  rw [show ((0 : Nat) : Int) = 0 from rfl]
  rw [hl] at HL
  go_enter func61, ntmps61
  go_wp2_with (first | ((with_reducible refine bx_vp w.heap.size s ?_ ?_ ?_); exact rfl; exact rfl; intro W hr hb hz; have fx := hr.cell) | ((with_reducible refine ld_vp w.heap.size _ hr ?_ ?_ ?_); exact rfl; exact rfl) | (go_at_call 78; (with_reducible refine (HL.out _).mono ?_); rintro e W ⟨rfl, hbc⟩; replace hr := hr.bl hbc; replace fx := hr.cell; replace hb := below_bl rfl hb hbc))
  go_ret
  exact ⟨rfl, hb⟩
theorem not_f1 (s : V) (ok : s.Ok) (v : Nat) (h : v = 1) (hr0 : s.q1.rd = false) (w : World) :
    StViSmall0 s v w := by
  unfold StViSmall0
  have HV : notV s v = -1 := by subst h; unfold notV V.q; simp [hr0]
  rw [HV]; clear HV
  have HL := hide (fun w => live_any s ok w)
  subst h
  rw [show ((1 : Nat) : Int) = 1 from rfl]
  go_enter func61, ntmps61
  go_wp2_with (first | ((with_reducible refine bx_vp w.heap.size s ?_ ?_ ?_); exact rfl; exact rfl; intro W hr hb hz; have fx := hr.cell) | ((with_reducible refine ld_vp w.heap.size _ hr ?_ ?_ ?_); exact rfl; exact rfl) | (go_at_call 78; (with_reducible refine (HL.out _).mono ?_); rintro e W ⟨rfl, hbc⟩; replace hr := hr.bl hbc; replace fx := hr.cell; replace hb := below_bl rfl hb hbc))
  go_ret
  exact ⟨rfl, hb⟩
theorem not_g1 (s : V) (ok : s.Ok) (v : Nat) (h : v = 1) (hr0 : s.q1.rd = true) (hl : liveV s = false) (w : World) :
    StViSmall0 s v w := by
  unfold StViSmall0
  have HV : notV s v = -1 := by subst h; unfold notV V.q; simp [hl]
  rw [HV]; clear HV
  have HL := hide (fun w => live_any s ok w)
  subst h
  rw [show ((1 : Nat) : Int) = 1 from rfl]
  rw [hl] at HL
  go_enter func61, ntmps61
  go_wp2_with (first | ((with_reducible refine bx_vp w.heap.size s ?_ ?_ ?_); exact rfl; exact rfl; intro W hr hb hz; have fx := hr.cell) | ((with_reducible refine ld_vp w.heap.size _ hr ?_ ?_ ?_); exact rfl; exact rfl) | (go_at_call 78; (with_reducible refine (HL.out _).mono ?_); rintro e W ⟨rfl, hbc⟩; replace hr := hr.bl hbc; replace fx := hr.cell; replace hb := below_bl rfl hb hbc))
  go_ret
  exact ⟨rfl, hb⟩
theorem not_h1 (s : V) (ok : s.Ok) (v : Nat) (h : v = 1) (hr0 : s.q1.rd = true) (hl : liveV s = true) (w : World) :
    StViSmall0 s v w := by
  unfold StViSmall0
  have HV : notV s v = 1 := by subst h; unfold notV V.q; simp [hr0, hl]
  rw [HV]; clear HV
  have HL := hide (fun w => live_any s ok w)
  subst h
  rw [show ((1 : Nat) : Int) = 1 from rfl]
  rw [hl] at HL
  go_enter func61, ntmps61
  go_wp2_with (first | ((with_reducible refine bx_vp w.heap.size s ?_ ?_ ?_); exact rfl; exact rfl; intro W hr hb hz; have fx := hr.cell) | ((with_reducible refine ld_vp w.heap.size _ hr ?_ ?_ ?_); exact rfl; exact rfl) | (go_at_call 78; (with_reducible refine (HL.out _).mono ?_); rintro e W ⟨rfl, hbc⟩; replace hr := hr.bl hbc; replace fx := hr.cell; replace hb := below_bl rfl hb hbc))
  go_ret
  exact ⟨rfl, hb⟩
theorem not_any (s : V) (ok : s.Ok) (v : Nat) (w : World) : Calls prog 61 #[.agg s.cells, .int .u32 (v : Nat)] w fun e w' => e = .returned (.int .i64 (notV s v)) ∧ Below w.heap.size w w' := by
  by_cases h2 : 2 ≤ v
  · exact not_far s ok v h2 w
  by_cases h0 : v = 0
  · cases hr0 : s.q0.rd with
    | false => exact not_f0 s ok v h0 hr0 w
    | true =>
      cases hl : liveV s with
      | false => exact not_g0 s ok v h0 hr0 hl w
      | true => exact not_h0 s ok v h0 hr0 hl w
  by_cases h1 : v = 1
  · cases hr0 : s.q1.rd with
    | false => exact not_f1 s ok v h1 hr0 w
    | true =>
      cases hl : liveV s with
      | false => exact not_g1 s ok v h1 hr0 hl w
      | true => exact not_h1 s ok v h1 hr0 hl w
  · omega
theorem stat_0 (s : V) (ok : s.Ok) (v : Nat) (hv : v < 4294967296) (h : v = 0) (w : World) :
    StViSmall1 s v w := by
  unfold StViSmall1
  have HV : statV s v = zeroV := by unfold statV; rw [if_pos h]
  rw [HV]; clear HV
  subst h
  rw [show ((0 : Nat) : Int) = 0 from rfl]
  go_enter func62, ntmps62
  go_wp2_with (first | ((with_reducible refine bx_vp w.heap.size s ?_ ?_ ?_); exact rfl; exact rfl; intro W hr hb hz; have fx := hr.cell) | ((with_reducible refine al_vp (w.heap.size + 1) ?_ ?_); exact hz.out; intro W hq hb' hz'; replace hr := hr.bl (hz.out ▸ hb'); replace hb := hb.trans (hb'.mono (by omega)); replace hz := hz'; replace fx := hr.cell) | ((with_reducible refine ld_vp w.heap.size _ hr ?_ ?_ ?_); exact rfl; exact rfl) | ((with_reducible refine st_vp (w.heap.size + 1) _ zeroV hq ?_ ?_ ?_); exact rfl; exact rfl; intro W hnew ho; replace hr := hr.only ho (by omega); replace hq := hnew; replace hb := ho.bel _ _ (by omega) hb))
  refine bodyPost_ret (results_cell_row results62 _ _ (w.heap.size + 1) _ _ _ _ rfl hq underlying39 rfl size_vp) rfl ?_
  exact ⟨rfl, hb⟩
theorem stat_tt (s : V) (ok : s.Ok) (v : Nat) (hv : v < 4294967296) (h : v ≠ 0) (hs : setl s = true) (ht : (s.st ||| statB s v).testBit 3 = true) (w : World) (hO : OffAt w) :
    StViSmall1 s v w := by
  unfold StViSmall1
  have HV : statV s v = s.stw (s.st ||| statM s v) := by unfold statV; rw [if_neg h]
  rw [HV]; clear HV
  have HS := hide (fun w (hO : OffAt w) => settle_any s w hO)
  rw [hs] at HS
  obtain ⟨B1, hB1⟩ : ∃ n, v &&& 143 = n := ⟨_, rfl⟩
  have b1 : B1 < 4294967296 := hB1 ▸ and_lt32 _ hv
  have e1 : bits .and .u32 (v : Int) 143 = (B1 : Int) := by rw [← hB1]; exact u32_and_nat v 143 hv (by decide)
  have HM : Hid (statM s v = (if (s.st ||| statB s v).testBit 3 = true then statB s v else statB s v &&& 4294967291)) := rfl
  have hBB : statB s v = B1 := by unfold statB; rw [if_pos hs, hB1]
  rw [hBB] at HM ht
  have e3 : bits .or .u32 (s.st : Int) (B1 : Int) = ((s.st ||| B1 : Nat) : Int) := u32_or_nat s.st B1 ok.st b1
  obtain ⟨C, hC⟩ : ∃ n, s.st ||| B1 = n := ⟨_, rfl⟩
  have c1 : C < 4294967296 := hC ▸ or_lt32 ok.st b1
  rw [hC] at e3 HM ht
  have t4 : (bits .and .u32 (C : Int) 8 == 0) = false := by rw [p_bit8e _ c1, ht]; rfl
  have HR : Hid (s.stw (s.st ||| statM s v) = s.stw C) := by show _ = _; rw [HM, if_pos ht, hC]
  rw [HR]
  have l0 : ((v : Int) == 0) = false := by simp; omega
  have m0 : (v == 0) = false := by simp; omega
  clear hB1 hBB HM HR hC ht h hs
  go_enter func62, ntmps62
  go_wp2_with (first | ((with_reducible refine bx_vp w.heap.size s ?_ ?_ ?_); exact rfl; exact rfl; intro W hr hb hz; have fx := hr.cell) | ((with_reducible refine al_vp (w.heap.size + 1) ?_ ?_); exact hz.out; intro W hq hb' hz'; replace hr := hr.bl (hz.out ▸ hb'); replace hb := hb.trans (hb'.mono (by omega)); replace hz := hz'; replace fx := hr.cell) | ((with_reducible refine ld_vp w.heap.size _ hr ?_ ?_ ?_); exact rfl; exact rfl) | (go_at_call 70; (with_reducible refine (HS.out _ (hO.bl hb)).mono ?_); rintro e W ⟨rfl, hbc⟩; replace hr := hr.bl hbc; replace hq := hq.bl hbc; replace fx := hr.cell; replace hb := below_bl rfl hb hbc) | ((with_reducible refine st_st w.heap.size _ C _ hr ?_ ?_ ?_); exact rfl; exact rfl; intro W hnew ho; replace hq := hq.only ho (by omega); replace hr := hnew; replace hb := ho.bel _ _ (by omega) hb; (try clear fx)) | ((with_reducible refine st_vp (w.heap.size + 1) _ (s.stw C) hq ?_ ?_ ?_); exact rfl; exact rfl; intro W hnew ho; replace hr := hr.only ho (by omega); replace hq := hnew; replace hb := ho.bel _ _ (by omega) hb))
  refine bodyPost_ret (results_cell_row results62 _ _ (w.heap.size + 1) _ _ _ _ rfl hq underlying39 rfl size_vp) rfl ?_
  exact ⟨rfl, hb⟩
theorem stat_tf (s : V) (ok : s.Ok) (v : Nat) (hv : v < 4294967296) (h : v ≠ 0) (hs : setl s = true) (ht : (s.st ||| statB s v).testBit 3 = false) (w : World) (hO : OffAt w) :
    StViSmall1 s v w := by
  unfold StViSmall1
  have HV : statV s v = s.stw (s.st ||| statM s v) := by unfold statV; rw [if_neg h]
  rw [HV]; clear HV
  have HS := hide (fun w (hO : OffAt w) => settle_any s w hO)
  rw [hs] at HS
  obtain ⟨B1, hB1⟩ : ∃ n, v &&& 143 = n := ⟨_, rfl⟩
  have b1 : B1 < 4294967296 := hB1 ▸ and_lt32 _ hv
  have e1 : bits .and .u32 (v : Int) 143 = (B1 : Int) := by rw [← hB1]; exact u32_and_nat v 143 hv (by decide)
  have HM : Hid (statM s v = (if (s.st ||| statB s v).testBit 3 = true then statB s v else statB s v &&& 4294967291)) := rfl
  have hBB : statB s v = B1 := by unfold statB; rw [if_pos hs, hB1]
  rw [hBB] at HM ht
  have e3 : bits .or .u32 (s.st : Int) (B1 : Int) = ((s.st ||| B1 : Nat) : Int) := u32_or_nat s.st B1 ok.st b1
  obtain ⟨C, hC⟩ : ∃ n, s.st ||| B1 = n := ⟨_, rfl⟩
  have c1 : C < 4294967296 := hC ▸ or_lt32 ok.st b1
  rw [hC] at e3 HM ht
  have t4 : (bits .and .u32 (C : Int) 8 == 0) = true := by rw [p_bit8e _ c1, ht]; rfl
  obtain ⟨D, hD⟩ : ∃ n, B1 &&& 4294967291 = n := ⟨_, rfl⟩
  have d1 : D < 4294967296 := hD ▸ and_lt32 _ b1
  have e5 : bits .andNot .u32 (B1 : Int) 4 = (D : Int) := by rw [← hD]; exact u32_andNot_nat B1 4 b1 (by decide)
  have e6 : bits .or .u32 (s.st : Int) (D : Int) = ((s.st ||| D : Nat) : Int) := u32_or_nat s.st D ok.st d1
  have HR : Hid (s.stw (s.st ||| statM s v) = s.stw (s.st ||| D)) := by show _ = _; rw [HM, ht, if_neg (by decide), hD]
  rw [HR]
  have l0 : ((v : Int) == 0) = false := by simp; omega
  have m0 : (v == 0) = false := by simp; omega
  clear hB1 hBB HM HR hC ht h hs hD
  go_enter func62, ntmps62
  go_wp2_with (first | ((with_reducible refine bx_vp w.heap.size s ?_ ?_ ?_); exact rfl; exact rfl; intro W hr hb hz; have fx := hr.cell) | ((with_reducible refine al_vp (w.heap.size + 1) ?_ ?_); exact hz.out; intro W hq hb' hz'; replace hr := hr.bl (hz.out ▸ hb'); replace hb := hb.trans (hb'.mono (by omega)); replace hz := hz'; replace fx := hr.cell) | ((with_reducible refine ld_vp w.heap.size _ hr ?_ ?_ ?_); exact rfl; exact rfl) | (go_at_call 70; (with_reducible refine (HS.out _ (hO.bl hb)).mono ?_); rintro e W ⟨rfl, hbc⟩; replace hr := hr.bl hbc; replace hq := hq.bl hbc; replace fx := hr.cell; replace hb := below_bl rfl hb hbc) | ((with_reducible refine st_st w.heap.size _ (s.st ||| D) _ hr ?_ ?_ ?_); exact rfl; exact rfl; intro W hnew ho; replace hq := hq.only ho (by omega); replace hr := hnew; replace hb := ho.bel _ _ (by omega) hb; (try clear fx)) | ((with_reducible refine st_vp (w.heap.size + 1) _ (s.stw (s.st ||| D)) hq ?_ ?_ ?_); exact rfl; exact rfl; intro W hnew ho; replace hr := hr.only ho (by omega); replace hq := hnew; replace hb := ho.bel _ _ (by omega) hb))
  refine bodyPost_ret (results_cell_row results62 _ _ (w.heap.size + 1) _ _ _ _ rfl hq underlying39 rfl size_vp) rfl ?_
  exact ⟨rfl, hb⟩
theorem stat_ft (s : V) (ok : s.Ok) (v : Nat) (hv : v < 4294967296) (h : v ≠ 0) (hs : setl s = false) (ht : (s.st ||| statB s v).testBit 3 = true) (w : World) (hO : OffAt w) :
    StViSmall1 s v w := by
  unfold StViSmall1
  have HV : statV s v = s.stw (s.st ||| statM s v) := by unfold statV; rw [if_neg h]
  rw [HV]; clear HV
  have HS := hide (fun w (hO : OffAt w) => settle_any s w hO)
  rw [hs] at HS
  obtain ⟨B1, hB1⟩ : ∃ n, v &&& 143 = n := ⟨_, rfl⟩
  have b1 : B1 < 4294967296 := hB1 ▸ and_lt32 _ hv
  have e1 : bits .and .u32 (v : Int) 143 = (B1 : Int) := by rw [← hB1]; exact u32_and_nat v 143 hv (by decide)
  have HM : Hid (statM s v = (if (s.st ||| statB s v).testBit 3 = true then statB s v else statB s v &&& 4294967291)) := rfl
  obtain ⟨B2, hB2⟩ : ∃ n, B1 &&& 4294967287 = n := ⟨_, rfl⟩
  have b2 : B2 < 4294967296 := hB2 ▸ and_lt32 _ b1
  have e2 : bits .andNot .u32 (B1 : Int) 8 = (B2 : Int) := by rw [← hB2]; exact u32_andNot_nat B1 8 b1 (by decide)
  have hBB : statB s v = B2 := by unfold statB; rw [hs, if_neg (by decide), hB1, hB2]
  rw [hBB] at HM ht
  have e3 : bits .or .u32 (s.st : Int) (B2 : Int) = ((s.st ||| B2 : Nat) : Int) := u32_or_nat s.st B2 ok.st b2
  obtain ⟨C, hC⟩ : ∃ n, s.st ||| B2 = n := ⟨_, rfl⟩
  have c1 : C < 4294967296 := hC ▸ or_lt32 ok.st b2
  rw [hC] at e3 HM ht
  have t4 : (bits .and .u32 (C : Int) 8 == 0) = false := by rw [p_bit8e _ c1, ht]; rfl
  have HR : Hid (s.stw (s.st ||| statM s v) = s.stw C) := by show _ = _; rw [HM, if_pos ht, hC]
  rw [HR]
  have l0 : ((v : Int) == 0) = false := by simp; omega
  have m0 : (v == 0) = false := by simp; omega
  clear hB1 hBB HM HR hC ht h hs hB2
  go_enter func62, ntmps62
  go_wp2_with (first | ((with_reducible refine bx_vp w.heap.size s ?_ ?_ ?_); exact rfl; exact rfl; intro W hr hb hz; have fx := hr.cell) | ((with_reducible refine al_vp (w.heap.size + 1) ?_ ?_); exact hz.out; intro W hq hb' hz'; replace hr := hr.bl (hz.out ▸ hb'); replace hb := hb.trans (hb'.mono (by omega)); replace hz := hz'; replace fx := hr.cell) | ((with_reducible refine ld_vp w.heap.size _ hr ?_ ?_ ?_); exact rfl; exact rfl) | (go_at_call 70; (with_reducible refine (HS.out _ (hO.bl hb)).mono ?_); rintro e W ⟨rfl, hbc⟩; replace hr := hr.bl hbc; replace hq := hq.bl hbc; replace fx := hr.cell; replace hb := below_bl rfl hb hbc) | ((with_reducible refine st_st w.heap.size _ C _ hr ?_ ?_ ?_); exact rfl; exact rfl; intro W hnew ho; replace hq := hq.only ho (by omega); replace hr := hnew; replace hb := ho.bel _ _ (by omega) hb; (try clear fx)) | ((with_reducible refine st_vp (w.heap.size + 1) _ (s.stw C) hq ?_ ?_ ?_); exact rfl; exact rfl; intro W hnew ho; replace hr := hr.only ho (by omega); replace hq := hnew; replace hb := ho.bel _ _ (by omega) hb))
  refine bodyPost_ret (results_cell_row results62 _ _ (w.heap.size + 1) _ _ _ _ rfl hq underlying39 rfl size_vp) rfl ?_
  exact ⟨rfl, hb⟩
theorem stat_ff (s : V) (ok : s.Ok) (v : Nat) (hv : v < 4294967296) (h : v ≠ 0) (hs : setl s = false) (ht : (s.st ||| statB s v).testBit 3 = false) (w : World) (hO : OffAt w) :
    StViSmall1 s v w := by
  unfold StViSmall1
  have HV : statV s v = s.stw (s.st ||| statM s v) := by unfold statV; rw [if_neg h]
  rw [HV]; clear HV
  have HS := hide (fun w (hO : OffAt w) => settle_any s w hO)
  rw [hs] at HS
  obtain ⟨B1, hB1⟩ : ∃ n, v &&& 143 = n := ⟨_, rfl⟩
  have b1 : B1 < 4294967296 := hB1 ▸ and_lt32 _ hv
  have e1 : bits .and .u32 (v : Int) 143 = (B1 : Int) := by rw [← hB1]; exact u32_and_nat v 143 hv (by decide)
  have HM : Hid (statM s v = (if (s.st ||| statB s v).testBit 3 = true then statB s v else statB s v &&& 4294967291)) := rfl
  obtain ⟨B2, hB2⟩ : ∃ n, B1 &&& 4294967287 = n := ⟨_, rfl⟩
  have b2 : B2 < 4294967296 := hB2 ▸ and_lt32 _ b1
  have e2 : bits .andNot .u32 (B1 : Int) 8 = (B2 : Int) := by rw [← hB2]; exact u32_andNot_nat B1 8 b1 (by decide)
  have hBB : statB s v = B2 := by unfold statB; rw [hs, if_neg (by decide), hB1, hB2]
  rw [hBB] at HM ht
  have e3 : bits .or .u32 (s.st : Int) (B2 : Int) = ((s.st ||| B2 : Nat) : Int) := u32_or_nat s.st B2 ok.st b2
  obtain ⟨C, hC⟩ : ∃ n, s.st ||| B2 = n := ⟨_, rfl⟩
  have c1 : C < 4294967296 := hC ▸ or_lt32 ok.st b2
  rw [hC] at e3 HM ht
  have t4 : (bits .and .u32 (C : Int) 8 == 0) = true := by rw [p_bit8e _ c1, ht]; rfl
  obtain ⟨D, hD⟩ : ∃ n, B2 &&& 4294967291 = n := ⟨_, rfl⟩
  have d1 : D < 4294967296 := hD ▸ and_lt32 _ b2
  have e5 : bits .andNot .u32 (B2 : Int) 4 = (D : Int) := by rw [← hD]; exact u32_andNot_nat B2 4 b2 (by decide)
  have e6 : bits .or .u32 (s.st : Int) (D : Int) = ((s.st ||| D : Nat) : Int) := u32_or_nat s.st D ok.st d1
  have HR : Hid (s.stw (s.st ||| statM s v) = s.stw (s.st ||| D)) := by show _ = _; rw [HM, ht, if_neg (by decide), hD]
  rw [HR]
  have l0 : ((v : Int) == 0) = false := by simp; omega
  have m0 : (v == 0) = false := by simp; omega
  clear hB1 hBB HM HR hC ht h hs hB2 hD
  go_enter func62, ntmps62
  go_wp2_with (first | ((with_reducible refine bx_vp w.heap.size s ?_ ?_ ?_); exact rfl; exact rfl; intro W hr hb hz; have fx := hr.cell) | ((with_reducible refine al_vp (w.heap.size + 1) ?_ ?_); exact hz.out; intro W hq hb' hz'; replace hr := hr.bl (hz.out ▸ hb'); replace hb := hb.trans (hb'.mono (by omega)); replace hz := hz'; replace fx := hr.cell) | ((with_reducible refine ld_vp w.heap.size _ hr ?_ ?_ ?_); exact rfl; exact rfl) | (go_at_call 70; (with_reducible refine (HS.out _ (hO.bl hb)).mono ?_); rintro e W ⟨rfl, hbc⟩; replace hr := hr.bl hbc; replace hq := hq.bl hbc; replace fx := hr.cell; replace hb := below_bl rfl hb hbc) | ((with_reducible refine st_st w.heap.size _ (s.st ||| D) _ hr ?_ ?_ ?_); exact rfl; exact rfl; intro W hnew ho; replace hq := hq.only ho (by omega); replace hr := hnew; replace hb := ho.bel _ _ (by omega) hb; (try clear fx)) | ((with_reducible refine st_vp (w.heap.size + 1) _ (s.stw (s.st ||| D)) hq ?_ ?_ ?_); exact rfl; exact rfl; intro W hnew ho; replace hr := hr.only ho (by omega); replace hq := hnew; replace hb := ho.bel _ _ (by omega) hb))
  refine bodyPost_ret (results_cell_row results62 _ _ (w.heap.size + 1) _ _ _ _ rfl hq underlying39 rfl size_vp) rfl ?_
  exact ⟨rfl, hb⟩
theorem stat_any (s : V) (ok : s.Ok) (v : Nat) (hv : v < 4294967296) (w : World) (hO : OffAt w) : Calls prog 62 #[.agg s.cells, .int .u32 (v : Nat)] w fun e w' => e = .returned (.agg (statV s v).cells) ∧ Below w.heap.size w w' := by
  by_cases h : v = 0
  · exact stat_0 s ok v hv h w
  cases hs : setl s <;> cases ht : (s.st ||| statB s v).testBit 3
  · exact stat_ff s ok v hv h hs ht w hO
  · exact stat_ft s ok v hv h hs ht w hO
  · exact stat_tf s ok v hv h hs ht w hO
  · exact stat_tt s ok v hv h hs ht w hO
end Go.Proofs.YtbggkoahofnnjaaGreatDoor
namespace Go.Proofs.YtbggkoahofnnjaaGreatDoor
open Go.RowKit
set_option maxHeartbeats 2000000
attribute [local go_sem] Rg.at0 Rg.at1 Rg.at2 Rg.at3 Rg.at4 Rg.at5
def inPw (s : Int) : Nat → Bool
  | 0 => false
  | k + 1 => inPw s k || (s == ((2 ^ k : Nat) : Int))
theorem inPw_all (s : Int) : inPw s 9 = okSz s := by
  simp only [inPw, okSz, Bool.false_or]
  rfl
theorem dcheck_any (r : Rg) (hr0 : r.Ok) (w : World) : Calls prog 31 #[.agg r.cells] w fun e w' => e = .returned (.int .i64 (if chkR r then 0 else 1)) ∧ Below w.heap.size w w' := by
  obtain ⟨z, hz⟩ : ∃ z : Int, (if chkR r = true then (0 : Int) else 1) = z := ⟨_, rfl⟩
  rw [hz]
  have HZ := hide hz
  clear hz
  go_enter func31, ntmps31
  go_wp2_with (first | ((with_reducible refine bx_rr w.heap.size r ?_ ?_ ?_); exact rfl; exact rfl; intro W hr hb hz; have fx := hr.cell))
  have HR := hide hr
  have HB := hide hb
  clear hr hb hz fx
  go_loopw [3, 4] (fun pv nv wr => ∃ k : Nat, k ≤ 9 ∧ pv = .bool (inPw r.sz k) ∧ nv = .int .i64 ((2 ^ k : Nat) : Int) ∧ wr = W) (fun pv nv _ => 600 - (intOf nv).toNat)
  case atStart => exact ⟨0, Nat.zero_le _, rfl, rfl, rfl⟩
  case round =>
    obtain ⟨k, hk, rfl, rfl, rfl⟩ := hrel
    have fx := HR.out.cell
    by_cases hlt : k < 9
    · have hp : 2 ^ k ≤ 256 := Nat.le_trans (Nat.pow_le_pow_right (by decide) (show k ≤ 8 by omega)) (by decide)
      have hp0 : 0 < 2 ^ k := Nat.pow_pos (by decide)
      have hst : inPw r.sz (k + 1) = (inPw r.sz k || (r.sz == ((2 ^ k : Nat) : Int))) := rfl
      have hps : (2 ^ (k + 1) : Nat) = 2 * 2 ^ k := by rw [Nat.pow_succ]; omega
      have HST := hide hst
      have HPS := hide hps
      obtain ⟨P, hP⟩ : ∃ x, 2 ^ k = x := ⟨_, rfl⟩
      rw [hP] at hp hp0 HST HPS ⊢
      have l1 : (P : Int) ≤ 256 := by omega
      obtain ⟨pb, hpb⟩ : ∃ x, inPw r.sz k = x := ⟨_, rfl⟩
      rw [hpb] at HST ⊢
      clear hst hps hP hpb
      cases pb with
      | true =>
        go_wp2
        go_roundw
        case rel => exact ⟨k + 1, hlt, by rw [HST.out]; rfl, by rw [HPS.out]; go_num, by first | rfl | trivial⟩
        case measure => simp [intOf]; omega
      | false =>
        go_wp2
        go_roundw
        case rel => exact ⟨k + 1, hlt, by rw [HST.out]; rfl, by rw [HPS.out]; go_num, by first | rfl | trivial⟩
        case measure => simp [intOf]; omega
    · obtain rfl : k = 9 := by omega
      rw [inPw_all]
      have l1 : decide (((2 ^ 9 : Nat) : Int) ≤ 256) = false := by decide
      have hd := hr0.de
      have hv := hr0.av
      have hu := hr0.us
      obtain ⟨sz, de, av, us, la, pu⟩ := r
      simp only at hd hv hu ⊢
      obtain ⟨ob, hob⟩ : ∃ x, okSz sz = x := ⟨_, rfl⟩
      have HCK : Hid (∀ b, alR ⟨sz, de, av, us, la, pu⟩ = b → (if chkR ⟨sz, de, av, us, la, pu⟩ = true then (0 : Int) else 1) = if (ob && b) = true then 0 else 1) := hide (fun b e => by unfold chkR; rw [e]; simp only; rw [hob])
      rw [hob]
      clear hob
      cases ob with
      | false =>
        go_wp2
        go_ret
        exact ⟨by rw [← HZ.out, HCK.out _ rfl]; rfl, HB.out⟩
      | true =>
        by_cases d1 : de % 16 = 0
        · by_cases d2 : av % 2 = 0
          · by_cases d3 : us % 4 = 0
            · have HC := hide (HCK.out true (by unfold alR; simp [d1, d2, d3]))
              have mde1 : (((de : Int) % 16) != 0) = false := by simp; omega
              have mde2 : ((((de % 16 : Nat)) : Int) != 0) = false := by simp; omega
              have mde3 : (((de : Int) % 16) == 0) = true := by simp; omega
              have mde4 : ((((de % 16 : Nat)) : Int) == 0) = true := by simp; omega
              have mav1 : (((av : Int) % 2) != 0) = false := by simp; omega
              have mav2 : ((((av % 2 : Nat)) : Int) != 0) = false := by simp; omega
              have mav3 : (((av : Int) % 2) == 0) = true := by simp; omega
              have mav4 : ((((av % 2 : Nat)) : Int) == 0) = true := by simp; omega
              have mus1 : (((us : Int) % 4) != 0) = false := by simp; omega
              have mus2 : ((((us % 4 : Nat)) : Int) != 0) = false := by simp; omega
              have mus3 : (((us : Int) % 4) == 0) = true := by simp; omega
              have mus4 : ((((us % 4 : Nat)) : Int) == 0) = true := by simp; omega
              clear d1 d2 d3
              go_wp2
              go_ret
              exact ⟨by rw [← HZ.out, HC.out]; rfl, HB.out⟩
            · have HC := hide (HCK.out false (by unfold alR; simp [d3]))
              have mde1 : (((de : Int) % 16) != 0) = false := by simp; omega
              have mde2 : ((((de % 16 : Nat)) : Int) != 0) = false := by simp; omega
              have mde3 : (((de : Int) % 16) == 0) = true := by simp; omega
              have mde4 : ((((de % 16 : Nat)) : Int) == 0) = true := by simp; omega
              have mav1 : (((av : Int) % 2) != 0) = false := by simp; omega
              have mav2 : ((((av % 2 : Nat)) : Int) != 0) = false := by simp; omega
              have mav3 : (((av : Int) % 2) == 0) = true := by simp; omega
              have mav4 : ((((av % 2 : Nat)) : Int) == 0) = true := by simp; omega
              have mus1 : (((us : Int) % 4) != 0) = true := by simp; omega
              have mus2 : ((((us % 4 : Nat)) : Int) != 0) = true := by simp; omega
              have mus3 : (((us : Int) % 4) == 0) = false := by simp; omega
              have mus4 : ((((us % 4 : Nat)) : Int) == 0) = false := by simp; omega
              clear d1 d2 d3
              go_wp2
              go_ret
              exact ⟨by rw [← HZ.out, HC.out]; rfl, HB.out⟩
          · have HC := hide (HCK.out false (by unfold alR; simp [d2]))
            have mde1 : (((de : Int) % 16) != 0) = false := by simp; omega
            have mde2 : ((((de % 16 : Nat)) : Int) != 0) = false := by simp; omega
            have mde3 : (((de : Int) % 16) == 0) = true := by simp; omega
            have mde4 : ((((de % 16 : Nat)) : Int) == 0) = true := by simp; omega
            have mav1 : (((av : Int) % 2) != 0) = true := by simp; omega
            have mav2 : ((((av % 2 : Nat)) : Int) != 0) = true := by simp; omega
            have mav3 : (((av : Int) % 2) == 0) = false := by simp; omega
            have mav4 : ((((av % 2 : Nat)) : Int) == 0) = false := by simp; omega
            clear d1 d2
            go_wp2
            go_ret
            exact ⟨by rw [← HZ.out, HC.out]; rfl, HB.out⟩
        · have HC := hide (HCK.out false (by unfold alR; simp [d1]))
          have mde1 : (((de : Int) % 16) != 0) = true := by simp; omega
          have mde2 : ((((de % 16 : Nat)) : Int) != 0) = true := by simp; omega
          have mde3 : (((de : Int) % 16) == 0) = false := by simp; omega
          have mde4 : ((((de % 16 : Nat)) : Int) == 0) = false := by simp; omega
          clear d1
          go_wp2
          go_ret
          exact ⟨by rw [← HZ.out, HC.out]; rfl, HB.out⟩
end Go.Proofs.YtbggkoahofnnjaaGreatDoor
namespace Go.Proofs.YtbggkoahofnnjaaGreatDoor
open Go.RowKit
set_option maxHeartbeats 4000000
attribute [local go_sem] V.at0 V.at1 V.at2 V.at3 V.at4 V.at5 V.at6 V.at7 V.at8 V.at9 V.at10 V.at11 V.at12 V.at13 V.at14 V.at15 V.at16 V.at17 V.at18 V.at19 V.at20 Qu.at0 Qu.at1 Qu.at2 Qu.at3 Qu.at4 Qu.at5 Qu.at6
set_option maxRecDepth 20000 in
theorem rvcheck_any (s : V) (ok : s.Ok) (w : World) :
    Calls prog 14 #[.agg s.cells] w fun e w' => e = .returned (.int .i64 (if mayV s = true then 0 else 1)) ∧ Below w.heap.size w w' := by
  obtain ⟨z, hz⟩ : ∃ z : Int, (if mayV s = true then (0 : Int) else 1) = z := ⟨_, rfl⟩
  rw [hz]
  have HZ := hide hz
  clear hz
  have NO : Hid (mayV s = false → (1 : Int) = z) := hide (fun h => by rw [← HZ.out, h]; rfl)
  have YES : Hid (mayV s = true → (0 : Int) = z) := hide (fun h => by rw [← HZ.out, h]; rfl)
  clear HZ
  go_enter func14, ntmps14
  go_wp2_with (first | ((with_reducible refine bx_vr w.heap.size s ?_ ?_ ?_); exact rfl; exact rfl; intro W hr hb hz; have fx := hr.cell))
  clear fx hz
  go_loopw [3] (fun iv wr => ∃ i : Nat, i ≤ 32 ∧ iv = .int .i64 (i : Nat) ∧ (∀ j, j < i → s.st.testBit j = true → j = 0 ∨ j = 1 ∨ j = 2 ∨ j = 3 ∨ j = 6 ∨ j = 7) ∧ RowAt wr w.heap.size s.cells 31 ∧ Below w.heap.size w wr) (fun iv _ => 32 - (intOf iv).toNat)
  case atStart => exact ⟨0, by omega, rfl, fun j h => absurd h (by omega), hr, hb⟩
  case round =>
    clear hr hb
    obtain ⟨i, hi, rfl, hal, hr, hb⟩ := hrel
    have HAL := hide hal
    clear hal
    by_cases hlt : i < 32
    · have lt1 : (i : Int) < 32 := by omega
      have HH := hide (fun w => rhas_any s.st ok.st i (by omega) w)
      cases hbit : s.st.testBit i with
      | false =>
        rw [hbit] at HH
        have fx := hr.cell
        go_wp2_with (first | (go_at_call 30; (with_reducible refine (HH.out _).mono ?_); rintro e W ⟨rfl, rfl⟩))
        go_roundw
        case rel => exact ⟨i + 1, by omega, by go_num, fun j hj hb2 => by (by_cases e : j = i; (subst e; rw [hbit] at hb2; cases hb2); exact HAL.out j (by omega) hb2), hr, hb⟩
        case measure => simp [intOf]; omega
      | true =>
        rw [hbit] at HH
        have fx := hr.cell
        by_cases e0 : i = 0
        · subst e0
          have HH : Hid (∀ w, Calls prog 30 #[.int .u32 (s.st : Nat), .int .i64 0] w fun e w' => e = .returned (.bool true) ∧ w' = w) := HH
          go_wp2_with (first | (go_at_call 30; (with_reducible refine (HH.out _).mono ?_); rintro e W ⟨rfl, rfl⟩))
          go_roundw
          case rel => exact ⟨1, by omega, by go_num, fun j hj hb2 => by (by_cases e : j = 0; omega; exact HAL.out j (by omega) hb2), hr, hb⟩
          case measure => simp [intOf]
        by_cases e1 : i = 1
        · subst e1
          have HH : Hid (∀ w, Calls prog 30 #[.int .u32 (s.st : Nat), .int .i64 1] w fun e w' => e = .returned (.bool true) ∧ w' = w) := HH
          go_wp2_with (first | (go_at_call 30; (with_reducible refine (HH.out _).mono ?_); rintro e W ⟨rfl, rfl⟩))
          go_roundw
          case rel => exact ⟨2, by omega, by go_num, fun j hj hb2 => by (by_cases e : j = 1; omega; exact HAL.out j (by omega) hb2), hr, hb⟩
          case measure => simp [intOf]
        by_cases e2 : i = 2
        · subst e2
          have HH : Hid (∀ w, Calls prog 30 #[.int .u32 (s.st : Nat), .int .i64 2] w fun e w' => e = .returned (.bool true) ∧ w' = w) := HH
          go_wp2_with (first | (go_at_call 30; (with_reducible refine (HH.out _).mono ?_); rintro e W ⟨rfl, rfl⟩))
          go_roundw
          case rel => exact ⟨3, by omega, by go_num, fun j hj hb2 => by (by_cases e : j = 2; omega; exact HAL.out j (by omega) hb2), hr, hb⟩
          case measure => simp [intOf]
        by_cases e3 : i = 3
        · subst e3
          have HH : Hid (∀ w, Calls prog 30 #[.int .u32 (s.st : Nat), .int .i64 3] w fun e w' => e = .returned (.bool true) ∧ w' = w) := HH
          go_wp2_with (first | (go_at_call 30; (with_reducible refine (HH.out _).mono ?_); rintro e W ⟨rfl, rfl⟩))
          go_roundw
          case rel => exact ⟨4, by omega, by go_num, fun j hj hb2 => by (by_cases e : j = 3; omega; exact HAL.out j (by omega) hb2), hr, hb⟩
          case measure => simp [intOf]
        by_cases e6 : i = 6
        · subst e6
          have HH : Hid (∀ w, Calls prog 30 #[.int .u32 (s.st : Nat), .int .i64 6] w fun e w' => e = .returned (.bool true) ∧ w' = w) := HH
          go_wp2_with (first | (go_at_call 30; (with_reducible refine (HH.out _).mono ?_); rintro e W ⟨rfl, rfl⟩))
          go_roundw
          case rel => exact ⟨7, by omega, by go_num, fun j hj hb2 => by (by_cases e : j = 6; omega; exact HAL.out j (by omega) hb2), hr, hb⟩
          case measure => simp [intOf]
        by_cases e7 : i = 7
        · subst e7
          have HH : Hid (∀ w, Calls prog 30 #[.int .u32 (s.st : Nat), .int .i64 7] w fun e w' => e = .returned (.bool true) ∧ w' = w) := HH
          go_wp2_with (first | (go_at_call 30; (with_reducible refine (HH.out _).mono ?_); rintro e W ⟨rfl, rfl⟩))
          go_roundw
          case rel => exact ⟨8, by omega, by go_num, fun j hj hb2 => by (by_cases e : j = 7; omega; exact HAL.out j (by omega) hb2), hr, hb⟩
          case measure => simp [intOf]
        have l0 : ((i : Int) != 0) = true := by simp; omega
        have m0 : (i != 0) = true := by simp; omega
        have l1 : ((i : Int) != 1) = true := by simp; omega
        have m1 : (i != 1) = true := by simp; omega
        have l2 : ((i : Int) != 2) = true := by simp; omega
        have m2 : (i != 2) = true := by simp; omega
        have l3 : ((i : Int) != 3) = true := by simp; omega
        have m3 : (i != 3) = true := by simp; omega
        have l6 : ((i : Int) != 6) = true := by simp; omega
        have m6 : (i != 6) = true := by simp; omega
        have l7 : ((i : Int) != 7) = true := by simp; omega
        have m7 : (i != 7) = true := by simp; omega
        go_wp2_with (first | (go_at_call 30; (with_reducible refine (HH.out _).mono ?_); rintro e W ⟨rfl, rfl⟩))
        go_ret
        exact ⟨by rw [← NO.out (by unfold mayV; rw [show okSt s.st = false by (cases h : okSt s.st with | false => rfl | true => (have := (okSt_iff s.st).1 h i hlt hbit; omega))]; rfl)]; rfl, hb⟩
    · obtain rfl : i = 32 := by omega
      have HST := hide ((okSt_iff s.st).2 HAL.out)
      clear HAL hlt hi
      have fx := hr.cell
      go_wp2
      clear fx
      go_loopw [4, 5] (fun iv qv wr => ∃ i : Nat, i ≤ 2 ∧ iv = .int .i64 i ∧ (0 < i → mayQ s.q0 = true) ∧ (1 < i → mayQ s.q1 = true) ∧ RowAt wr w.heap.size s.cells 31 ∧ Below w.heap.size w wr) (fun iv _ _ => 2 - (intOf iv).toNat)
      case atStart => exact ⟨0, by omega, rfl, fun h => absurd h (by omega), fun h => absurd h (by omega), hr, hb⟩
      case round =>
        clear hr hb
        obtain ⟨i, hi, rfl, q0, q1, hr, hb⟩ := hrel
        replace q0 := hide q0
        replace q1 := hide q1
        obtain ⟨NQ, hNQ⟩ : ∃ n, wr.heap.size = n := ⟨_, rfl⟩
        have lNQ : w.heap.size + 1 ≤ NQ := by have := hr.lt; omega
        replace hNQ := hide hNQ
        have hi3 : i = 0 ∨ i = 1 ∨ i = 2 := by omega
        rcases hi3 with rfl | rfl | rfl
        · cases hrd : s.q0.rd with
          | true =>
            have HD := hide (fun w => dcheck_any s.q0.r ok.q0 w)
            cases hc : chkR s.q0.r with
            | true =>
              have HQ : Hid (mayQ s.q0 = true) := hide (by unfold mayQ; rw [if_pos hrd]; exact hc)
              rw [hc] at HD
              replace HD : Hid (∀ w, Calls prog 31 #[.agg s.q0.r.cells] w fun e w' => e = .returned (.int .i64 0) ∧ Below w.heap.size w w') := HD
              go_wp2_with (first | ((with_reducible refine ld_q0r w.heap.size _ _ hr ?_ ?_ ?_); exact rfl; exact rfl) | ((with_reducible refine al_qr NQ ?_ ?_); exact hNQ.out; intro W hq hb' hz'; replace hr := hr.bl (hNQ.out ▸ hb'); replace hb := hb.trans (hb'.mono (by omega))) | ((with_reducible refine st_qr NQ _ s.q0 hq ?_ ?_ ?_); exact rfl; exact rfl; intro W hnew ho; replace hr := hr.only ho (by omega); replace hq := hnew; have fq := hq.cell; replace hb := ho.bel _ _ (by omega) hb) | ((with_reducible refine ld_qurr NQ _ _ hq ?_ ?_ ?_); exact rfl; exact rfl) | (go_at_call 31; (with_reducible refine (HD.out _).mono ?_); rintro e W ⟨rfl, hbc⟩; replace hr := hr.bl hbc; replace hq := hq.bl hbc; replace fq := hq.cell; replace hb := below_bl rfl hb hbc))
              go_roundw
              case rel => (repeat (first | exact ⟨⟨1, by omega, rfl, fun _ => HQ.out, fun h => absurd h (by omega), hr, hb⟩, by first | trivial | rfl⟩ | exact ⟨1, by omega, rfl, fun _ => HQ.out, fun h => absurd h (by omega), hr, hb⟩ | apply Exists.intro))
              case measure => simp [intOf]
            | false =>
              have HQ : Hid (mayQ s.q0 = false) := hide (by unfold mayQ; rw [if_pos hrd]; exact hc)
              rw [hc] at HD
              replace HD : Hid (∀ w, Calls prog 31 #[.agg s.q0.r.cells] w fun e w' => e = .returned (.int .i64 1) ∧ Below w.heap.size w w') := HD
              go_wp2_with (first | ((with_reducible refine ld_q0r w.heap.size _ _ hr ?_ ?_ ?_); exact rfl; exact rfl) | ((with_reducible refine al_qr NQ ?_ ?_); exact hNQ.out; intro W hq hb' hz'; replace hr := hr.bl (hNQ.out ▸ hb'); replace hb := hb.trans (hb'.mono (by omega))) | ((with_reducible refine st_qr NQ _ s.q0 hq ?_ ?_ ?_); exact rfl; exact rfl; intro W hnew ho; replace hr := hr.only ho (by omega); replace hq := hnew; have fq := hq.cell; replace hb := ho.bel _ _ (by omega) hb) | ((with_reducible refine ld_qurr NQ _ _ hq ?_ ?_ ?_); exact rfl; exact rfl) | (go_at_call 31; (with_reducible refine (HD.out _).mono ?_); rintro e W ⟨rfl, hbc⟩; replace hr := hr.bl hbc; replace hq := hq.bl hbc; replace fq := hq.cell; replace hb := below_bl rfl hb hbc))
              go_ret
              exact ⟨by rw [← NO.out (by unfold mayV; rw [HQ.out]; simp)]; rfl, hb⟩
          | false =>
            by_cases h0 : 0 ≤ s.q0.r.sz
            · have l0 : decide (s.q0.r.sz < 0) = false := by simp; omega
              by_cases h1 : s.q0.r.sz ≤ 256
              · have l1 : decide (s.q0.r.sz > 256) = false := by simp; omega
                have l1b : decide (256 < s.q0.r.sz) = false := by simp; omega
                have HQ : Hid (mayQ s.q0 = true) := hide (by unfold mayQ; rw [hrd, if_neg (by decide)]; simp [h0, h1])
                go_wp2_with (first | ((with_reducible refine ld_q0r w.heap.size _ _ hr ?_ ?_ ?_); exact rfl; exact rfl) | ((with_reducible refine al_qr NQ ?_ ?_); exact hNQ.out; intro W hq hb' hz'; replace hr := hr.bl (hNQ.out ▸ hb'); replace hb := hb.trans (hb'.mono (by omega))) | ((with_reducible refine st_qr NQ _ s.q0 hq ?_ ?_ ?_); exact rfl; exact rfl; intro W hnew ho; replace hr := hr.only ho (by omega); replace hq := hnew; have fq := hq.cell; replace hb := ho.bel _ _ (by omega) hb) | ((with_reducible refine ld_qurr NQ _ _ hq ?_ ?_ ?_); exact rfl; exact rfl))
                go_roundw
                case rel => (repeat (first | exact ⟨⟨1, by omega, rfl, fun _ => HQ.out, fun h => absurd h (by omega), hr, hb⟩, by first | trivial | rfl⟩ | exact ⟨1, by omega, rfl, fun _ => HQ.out, fun h => absurd h (by omega), hr, hb⟩ | apply Exists.intro))
                case measure => simp [intOf]
              · have l1 : s.q0.r.sz > 256 := by omega
                have l1b : 256 < s.q0.r.sz := by omega
                have HQ : Hid (mayQ s.q0 = false) := hide (by unfold mayQ; rw [hrd, if_neg (by decide), decide_eq_false h1, Bool.and_false])
                go_wp2_with (first | ((with_reducible refine ld_q0r w.heap.size _ _ hr ?_ ?_ ?_); exact rfl; exact rfl) | ((with_reducible refine al_qr NQ ?_ ?_); exact hNQ.out; intro W hq hb' hz'; replace hr := hr.bl (hNQ.out ▸ hb'); replace hb := hb.trans (hb'.mono (by omega))) | ((with_reducible refine st_qr NQ _ s.q0 hq ?_ ?_ ?_); exact rfl; exact rfl; intro W hnew ho; replace hr := hr.only ho (by omega); replace hq := hnew; have fq := hq.cell; replace hb := ho.bel _ _ (by omega) hb) | ((with_reducible refine ld_qurr NQ _ _ hq ?_ ?_ ?_); exact rfl; exact rfl))
                go_ret
                exact ⟨by rw [← NO.out (by unfold mayV; rw [HQ.out]; simp)]; rfl, hb⟩
            · have l0 : s.q0.r.sz < 0 := by omega
              have HQ : Hid (mayQ s.q0 = false) := hide (by unfold mayQ; rw [hrd, if_neg (by decide), decide_eq_false h0]; rfl)
              go_wp2_with (first | ((with_reducible refine ld_q0r w.heap.size _ _ hr ?_ ?_ ?_); exact rfl; exact rfl) | ((with_reducible refine al_qr NQ ?_ ?_); exact hNQ.out; intro W hq hb' hz'; replace hr := hr.bl (hNQ.out ▸ hb'); replace hb := hb.trans (hb'.mono (by omega))) | ((with_reducible refine st_qr NQ _ s.q0 hq ?_ ?_ ?_); exact rfl; exact rfl; intro W hnew ho; replace hr := hr.only ho (by omega); replace hq := hnew; have fq := hq.cell; replace hb := ho.bel _ _ (by omega) hb) | ((with_reducible refine ld_qurr NQ _ _ hq ?_ ?_ ?_); exact rfl; exact rfl))
              go_ret
              exact ⟨by rw [← NO.out (by unfold mayV; rw [HQ.out]; simp)]; rfl, hb⟩
        · cases hrd : s.q1.rd with
          | true =>
            have HD := hide (fun w => dcheck_any s.q1.r ok.q1 w)
            cases hc : chkR s.q1.r with
            | true =>
              have HQ : Hid (mayQ s.q1 = true) := hide (by unfold mayQ; rw [if_pos hrd]; exact hc)
              rw [hc] at HD
              replace HD : Hid (∀ w, Calls prog 31 #[.agg s.q1.r.cells] w fun e w' => e = .returned (.int .i64 0) ∧ Below w.heap.size w w') := HD
              go_wp2_with (first | ((with_reducible refine ld_q1r w.heap.size _ _ hr ?_ ?_ ?_); exact rfl; exact rfl) | ((with_reducible refine al_qr NQ ?_ ?_); exact hNQ.out; intro W hq hb' hz'; replace hr := hr.bl (hNQ.out ▸ hb'); replace hb := hb.trans (hb'.mono (by omega))) | ((with_reducible refine st_qr NQ _ s.q1 hq ?_ ?_ ?_); exact rfl; exact rfl; intro W hnew ho; replace hr := hr.only ho (by omega); replace hq := hnew; have fq := hq.cell; replace hb := ho.bel _ _ (by omega) hb) | ((with_reducible refine ld_qurr NQ _ _ hq ?_ ?_ ?_); exact rfl; exact rfl) | (go_at_call 31; (with_reducible refine (HD.out _).mono ?_); rintro e W ⟨rfl, hbc⟩; replace hr := hr.bl hbc; replace hq := hq.bl hbc; replace fq := hq.cell; replace hb := below_bl rfl hb hbc))
              go_roundw
              case rel => (repeat (first | exact ⟨⟨2, by omega, rfl, fun _ => q0.out (by omega), fun h => HQ.out, hr, hb⟩, by first | trivial | rfl⟩ | exact ⟨2, by omega, rfl, fun _ => q0.out (by omega), fun h => HQ.out, hr, hb⟩ | apply Exists.intro))
              case measure => simp [intOf]
            | false =>
              have HQ : Hid (mayQ s.q1 = false) := hide (by unfold mayQ; rw [if_pos hrd]; exact hc)
              rw [hc] at HD
              replace HD : Hid (∀ w, Calls prog 31 #[.agg s.q1.r.cells] w fun e w' => e = .returned (.int .i64 1) ∧ Below w.heap.size w w') := HD
              go_wp2_with (first | ((with_reducible refine ld_q1r w.heap.size _ _ hr ?_ ?_ ?_); exact rfl; exact rfl) | ((with_reducible refine al_qr NQ ?_ ?_); exact hNQ.out; intro W hq hb' hz'; replace hr := hr.bl (hNQ.out ▸ hb'); replace hb := hb.trans (hb'.mono (by omega))) | ((with_reducible refine st_qr NQ _ s.q1 hq ?_ ?_ ?_); exact rfl; exact rfl; intro W hnew ho; replace hr := hr.only ho (by omega); replace hq := hnew; have fq := hq.cell; replace hb := ho.bel _ _ (by omega) hb) | ((with_reducible refine ld_qurr NQ _ _ hq ?_ ?_ ?_); exact rfl; exact rfl) | (go_at_call 31; (with_reducible refine (HD.out _).mono ?_); rintro e W ⟨rfl, hbc⟩; replace hr := hr.bl hbc; replace hq := hq.bl hbc; replace fq := hq.cell; replace hb := below_bl rfl hb hbc))
              go_ret
              exact ⟨by rw [← NO.out (by unfold mayV; rw [HQ.out]; simp)]; rfl, hb⟩
          | false =>
            by_cases h0 : 0 ≤ s.q1.r.sz
            · have l0 : decide (s.q1.r.sz < 0) = false := by simp; omega
              by_cases h1 : s.q1.r.sz ≤ 256
              · have l1 : decide (s.q1.r.sz > 256) = false := by simp; omega
                have l1b : decide (256 < s.q1.r.sz) = false := by simp; omega
                have HQ : Hid (mayQ s.q1 = true) := hide (by unfold mayQ; rw [hrd, if_neg (by decide)]; simp [h0, h1])
                go_wp2_with (first | ((with_reducible refine ld_q1r w.heap.size _ _ hr ?_ ?_ ?_); exact rfl; exact rfl) | ((with_reducible refine al_qr NQ ?_ ?_); exact hNQ.out; intro W hq hb' hz'; replace hr := hr.bl (hNQ.out ▸ hb'); replace hb := hb.trans (hb'.mono (by omega))) | ((with_reducible refine st_qr NQ _ s.q1 hq ?_ ?_ ?_); exact rfl; exact rfl; intro W hnew ho; replace hr := hr.only ho (by omega); replace hq := hnew; have fq := hq.cell; replace hb := ho.bel _ _ (by omega) hb) | ((with_reducible refine ld_qurr NQ _ _ hq ?_ ?_ ?_); exact rfl; exact rfl))
                go_roundw
                case rel => (repeat (first | exact ⟨⟨2, by omega, rfl, fun _ => q0.out (by omega), fun h => HQ.out, hr, hb⟩, by first | trivial | rfl⟩ | exact ⟨2, by omega, rfl, fun _ => q0.out (by omega), fun h => HQ.out, hr, hb⟩ | apply Exists.intro))
                case measure => simp [intOf]
              · have l1 : s.q1.r.sz > 256 := by omega
                have l1b : 256 < s.q1.r.sz := by omega
                have HQ : Hid (mayQ s.q1 = false) := hide (by unfold mayQ; rw [hrd, if_neg (by decide), decide_eq_false h1, Bool.and_false])
                go_wp2_with (first | ((with_reducible refine ld_q1r w.heap.size _ _ hr ?_ ?_ ?_); exact rfl; exact rfl) | ((with_reducible refine al_qr NQ ?_ ?_); exact hNQ.out; intro W hq hb' hz'; replace hr := hr.bl (hNQ.out ▸ hb'); replace hb := hb.trans (hb'.mono (by omega))) | ((with_reducible refine st_qr NQ _ s.q1 hq ?_ ?_ ?_); exact rfl; exact rfl; intro W hnew ho; replace hr := hr.only ho (by omega); replace hq := hnew; have fq := hq.cell; replace hb := ho.bel _ _ (by omega) hb) | ((with_reducible refine ld_qurr NQ _ _ hq ?_ ?_ ?_); exact rfl; exact rfl))
                go_ret
                exact ⟨by rw [← NO.out (by unfold mayV; rw [HQ.out]; simp)]; rfl, hb⟩
            · have l0 : s.q1.r.sz < 0 := by omega
              have HQ : Hid (mayQ s.q1 = false) := hide (by unfold mayQ; rw [hrd, if_neg (by decide), decide_eq_false h0]; rfl)
              go_wp2_with (first | ((with_reducible refine ld_q1r w.heap.size _ _ hr ?_ ?_ ?_); exact rfl; exact rfl) | ((with_reducible refine al_qr NQ ?_ ?_); exact hNQ.out; intro W hq hb' hz'; replace hr := hr.bl (hNQ.out ▸ hb'); replace hb := hb.trans (hb'.mono (by omega))) | ((with_reducible refine st_qr NQ _ s.q1 hq ?_ ?_ ?_); exact rfl; exact rfl; intro W hnew ho; replace hr := hr.only ho (by omega); replace hq := hnew; have fq := hq.cell; replace hb := ho.bel _ _ (by omega) hb) | ((with_reducible refine ld_qurr NQ _ _ hq ?_ ?_ ?_); exact rfl; exact rfl))
              go_ret
              exact ⟨by rw [← NO.out (by unfold mayV; rw [HQ.out]; simp)]; rfl, hb⟩
        · have HQ := hide (And.intro (q0.out (by omega)) (q1.out (by omega)))
          clear q0 q1
          have fx := hr.cell
          by_cases h3 : s.ir ≤ 3
          · have l3 : decide ((s.ir : Int) > 3) = false := by simp; omega
            have l3b : decide ((3 : Int) < (s.ir : Int)) = false := by simp; omega
            have l3c : decide (3 < s.ir) = false := by simp; omega
            have HH3 := hide (fun w => rhas_3 s.st ok.st w)
            have GOOD : Hid ((s.st.testBit 3 = true → setl s = true) → mayV s = true) := hide (fun h => (mayV_iff s).2 ⟨HST.out, h3, h, HQ.out.1, HQ.out.2⟩)
            cases hb3 : s.st.testBit 3 with
            | false =>
              rw [hb3] at HH3
              go_wp2_with (first | (go_at_call 30; (with_reducible refine (HH3.out _).mono ?_); rintro e W ⟨rfl, rfl⟩))
              go_ret
              exact ⟨by rw [← YES.out (GOOD.out (fun h => by rw [hb3] at h; cases h))]; rfl, hb⟩
            | true =>
              rw [hb3] at HH3
              by_cases hd0 : s.d0 = 0
              · have k0 : ((s.d0 : Int) != 0) = false := by simp [hd0]
                by_cases hd1 : s.d1 = 1
                · have k1 : ((s.d1 : Int) != 1) = false := by rw [hd1]; rfl
                  go_wp2_with (first | (go_at_call 30; (with_reducible refine (HH3.out _).mono ?_); rintro e W ⟨rfl, rfl⟩))
                  go_ret
                  exact ⟨by rw [← YES.out (GOOD.out (fun _ => by unfold setl; rw [decide_eq_true hd0, decide_eq_true hd1]; rfl))]; rfl, hb⟩
                · have k1 : ((s.d1 : Int) != 1) = true := by simp; omega
                  go_wp2_with (first | (go_at_call 30; (with_reducible refine (HH3.out _).mono ?_); rintro e W ⟨rfl, rfl⟩))
                  go_ret
                  exact ⟨by rw [← NO.out (by unfold mayV; rw [hb3, show setl s = false by unfold setl; rw [decide_eq_false hd1, Bool.and_false]]; simp)]; rfl, hb⟩
              · have k0 : ((s.d0 : Int) != 0) = true := by simp; omega
                go_wp2_with (first | (go_at_call 30; (with_reducible refine (HH3.out _).mono ?_); rintro e W ⟨rfl, rfl⟩))
                go_ret
                exact ⟨by rw [← NO.out (by unfold mayV; rw [hb3, show setl s = false by unfold setl; rw [decide_eq_false hd0]; rfl]; simp)]; rfl, hb⟩
          · have l3 : (s.ir : Int) > 3 := by omega
            have l3b : (3 : Int) < (s.ir : Int) := by omega
            have l3c : decide (3 < s.ir) = true := by simp; omega
            go_wp2
            go_ret
            exact ⟨by rw [← NO.out (by unfold mayV; rw [decide_eq_false h3]; simp)]; rfl, hb⟩
end Go.Proofs.YtbggkoahofnnjaaGreatDoor
