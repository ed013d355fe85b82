/-
  What virtio's setReady and writeQueue answer.
-/
import Derived.Test.YtbggkoahofnnjaaGreatDoorJR8
open Go.Proofs.Tryz
set_option linter.unusedVariables false
set_option linter.unusedSimpArgs false
namespace Go.Proofs.YtbggkoahofnnjaaGreatDoor
open Go.RowKit
set_option maxHeartbeats 1000000
attribute [local go_sem] V.at0 V.at1 V.at2 V.at3 V.at4 V.at5 V.at6 V.at7 V.at8 V.at9 V.at10 V.at11 V.at12 V.at13 V.at14 V.at15 V.at16 V.at17 V.at18 V.at19 V.at20 Qu.at0 Qu.at1 Qu.at2 Qu.at3 Qu.at4 Qu.at5 Qu.at6
def StViQue0 (s : V) (a : Nat) (v : Nat) (w : World) : Prop := Calls prog 63 #[.agg s.cells, .int .u32 (a : Nat), .int .u32 (v : Nat)] w fun e w' => e = .returned (.agg (wqV s a v).cells) ∧ Below w.heap.size w w'
def StViQue1 (s : V) (v : Nat) (w : World) : Prop := Calls prog 95 #[.agg s.cells, .int .u32 (v : Nat)] w fun e w' => e = .returned (.agg (rdyV s v).cells) ∧ Below w.heap.size w w'
theorem rdy_t0 (s : V) (ok : s.Ok) (v : Nat) (hs : s.se = 0) (h : v = 1) (hc : chkR s.q0.r = true) (w : World) :
    StViQue1 s v w := by
  unfold StViQue1
  have HV : rdyV s v = (s.q0w ⟨true, (s.q0.r.law 0).puw 0⟩) := by subst h; unfold rdyV V.qw V.q; rw [hs]; simp [hc]
  rw [HV]; clear HV
  have hse : ((s.se : Nat) : Int) = 0 := by omega
  have HK := hide (fun w => rcheck_any s.q0.r ok.q0 w)
  rw [hc] at HK
  have HK : Hid (∀ w, Calls prog 100 #[.agg s.q0.r.cells] w fun e w' => e = .returned (.nilIface) ∧ Below w.heap.size w w') := HK
  subst h
  rw [show ((1 : Nat) : Int) = 1 from rfl]
  clear hs
  go_enter func95, ntmps95
  go_wp2_with (first | ((with_reducible refine bx_vp w.heap.size s ?_ ?_ ?_); exact rfl; exact rfl; intro W hr hb hz; have fx := hr.cell) | ((with_reducible refine al_vp (w.heap.size + 1) ?_ ?_); exact hz.out; intro W hq hb' hz'; replace hr := hr.bl (hz.out ▸ hb'); replace hb := hb.trans (hb'.mono (by omega)); replace hz := hz'; replace fx := hr.cell) | ((with_reducible refine ld_r0p w.heap.size _ _ hr ?_ ?_ ?_); exact rfl; exact rfl) | (go_at_call 100; (with_reducible refine (HK.out _).mono ?_); rintro e W ⟨rfl, hbc⟩; replace hr := hr.bl hbc; replace hq := hq.bl hbc; replace fx := hr.cell; replace hb := below_bl rfl hb hbc) | ((with_reducible refine st_rd0 w.heap.size _ true _ hr ?_ ?_ ?_); exact rfl; exact rfl; intro W hnew ho; replace hq := hq.only ho (by omega); replace hr := hnew; replace hb := ho.bel _ _ (by omega) hb; (try clear fx)) | ((with_reducible refine st_la0 w.heap.size _ 0 _ hr ?_ ?_ ?_); exact rfl; exact rfl; intro W hnew ho; replace hq := hq.only ho (by omega); replace hr := hnew; replace hb := ho.bel _ _ (by omega) hb; (try clear fx)) | ((with_reducible refine st_pu0 w.heap.size _ 0 _ hr ?_ ?_ ?_); exact rfl; exact rfl; intro W hnew ho; replace hq := hq.only ho (by omega); replace hr := hnew; replace hb := ho.bel _ _ (by omega) hb; (try clear fx)) | ((with_reducible refine ld_vp w.heap.size _ hr ?_ ?_ ?_); exact rfl; exact rfl) | ((with_reducible refine st_vp (w.heap.size + 1) _ (s.q0w ⟨true, (s.q0.r.law 0).puw 0⟩) hq ?_ ?_ ?_); exact rfl; exact rfl; intro W hnew ho; replace hr := hr.only ho (by omega); replace hq := hnew; replace hb := ho.bel _ _ (by omega) hb))
  refine bodyPost_ret (results_cell_row results95 _ _ (w.heap.size + 1) _ _ _ _ rfl hq underlying39 rfl size_vp) rfl ?_
  exact ⟨rfl, hb⟩
theorem rdy_f0 (s : V) (ok : s.Ok) (v : Nat) (hs : s.se = 0) (h : v = 1) (hc : chkR s.q0.r = false) (w : World) :
    StViQue1 s v w := by
  unfold StViQue1
  have HV : rdyV s v = failV s := by subst h; unfold rdyV V.qw V.q; rw [hs]; simp [hc]
  rw [HV]; clear HV
  have hse : ((s.se : Nat) : Int) = 0 := by omega
  have HK := hide (fun w => rcheck_any s.q0.r ok.q0 w)
  rw [hc] at HK
  have HK : Hid (∀ w, Calls prog 100 #[.agg s.q0.r.cells] w fun e w' => e = .returned (.iface 82 (.int .i64 1)) ∧ Below w.heap.size w w') := HK
  have HF := hide (fun w => fail_any s ok w)
  generalize failV s = z at HF ⊢
  subst h
  rw [show ((1 : Nat) : Int) = 1 from rfl]
  clear hs
  go_enter func95, ntmps95
  go_wp2_with (first | ((with_reducible refine bx_vp w.heap.size s ?_ ?_ ?_); exact rfl; exact rfl; intro W hr hb hz; have fx := hr.cell) | ((with_reducible refine al_vp (w.heap.size + 1) ?_ ?_); exact hz.out; intro W hq hb' hz'; replace hr := hr.bl (hz.out ▸ hb'); replace hb := hb.trans (hb'.mono (by omega)); replace hz := hz'; replace fx := hr.cell) | ((with_reducible refine ld_r0p w.heap.size _ _ hr ?_ ?_ ?_); exact rfl; exact rfl) | (go_at_call 100; (with_reducible refine (HK.out _).mono ?_); rintro e W ⟨rfl, hbc⟩; replace hr := hr.bl hbc; replace hq := hq.bl hbc; replace fx := hr.cell; replace hb := below_bl rfl hb hbc) | (go_at_call 81; (with_reducible refine (HF.out _).mono ?_); rintro e W ⟨rfl, hbc⟩; replace hr := hr.bl hbc; replace hq := hq.bl hbc; replace fx := hr.cell; replace hb := below_bl rfl hb hbc) | ((with_reducible refine ld_vp w.heap.size _ hr ?_ ?_ ?_); exact rfl; exact rfl) | ((with_reducible refine st_vp (w.heap.size + 1) _ z hq ?_ ?_ ?_); exact rfl; exact rfl; intro W hnew ho; replace hr := hr.only ho (by omega); replace hq := hnew; replace hb := ho.bel _ _ (by omega) hb))
  refine bodyPost_ret (results_cell_row results95 _ _ (w.heap.size + 1) _ _ _ _ rfl hq underlying39 rfl size_vp) rfl ?_
  exact ⟨rfl, hb⟩
theorem rdy_z0 (s : V) (ok : s.Ok) (v : Nat) (hs : s.se = 0) (h : v = 0) (w : World) :
    StViQue1 s v w := by
  unfold StViQue1
  have HV : rdyV s v = (s.q0w (s.q0.rdw false)) := by subst h; unfold rdyV V.qw V.q; rw [hs]; rfl
  rw [HV]; clear HV
  have hse : ((s.se : Nat) : Int) = 0 := by omega
  subst h
  rw [show ((0 : Nat) : Int) = 0 from rfl]
  clear hs
  go_enter func95, ntmps95
  go_wp2_with (first | ((with_reducible refine bx_vp w.heap.size s ?_ ?_ ?_); exact rfl; exact rfl; intro W hr hb hz; have fx := hr.cell) | ((with_reducible refine al_vp (w.heap.size + 1) ?_ ?_); exact hz.out; intro W hq hb' hz'; replace hr := hr.bl (hz.out ▸ hb'); replace hb := hb.trans (hb'.mono (by omega)); replace hz := hz'; replace fx := hr.cell) | ((with_reducible refine st_rd0 w.heap.size _ false _ hr ?_ ?_ ?_); exact rfl; exact rfl; intro W hnew ho; replace hq := hq.only ho (by omega); replace hr := hnew; replace hb := ho.bel _ _ (by omega) hb; (try clear fx)) | ((with_reducible refine ld_vp w.heap.size _ hr ?_ ?_ ?_); exact rfl; exact rfl) | ((with_reducible refine st_vp (w.heap.size + 1) _ (s.q0w (s.q0.rdw false)) hq ?_ ?_ ?_); exact rfl; exact rfl; intro W hnew ho; replace hr := hr.only ho (by omega); replace hq := hnew; replace hb := ho.bel _ _ (by omega) hb))
  refine bodyPost_ret (results_cell_row results95 _ _ (w.heap.size + 1) _ _ _ _ rfl hq underlying39 rfl size_vp) rfl ?_
  exact ⟨rfl, hb⟩
theorem rdy_o0 (s : V) (ok : s.Ok) (v : Nat) (hs : s.se = 0) (h1 : v ≠ 1) (h0 : v ≠ 0) (w : World) :
    StViQue1 s v w := by
  unfold StViQue1
  have HV : rdyV s v = s := by unfold rdyV; rw [if_neg h1, if_neg h0]
  rw [HV]; clear HV
  have hse : ((s.se : Nat) : Int) = 0 := by omega
  have l0 : ((v : Int) == 0) = false := by simp; omega
  have m0 : (v == 0) = false := by simp; omega
  have l1 : ((v : Int) == 1) = false := by simp; omega
  have m1 : (v == 1) = false := by simp; omega
  clear h0 h1
  clear hs
  go_enter func95, ntmps95
  go_wp2_with (first | ((with_reducible refine bx_vp w.heap.size s ?_ ?_ ?_); exact rfl; exact rfl; intro W hr hb hz; have fx := hr.cell) | ((with_reducible refine al_vp (w.heap.size + 1) ?_ ?_); exact hz.out; intro W hq hb' hz'; replace hr := hr.bl (hz.out ▸ hb'); replace hb := hb.trans (hb'.mono (by omega)); replace hz := hz'; replace fx := hr.cell) | ((with_reducible refine ld_vp w.heap.size _ hr ?_ ?_ ?_); exact rfl; exact rfl) | ((with_reducible refine st_vp (w.heap.size + 1) _ s hq ?_ ?_ ?_); exact rfl; exact rfl; intro W hnew ho; replace hr := hr.only ho (by omega); replace hq := hnew; replace hb := ho.bel _ _ (by omega) hb))
  refine bodyPost_ret (results_cell_row results95 _ _ (w.heap.size + 1) _ _ _ _ rfl hq underlying39 rfl size_vp) rfl ?_
  exact ⟨rfl, hb⟩
theorem rdy_t1 (s : V) (ok : s.Ok) (v : Nat) (hs : s.se = 1) (h : v = 1) (hc : chkR s.q1.r = true) (w : World) :
    StViQue1 s v w := by
  unfold StViQue1
  have HV : rdyV s v = (s.q1w ⟨true, (s.q1.r.law 0).puw 0⟩) := by subst h; unfold rdyV V.qw V.q; rw [hs]; simp [hc]
  rw [HV]; clear HV
  have hse : ((s.se : Nat) : Int) = 1 := by omega
  have HK := hide (fun w => rcheck_any s.q1.r ok.q1 w)
  rw [hc] at HK
  have HK : Hid (∀ w, Calls prog 100 #[.agg s.q1.r.cells] w fun e w' => e = .returned (.nilIface) ∧ Below w.heap.size w w') := HK
  subst h
  rw [show ((1 : Nat) : Int) = 1 from rfl]
  clear hs
  go_enter func95, ntmps95
  go_wp2_with (first | ((with_reducible refine bx_vp w.heap.size s ?_ ?_ ?_); exact rfl; exact rfl; intro W hr hb hz; have fx := hr.cell) | ((with_reducible refine al_vp (w.heap.size + 1) ?_ ?_); exact hz.out; intro W hq hb' hz'; replace hr := hr.bl (hz.out ▸ hb'); replace hb := hb.trans (hb'.mono (by omega)); replace hz := hz'; replace fx := hr.cell) | ((with_reducible refine ld_r1p w.heap.size _ _ hr ?_ ?_ ?_); exact rfl; exact rfl) | (go_at_call 100; (with_reducible refine (HK.out _).mono ?_); rintro e W ⟨rfl, hbc⟩; replace hr := hr.bl hbc; replace hq := hq.bl hbc; replace fx := hr.cell; replace hb := below_bl rfl hb hbc) | ((with_reducible refine st_rd1 w.heap.size _ true _ hr ?_ ?_ ?_); exact rfl; exact rfl; intro W hnew ho; replace hq := hq.only ho (by omega); replace hr := hnew; replace hb := ho.bel _ _ (by omega) hb; (try clear fx)) | ((with_reducible refine st_la1 w.heap.size _ 0 _ hr ?_ ?_ ?_); exact rfl; exact rfl; intro W hnew ho; replace hq := hq.only ho (by omega); replace hr := hnew; replace hb := ho.bel _ _ (by omega) hb; (try clear fx)) | ((with_reducible refine st_pu1 w.heap.size _ 0 _ hr ?_ ?_ ?_); exact rfl; exact rfl; intro W hnew ho; replace hq := hq.only ho (by omega); replace hr := hnew; replace hb := ho.bel _ _ (by omega) hb; (try clear fx)) | ((with_reducible refine ld_vp w.heap.size _ hr ?_ ?_ ?_); exact rfl; exact rfl) | ((with_reducible refine st_vp (w.heap.size + 1) _ (s.q1w ⟨true, (s.q1.r.law 0).puw 0⟩) hq ?_ ?_ ?_); exact rfl; exact rfl; intro W hnew ho; replace hr := hr.only ho (by omega); replace hq := hnew; replace hb := ho.bel _ _ (by omega) hb))
  refine bodyPost_ret (results_cell_row results95 _ _ (w.heap.size + 1) _ _ _ _ rfl hq underlying39 rfl size_vp) rfl ?_
  exact ⟨rfl, hb⟩
theorem rdy_f1 (s : V) (ok : s.Ok) (v : Nat) (hs : s.se = 1) (h : v = 1) (hc : chkR s.q1.r = false) (w : World) :
    StViQue1 s v w := by
  unfold StViQue1
  have HV : rdyV s v = failV s := by subst h; unfold rdyV V.qw V.q; rw [hs]; simp [hc]
  rw [HV]; clear HV
  have hse : ((s.se : Nat) : Int) = 1 := by omega
  have HK := hide (fun w => rcheck_any s.q1.r ok.q1 w)
  rw [hc] at HK
  have HK : Hid (∀ w, Calls prog 100 #[.agg s.q1.r.cells] w fun e w' => e = .returned (.iface 82 (.int .i64 1)) ∧ Below w.heap.size w w') := HK
  have HF := hide (fun w => fail_any s ok w)
  generalize failV s = z at HF ⊢
  subst h
  rw [show ((1 : Nat) : Int) = 1 from rfl]
  clear hs
  go_enter func95, ntmps95
  go_wp2_with (first | ((with_reducible refine bx_vp w.heap.size s ?_ ?_ ?_); exact rfl; exact rfl; intro W hr hb hz; have fx := hr.cell) | ((with_reducible refine al_vp (w.heap.size + 1) ?_ ?_); exact hz.out; intro W hq hb' hz'; replace hr := hr.bl (hz.out ▸ hb'); replace hb := hb.trans (hb'.mono (by omega)); replace hz := hz'; replace fx := hr.cell) | ((with_reducible refine ld_r1p w.heap.size _ _ hr ?_ ?_ ?_); exact rfl; exact rfl) | (go_at_call 100; (with_reducible refine (HK.out _).mono ?_); rintro e W ⟨rfl, hbc⟩; replace hr := hr.bl hbc; replace hq := hq.bl hbc; replace fx := hr.cell; replace hb := below_bl rfl hb hbc) | (go_at_call 81; (with_reducible refine (HF.out _).mono ?_); rintro e W ⟨rfl, hbc⟩; replace hr := hr.bl hbc; replace hq := hq.bl hbc; replace fx := hr.cell; replace hb := below_bl rfl hb hbc) | ((with_reducible refine ld_vp w.heap.size _ hr ?_ ?_ ?_); exact rfl; exact rfl) | ((with_reducible refine st_vp (w.heap.size + 1) _ z hq ?_ ?_ ?_); exact rfl; exact rfl; intro W hnew ho; replace hr := hr.only ho (by omega); replace hq := hnew; replace hb := ho.bel _ _ (by omega) hb))
  refine bodyPost_ret (results_cell_row results95 _ _ (w.heap.size + 1) _ _ _ _ rfl hq underlying39 rfl size_vp) rfl ?_
  exact ⟨rfl, hb⟩
theorem rdy_z1 (s : V) (ok : s.Ok) (v : Nat) (hs : s.se = 1) (h : v = 0) (w : World) :
    StViQue1 s v w := by
  unfold StViQue1
  have HV : rdyV s v = (s.q1w (s.q1.rdw false)) := by subst h; unfold rdyV V.qw V.q; rw [hs]; rfl
  rw [HV]; clear HV
  have hse : ((s.se : Nat) : Int) = 1 := by omega
  subst h
  rw [show ((0 : Nat) : Int) = 0 from rfl]
  clear hs
  go_enter func95, ntmps95
  go_wp2_with (first | ((with_reducible refine bx_vp w.heap.size s ?_ ?_ ?_); exact rfl; exact rfl; intro W hr hb hz; have fx := hr.cell) | ((with_reducible refine al_vp (w.heap.size + 1) ?_ ?_); exact hz.out; intro W hq hb' hz'; replace hr := hr.bl (hz.out ▸ hb'); replace hb := hb.trans (hb'.mono (by omega)); replace hz := hz'; replace fx := hr.cell) | ((with_reducible refine st_rd1 w.heap.size _ false _ hr ?_ ?_ ?_); exact rfl; exact rfl; intro W hnew ho; replace hq := hq.only ho (by omega); replace hr := hnew; replace hb := ho.bel _ _ (by omega) hb; (try clear fx)) | ((with_reducible refine ld_vp w.heap.size _ hr ?_ ?_ ?_); exact rfl; exact rfl) | ((with_reducible refine st_vp (w.heap.size + 1) _ (s.q1w (s.q1.rdw false)) hq ?_ ?_ ?_); exact rfl; exact rfl; intro W hnew ho; replace hr := hr.only ho (by omega); replace hq := hnew; replace hb := ho.bel _ _ (by omega) hb))
  refine bodyPost_ret (results_cell_row results95 _ _ (w.heap.size + 1) _ _ _ _ rfl hq underlying39 rfl size_vp) rfl ?_
  exact ⟨rfl, hb⟩
theorem rdy_o1 (s : V) (ok : s.Ok) (v : Nat) (hs : s.se = 1) (h1 : v ≠ 1) (h0 : v ≠ 0) (w : World) :
    StViQue1 s v w := by
  unfold StViQue1
  have HV : rdyV s v = s := by unfold rdyV; rw [if_neg h1, if_neg h0]
  rw [HV]; clear HV
  have hse : ((s.se : Nat) : Int) = 1 := by omega
  have l0 : ((v : Int) == 0) = false := by simp; omega
  have m0 : (v == 0) = false := by simp; omega
  have l1 : ((v : Int) == 1) = false := by simp; omega
  have m1 : (v == 1) = false := by simp; omega
  clear h0 h1
  clear hs
  go_enter func95, ntmps95
  go_wp2_with (first | ((with_reducible refine bx_vp w.heap.size s ?_ ?_ ?_); exact rfl; exact rfl; intro W hr hb hz; have fx := hr.cell) | ((with_reducible refine al_vp (w.heap.size + 1) ?_ ?_); exact hz.out; intro W hq hb' hz'; replace hr := hr.bl (hz.out ▸ hb'); replace hb := hb.trans (hb'.mono (by omega)); replace hz := hz'; replace fx := hr.cell) | ((with_reducible refine ld_vp w.heap.size _ hr ?_ ?_ ?_); exact rfl; exact rfl) | ((with_reducible refine st_vp (w.heap.size + 1) _ s hq ?_ ?_ ?_); exact rfl; exact rfl; intro W hnew ho; replace hr := hr.only ho (by omega); replace hq := hnew; replace hb := ho.bel _ _ (by omega) hb))
  refine bodyPost_ret (results_cell_row results95 _ _ (w.heap.size + 1) _ _ _ _ rfl hq underlying39 rfl size_vp) rfl ?_
  exact ⟨rfl, hb⟩
theorem rdy_any (s : V) (ok : s.Ok) (v : Nat) (hs : s.se < 2) (w : World) : Calls prog 95 #[.agg s.cells, .int .u32 (v : Nat)] w fun e w' => e = .returned (.agg (rdyV s v).cells) ∧ Below w.heap.size w w' := by
  by_cases hs0 : s.se = 0
  · by_cases h1 : v = 1
    · cases hc : chkR s.q0.r with
      | true => exact rdy_t0 s ok v hs0 h1 hc w
      | false => exact rdy_f0 s ok v hs0 h1 hc w
    by_cases h0 : v = 0
    · exact rdy_z0 s ok v hs0 h0 w
    · exact rdy_o0 s ok v hs0 h1 h0 w
  have hs1 : s.se = 1 := by omega
  by_cases h1 : v = 1
  · cases hc : chkR s.q1.r with
    | true => exact rdy_t1 s ok v hs1 h1 hc w
    | false => exact rdy_f1 s ok v hs1 h1 hc w
  by_cases h0 : v = 0
  · exact rdy_z1 s ok v hs1 h0 w
  · exact rdy_o1 s ok v hs1 h1 h0 w
theorem wqV_nr0 (s : V) (a v : Nat) (h : a ≠ 68) (hs : s.se = 0) (hr0 : s.q0.rd = false) : wqV s a v = regV s a v := by
  have e : s.q s.se = s.q0 := by rw [hs]; rfl
  unfold wqV
  rw [if_neg h, e, hr0, if_neg (by decide)]
theorem wqV_nr1 (s : V) (a v : Nat) (h : a ≠ 68) (hs : s.se = 1) (hr0 : s.q1.rd = false) : wqV s a v = regV s a v := by
  have e : s.q s.se = s.q1 := by rw [hs]; rfl
  unfold wqV
  rw [if_neg h, e, hr0, if_neg (by decide)]
theorem wq_68 (s : V) (ok : s.Ok) (a v : Nat) (hv : v < 4294967296) (hs : s.se < 2) (h : a = 68) (w : World) :
    StViQue0 s a v w := by
  unfold StViQue0
  have HV : wqV s a v = rdyV s v := by unfold wqV; rw [if_pos h]
  rw [HV]; clear HV
  have HR := hide (fun w => rdy_any s ok v hs w)
  generalize rdyV s v = z at HR ⊢
  subst h
  rw [show ((68 : Nat) : Int) = 68 from rfl]
  go_enter func63, ntmps63
  go_wp2_with (first | ((with_reducible refine bx_vp w.heap.size s ?_ ?_ ?_); exact rfl; exact rfl; intro W hr hb hz; have fx := hr.cell) | ((with_reducible refine al_vp (w.heap.size + 1) ?_ ?_); exact hz.out; intro W hq hb' hz'; replace hr := hr.bl (hz.out ▸ hb'); replace hb := hb.trans (hb'.mono (by omega)); replace hz := hz'; replace fx := hr.cell) | (go_at_call 95; (with_reducible refine (HR.out _).mono ?_); rintro e W ⟨rfl, hbc⟩; replace hr := hr.bl hbc; replace hq := hq.bl hbc; replace fx := hr.cell; replace hb := below_bl rfl hb hbc) | ((with_reducible refine ld_vp w.heap.size _ hr ?_ ?_ ?_); exact rfl; exact rfl) | ((with_reducible refine st_vp (w.heap.size + 1) _ z hq ?_ ?_ ?_); exact rfl; exact rfl; intro W hnew ho; replace hr := hr.only ho (by omega); replace hq := hnew; replace hb := ho.bel _ _ (by omega) hb))
  refine bodyPost_ret (results_cell_row results63 _ _ (w.heap.size + 1) _ _ _ _ rfl hq underlying39 rfl size_vp) rfl ?_
  exact ⟨rfl, hb⟩
theorem wq_r0 (s : V) (ok : s.Ok) (a v : Nat) (hv : v < 4294967296) (hs : s.se = 0) (n68 : a ≠ 68) (hr0 : s.q0.rd = true) (w : World) :
    StViQue0 s a v w := by
  unfold StViQue0
  have HV : wqV s a v = s := by unfold wqV V.q; rw [if_neg n68, hs]; simp [hr0]
  rw [HV]; clear HV
  have hse : ((s.se : Nat) : Int) = 0 := by omega
  have l68 : ((a : Int) == 68) = false := by simp; omega
  have m68 : (a == 68) = false := by simp; omega
  clear n68 hs
  go_enter func63, ntmps63
  go_wp2_with (first | ((with_reducible refine bx_vp w.heap.size s ?_ ?_ ?_); exact rfl; exact rfl; intro W hr hb hz; have fx := hr.cell) | ((with_reducible refine al_vp (w.heap.size + 1) ?_ ?_); exact hz.out; intro W hq hb' hz'; replace hr := hr.bl (hz.out ▸ hb'); replace hb := hb.trans (hb'.mono (by omega)); replace hz := hz'; replace fx := hr.cell) | ((with_reducible refine ld_vp w.heap.size _ hr ?_ ?_ ?_); exact rfl; exact rfl) | ((with_reducible refine st_vp (w.heap.size + 1) _ s hq ?_ ?_ ?_); exact rfl; exact rfl; intro W hnew ho; replace hr := hr.only ho (by omega); replace hq := hnew; replace hb := ho.bel _ _ (by omega) hb))
  refine bodyPost_ret (results_cell_row results63 _ _ (w.heap.size + 1) _ _ _ _ rfl hq underlying39 rfl size_vp) rfl ?_
  exact ⟨rfl, hb⟩
theorem wq_sa0 (s : V) (ok : s.Ok) (a v : Nat) (hv : v < 4294967296) (hs : s.se = 0) (hr0 : s.q0.rd = false) (h : a = 56) (h2 : v ≤ 256) (w : World) :
    StViQue0 s a v w := by
  unfold StViQue0
  have HV : wqV s a v = (s.q0w (s.q0.rw' (s.q0.r.szw (v : Int)))) := by rw [wqV_nr0 s a v (by omega) hs hr0]; unfold regV V.qw V.q; rw [hs]; subst h; simp [h2]
  rw [HV]; clear HV
  have hse : ((s.se : Nat) : Int) = 0 := by omega
  clear hs
  subst h
  rw [show ((56 : Nat) : Int) = 56 from rfl]
  go_enter func63, ntmps63
  go_wp2_with (first | ((with_reducible refine bx_vp w.heap.size s ?_ ?_ ?_); exact rfl; exact rfl; intro W hr hb hz; have fx := hr.cell) | ((with_reducible refine al_vp (w.heap.size + 1) ?_ ?_); exact hz.out; intro W hq hb' hz'; replace hr := hr.bl (hz.out ▸ hb'); replace hb := hb.trans (hb'.mono (by omega)); replace hz := hz'; replace fx := hr.cell) | ((with_reducible refine st_sz0 w.heap.size _ (v : Int) _ hr ?_ ?_ ?_); exact rfl; exact rfl; intro W hnew ho; replace hq := hq.only ho (by omega); replace hr := hnew; replace hb := ho.bel _ _ (by omega) hb; (try clear fx)) | ((with_reducible refine ld_vp w.heap.size _ hr ?_ ?_ ?_); exact rfl; exact rfl) | ((with_reducible refine st_vp (w.heap.size + 1) _ (s.q0w (s.q0.rw' (s.q0.r.szw (v : Int)))) hq ?_ ?_ ?_); exact rfl; exact rfl; intro W hnew ho; replace hr := hr.only ho (by omega); replace hq := hnew; replace hb := ho.bel _ _ (by omega) hb))
  refine bodyPost_ret (results_cell_row results63 _ _ (w.heap.size + 1) _ _ _ _ rfl hq underlying39 rfl size_vp) rfl ?_
  exact ⟨rfl, hb⟩
theorem wq_sb0 (s : V) (ok : s.Ok) (a v : Nat) (hv : v < 4294967296) (hs : s.se = 0) (hr0 : s.q0.rd = false) (h : a = 56) (h2 : 256 < v) (w : World) :
    StViQue0 s a v w := by
  unfold StViQue0
  have HV : wqV s a v = s := by rw [wqV_nr0 s a v (by omega) hs hr0]; unfold regV V.qw V.q; rw [hs]; subst h; simp; omega
  rw [HV]; clear HV
  have hse : ((s.se : Nat) : Int) = 0 := by omega
  have lv : decide ((v : Int) ≤ 256) = false := by simp; omega
  have lvb : decide (v ≤ 256) = false := by simp; omega
  clear hs
  subst h
  rw [show ((56 : Nat) : Int) = 56 from rfl]
  go_enter func63, ntmps63
  go_wp2_with (first | ((with_reducible refine bx_vp w.heap.size s ?_ ?_ ?_); exact rfl; exact rfl; intro W hr hb hz; have fx := hr.cell) | ((with_reducible refine al_vp (w.heap.size + 1) ?_ ?_); exact hz.out; intro W hq hb' hz'; replace hr := hr.bl (hz.out ▸ hb'); replace hb := hb.trans (hb'.mono (by omega)); replace hz := hz'; replace fx := hr.cell) | ((with_reducible refine ld_vp w.heap.size _ hr ?_ ?_ ?_); exact rfl; exact rfl) | ((with_reducible refine st_vp (w.heap.size + 1) _ s hq ?_ ?_ ?_); exact rfl; exact rfl; intro W hnew ho; replace hr := hr.only ho (by omega); replace hq := hnew; replace hb := ho.bel _ _ (by omega) hb))
  refine bodyPost_ret (results_cell_row results63 _ _ (w.heap.size + 1) _ _ _ _ rfl hq underlying39 rfl size_vp) rfl ?_
  exact ⟨rfl, hb⟩
theorem wq_128_0 (s : V) (ok : s.Ok) (a v : Nat) (hv : v < 4294967296) (hs : s.se = 0) (hr0 : s.q0.rd = false) (h : a = 128) (w : World) :
    StViQue0 s a v w := by
  unfold StViQue0
  have HV : wqV s a v = (s.q0w (s.q0.rw' (s.q0.r.dew v))) := by rw [wqV_nr0 s a v (by omega) hs hr0]; unfold regV V.qw V.q; rw [hs]; subst h; rfl
  rw [HV]; clear HV
  have hse : ((s.se : Nat) : Int) = 0 := by omega
  clear hs
  subst h
  rw [show ((128 : Nat) : Int) = 128 from rfl]
  go_enter func63, ntmps63
  go_wp2_with (first | ((with_reducible refine bx_vp w.heap.size s ?_ ?_ ?_); exact rfl; exact rfl; intro W hr hb hz; have fx := hr.cell) | ((with_reducible refine al_vp (w.heap.size + 1) ?_ ?_); exact hz.out; intro W hq hb' hz'; replace hr := hr.bl (hz.out ▸ hb'); replace hb := hb.trans (hb'.mono (by omega)); replace hz := hz'; replace fx := hr.cell) | ((with_reducible refine st_de0 w.heap.size _ v _ hr ?_ ?_ ?_); exact rfl; exact rfl; intro W hnew ho; replace hq := hq.only ho (by omega); replace hr := hnew; replace hb := ho.bel _ _ (by omega) hb; (try clear fx)) | ((with_reducible refine ld_vp w.heap.size _ hr ?_ ?_ ?_); exact rfl; exact rfl) | ((with_reducible refine st_vp (w.heap.size + 1) _ (s.q0w (s.q0.rw' (s.q0.r.dew v))) hq ?_ ?_ ?_); exact rfl; exact rfl; intro W hnew ho; replace hr := hr.only ho (by omega); replace hq := hnew; replace hb := ho.bel _ _ (by omega) hb))
  refine bodyPost_ret (results_cell_row results63 _ _ (w.heap.size + 1) _ _ _ _ rfl hq underlying39 rfl size_vp) rfl ?_
  exact ⟨rfl, hb⟩
theorem wq_144_0 (s : V) (ok : s.Ok) (a v : Nat) (hv : v < 4294967296) (hs : s.se = 0) (hr0 : s.q0.rd = false) (h : a = 144) (w : World) :
    StViQue0 s a v w := by
  unfold StViQue0
  have HV : wqV s a v = (s.q0w (s.q0.rw' (s.q0.r.avw v))) := by rw [wqV_nr0 s a v (by omega) hs hr0]; unfold regV V.qw V.q; rw [hs]; subst h; rfl
  rw [HV]; clear HV
  have hse : ((s.se : Nat) : Int) = 0 := by omega
  clear hs
  subst h
  rw [show ((144 : Nat) : Int) = 144 from rfl]
  go_enter func63, ntmps63
  go_wp2_with (first | ((with_reducible refine bx_vp w.heap.size s ?_ ?_ ?_); exact rfl; exact rfl; intro W hr hb hz; have fx := hr.cell) | ((with_reducible refine al_vp (w.heap.size + 1) ?_ ?_); exact hz.out; intro W hq hb' hz'; replace hr := hr.bl (hz.out ▸ hb'); replace hb := hb.trans (hb'.mono (by omega)); replace hz := hz'; replace fx := hr.cell) | ((with_reducible refine st_av0 w.heap.size _ v _ hr ?_ ?_ ?_); exact rfl; exact rfl; intro W hnew ho; replace hq := hq.only ho (by omega); replace hr := hnew; replace hb := ho.bel _ _ (by omega) hb; (try clear fx)) | ((with_reducible refine ld_vp w.heap.size _ hr ?_ ?_ ?_); exact rfl; exact rfl) | ((with_reducible refine st_vp (w.heap.size + 1) _ (s.q0w (s.q0.rw' (s.q0.r.avw v))) hq ?_ ?_ ?_); exact rfl; exact rfl; intro W hnew ho; replace hr := hr.only ho (by omega); replace hq := hnew; replace hb := ho.bel _ _ (by omega) hb))
  refine bodyPost_ret (results_cell_row results63 _ _ (w.heap.size + 1) _ _ _ _ rfl hq underlying39 rfl size_vp) rfl ?_
  exact ⟨rfl, hb⟩
theorem wq_160_0 (s : V) (ok : s.Ok) (a v : Nat) (hv : v < 4294967296) (hs : s.se = 0) (hr0 : s.q0.rd = false) (h : a = 160) (w : World) :
    StViQue0 s a v w := by
  unfold StViQue0
  have HV : wqV s a v = (s.q0w (s.q0.rw' (s.q0.r.usw v))) := by rw [wqV_nr0 s a v (by omega) hs hr0]; unfold regV V.qw V.q; rw [hs]; subst h; rfl
  rw [HV]; clear HV
  have hse : ((s.se : Nat) : Int) = 0 := by omega
  clear hs
  subst h
  rw [show ((160 : Nat) : Int) = 160 from rfl]
  go_enter func63, ntmps63
  go_wp2_with (first | ((with_reducible refine bx_vp w.heap.size s ?_ ?_ ?_); exact rfl; exact rfl; intro W hr hb hz; have fx := hr.cell) | ((with_reducible refine al_vp (w.heap.size + 1) ?_ ?_); exact hz.out; intro W hq hb' hz'; replace hr := hr.bl (hz.out ▸ hb'); replace hb := hb.trans (hb'.mono (by omega)); replace hz := hz'; replace fx := hr.cell) | ((with_reducible refine st_us0 w.heap.size _ v _ hr ?_ ?_ ?_); exact rfl; exact rfl; intro W hnew ho; replace hq := hq.only ho (by omega); replace hr := hnew; replace hb := ho.bel _ _ (by omega) hb; (try clear fx)) | ((with_reducible refine ld_vp w.heap.size _ hr ?_ ?_ ?_); exact rfl; exact rfl) | ((with_reducible refine st_vp (w.heap.size + 1) _ (s.q0w (s.q0.rw' (s.q0.r.usw v))) hq ?_ ?_ ?_); exact rfl; exact rfl; intro W hnew ho; replace hr := hr.only ho (by omega); replace hq := hnew; replace hb := ho.bel _ _ (by omega) hb))
  refine bodyPost_ret (results_cell_row results63 _ _ (w.heap.size + 1) _ _ _ _ rfl hq underlying39 rfl size_vp) rfl ?_
  exact ⟨rfl, hb⟩
theorem wq_132z_0 (s : V) (ok : s.Ok) (a v : Nat) (hv : v < 4294967296) (hs : s.se = 0) (hr0 : s.q0.rd = false) (h : a = 132) (h2 : v = 0) (w : World) :
    StViQue0 s a v w := by
  unfold StViQue0
  have HV : wqV s a v = s := by rw [wqV_nr0 s a v (by omega) hs hr0]; unfold regV V.qw V.q; rw [hs]; subst h; subst h2; rfl
  rw [HV]; clear HV
  have hse : ((s.se : Nat) : Int) = 0 := by omega
  clear hs
  subst h2
  rw [show ((0 : Nat) : Int) = 0 from rfl]
  subst h
  rw [show ((132 : Nat) : Int) = 132 from rfl]
  go_enter func63, ntmps63
  go_wp2_with (first | ((with_reducible refine bx_vp w.heap.size s ?_ ?_ ?_); exact rfl; exact rfl; intro W hr hb hz; have fx := hr.cell) | ((with_reducible refine al_vp (w.heap.size + 1) ?_ ?_); exact hz.out; intro W hq hb' hz'; replace hr := hr.bl (hz.out ▸ hb'); replace hb := hb.trans (hb'.mono (by omega)); replace hz := hz'; replace fx := hr.cell) | ((with_reducible refine ld_vp w.heap.size _ hr ?_ ?_ ?_); exact rfl; exact rfl) | ((with_reducible refine st_vp (w.heap.size + 1) _ s hq ?_ ?_ ?_); exact rfl; exact rfl; intro W hnew ho; replace hr := hr.only ho (by omega); replace hq := hnew; replace hb := ho.bel _ _ (by omega) hb))
  refine bodyPost_ret (results_cell_row results63 _ _ (w.heap.size + 1) _ _ _ _ rfl hq underlying39 rfl size_vp) rfl ?_
  exact ⟨rfl, hb⟩
theorem wq_132f_0 (s : V) (ok : s.Ok) (a v : Nat) (hv : v < 4294967296) (hs : s.se = 0) (hr0 : s.q0.rd = false) (h : a = 132) (h2 : v ≠ 0) (w : World) :
    StViQue0 s a v w := by
  unfold StViQue0
  have HV : wqV s a v = failV s := by rw [wqV_nr0 s a v (by omega) hs hr0]; unfold regV V.qw V.q; rw [hs]; subst h; simp [h2]
  rw [HV]; clear HV
  have hse : ((s.se : Nat) : Int) = 0 := by omega
  have HF := hide (fun w => fail_any s ok w)
  generalize failV s = z at HF ⊢
  have lv : ((v : Int) != 0) = true := by simp; omega
  have lvb : (v != 0) = true := by simp; omega
  clear hs h2
  subst h
  rw [show ((132 : Nat) : Int) = 132 from rfl]
  go_enter func63, ntmps63
  go_wp2_with (first | ((with_reducible refine bx_vp w.heap.size s ?_ ?_ ?_); exact rfl; exact rfl; intro W hr hb hz; have fx := hr.cell) | ((with_reducible refine al_vp (w.heap.size + 1) ?_ ?_); exact hz.out; intro W hq hb' hz'; replace hr := hr.bl (hz.out ▸ hb'); replace hb := hb.trans (hb'.mono (by omega)); replace hz := hz'; replace fx := hr.cell) | (go_at_call 81; (with_reducible refine (HF.out _).mono ?_); rintro e W ⟨rfl, hbc⟩; replace hr := hr.bl hbc; replace hq := hq.bl hbc; replace fx := hr.cell; replace hb := below_bl rfl hb hbc) | ((with_reducible refine ld_vp w.heap.size _ hr ?_ ?_ ?_); exact rfl; exact rfl) | ((with_reducible refine st_vp (w.heap.size + 1) _ z hq ?_ ?_ ?_); exact rfl; exact rfl; intro W hnew ho; replace hr := hr.only ho (by omega); replace hq := hnew; replace hb := ho.bel _ _ (by omega) hb))
  refine bodyPost_ret (results_cell_row results63 _ _ (w.heap.size + 1) _ _ _ _ rfl hq underlying39 rfl size_vp) rfl ?_
  exact ⟨rfl, hb⟩
theorem wq_148z_0 (s : V) (ok : s.Ok) (a v : Nat) (hv : v < 4294967296) (hs : s.se = 0) (hr0 : s.q0.rd = false) (h : a = 148) (h2 : v = 0) (w : World) :
    StViQue0 s a v w := by
  unfold StViQue0
  have HV : wqV s a v = s := by rw [wqV_nr0 s a v (by omega) hs hr0]; unfold regV V.qw V.q; rw [hs]; subst h; subst h2; rfl
  rw [HV]; clear HV
  have hse : ((s.se : Nat) : Int) = 0 := by omega
  clear hs
  subst h2
  rw [show ((0 : Nat) : Int) = 0 from rfl]
  subst h
  rw [show ((148 : Nat) : Int) = 148 from rfl]
  go_enter func63, ntmps63
  go_wp2_with (first | ((with_reducible refine bx_vp w.heap.size s ?_ ?_ ?_); exact rfl; exact rfl; intro W hr hb hz; have fx := hr.cell) | ((with_reducible refine al_vp (w.heap.size + 1) ?_ ?_); exact hz.out; intro W hq hb' hz'; replace hr := hr.bl (hz.out ▸ hb'); replace hb := hb.trans (hb'.mono (by omega)); replace hz := hz'; replace fx := hr.cell) | ((with_reducible refine ld_vp w.heap.size _ hr ?_ ?_ ?_); exact rfl; exact rfl) | ((with_reducible refine st_vp (w.heap.size + 1) _ s hq ?_ ?_ ?_); exact rfl; exact rfl; intro W hnew ho; replace hr := hr.only ho (by omega); replace hq := hnew; replace hb := ho.bel _ _ (by omega) hb))
  refine bodyPost_ret (results_cell_row results63 _ _ (w.heap.size + 1) _ _ _ _ rfl hq underlying39 rfl size_vp) rfl ?_
  exact ⟨rfl, hb⟩
theorem wq_148f_0 (s : V) (ok : s.Ok) (a v : Nat) (hv : v < 4294967296) (hs : s.se = 0) (hr0 : s.q0.rd = false) (h : a = 148) (h2 : v ≠ 0) (w : World) :
    StViQue0 s a v w := by
  unfold StViQue0
  have HV : wqV s a v = failV s := by rw [wqV_nr0 s a v (by omega) hs hr0]; unfold regV V.qw V.q; rw [hs]; subst h; simp [h2]
  rw [HV]; clear HV
  have hse : ((s.se : Nat) : Int) = 0 := by omega
  have HF := hide (fun w => fail_any s ok w)
  generalize failV s = z at HF ⊢
  have lv : ((v : Int) != 0) = true := by simp; omega
  have lvb : (v != 0) = true := by simp; omega
  clear hs h2
  subst h
  rw [show ((148 : Nat) : Int) = 148 from rfl]
  go_enter func63, ntmps63
  go_wp2_with (first | ((with_reducible refine bx_vp w.heap.size s ?_ ?_ ?_); exact rfl; exact rfl; intro W hr hb hz; have fx := hr.cell) | ((with_reducible refine al_vp (w.heap.size + 1) ?_ ?_); exact hz.out; intro W hq hb' hz'; replace hr := hr.bl (hz.out ▸ hb'); replace hb := hb.trans (hb'.mono (by omega)); replace hz := hz'; replace fx := hr.cell) | (go_at_call 81; (with_reducible refine (HF.out _).mono ?_); rintro e W ⟨rfl, hbc⟩; replace hr := hr.bl hbc; replace hq := hq.bl hbc; replace fx := hr.cell; replace hb := below_bl rfl hb hbc) | ((with_reducible refine ld_vp w.heap.size _ hr ?_ ?_ ?_); exact rfl; exact rfl) | ((with_reducible refine st_vp (w.heap.size + 1) _ z hq ?_ ?_ ?_); exact rfl; exact rfl; intro W hnew ho; replace hr := hr.only ho (by omega); replace hq := hnew; replace hb := ho.bel _ _ (by omega) hb))
  refine bodyPost_ret (results_cell_row results63 _ _ (w.heap.size + 1) _ _ _ _ rfl hq underlying39 rfl size_vp) rfl ?_
  exact ⟨rfl, hb⟩
theorem wq_164z_0 (s : V) (ok : s.Ok) (a v : Nat) (hv : v < 4294967296) (hs : s.se = 0) (hr0 : s.q0.rd = false) (h : a = 164) (h2 : v = 0) (w : World) :
    StViQue0 s a v w := by
  unfold StViQue0
  have HV : wqV s a v = s := by rw [wqV_nr0 s a v (by omega) hs hr0]; unfold regV V.qw V.q; rw [hs]; subst h; subst h2; rfl
  rw [HV]; clear HV
  have hse : ((s.se : Nat) : Int) = 0 := by omega
  clear hs
  subst h2
  rw [show ((0 : Nat) : Int) = 0 from rfl]
  subst h
  rw [show ((164 : Nat) : Int) = 164 from rfl]
  go_enter func63, ntmps63
  go_wp2_with (first | ((with_reducible refine bx_vp w.heap.size s ?_ ?_ ?_); exact rfl; exact rfl; intro W hr hb hz; have fx := hr.cell) | ((with_reducible refine al_vp (w.heap.size + 1) ?_ ?_); exact hz.out; intro W hq hb' hz'; replace hr := hr.bl (hz.out ▸ hb'); replace hb := hb.trans (hb'.mono (by omega)); replace hz := hz'; replace fx := hr.cell) | ((with_reducible refine ld_vp w.heap.size _ hr ?_ ?_ ?_); exact rfl; exact rfl) | ((with_reducible refine st_vp (w.heap.size + 1) _ s hq ?_ ?_ ?_); exact rfl; exact rfl; intro W hnew ho; replace hr := hr.only ho (by omega); replace hq := hnew; replace hb := ho.bel _ _ (by omega) hb))
  refine bodyPost_ret (results_cell_row results63 _ _ (w.heap.size + 1) _ _ _ _ rfl hq underlying39 rfl size_vp) rfl ?_
  exact ⟨rfl, hb⟩
theorem wq_164f_0 (s : V) (ok : s.Ok) (a v : Nat) (hv : v < 4294967296) (hs : s.se = 0) (hr0 : s.q0.rd = false) (h : a = 164) (h2 : v ≠ 0) (w : World) :
    StViQue0 s a v w := by
  unfold StViQue0
  have HV : wqV s a v = failV s := by rw [wqV_nr0 s a v (by omega) hs hr0]; unfold regV V.qw V.q; rw [hs]; subst h; simp [h2]
  rw [HV]; clear HV
  have hse : ((s.se : Nat) : Int) = 0 := by omega
  have HF := hide (fun w => fail_any s ok w)
  generalize failV s = z at HF ⊢
  have lv : ((v : Int) != 0) = true := by simp; omega
  have lvb : (v != 0) = true := by simp; omega
  clear hs h2
  subst h
  rw [show ((164 : Nat) : Int) = 164 from rfl]
  go_enter func63, ntmps63
  go_wp2_with (first | ((with_reducible refine bx_vp w.heap.size s ?_ ?_ ?_); exact rfl; exact rfl; intro W hr hb hz; have fx := hr.cell) | ((with_reducible refine al_vp (w.heap.size + 1) ?_ ?_); exact hz.out; intro W hq hb' hz'; replace hr := hr.bl (hz.out ▸ hb'); replace hb := hb.trans (hb'.mono (by omega)); replace hz := hz'; replace fx := hr.cell) | (go_at_call 81; (with_reducible refine (HF.out _).mono ?_); rintro e W ⟨rfl, hbc⟩; replace hr := hr.bl hbc; replace hq := hq.bl hbc; replace fx := hr.cell; replace hb := below_bl rfl hb hbc) | ((with_reducible refine ld_vp w.heap.size _ hr ?_ ?_ ?_); exact rfl; exact rfl) | ((with_reducible refine st_vp (w.heap.size + 1) _ z hq ?_ ?_ ?_); exact rfl; exact rfl; intro W hnew ho; replace hr := hr.only ho (by omega); replace hq := hnew; replace hb := ho.bel _ _ (by omega) hb))
  refine bodyPost_ret (results_cell_row results63 _ _ (w.heap.size + 1) _ _ _ _ rfl hq underlying39 rfl size_vp) rfl ?_
  exact ⟨rfl, hb⟩
theorem wq_o0 (s : V) (ok : s.Ok) (a v : Nat) (hv : v < 4294967296) (hs : s.se = 0) (hr0 : s.q0.rd = false) (n68 : a ≠ 68) (n56 : a ≠ 56) (n128 : a ≠ 128) (n144 : a ≠ 144) (n160 : a ≠ 160) (n132 : a ≠ 132) (n148 : a ≠ 148) (n164 : a ≠ 164) (w : World) :
    StViQue0 s a v w := by
  unfold StViQue0
  have HV : wqV s a v = s := by rw [wqV_nr0 s a v (by omega) hs hr0]; unfold regV V.qw V.q; rw [hs]; rw [if_neg n56, if_neg n128, if_neg n144, if_neg n160, if_neg (by omega)]
  rw [HV]; clear HV
  have hse : ((s.se : Nat) : Int) = 0 := by omega
  have l68 : ((a : Int) == 68) = false := by simp; omega
  have m68 : (a == 68) = false := by simp; omega
  have l56 : ((a : Int) == 56) = false := by simp; omega
  have m56 : (a == 56) = false := by simp; omega
  have l128 : ((a : Int) == 128) = false := by simp; omega
  have m128 : (a == 128) = false := by simp; omega
  have l144 : ((a : Int) == 144) = false := by simp; omega
  have m144 : (a == 144) = false := by simp; omega
  have l160 : ((a : Int) == 160) = false := by simp; omega
  have m160 : (a == 160) = false := by simp; omega
  have l132 : ((a : Int) == 132) = false := by simp; omega
  have m132 : (a == 132) = false := by simp; omega
  have l148 : ((a : Int) == 148) = false := by simp; omega
  have m148 : (a == 148) = false := by simp; omega
  have l164 : ((a : Int) == 164) = false := by simp; omega
  have m164 : (a == 164) = false := by simp; omega
  clear hs n68 n56 n128 n144 n160 n132 n148 n164
  go_enter func63, ntmps63
  go_wp2_with (first | ((with_reducible refine bx_vp w.heap.size s ?_ ?_ ?_); exact rfl; exact rfl; intro W hr hb hz; have fx := hr.cell) | ((with_reducible refine al_vp (w.heap.size + 1) ?_ ?_); exact hz.out; intro W hq hb' hz'; replace hr := hr.bl (hz.out ▸ hb'); replace hb := hb.trans (hb'.mono (by omega)); replace hz := hz'; replace fx := hr.cell) | ((with_reducible refine ld_vp w.heap.size _ hr ?_ ?_ ?_); exact rfl; exact rfl) | ((with_reducible refine st_vp (w.heap.size + 1) _ s hq ?_ ?_ ?_); exact rfl; exact rfl; intro W hnew ho; replace hr := hr.only ho (by omega); replace hq := hnew; replace hb := ho.bel _ _ (by omega) hb))
  refine bodyPost_ret (results_cell_row results63 _ _ (w.heap.size + 1) _ _ _ _ rfl hq underlying39 rfl size_vp) rfl ?_
  exact ⟨rfl, hb⟩
theorem wq_r1 (s : V) (ok : s.Ok) (a v : Nat) (hv : v < 4294967296) (hs : s.se = 1) (n68 : a ≠ 68) (hr0 : s.q1.rd = true) (w : World) :
    StViQue0 s a v w := by
  unfold StViQue0
  have HV : wqV s a v = s := by unfold wqV V.q; rw [if_neg n68, hs]; simp [hr0]
  rw [HV]; clear HV
  have hse : ((s.se : Nat) : Int) = 1 := by omega
  have l68 : ((a : Int) == 68) = false := by simp; omega
  have m68 : (a == 68) = false := by simp; omega
  clear n68 hs
  go_enter func63, ntmps63
  go_wp2_with (first | ((with_reducible refine bx_vp w.heap.size s ?_ ?_ ?_); exact rfl; exact rfl; intro W hr hb hz; have fx := hr.cell) | ((with_reducible refine al_vp (w.heap.size + 1) ?_ ?_); exact hz.out; intro W hq hb' hz'; replace hr := hr.bl (hz.out ▸ hb'); replace hb := hb.trans (hb'.mono (by omega)); replace hz := hz'; replace fx := hr.cell) | ((with_reducible refine ld_vp w.heap.size _ hr ?_ ?_ ?_); exact rfl; exact rfl) | ((with_reducible refine st_vp (w.heap.size + 1) _ s hq ?_ ?_ ?_); exact rfl; exact rfl; intro W hnew ho; replace hr := hr.only ho (by omega); replace hq := hnew; replace hb := ho.bel _ _ (by omega) hb))
  refine bodyPost_ret (results_cell_row results63 _ _ (w.heap.size + 1) _ _ _ _ rfl hq underlying39 rfl size_vp) rfl ?_
  exact ⟨rfl, hb⟩
theorem wq_sa1 (s : V) (ok : s.Ok) (a v : Nat) (hv : v < 4294967296) (hs : s.se = 1) (hr0 : s.q1.rd = false) (h : a = 56) (h2 : v ≤ 256) (w : World) :
    StViQue0 s a v w := by
  unfold StViQue0
  have HV : wqV s a v = (s.q1w (s.q1.rw' (s.q1.r.szw (v : Int)))) := by rw [wqV_nr1 s a v (by omega) hs hr0]; unfold regV V.qw V.q; rw [hs]; subst h; simp [h2]
  rw [HV]; clear HV
  have hse : ((s.se : Nat) : Int) = 1 := by omega
  clear hs
  subst h
  rw [show ((56 : Nat) : Int) = 56 from rfl]
  go_enter func63, ntmps63
  go_wp2_with (first | ((with_reducible refine bx_vp w.heap.size s ?_ ?_ ?_); exact rfl; exact rfl; intro W hr hb hz; have fx := hr.cell) | ((with_reducible refine al_vp (w.heap.size + 1) ?_ ?_); exact hz.out; intro W hq hb' hz'; replace hr := hr.bl (hz.out ▸ hb'); replace hb := hb.trans (hb'.mono (by omega)); replace hz := hz'; replace fx := hr.cell) | ((with_reducible refine st_sz1 w.heap.size _ (v : Int) _ hr ?_ ?_ ?_); exact rfl; exact rfl; intro W hnew ho; replace hq := hq.only ho (by omega); replace hr := hnew; replace hb := ho.bel _ _ (by omega) hb; (try clear fx)) | ((with_reducible refine ld_vp w.heap.size _ hr ?_ ?_ ?_); exact rfl; exact rfl) | ((with_reducible refine st_vp (w.heap.size + 1) _ (s.q1w (s.q1.rw' (s.q1.r.szw (v : Int)))) hq ?_ ?_ ?_); exact rfl; exact rfl; intro W hnew ho; replace hr := hr.only ho (by omega); replace hq := hnew; replace hb := ho.bel _ _ (by omega) hb))
  refine bodyPost_ret (results_cell_row results63 _ _ (w.heap.size + 1) _ _ _ _ rfl hq underlying39 rfl size_vp) rfl ?_
  exact ⟨rfl, hb⟩
theorem wq_sb1 (s : V) (ok : s.Ok) (a v : Nat) (hv : v < 4294967296) (hs : s.se = 1) (hr0 : s.q1.rd = false) (h : a = 56) (h2 : 256 < v) (w : World) :
    StViQue0 s a v w := by
  unfold StViQue0
  have HV : wqV s a v = s := by rw [wqV_nr1 s a v (by omega) hs hr0]; unfold regV V.qw V.q; rw [hs]; subst h; simp; omega
  rw [HV]; clear HV
  have hse : ((s.se : Nat) : Int) = 1 := by omega
  have lv : decide ((v : Int) ≤ 256) = false := by simp; omega
  have lvb : decide (v ≤ 256) = false := by simp; omega
  clear hs
  subst h
  rw [show ((56 : Nat) : Int) = 56 from rfl]
  go_enter func63, ntmps63
  go_wp2_with (first | ((with_reducible refine bx_vp w.heap.size s ?_ ?_ ?_); exact rfl; exact rfl; intro W hr hb hz; have fx := hr.cell) | ((with_reducible refine al_vp (w.heap.size + 1) ?_ ?_); exact hz.out; intro W hq hb' hz'; replace hr := hr.bl (hz.out ▸ hb'); replace hb := hb.trans (hb'.mono (by omega)); replace hz := hz'; replace fx := hr.cell) | ((with_reducible refine ld_vp w.heap.size _ hr ?_ ?_ ?_); exact rfl; exact rfl) | ((with_reducible refine st_vp (w.heap.size + 1) _ s hq ?_ ?_ ?_); exact rfl; exact rfl; intro W hnew ho; replace hr := hr.only ho (by omega); replace hq := hnew; replace hb := ho.bel _ _ (by omega) hb))
  refine bodyPost_ret (results_cell_row results63 _ _ (w.heap.size + 1) _ _ _ _ rfl hq underlying39 rfl size_vp) rfl ?_
  exact ⟨rfl, hb⟩
theorem wq_128_1 (s : V) (ok : s.Ok) (a v : Nat) (hv : v < 4294967296) (hs : s.se = 1) (hr0 : s.q1.rd = false) (h : a = 128) (w : World) :
    StViQue0 s a v w := by
  unfold StViQue0
  have HV : wqV s a v = (s.q1w (s.q1.rw' (s.q1.r.dew v))) := by rw [wqV_nr1 s a v (by omega) hs hr0]; unfold regV V.qw V.q; rw [hs]; subst h; rfl
  rw [HV]; clear HV
  have hse : ((s.se : Nat) : Int) = 1 := by omega
  clear hs
  subst h
  rw [show ((128 : Nat) : Int) = 128 from rfl]
  go_enter func63, ntmps63
  go_wp2_with (first | ((with_reducible refine bx_vp w.heap.size s ?_ ?_ ?_); exact rfl; exact rfl; intro W hr hb hz; have fx := hr.cell) | ((with_reducible refine al_vp (w.heap.size + 1) ?_ ?_); exact hz.out; intro W hq hb' hz'; replace hr := hr.bl (hz.out ▸ hb'); replace hb := hb.trans (hb'.mono (by omega)); replace hz := hz'; replace fx := hr.cell) | ((with_reducible refine st_de1 w.heap.size _ v _ hr ?_ ?_ ?_); exact rfl; exact rfl; intro W hnew ho; replace hq := hq.only ho (by omega); replace hr := hnew; replace hb := ho.bel _ _ (by omega) hb; (try clear fx)) | ((with_reducible refine ld_vp w.heap.size _ hr ?_ ?_ ?_); exact rfl; exact rfl) | ((with_reducible refine st_vp (w.heap.size + 1) _ (s.q1w (s.q1.rw' (s.q1.r.dew v))) hq ?_ ?_ ?_); exact rfl; exact rfl; intro W hnew ho; replace hr := hr.only ho (by omega); replace hq := hnew; replace hb := ho.bel _ _ (by omega) hb))
  refine bodyPost_ret (results_cell_row results63 _ _ (w.heap.size + 1) _ _ _ _ rfl hq underlying39 rfl size_vp) rfl ?_
  exact ⟨rfl, hb⟩
theorem wq_144_1 (s : V) (ok : s.Ok) (a v : Nat) (hv : v < 4294967296) (hs : s.se = 1) (hr0 : s.q1.rd = false) (h : a = 144) (w : World) :
    StViQue0 s a v w := by
  unfold StViQue0
  have HV : wqV s a v = (s.q1w (s.q1.rw' (s.q1.r.avw v))) := by rw [wqV_nr1 s a v (by omega) hs hr0]; unfold regV V.qw V.q; rw [hs]; subst h; rfl
  rw [HV]; clear HV
  have hse : ((s.se : Nat) : Int) = 1 := by omega
  clear hs
  subst h
  rw [show ((144 : Nat) : Int) = 144 from rfl]
  go_enter func63, ntmps63
  go_wp2_with (first | ((with_reducible refine bx_vp w.heap.size s ?_ ?_ ?_); exact rfl; exact rfl; intro W hr hb hz; have fx := hr.cell) | ((with_reducible refine al_vp (w.heap.size + 1) ?_ ?_); exact hz.out; intro W hq hb' hz'; replace hr := hr.bl (hz.out ▸ hb'); replace hb := hb.trans (hb'.mono (by omega)); replace hz := hz'; replace fx := hr.cell) | ((with_reducible refine st_av1 w.heap.size _ v _ hr ?_ ?_ ?_); exact rfl; exact rfl; intro W hnew ho; replace hq := hq.only ho (by omega); replace hr := hnew; replace hb := ho.bel _ _ (by omega) hb; (try clear fx)) | ((with_reducible refine ld_vp w.heap.size _ hr ?_ ?_ ?_); exact rfl; exact rfl) | ((with_reducible refine st_vp (w.heap.size + 1) _ (s.q1w (s.q1.rw' (s.q1.r.avw v))) hq ?_ ?_ ?_); exact rfl; exact rfl; intro W hnew ho; replace hr := hr.only ho (by omega); replace hq := hnew; replace hb := ho.bel _ _ (by omega) hb))
  refine bodyPost_ret (results_cell_row results63 _ _ (w.heap.size + 1) _ _ _ _ rfl hq underlying39 rfl size_vp) rfl ?_
  exact ⟨rfl, hb⟩
theorem wq_160_1 (s : V) (ok : s.Ok) (a v : Nat) (hv : v < 4294967296) (hs : s.se = 1) (hr0 : s.q1.rd = false) (h : a = 160) (w : World) :
    StViQue0 s a v w := by
  unfold StViQue0
  have HV : wqV s a v = (s.q1w (s.q1.rw' (s.q1.r.usw v))) := by rw [wqV_nr1 s a v (by omega) hs hr0]; unfold regV V.qw V.q; rw [hs]; subst h; rfl
  rw [HV]; clear HV
  have hse : ((s.se : Nat) : Int) = 1 := by omega
  clear hs
  subst h
  rw [show ((160 : Nat) : Int) = 160 from rfl]
  go_enter func63, ntmps63
  go_wp2_with (first | ((with_reducible refine bx_vp w.heap.size s ?_ ?_ ?_); exact rfl; exact rfl; intro W hr hb hz; have fx := hr.cell) | ((with_reducible refine al_vp (w.heap.size + 1) ?_ ?_); exact hz.out; intro W hq hb' hz'; replace hr := hr.bl (hz.out ▸ hb'); replace hb := hb.trans (hb'.mono (by omega)); replace hz := hz'; replace fx := hr.cell) | ((with_reducible refine st_us1 w.heap.size _ v _ hr ?_ ?_ ?_); exact rfl; exact rfl; intro W hnew ho; replace hq := hq.only ho (by omega); replace hr := hnew; replace hb := ho.bel _ _ (by omega) hb; (try clear fx)) | ((with_reducible refine ld_vp w.heap.size _ hr ?_ ?_ ?_); exact rfl; exact rfl) | ((with_reducible refine st_vp (w.heap.size + 1) _ (s.q1w (s.q1.rw' (s.q1.r.usw v))) hq ?_ ?_ ?_); exact rfl; exact rfl; intro W hnew ho; replace hr := hr.only ho (by omega); replace hq := hnew; replace hb := ho.bel _ _ (by omega) hb))
  refine bodyPost_ret (results_cell_row results63 _ _ (w.heap.size + 1) _ _ _ _ rfl hq underlying39 rfl size_vp) rfl ?_
  exact ⟨rfl, hb⟩
theorem wq_132z_1 (s : V) (ok : s.Ok) (a v : Nat) (hv : v < 4294967296) (hs : s.se = 1) (hr0 : s.q1.rd = false) (h : a = 132) (h2 : v = 0) (w : World) :
    StViQue0 s a v w := by
  unfold StViQue0
  have HV : wqV s a v = s := by rw [wqV_nr1 s a v (by omega) hs hr0]; unfold regV V.qw V.q; rw [hs]; subst h; subst h2; rfl
  rw [HV]; clear HV
  have hse : ((s.se : Nat) : Int) = 1 := by omega
  clear hs
  subst h2
  rw [show ((0 : Nat) : Int) = 0 from rfl]
  subst h
  rw [show ((132 : Nat) : Int) = 132 from rfl]
  go_enter func63, ntmps63
  go_wp2_with (first | ((with_reducible refine bx_vp w.heap.size s ?_ ?_ ?_); exact rfl; exact rfl; intro W hr hb hz; have fx := hr.cell) | ((with_reducible refine al_vp (w.heap.size + 1) ?_ ?_); exact hz.out; intro W hq hb' hz'; replace hr := hr.bl (hz.out ▸ hb'); replace hb := hb.trans (hb'.mono (by omega)); replace hz := hz'; replace fx := hr.cell) | ((with_reducible refine ld_vp w.heap.size _ hr ?_ ?_ ?_); exact rfl; exact rfl) | ((with_reducible refine st_vp (w.heap.size + 1) _ s hq ?_ ?_ ?_); exact rfl; exact rfl; intro W hnew ho; replace hr := hr.only ho (by omega); replace hq := hnew; replace hb := ho.bel _ _ (by omega) hb))
  refine bodyPost_ret (results_cell_row results63 _ _ (w.heap.size + 1) _ _ _ _ rfl hq underlying39 rfl size_vp) rfl ?_
  exact ⟨rfl, hb⟩
theorem wq_132f_1 (s : V) (ok : s.Ok) (a v : Nat) (hv : v < 4294967296) (hs : s.se = 1) (hr0 : s.q1.rd = false) (h : a = 132) (h2 : v ≠ 0) (w : World) :
    StViQue0 s a v w := by
  unfold StViQue0
  have HV : wqV s a v = failV s := by rw [wqV_nr1 s a v (by omega) hs hr0]; unfold regV V.qw V.q; rw [hs]; subst h; simp [h2]
  rw [HV]; clear HV
  have hse : ((s.se : Nat) : Int) = 1 := by omega
  have HF := hide (fun w => fail_any s ok w)
  generalize failV s = z at HF ⊢
  have lv : ((v : Int) != 0) = true := by simp; omega
  have lvb : (v != 0) = true := by simp; omega
  clear hs h2
  subst h
  rw [show ((132 : Nat) : Int) = 132 from rfl]
  go_enter func63, ntmps63
  go_wp2_with (first | ((with_reducible refine bx_vp w.heap.size s ?_ ?_ ?_); exact rfl; exact rfl; intro W hr hb hz; have fx := hr.cell) | ((with_reducible refine al_vp (w.heap.size + 1) ?_ ?_); exact hz.out; intro W hq hb' hz'; replace hr := hr.bl (hz.out ▸ hb'); replace hb := hb.trans (hb'.mono (by omega)); replace hz := hz'; replace fx := hr.cell) | (go_at_call 81; (with_reducible refine (HF.out _).mono ?_); rintro e W ⟨rfl, hbc⟩; replace hr := hr.bl hbc; replace hq := hq.bl hbc; replace fx := hr.cell; replace hb := below_bl rfl hb hbc) | ((with_reducible refine ld_vp w.heap.size _ hr ?_ ?_ ?_); exact rfl; exact rfl) | ((with_reducible refine st_vp (w.heap.size + 1) _ z hq ?_ ?_ ?_); exact rfl; exact rfl; intro W hnew ho; replace hr := hr.only ho (by omega); replace hq := hnew; replace hb := ho.bel _ _ (by omega) hb))
  refine bodyPost_ret (results_cell_row results63 _ _ (w.heap.size + 1) _ _ _ _ rfl hq underlying39 rfl size_vp) rfl ?_
  exact ⟨rfl, hb⟩
theorem wq_148z_1 (s : V) (ok : s.Ok) (a v : Nat) (hv : v < 4294967296) (hs : s.se = 1) (hr0 : s.q1.rd = false) (h : a = 148) (h2 : v = 0) (w : World) :
    StViQue0 s a v w := by
  unfold StViQue0
  have HV : wqV s a v = s := by rw [wqV_nr1 s a v (by omega) hs hr0]; unfold regV V.qw V.q; rw [hs]; subst h; subst h2; rfl
  rw [HV]; clear HV
  have hse : ((s.se : Nat) : Int) = 1 := by omega
  clear hs
  subst h2
  rw [show ((0 : Nat) : Int) = 0 from rfl]
  subst h
  rw [show ((148 : Nat) : Int) = 148 from rfl]
  go_enter func63, ntmps63
  go_wp2_with (first | ((with_reducible refine bx_vp w.heap.size s ?_ ?_ ?_); exact rfl; exact rfl; intro W hr hb hz; have fx := hr.cell) | ((with_reducible refine al_vp (w.heap.size + 1) ?_ ?_); exact hz.out; intro W hq hb' hz'; replace hr := hr.bl (hz.out ▸ hb'); replace hb := hb.trans (hb'.mono (by omega)); replace hz := hz'; replace fx := hr.cell) | ((with_reducible refine ld_vp w.heap.size _ hr ?_ ?_ ?_); exact rfl; exact rfl) | ((with_reducible refine st_vp (w.heap.size + 1) _ s hq ?_ ?_ ?_); exact rfl; exact rfl; intro W hnew ho; replace hr := hr.only ho (by omega); replace hq := hnew; replace hb := ho.bel _ _ (by omega) hb))
  refine bodyPost_ret (results_cell_row results63 _ _ (w.heap.size + 1) _ _ _ _ rfl hq underlying39 rfl size_vp) rfl ?_
  exact ⟨rfl, hb⟩
theorem wq_148f_1 (s : V) (ok : s.Ok) (a v : Nat) (hv : v < 4294967296) (hs : s.se = 1) (hr0 : s.q1.rd = false) (h : a = 148) (h2 : v ≠ 0) (w : World) :
    StViQue0 s a v w := by
  unfold StViQue0
  have HV : wqV s a v = failV s := by rw [wqV_nr1 s a v (by omega) hs hr0]; unfold regV V.qw V.q; rw [hs]; subst h; simp [h2]
  rw [HV]; clear HV
  have hse : ((s.se : Nat) : Int) = 1 := by omega
  have HF := hide (fun w => fail_any s ok w)
  generalize failV s = z at HF ⊢
  have lv : ((v : Int) != 0) = true := by simp; omega
  have lvb : (v != 0) = true := by simp; omega
  clear hs h2
  subst h
  rw [show ((148 : Nat) : Int) = 148 from rfl]
  go_enter func63, ntmps63
  go_wp2_with (first | ((with_reducible refine bx_vp w.heap.size s ?_ ?_ ?_); exact rfl; exact rfl; intro W hr hb hz; have fx := hr.cell) | ((with_reducible refine al_vp (w.heap.size + 1) ?_ ?_); exact hz.out; intro W hq hb' hz'; replace hr := hr.bl (hz.out ▸ hb'); replace hb := hb.trans (hb'.mono (by omega)); replace hz := hz'; replace fx := hr.cell) | (go_at_call 81; (with_reducible refine (HF.out _).mono ?_); rintro e W ⟨rfl, hbc⟩; replace hr := hr.bl hbc; replace hq := hq.bl hbc; replace fx := hr.cell; replace hb := below_bl rfl hb hbc) | ((with_reducible refine ld_vp w.heap.size _ hr ?_ ?_ ?_); exact rfl; exact rfl) | ((with_reducible refine st_vp (w.heap.size + 1) _ z hq ?_ ?_ ?_); exact rfl; exact rfl; intro W hnew ho; replace hr := hr.only ho (by omega); replace hq := hnew; replace hb := ho.bel _ _ (by omega) hb))
  refine bodyPost_ret (results_cell_row results63 _ _ (w.heap.size + 1) _ _ _ _ rfl hq underlying39 rfl size_vp) rfl ?_
  exact ⟨rfl, hb⟩
theorem wq_164z_1 (s : V) (ok : s.Ok) (a v : Nat) (hv : v < 4294967296) (hs : s.se = 1) (hr0 : s.q1.rd = false) (h : a = 164) (h2 : v = 0) (w : World) :
    StViQue0 s a v w := by
  unfold StViQue0
  have HV : wqV s a v = s := by rw [wqV_nr1 s a v (by omega) hs hr0]; unfold regV V.qw V.q; rw [hs]; subst h; subst h2; rfl
  rw [HV]; clear HV
  have hse : ((s.se : Nat) : Int) = 1 := by omega
  clear hs
  subst h2
  rw [show ((0 : Nat) : Int) = 0 from rfl]
  subst h
  rw [show ((164 : Nat) : Int) = 164 from rfl]
  go_enter func63, ntmps63
  go_wp2_with (first | ((with_reducible refine bx_vp w.heap.size s ?_ ?_ ?_); exact rfl; exact rfl; intro W hr hb hz; have fx := hr.cell) | ((with_reducible refine al_vp (w.heap.size + 1) ?_ ?_); exact hz.out; intro W hq hb' hz'; replace hr := hr.bl (hz.out ▸ hb'); replace hb := hb.trans (hb'.mono (by omega)); replace hz := hz'; replace fx := hr.cell) | ((with_reducible refine ld_vp w.heap.size _ hr ?_ ?_ ?_); exact rfl; exact rfl) | ((with_reducible refine st_vp (w.heap.size + 1) _ s hq ?_ ?_ ?_); exact rfl; exact rfl; intro W hnew ho; replace hr := hr.only ho (by omega); replace hq := hnew; replace hb := ho.bel _ _ (by omega) hb))
  refine bodyPost_ret (results_cell_row results63 _ _ (w.heap.size + 1) _ _ _ _ rfl hq underlying39 rfl size_vp) rfl ?_
  exact ⟨rfl, hb⟩
theorem wq_164f_1 (s : V) (ok : s.Ok) (a v : Nat) (hv : v < 4294967296) (hs : s.se = 1) (hr0 : s.q1.rd = false) (h : a = 164) (h2 : v ≠ 0) (w : World) :
    StViQue0 s a v w := by
  unfold StViQue0
  have HV : wqV s a v = failV s := by rw [wqV_nr1 s a v (by omega) hs hr0]; unfold regV V.qw V.q; rw [hs]; subst h; simp [h2]
  rw [HV]; clear HV
  have hse : ((s.se : Nat) : Int) = 1 := by omega
  have HF := hide (fun w => fail_any s ok w)
  generalize failV s = z at HF ⊢
  have lv : ((v : Int) != 0) = true := by simp; omega
  have lvb : (v != 0) = true := by simp; omega
  clear hs h2
  subst h
  rw [show ((164 : Nat) : Int) = 164 from rfl]
  go_enter func63, ntmps63
  go_wp2_with (first | ((with_reducible refine bx_vp w.heap.size s ?_ ?_ ?_); exact rfl; exact rfl; intro W hr hb hz; have fx := hr.cell) | ((with_reducible refine al_vp (w.heap.size + 1) ?_ ?_); exact hz.out; intro W hq hb' hz'; replace hr := hr.bl (hz.out ▸ hb'); replace hb := hb.trans (hb'.mono (by omega)); replace hz := hz'; replace fx := hr.cell) | (go_at_call 81; (with_reducible refine (HF.out _).mono ?_); rintro e W ⟨rfl, hbc⟩; replace hr := hr.bl hbc; replace hq := hq.bl hbc; replace fx := hr.cell; replace hb := below_bl rfl hb hbc) | ((with_reducible refine ld_vp w.heap.size _ hr ?_ ?_ ?_); exact rfl; exact rfl) | ((with_reducible refine st_vp (w.heap.size + 1) _ z hq ?_ ?_ ?_); exact rfl; exact rfl; intro W hnew ho; replace hr := hr.only ho (by omega); replace hq := hnew; replace hb := ho.bel _ _ (by omega) hb))
  refine bodyPost_ret (results_cell_row results63 _ _ (w.heap.size + 1) _ _ _ _ rfl hq underlying39 rfl size_vp) rfl ?_
  exact ⟨rfl, hb⟩
theorem wq_o1 (s : V) (ok : s.Ok) (a v : Nat) (hv : v < 4294967296) (hs : s.se = 1) (hr0 : s.q1.rd = false) (n68 : a ≠ 68) (n56 : a ≠ 56) (n128 : a ≠ 128) (n144 : a ≠ 144) (n160 : a ≠ 160) (n132 : a ≠ 132) (n148 : a ≠ 148) (n164 : a ≠ 164) (w : World) :
    StViQue0 s a v w := by
  unfold StViQue0
  have HV : wqV s a v = s := by rw [wqV_nr1 s a v (by omega) hs hr0]; unfold regV V.qw V.q; rw [hs]; rw [if_neg n56, if_neg n128, if_neg n144, if_neg n160, if_neg (by omega)]
  rw [HV]; clear HV
  have hse : ((s.se : Nat) : Int) = 1 := by omega
  have l68 : ((a : Int) == 68) = false := by simp; omega
  have m68 : (a == 68) = false := by simp; omega
  have l56 : ((a : Int) == 56) = false := by simp; omega
  have m56 : (a == 56) = false := by simp; omega
  have l128 : ((a : Int) == 128) = false := by simp; omega
  have m128 : (a == 128) = false := by simp; omega
  have l144 : ((a : Int) == 144) = false := by simp; omega
  have m144 : (a == 144) = false := by simp; omega
  have l160 : ((a : Int) == 160) = false := by simp; omega
  have m160 : (a == 160) = false := by simp; omega
  have l132 : ((a : Int) == 132) = false := by simp; omega
  have m132 : (a == 132) = false := by simp; omega
  have l148 : ((a : Int) == 148) = false := by simp; omega
  have m148 : (a == 148) = false := by simp; omega
  have l164 : ((a : Int) == 164) = false := by simp; omega
  have m164 : (a == 164) = false := by simp; omega
  clear hs n68 n56 n128 n144 n160 n132 n148 n164
  go_enter func63, ntmps63
  go_wp2_with (first | ((with_reducible refine bx_vp w.heap.size s ?_ ?_ ?_); exact rfl; exact rfl; intro W hr hb hz; have fx := hr.cell) | ((with_reducible refine al_vp (w.heap.size + 1) ?_ ?_); exact hz.out; intro W hq hb' hz'; replace hr := hr.bl (hz.out ▸ hb'); replace hb := hb.trans (hb'.mono (by omega)); replace hz := hz'; replace fx := hr.cell) | ((with_reducible refine ld_vp w.heap.size _ hr ?_ ?_ ?_); exact rfl; exact rfl) | ((with_reducible refine st_vp (w.heap.size + 1) _ s hq ?_ ?_ ?_); exact rfl; exact rfl; intro W hnew ho; replace hr := hr.only ho (by omega); replace hq := hnew; replace hb := ho.bel _ _ (by omega) hb))
  refine bodyPost_ret (results_cell_row results63 _ _ (w.heap.size + 1) _ _ _ _ rfl hq underlying39 rfl size_vp) rfl ?_
  exact ⟨rfl, hb⟩
theorem wq_any (s : V) (ok : s.Ok) (a v : Nat) (hv : v < 4294967296) (hs : s.se < 2) (w : World) : Calls prog 63 #[.agg s.cells, .int .u32 (a : Nat), .int .u32 (v : Nat)] w fun e w' => e = .returned (.agg (wqV s a v).cells) ∧ Below w.heap.size w w' := by
  by_cases n68 : a = 68
  · exact wq_68 s ok a v hv hs n68 w
  by_cases hs0 : s.se = 0
  · cases hr0 : s.q0.rd with
    | true => exact wq_r0 s ok a v hv hs0 n68 hr0 w
    | false =>
      by_cases n56 : a = 56
      · by_cases h2 : v ≤ 256
        · exact wq_sa0 s ok a v hv hs0 hr0 n56 h2 w
        · exact wq_sb0 s ok a v hv hs0 hr0 n56 (by omega) w
      by_cases n128 : a = 128
      · exact wq_128_0 s ok a v hv hs0 hr0 n128 w
      by_cases n144 : a = 144
      · exact wq_144_0 s ok a v hv hs0 hr0 n144 w
      by_cases n160 : a = 160
      · exact wq_160_0 s ok a v hv hs0 hr0 n160 w
      by_cases n132 : a = 132
      · by_cases h2 : v = 0
        · exact wq_132z_0 s ok a v hv hs0 hr0 n132 h2 w
        · exact wq_132f_0 s ok a v hv hs0 hr0 n132 h2 w
      by_cases n148 : a = 148
      · by_cases h2 : v = 0
        · exact wq_148z_0 s ok a v hv hs0 hr0 n148 h2 w
        · exact wq_148f_0 s ok a v hv hs0 hr0 n148 h2 w
      by_cases n164 : a = 164
      · by_cases h2 : v = 0
        · exact wq_164z_0 s ok a v hv hs0 hr0 n164 h2 w
        · exact wq_164f_0 s ok a v hv hs0 hr0 n164 h2 w
      exact wq_o0 s ok a v hv hs0 hr0 n68 n56 n128 n144 n160 n132 n148 n164 w
  by_cases hs1 : s.se = 1
  · cases hr0 : s.q1.rd with
    | true => exact wq_r1 s ok a v hv hs1 n68 hr0 w
    | false =>
      by_cases n56 : a = 56
      · by_cases h2 : v ≤ 256
        · exact wq_sa1 s ok a v hv hs1 hr0 n56 h2 w
        · exact wq_sb1 s ok a v hv hs1 hr0 n56 (by omega) w
      by_cases n128 : a = 128
      · exact wq_128_1 s ok a v hv hs1 hr0 n128 w
      by_cases n144 : a = 144
      · exact wq_144_1 s ok a v hv hs1 hr0 n144 w
      by_cases n160 : a = 160
      · exact wq_160_1 s ok a v hv hs1 hr0 n160 w
      by_cases n132 : a = 132
      · by_cases h2 : v = 0
        · exact wq_132z_1 s ok a v hv hs1 hr0 n132 h2 w
        · exact wq_132f_1 s ok a v hv hs1 hr0 n132 h2 w
      by_cases n148 : a = 148
      · by_cases h2 : v = 0
        · exact wq_148z_1 s ok a v hv hs1 hr0 n148 h2 w
        · exact wq_148f_1 s ok a v hv hs1 hr0 n148 h2 w
      by_cases n164 : a = 164
      · by_cases h2 : v = 0
        · exact wq_164z_1 s ok a v hv hs1 hr0 n164 h2 w
        · exact wq_164f_1 s ok a v hv hs1 hr0 n164 h2 w
      exact wq_o1 s ok a v hv hs1 hr0 n68 n56 n128 n144 n160 n132 n148 n164 w
  · omega
end Go.Proofs.YtbggkoahofnnjaaGreatDoor
