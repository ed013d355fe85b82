/-
  The document's Write: the queue 0.
-/
import Derived.Test.YtbggkoahofnnjaaGreatDoorJR11
open Go.Proofs.Tryz
set_option linter.unusedVariables false
set_option linter.unusedSimpArgs false
namespace Go.Proofs.YtbggkoahofnnjaaGreatDoor
open Go.RowKit
set_option maxRecDepth 20000
set_option maxHeartbeats 2000000
attribute [local go_sem] V.at0 V.at1 V.at2 V.at3 V.at4 V.at5 V.at6 V.at7 V.at8 V.at9 V.at10 V.at11 V.at12 V.at13 V.at14 V.at15 V.at16 V.at17 V.at18 V.at19 V.at20 Qu.at0 Qu.at1 Qu.at2 Qu.at3 Qu.at4 Qu.at5 Qu.at6
def StViRWrD0 (s : V) (a : Nat) (v : Nat) (w : World) : Prop := Calls prog 27 #[.agg s.cells, .int .u32 (a : Nat), .int .u32 (v : Nat)] w fun e w' => e = .returned (.tuple #[.agg (writeV s a v).1.cells, .int .i64 (writeV s a v).2.1, .int .i64 ((writeV s a v).2.2 : Nat)]) ∧ Below w.heap.size w w'
theorem rwd_z0 (s : V) (ok : s.Ok) (a v : Nat) (hv : v < 4294967296) (hm : accV s a = 0) (hs : s.se = 0) (h : a = 68) (h2 : v = 0) (w : World) :
    StViRWrD0 s a v w := by
  unfold StViRWrD0
  have HV : writeV s a v = ((s.q0w (s.q0.rdw false)), -1, 0) := by rw [wqV_w hm (by omega) (by omega)]; unfold wqV; rw [if_pos h]; unfold rdyV V.qw V.q; rw [hs]; subst h2; rfl
  rw [HV]; clear HV
  have HC := hide (fun w => rvcheck_any s ok w)
  rw [(accV_ok hm).1] at HC
  replace HC : Hid (∀ w, Calls prog 14 #[.agg s.cells] w fun e w' => e = .returned (.int .i64 0) ∧ Below w.heap.size w w') := HC
  have hse : ((s.se : Nat) : Int) = 0 := by omega
  clear hs
  subst h2
  rw [show ((0 : Nat) : Int) = 0 from rfl]
  subst h
  rw [show ((68 : Nat) : Int) = 68 from rfl]
  go_enter func27, ntmps27
  go_wp2_with (first | ((with_reducible refine bx_vr w.heap.size s ?_ ?_ ?_); exact rfl; exact rfl; intro W hr hb hz; have fx := hr.cell) | ((with_reducible refine al_vr (w.heap.size + 1) ?_ ?_); exact hz.out; intro W hq hb' hz'; replace hr := hr.bl (hz.out ▸ hb'); replace hb := hb.trans (hb'.mono (by omega)); replace hz := hz'; replace fx := hr.cell) | (go_at_call 14; (with_reducible refine (HC.out _).mono ?_); rintro e W ⟨rfl, hbc⟩; replace hr := hr.bl hbc; replace hq := hq.bl hbc; replace fx := hr.cell; replace hb := below_bl rfl hb hbc) | ((with_reducible refine ld_se w.heap.size _ _ hr ?_ ?_ ?_); exact rfl; exact rfl) | ((with_reducible refine ld_q0r w.heap.size _ _ hr ?_ ?_ ?_); exact rfl; exact rfl) | (obtain ⟨NQ, hNQ⟩ : ∃ n, W.heap.size = n := ⟨_, rfl⟩; have lNQ : w.heap.size + 2 ≤ NQ := (by (have := hq.lt; omega)); (with_reducible refine al_qr NQ ?_ ?_); exact hNQ; intro W hu hb' hz'; replace hr := hr.bl (hNQ ▸ hb'); replace hq := hq.bl (hNQ ▸ hb'); replace hb := hb.trans (hb'.mono (by omega)); clear hNQ hb' hz'; (try clear fx)) | ((with_reducible refine st_qr NQ _ s.q0 hu ?_ ?_ ?_); exact rfl; exact rfl; intro W hnew ho; replace hr := hr.only ho (by omega); replace hq := hq.only ho (by omega); replace hu := hnew; replace hb := ho.bel _ _ (by omega) hb) | ((with_reducible refine st_urd NQ _ false _ hu ?_ ?_ ?_); exact rfl; exact rfl; intro W hnew ho; replace hr := hr.only ho (by omega); replace hq := hq.only ho (by omega); replace hu := hnew; replace hb := ho.bel _ _ (by omega) hb) | ((with_reducible refine ld_qr NQ _ hu ?_ ?_ ?_); exact rfl; exact rfl) | ((with_reducible refine st_q0r w.heap.size _ (s.q0.rdw false) _ hr ?_ ?_ ?_); exact rfl; exact rfl; intro W hnew ho; replace hq := hq.only ho (by omega); replace hu := hu.only ho (by omega); replace hr := hnew; replace hb := ho.bel _ _ (by omega) hb) | ((with_reducible refine ld_vr w.heap.size _ hr ?_ ?_ ?_); exact rfl; exact rfl) | ((with_reducible refine st_vr (w.heap.size + 1) _ (s.q0w (s.q0.rdw false)) hq ?_ ?_ ?_); exact rfl; exact rfl; intro W hnew ho; replace hr := hr.only ho (by omega); replace hq := hnew; replace hb := ho.bel _ _ (by omega) hb))
  all_goals (refine bodyPost_ret (results_cell_two' results27 _ _ (w.heap.size + 1) _ _ _ rfl hq underlying31 rfl size_vr) rfl ?_; exact ⟨rfl, hb⟩)
theorem rwd_f0 (s : V) (ok : s.Ok) (a v : Nat) (hv : v < 4294967296) (hm : accV s a = 0) (hs : s.se = 0) (h : a = 68) (h2 : v = 1) (hc : chkR s.q0.r = false) (w : World) :
    StViRWrD0 s a v w := by
  unfold StViRWrD0
  have HV : writeV s a v = (failV s, -1, 0) := by rw [wqV_w hm (by omega) (by omega)]; unfold wqV; rw [if_pos h]; unfold rdyV V.qw V.q; rw [hs]; subst h2; simp [hc]
  rw [HV]; clear HV
  have HC := hide (fun w => rvcheck_any s ok w)
  rw [(accV_ok hm).1] at HC
  replace HC : Hid (∀ w, Calls prog 14 #[.agg s.cells] w fun e w' => e = .returned (.int .i64 0) ∧ Below w.heap.size w w') := HC
  have hse : ((s.se : Nat) : Int) = 0 := by omega
  have HD := hide (fun w => dcheck_any s.q0.r ok.q0 w)
  rw [hc] at HD
  replace HD : Hid (∀ w, Calls prog 31 #[.agg s.q0.r.cells] w fun e w' => e = .returned (.int .i64 1) ∧ Below w.heap.size w w') := HD
  have HF := hide (fun w => rfail_any s ok w)
  generalize failV s = z at HF ⊢
  clear hs
  subst h2
  rw [show ((1 : Nat) : Int) = 1 from rfl]
  subst h
  rw [show ((68 : Nat) : Int) = 68 from rfl]
  go_enter func27, ntmps27
  go_wp2_with (first | ((with_reducible refine bx_vr w.heap.size s ?_ ?_ ?_); exact rfl; exact rfl; intro W hr hb hz; have fx := hr.cell) | ((with_reducible refine al_vr (w.heap.size + 1) ?_ ?_); exact hz.out; intro W hq hb' hz'; replace hr := hr.bl (hz.out ▸ hb'); replace hb := hb.trans (hb'.mono (by omega)); replace hz := hz'; replace fx := hr.cell) | (go_at_call 14; (with_reducible refine (HC.out _).mono ?_); rintro e W ⟨rfl, hbc⟩; replace hr := hr.bl hbc; replace hq := hq.bl hbc; replace fx := hr.cell; replace hb := below_bl rfl hb hbc) | ((with_reducible refine ld_se w.heap.size _ _ hr ?_ ?_ ?_); exact rfl; exact rfl) | ((with_reducible refine ld_q0r w.heap.size _ _ hr ?_ ?_ ?_); exact rfl; exact rfl) | (obtain ⟨NQ, hNQ⟩ : ∃ n, W.heap.size = n := ⟨_, rfl⟩; have lNQ : w.heap.size + 2 ≤ NQ := (by (have := hq.lt; omega)); (with_reducible refine al_qr NQ ?_ ?_); exact hNQ; intro W hu hb' hz'; replace hr := hr.bl (hNQ ▸ hb'); replace hq := hq.bl (hNQ ▸ hb'); replace hb := hb.trans (hb'.mono (by omega)); clear hNQ hb' hz'; (try clear fx)) | ((with_reducible refine st_qr NQ _ s.q0 hu ?_ ?_ ?_); exact rfl; exact rfl; intro W hnew ho; replace hr := hr.only ho (by omega); replace hq := hq.only ho (by omega); replace hu := hnew; replace hb := ho.bel _ _ (by omega) hb) | ((with_reducible refine ld_qurr NQ _ _ hu ?_ ?_ ?_); exact rfl; exact rfl) | (go_at_call 31; (with_reducible refine (HD.out _).mono ?_); rintro e W ⟨rfl, hbc⟩; replace hr := hr.bl hbc; replace hq := hq.bl hbc; replace hu := hu.bl hbc; replace hb := below_bl rfl hb hbc) | (go_at_call 46; (with_reducible refine (HF.out _).mono ?_); rintro e W ⟨rfl, hbc⟩; replace hr := hr.bl hbc; replace hq := hq.bl hbc; replace hu := hu.bl hbc; replace hb := below_bl rfl hb hbc) | ((with_reducible refine ld_vr w.heap.size _ hr ?_ ?_ ?_); exact rfl; exact rfl) | ((with_reducible refine st_vr (w.heap.size + 1) _ z hq ?_ ?_ ?_); exact rfl; exact rfl; intro W hnew ho; replace hr := hr.only ho (by omega); replace hq := hnew; replace hb := ho.bel _ _ (by omega) hb))
  all_goals (refine bodyPost_ret (results_cell_two' results27 _ _ (w.heap.size + 1) _ _ _ rfl hq underlying31 rfl size_vr) rfl ?_; exact ⟨rfl, hb⟩)
theorem rwd_t0 (s : V) (ok : s.Ok) (a v : Nat) (hv : v < 4294967296) (hm : accV s a = 0) (hs : s.se = 0) (h : a = 68) (h2 : v = 1) (hc : chkR s.q0.r = true) (w : World) :
    StViRWrD0 s a v w := by
  unfold StViRWrD0
  have HV : writeV s a v = ((s.q0w ⟨true, (s.q0.r.law 0).puw 0⟩), -1, 0) := by rw [wqV_w hm (by omega) (by omega)]; unfold wqV; rw [if_pos h]; unfold rdyV V.qw V.q; rw [hs]; subst h2; simp [hc]
  rw [HV]; clear HV
  have HC := hide (fun w => rvcheck_any s ok w)
  rw [(accV_ok hm).1] at HC
  replace HC : Hid (∀ w, Calls prog 14 #[.agg s.cells] w fun e w' => e = .returned (.int .i64 0) ∧ Below w.heap.size w w') := HC
  have hse : ((s.se : Nat) : Int) = 0 := by omega
  have HD := hide (fun w => dcheck_any s.q0.r ok.q0 w)
  rw [hc] at HD
  replace HD : Hid (∀ w, Calls prog 31 #[.agg s.q0.r.cells] w fun e w' => e = .returned (.int .i64 0) ∧ Below w.heap.size w w') := HD
  clear hs
  subst h2
  rw [show ((1 : Nat) : Int) = 1 from rfl]
  subst h
  rw [show ((68 : Nat) : Int) = 68 from rfl]
  go_enter func27, ntmps27
  go_wp2_with (first | ((with_reducible refine bx_vr w.heap.size s ?_ ?_ ?_); exact rfl; exact rfl; intro W hr hb hz; have fx := hr.cell) | ((with_reducible refine al_vr (w.heap.size + 1) ?_ ?_); exact hz.out; intro W hq hb' hz'; replace hr := hr.bl (hz.out ▸ hb'); replace hb := hb.trans (hb'.mono (by omega)); replace hz := hz'; replace fx := hr.cell) | (go_at_call 14; (with_reducible refine (HC.out _).mono ?_); rintro e W ⟨rfl, hbc⟩; replace hr := hr.bl hbc; replace hq := hq.bl hbc; replace fx := hr.cell; replace hb := below_bl rfl hb hbc) | ((with_reducible refine ld_se w.heap.size _ _ hr ?_ ?_ ?_); exact rfl; exact rfl) | ((with_reducible refine ld_q0r w.heap.size _ _ hr ?_ ?_ ?_); exact rfl; exact rfl) | (obtain ⟨NQ, hNQ⟩ : ∃ n, W.heap.size = n := ⟨_, rfl⟩; have lNQ : w.heap.size + 2 ≤ NQ := (by (have := hq.lt; omega)); (with_reducible refine al_qr NQ ?_ ?_); exact hNQ; intro W hu hb' hz'; replace hr := hr.bl (hNQ ▸ hb'); replace hq := hq.bl (hNQ ▸ hb'); replace hb := hb.trans (hb'.mono (by omega)); clear hNQ hb' hz'; (try clear fx)) | ((with_reducible refine st_qr NQ _ s.q0 hu ?_ ?_ ?_); exact rfl; exact rfl; intro W hnew ho; replace hr := hr.only ho (by omega); replace hq := hq.only ho (by omega); replace hu := hnew; replace hb := ho.bel _ _ (by omega) hb) | ((with_reducible refine ld_qurr NQ _ _ hu ?_ ?_ ?_); exact rfl; exact rfl) | (go_at_call 31; (with_reducible refine (HD.out _).mono ?_); rintro e W ⟨rfl, hbc⟩; replace hr := hr.bl hbc; replace hq := hq.bl hbc; replace hu := hu.bl hbc; replace hb := below_bl rfl hb hbc) | ((with_reducible refine ld_usz NQ _ _ hu ?_ ?_ ?_); exact rfl; exact rfl) | ((with_reducible refine ld_ude NQ _ _ hu ?_ ?_ ?_); exact rfl; exact rfl) | ((with_reducible refine ld_uav NQ _ _ hu ?_ ?_ ?_); exact rfl; exact rfl) | ((with_reducible refine ld_uus NQ _ _ hu ?_ ?_ ?_); exact rfl; exact rfl) | ((with_reducible refine bd_rr4 s.q0.r ?_ ?_ ?_ ?_ ?_); exact rfl; exact rfl; exact rfl; exact rfl) | ((with_reducible refine bd_qr2 ((s.q0.r.law 0).puw 0) ?_ ?_ ?_); exact rfl; exact rfl) | ((with_reducible refine st_qr NQ _ ⟨true, (s.q0.r.law 0).puw 0⟩ hu ?_ ?_ ?_); exact rfl; exact rfl; intro W hnew ho; replace hr := hr.only ho (by omega); replace hq := hq.only ho (by omega); replace hu := hnew; replace hb := ho.bel _ _ (by omega) hb) | ((with_reducible refine ld_qr NQ _ hu ?_ ?_ ?_); exact rfl; exact rfl) | ((with_reducible refine st_q0r w.heap.size _ ⟨true, (s.q0.r.law 0).puw 0⟩ _ hr ?_ ?_ ?_); exact rfl; exact rfl; intro W hnew ho; replace hq := hq.only ho (by omega); replace hu := hu.only ho (by omega); replace hr := hnew; replace hb := ho.bel _ _ (by omega) hb) | ((with_reducible refine ld_vr w.heap.size _ hr ?_ ?_ ?_); exact rfl; exact rfl) | ((with_reducible refine st_vr (w.heap.size + 1) _ (s.q0w ⟨true, (s.q0.r.law 0).puw 0⟩) hq ?_ ?_ ?_); exact rfl; exact rfl; intro W hnew ho; replace hr := hr.only ho (by omega); replace hq := hnew; replace hb := ho.bel _ _ (by omega) hb))
  all_goals (refine bodyPost_ret (results_cell_two' results27 _ _ (w.heap.size + 1) _ _ _ rfl hq underlying31 rfl size_vr) rfl ?_; exact ⟨rfl, hb⟩)
theorem rwd_o0 (s : V) (ok : s.Ok) (a v : Nat) (hv : v < 4294967296) (hm : accV s a = 0) (hs : s.se = 0) (h : a = 68) (n0 : v ≠ 0) (n1 : v ≠ 1) (w : World) :
    StViRWrD0 s a v w := by
  unfold StViRWrD0
  have HV : writeV s a v = (s, -1, 0) := by rw [wqV_w hm (by omega) (by omega)]; unfold wqV; rw [if_pos h]; unfold rdyV V.qw V.q; rw [hs]; rw [if_neg n1, if_neg n0]
  rw [HV]; clear HV
  have HC := hide (fun w => rvcheck_any s ok w)
  rw [(accV_ok hm).1] at HC
  replace HC : Hid (∀ w, Calls prog 14 #[.agg s.cells] w fun e w' => e = .returned (.int .i64 0) ∧ Below w.heap.size w w') := HC
  have hse : ((s.se : Nat) : Int) = 0 := by omega
  have v0 : ((v : Int) == 0) = false := by simp; omega
  have v0b : (v == 0) = false := by simp; omega
  have v1 : ((v : Int) == 1) = false := by simp; omega
  have v1b : (v == 1) = false := by simp; omega
  clear hs n0 n1
  subst h
  rw [show ((68 : Nat) : Int) = 68 from rfl]
  go_enter func27, ntmps27
  go_wp2_with (first | ((with_reducible refine bx_vr w.heap.size s ?_ ?_ ?_); exact rfl; exact rfl; intro W hr hb hz; have fx := hr.cell) | ((with_reducible refine al_vr (w.heap.size + 1) ?_ ?_); exact hz.out; intro W hq hb' hz'; replace hr := hr.bl (hz.out ▸ hb'); replace hb := hb.trans (hb'.mono (by omega)); replace hz := hz'; replace fx := hr.cell) | (go_at_call 14; (with_reducible refine (HC.out _).mono ?_); rintro e W ⟨rfl, hbc⟩; replace hr := hr.bl hbc; replace hq := hq.bl hbc; replace fx := hr.cell; replace hb := below_bl rfl hb hbc) | ((with_reducible refine ld_se w.heap.size _ _ hr ?_ ?_ ?_); exact rfl; exact rfl) | ((with_reducible refine ld_q0r w.heap.size _ _ hr ?_ ?_ ?_); exact rfl; exact rfl) | (obtain ⟨NQ, hNQ⟩ : ∃ n, W.heap.size = n := ⟨_, rfl⟩; have lNQ : w.heap.size + 2 ≤ NQ := (by (have := hq.lt; omega)); (with_reducible refine al_qr NQ ?_ ?_); exact hNQ; intro W hu hb' hz'; replace hr := hr.bl (hNQ ▸ hb'); replace hq := hq.bl (hNQ ▸ hb'); replace hb := hb.trans (hb'.mono (by omega)); clear hNQ hb' hz'; (try clear fx)) | ((with_reducible refine st_qr NQ _ s.q0 hu ?_ ?_ ?_); exact rfl; exact rfl; intro W hnew ho; replace hr := hr.only ho (by omega); replace hq := hq.only ho (by omega); replace hu := hnew; replace hb := ho.bel _ _ (by omega) hb) | ((with_reducible refine ld_qr NQ _ hu ?_ ?_ ?_); exact rfl; exact rfl) | ((with_reducible refine st_q0r w.heap.size _ s.q0 _ hr ?_ ?_ ?_); exact rfl; exact rfl; intro W hnew ho; replace hq := hq.only ho (by omega); replace hu := hu.only ho (by omega); replace hr := hnew; replace hb := ho.bel _ _ (by omega) hb) | ((with_reducible refine ld_vr w.heap.size _ hr ?_ ?_ ?_); exact rfl; exact rfl) | ((with_reducible refine st_vr (w.heap.size + 1) _ s hq ?_ ?_ ?_); exact rfl; exact rfl; intro W hnew ho; replace hr := hr.only ho (by omega); replace hq := hnew; replace hb := ho.bel _ _ (by omega) hb))
  all_goals (refine bodyPost_ret (results_cell_two' results27 _ _ (w.heap.size + 1) _ _ _ rfl hq underlying31 rfl size_vr) rfl ?_; exact ⟨rfl, hb⟩)
theorem rwd_r0 (s : V) (ok : s.Ok) (a v : Nat) (hv : v < 4294967296) (hm : accV s a = 0) (hs : s.se = 0) (n20 : a ≠ 20) (n36 : a ≠ 36) (n32 : a ≠ 32) (n48 : a ≠ 48) (n80 : a ≠ 80) (n100 : a ≠ 100) (n112 : a ≠ 112) (n68 : a ≠ 68) (hr0 : s.q0.rd = true) (w : World) :
    StViRWrD0 s a v w := by
  unfold StViRWrD0
  have HV : writeV s a v = (s, -1, 0) := by rw [wqV_w hm (by omega) (by omega)]; unfold wqV; rw [if_neg n68, show s.q s.se = s.q0 by rw [hs]; rfl, if_pos hr0]
  rw [HV]; clear HV
  have HC := hide (fun w => rvcheck_any s ok w)
  rw [(accV_ok hm).1] at HC
  replace HC : Hid (∀ w, Calls prog 14 #[.agg s.cells] w fun e w' => e = .returned (.int .i64 0) ∧ Below w.heap.size w w') := HC
  have hse : ((s.se : Nat) : Int) = 0 := by omega
  have hA := accV_ok hm
  have h256 := hA.2.1
  have h4 := hA.2.2
  have g1 : decide ((a : Int) > 255) = false := by simp; omega
  have g2 : decide ((255 : Int) < (a : Int)) = false := by simp; omega
  have g3 : decide (255 < a) = false := by simp; omega
  have o1 : (((a : Int) % 4) != 0) = false := by simp; omega
  have o2 : ((((a % 4 : Nat)) : Int) != 0) = false := by simp; omega
  clear hA h4
  have l20 : ((a : Int) == 20) = false := by simp; omega
  have m20 : (a == 20) = false := by simp; omega
  have l36 : ((a : Int) == 36) = false := by simp; omega
  have m36 : (a == 36) = false := by simp; omega
  have l32 : ((a : Int) == 32) = false := by simp; omega
  have m32 : (a == 32) = false := by simp; omega
  have l48 : ((a : Int) == 48) = false := by simp; omega
  have m48 : (a == 48) = false := by simp; omega
  have l80 : ((a : Int) == 80) = false := by simp; omega
  have m80 : (a == 80) = false := by simp; omega
  have l100 : ((a : Int) == 100) = false := by simp; omega
  have m100 : (a == 100) = false := by simp; omega
  have l112 : ((a : Int) == 112) = false := by simp; omega
  have m112 : (a == 112) = false := by simp; omega
  have l68 : ((a : Int) == 68) = false := by simp; omega
  have m68 : (a == 68) = false := by simp; omega
  clear hs n20 n36 n32 n48 n80 n100 n112 n68
  go_enter func27, ntmps27
  go_wp2_with (first | ((with_reducible refine bx_vr w.heap.size s ?_ ?_ ?_); exact rfl; exact rfl; intro W hr hb hz; have fx := hr.cell) | ((with_reducible refine al_vr (w.heap.size + 1) ?_ ?_); exact hz.out; intro W hq hb' hz'; replace hr := hr.bl (hz.out ▸ hb'); replace hb := hb.trans (hb'.mono (by omega)); replace hz := hz'; replace fx := hr.cell) | (go_at_call 14; (with_reducible refine (HC.out _).mono ?_); rintro e W ⟨rfl, hbc⟩; replace hr := hr.bl hbc; replace hq := hq.bl hbc; replace fx := hr.cell; replace hb := below_bl rfl hb hbc) | ((with_reducible refine ld_se w.heap.size _ _ hr ?_ ?_ ?_); exact rfl; exact rfl) | ((with_reducible refine ld_q0r w.heap.size _ _ hr ?_ ?_ ?_); exact rfl; exact rfl) | (obtain ⟨NQ, hNQ⟩ : ∃ n, W.heap.size = n := ⟨_, rfl⟩; have lNQ : w.heap.size + 2 ≤ NQ := (by (have := hq.lt; omega)); (with_reducible refine al_qr NQ ?_ ?_); exact hNQ; intro W hu hb' hz'; replace hr := hr.bl (hNQ ▸ hb'); replace hq := hq.bl (hNQ ▸ hb'); replace hb := hb.trans (hb'.mono (by omega)); clear hNQ hb' hz'; (try clear fx)) | ((with_reducible refine st_qr NQ _ s.q0 hu ?_ ?_ ?_); exact rfl; exact rfl; intro W hnew ho; replace hr := hr.only ho (by omega); replace hq := hq.only ho (by omega); replace hu := hnew; replace hb := ho.bel _ _ (by omega) hb; have fu := hu.cell) | ((with_reducible refine ld_vr w.heap.size _ hr ?_ ?_ ?_); exact rfl; exact rfl) | ((with_reducible refine st_vr (w.heap.size + 1) _ s hq ?_ ?_ ?_); exact rfl; exact rfl; intro W hnew ho; replace hr := hr.only ho (by omega); replace hq := hnew; replace hb := ho.bel _ _ (by omega) hb))
  all_goals (refine bodyPost_ret (results_cell_two' results27 _ _ (w.heap.size + 1) _ _ _ rfl hq underlying31 rfl size_vr) rfl ?_; exact ⟨rfl, hb⟩)
theorem rwd_sa0 (s : V) (ok : s.Ok) (a v : Nat) (hv : v < 4294967296) (hm : accV s a = 0) (hs : s.se = 0) (hr0 : s.q0.rd = false) (h : a = 56) (h2 : v ≤ 256) (w : World) :
    StViRWrD0 s a v w := by
  unfold StViRWrD0
  have HV : writeV s a v = ((s.q0w (s.q0.rw' (s.q0.r.szw (v : Int)))), -1, 0) := by rw [wqV_w hm (by omega) (by omega)]; rw [wqV_mr0 s a v (by omega) hs hr0]; unfold regV V.qw V.q; rw [hs]; subst h; simp [h2]
  rw [HV]; clear HV
  have HC := hide (fun w => rvcheck_any s ok w)
  rw [(accV_ok hm).1] at HC
  replace HC : Hid (∀ w, Calls prog 14 #[.agg s.cells] w fun e w' => e = .returned (.int .i64 0) ∧ Below w.heap.size w w') := HC
  have hse : ((s.se : Nat) : Int) = 0 := by omega
  clear hs
  subst h
  rw [show ((56 : Nat) : Int) = 56 from rfl]
  go_enter func27, ntmps27
  go_wp2_with (first | ((with_reducible refine bx_vr w.heap.size s ?_ ?_ ?_); exact rfl; exact rfl; intro W hr hb hz; have fx := hr.cell) | ((with_reducible refine al_vr (w.heap.size + 1) ?_ ?_); exact hz.out; intro W hq hb' hz'; replace hr := hr.bl (hz.out ▸ hb'); replace hb := hb.trans (hb'.mono (by omega)); replace hz := hz'; replace fx := hr.cell) | (go_at_call 14; (with_reducible refine (HC.out _).mono ?_); rintro e W ⟨rfl, hbc⟩; replace hr := hr.bl hbc; replace hq := hq.bl hbc; replace fx := hr.cell; replace hb := below_bl rfl hb hbc) | ((with_reducible refine ld_se w.heap.size _ _ hr ?_ ?_ ?_); exact rfl; exact rfl) | ((with_reducible refine ld_q0r w.heap.size _ _ hr ?_ ?_ ?_); exact rfl; exact rfl) | (obtain ⟨NQ, hNQ⟩ : ∃ n, W.heap.size = n := ⟨_, rfl⟩; have lNQ : w.heap.size + 2 ≤ NQ := (by (have := hq.lt; omega)); (with_reducible refine al_qr NQ ?_ ?_); exact hNQ; intro W hu hb' hz'; replace hr := hr.bl (hNQ ▸ hb'); replace hq := hq.bl (hNQ ▸ hb'); replace hb := hb.trans (hb'.mono (by omega)); clear hNQ hb' hz'; (try clear fx)) | ((with_reducible refine st_qr NQ _ s.q0 hu ?_ ?_ ?_); exact rfl; exact rfl; intro W hnew ho; replace hr := hr.only ho (by omega); replace hq := hq.only ho (by omega); replace hu := hnew; replace hb := ho.bel _ _ (by omega) hb; have fu := hu.cell) | ((with_reducible refine st_usz NQ _ (v : Int) _ hu ?_ ?_ ?_); exact rfl; exact rfl; intro W hnew ho; replace hr := hr.only ho (by omega); replace hq := hq.only ho (by omega); replace hu := hnew; replace hb := ho.bel _ _ (by omega) hb) | ((with_reducible refine ld_qr NQ _ hu ?_ ?_ ?_); exact rfl; exact rfl) | ((with_reducible refine st_q0r w.heap.size _ (s.q0.rw' (s.q0.r.szw (v : Int))) _ hr ?_ ?_ ?_); exact rfl; exact rfl; intro W hnew ho; replace hq := hq.only ho (by omega); replace hu := hu.only ho (by omega); replace hr := hnew; replace hb := ho.bel _ _ (by omega) hb) | ((with_reducible refine ld_vr w.heap.size _ hr ?_ ?_ ?_); exact rfl; exact rfl) | ((with_reducible refine st_vr (w.heap.size + 1) _ (s.q0w (s.q0.rw' (s.q0.r.szw (v : Int)))) hq ?_ ?_ ?_); exact rfl; exact rfl; intro W hnew ho; replace hr := hr.only ho (by omega); replace hq := hnew; replace hb := ho.bel _ _ (by omega) hb))
  all_goals (refine bodyPost_ret (results_cell_two' results27 _ _ (w.heap.size + 1) _ _ _ rfl hq underlying31 rfl size_vr) rfl ?_; exact ⟨rfl, hb⟩)
theorem rwd_sb0 (s : V) (ok : s.Ok) (a v : Nat) (hv : v < 4294967296) (hm : accV s a = 0) (hs : s.se = 0) (hr0 : s.q0.rd = false) (h : a = 56) (h2 : 256 < v) (w : World) :
    StViRWrD0 s a v w := by
  unfold StViRWrD0
  have HV : writeV s a v = (s, -1, 0) := by rw [wqV_w hm (by omega) (by omega)]; rw [wqV_mr0 s a v (by omega) hs hr0]; unfold regV V.qw V.q; rw [hs]; subst h; simp; omega
  rw [HV]; clear HV
  have HC := hide (fun w => rvcheck_any s ok w)
  rw [(accV_ok hm).1] at HC
  replace HC : Hid (∀ w, Calls prog 14 #[.agg s.cells] w fun e w' => e = .returned (.int .i64 0) ∧ Below w.heap.size w w') := HC
  have hse : ((s.se : Nat) : Int) = 0 := by omega
  have lv : decide ((v : Int) ≤ 256) = false := by simp; omega
  have lvb : decide (v ≤ 256) = false := by simp; omega
  clear hs
  subst h
  rw [show ((56 : Nat) : Int) = 56 from rfl]
  go_enter func27, ntmps27
  go_wp2_with (first | ((with_reducible refine bx_vr w.heap.size s ?_ ?_ ?_); exact rfl; exact rfl; intro W hr hb hz; have fx := hr.cell) | ((with_reducible refine al_vr (w.heap.size + 1) ?_ ?_); exact hz.out; intro W hq hb' hz'; replace hr := hr.bl (hz.out ▸ hb'); replace hb := hb.trans (hb'.mono (by omega)); replace hz := hz'; replace fx := hr.cell) | (go_at_call 14; (with_reducible refine (HC.out _).mono ?_); rintro e W ⟨rfl, hbc⟩; replace hr := hr.bl hbc; replace hq := hq.bl hbc; replace fx := hr.cell; replace hb := below_bl rfl hb hbc) | ((with_reducible refine ld_se w.heap.size _ _ hr ?_ ?_ ?_); exact rfl; exact rfl) | ((with_reducible refine ld_q0r w.heap.size _ _ hr ?_ ?_ ?_); exact rfl; exact rfl) | (obtain ⟨NQ, hNQ⟩ : ∃ n, W.heap.size = n := ⟨_, rfl⟩; have lNQ : w.heap.size + 2 ≤ NQ := (by (have := hq.lt; omega)); (with_reducible refine al_qr NQ ?_ ?_); exact hNQ; intro W hu hb' hz'; replace hr := hr.bl (hNQ ▸ hb'); replace hq := hq.bl (hNQ ▸ hb'); replace hb := hb.trans (hb'.mono (by omega)); clear hNQ hb' hz'; (try clear fx)) | ((with_reducible refine st_qr NQ _ s.q0 hu ?_ ?_ ?_); exact rfl; exact rfl; intro W hnew ho; replace hr := hr.only ho (by omega); replace hq := hq.only ho (by omega); replace hu := hnew; replace hb := ho.bel _ _ (by omega) hb; have fu := hu.cell) | ((with_reducible refine ld_qr NQ _ hu ?_ ?_ ?_); exact rfl; exact rfl) | ((with_reducible refine st_q0r w.heap.size _ s.q0 _ hr ?_ ?_ ?_); exact rfl; exact rfl; intro W hnew ho; replace hq := hq.only ho (by omega); replace hu := hu.only ho (by omega); replace hr := hnew; replace hb := ho.bel _ _ (by omega) hb) | ((with_reducible refine ld_vr w.heap.size _ hr ?_ ?_ ?_); exact rfl; exact rfl) | ((with_reducible refine st_vr (w.heap.size + 1) _ s hq ?_ ?_ ?_); exact rfl; exact rfl; intro W hnew ho; replace hr := hr.only ho (by omega); replace hq := hnew; replace hb := ho.bel _ _ (by omega) hb))
  all_goals (refine bodyPost_ret (results_cell_two' results27 _ _ (w.heap.size + 1) _ _ _ rfl hq underlying31 rfl size_vr) rfl ?_; exact ⟨rfl, hb⟩)
theorem rwd_128_0 (s : V) (ok : s.Ok) (a v : Nat) (hv : v < 4294967296) (hm : accV s a = 0) (hs : s.se = 0) (hr0 : s.q0.rd = false) (h : a = 128) (w : World) :
    StViRWrD0 s a v w := by
  unfold StViRWrD0
  have HV : writeV s a v = ((s.q0w (s.q0.rw' (s.q0.r.dew v))), -1, 0) := by rw [wqV_w hm (by omega) (by omega)]; rw [wqV_mr0 s a v (by omega) hs hr0]; unfold regV V.qw V.q; rw [hs]; subst h; rfl
  rw [HV]; clear HV
  have HC := hide (fun w => rvcheck_any s ok w)
  rw [(accV_ok hm).1] at HC
  replace HC : Hid (∀ w, Calls prog 14 #[.agg s.cells] w fun e w' => e = .returned (.int .i64 0) ∧ Below w.heap.size w w') := HC
  have hse : ((s.se : Nat) : Int) = 0 := by omega
  clear hs
  subst h
  rw [show ((128 : Nat) : Int) = 128 from rfl]
  go_enter func27, ntmps27
  go_wp2_with (first | ((with_reducible refine bx_vr w.heap.size s ?_ ?_ ?_); exact rfl; exact rfl; intro W hr hb hz; have fx := hr.cell) | ((with_reducible refine al_vr (w.heap.size + 1) ?_ ?_); exact hz.out; intro W hq hb' hz'; replace hr := hr.bl (hz.out ▸ hb'); replace hb := hb.trans (hb'.mono (by omega)); replace hz := hz'; replace fx := hr.cell) | (go_at_call 14; (with_reducible refine (HC.out _).mono ?_); rintro e W ⟨rfl, hbc⟩; replace hr := hr.bl hbc; replace hq := hq.bl hbc; replace fx := hr.cell; replace hb := below_bl rfl hb hbc) | ((with_reducible refine ld_se w.heap.size _ _ hr ?_ ?_ ?_); exact rfl; exact rfl) | ((with_reducible refine ld_q0r w.heap.size _ _ hr ?_ ?_ ?_); exact rfl; exact rfl) | (obtain ⟨NQ, hNQ⟩ : ∃ n, W.heap.size = n := ⟨_, rfl⟩; have lNQ : w.heap.size + 2 ≤ NQ := (by (have := hq.lt; omega)); (with_reducible refine al_qr NQ ?_ ?_); exact hNQ; intro W hu hb' hz'; replace hr := hr.bl (hNQ ▸ hb'); replace hq := hq.bl (hNQ ▸ hb'); replace hb := hb.trans (hb'.mono (by omega)); clear hNQ hb' hz'; (try clear fx)) | ((with_reducible refine st_qr NQ _ s.q0 hu ?_ ?_ ?_); exact rfl; exact rfl; intro W hnew ho; replace hr := hr.only ho (by omega); replace hq := hq.only ho (by omega); replace hu := hnew; replace hb := ho.bel _ _ (by omega) hb; have fu := hu.cell) | ((with_reducible refine st_ude NQ _ v _ hu ?_ ?_ ?_); exact rfl; exact rfl; intro W hnew ho; replace hr := hr.only ho (by omega); replace hq := hq.only ho (by omega); replace hu := hnew; replace hb := ho.bel _ _ (by omega) hb) | ((with_reducible refine ld_qr NQ _ hu ?_ ?_ ?_); exact rfl; exact rfl) | ((with_reducible refine st_q0r w.heap.size _ (s.q0.rw' (s.q0.r.dew v)) _ hr ?_ ?_ ?_); exact rfl; exact rfl; intro W hnew ho; replace hq := hq.only ho (by omega); replace hu := hu.only ho (by omega); replace hr := hnew; replace hb := ho.bel _ _ (by omega) hb) | ((with_reducible refine ld_vr w.heap.size _ hr ?_ ?_ ?_); exact rfl; exact rfl) | ((with_reducible refine st_vr (w.heap.size + 1) _ (s.q0w (s.q0.rw' (s.q0.r.dew v))) hq ?_ ?_ ?_); exact rfl; exact rfl; intro W hnew ho; replace hr := hr.only ho (by omega); replace hq := hnew; replace hb := ho.bel _ _ (by omega) hb))
  all_goals (refine bodyPost_ret (results_cell_two' results27 _ _ (w.heap.size + 1) _ _ _ rfl hq underlying31 rfl size_vr) rfl ?_; exact ⟨rfl, hb⟩)
theorem rwd_144_0 (s : V) (ok : s.Ok) (a v : Nat) (hv : v < 4294967296) (hm : accV s a = 0) (hs : s.se = 0) (hr0 : s.q0.rd = false) (h : a = 144) (w : World) :
    StViRWrD0 s a v w := by
  unfold StViRWrD0
  have HV : writeV s a v = ((s.q0w (s.q0.rw' (s.q0.r.avw v))), -1, 0) := by rw [wqV_w hm (by omega) (by omega)]; rw [wqV_mr0 s a v (by omega) hs hr0]; unfold regV V.qw V.q; rw [hs]; subst h; rfl
  rw [HV]; clear HV
  have HC := hide (fun w => rvcheck_any s ok w)
  rw [(accV_ok hm).1] at HC
  replace HC : Hid (∀ w, Calls prog 14 #[.agg s.cells] w fun e w' => e = .returned (.int .i64 0) ∧ Below w.heap.size w w') := HC
  have hse : ((s.se : Nat) : Int) = 0 := by omega
  clear hs
  subst h
  rw [show ((144 : Nat) : Int) = 144 from rfl]
  go_enter func27, ntmps27
  go_wp2_with (first | ((with_reducible refine bx_vr w.heap.size s ?_ ?_ ?_); exact rfl; exact rfl; intro W hr hb hz; have fx := hr.cell) | ((with_reducible refine al_vr (w.heap.size + 1) ?_ ?_); exact hz.out; intro W hq hb' hz'; replace hr := hr.bl (hz.out ▸ hb'); replace hb := hb.trans (hb'.mono (by omega)); replace hz := hz'; replace fx := hr.cell) | (go_at_call 14; (with_reducible refine (HC.out _).mono ?_); rintro e W ⟨rfl, hbc⟩; replace hr := hr.bl hbc; replace hq := hq.bl hbc; replace fx := hr.cell; replace hb := below_bl rfl hb hbc) | ((with_reducible refine ld_se w.heap.size _ _ hr ?_ ?_ ?_); exact rfl; exact rfl) | ((with_reducible refine ld_q0r w.heap.size _ _ hr ?_ ?_ ?_); exact rfl; exact rfl) | (obtain ⟨NQ, hNQ⟩ : ∃ n, W.heap.size = n := ⟨_, rfl⟩; have lNQ : w.heap.size + 2 ≤ NQ := (by (have := hq.lt; omega)); (with_reducible refine al_qr NQ ?_ ?_); exact hNQ; intro W hu hb' hz'; replace hr := hr.bl (hNQ ▸ hb'); replace hq := hq.bl (hNQ ▸ hb'); replace hb := hb.trans (hb'.mono (by omega)); clear hNQ hb' hz'; (try clear fx)) | ((with_reducible refine st_qr NQ _ s.q0 hu ?_ ?_ ?_); exact rfl; exact rfl; intro W hnew ho; replace hr := hr.only ho (by omega); replace hq := hq.only ho (by omega); replace hu := hnew; replace hb := ho.bel _ _ (by omega) hb; have fu := hu.cell) | ((with_reducible refine st_uav NQ _ v _ hu ?_ ?_ ?_); exact rfl; exact rfl; intro W hnew ho; replace hr := hr.only ho (by omega); replace hq := hq.only ho (by omega); replace hu := hnew; replace hb := ho.bel _ _ (by omega) hb) | ((with_reducible refine ld_qr NQ _ hu ?_ ?_ ?_); exact rfl; exact rfl) | ((with_reducible refine st_q0r w.heap.size _ (s.q0.rw' (s.q0.r.avw v)) _ hr ?_ ?_ ?_); exact rfl; exact rfl; intro W hnew ho; replace hq := hq.only ho (by omega); replace hu := hu.only ho (by omega); replace hr := hnew; replace hb := ho.bel _ _ (by omega) hb) | ((with_reducible refine ld_vr w.heap.size _ hr ?_ ?_ ?_); exact rfl; exact rfl) | ((with_reducible refine st_vr (w.heap.size + 1) _ (s.q0w (s.q0.rw' (s.q0.r.avw v))) hq ?_ ?_ ?_); exact rfl; exact rfl; intro W hnew ho; replace hr := hr.only ho (by omega); replace hq := hnew; replace hb := ho.bel _ _ (by omega) hb))
  all_goals (refine bodyPost_ret (results_cell_two' results27 _ _ (w.heap.size + 1) _ _ _ rfl hq underlying31 rfl size_vr) rfl ?_; exact ⟨rfl, hb⟩)
theorem rwd_160_0 (s : V) (ok : s.Ok) (a v : Nat) (hv : v < 4294967296) (hm : accV s a = 0) (hs : s.se = 0) (hr0 : s.q0.rd = false) (h : a = 160) (w : World) :
    StViRWrD0 s a v w := by
  unfold StViRWrD0
  have HV : writeV s a v = ((s.q0w (s.q0.rw' (s.q0.r.usw v))), -1, 0) := by rw [wqV_w hm (by omega) (by omega)]; rw [wqV_mr0 s a v (by omega) hs hr0]; unfold regV V.qw V.q; rw [hs]; subst h; rfl
  rw [HV]; clear HV
  have HC := hide (fun w => rvcheck_any s ok w)
  rw [(accV_ok hm).1] at HC
  replace HC : Hid (∀ w, Calls prog 14 #[.agg s.cells] w fun e w' => e = .returned (.int .i64 0) ∧ Below w.heap.size w w') := HC
  have hse : ((s.se : Nat) : Int) = 0 := by omega
  clear hs
  subst h
  rw [show ((160 : Nat) : Int) = 160 from rfl]
  go_enter func27, ntmps27
  go_wp2_with (first | ((with_reducible refine bx_vr w.heap.size s ?_ ?_ ?_); exact rfl; exact rfl; intro W hr hb hz; have fx := hr.cell) | ((with_reducible refine al_vr (w.heap.size + 1) ?_ ?_); exact hz.out; intro W hq hb' hz'; replace hr := hr.bl (hz.out ▸ hb'); replace hb := hb.trans (hb'.mono (by omega)); replace hz := hz'; replace fx := hr.cell) | (go_at_call 14; (with_reducible refine (HC.out _).mono ?_); rintro e W ⟨rfl, hbc⟩; replace hr := hr.bl hbc; replace hq := hq.bl hbc; replace fx := hr.cell; replace hb := below_bl rfl hb hbc) | ((with_reducible refine ld_se w.heap.size _ _ hr ?_ ?_ ?_); exact rfl; exact rfl) | ((with_reducible refine ld_q0r w.heap.size _ _ hr ?_ ?_ ?_); exact rfl; exact rfl) | (obtain ⟨NQ, hNQ⟩ : ∃ n, W.heap.size = n := ⟨_, rfl⟩; have lNQ : w.heap.size + 2 ≤ NQ := (by (have := hq.lt; omega)); (with_reducible refine al_qr NQ ?_ ?_); exact hNQ; intro W hu hb' hz'; replace hr := hr.bl (hNQ ▸ hb'); replace hq := hq.bl (hNQ ▸ hb'); replace hb := hb.trans (hb'.mono (by omega)); clear hNQ hb' hz'; (try clear fx)) | ((with_reducible refine st_qr NQ _ s.q0 hu ?_ ?_ ?_); exact rfl; exact rfl; intro W hnew ho; replace hr := hr.only ho (by omega); replace hq := hq.only ho (by omega); replace hu := hnew; replace hb := ho.bel _ _ (by omega) hb; have fu := hu.cell) | ((with_reducible refine st_uus NQ _ v _ hu ?_ ?_ ?_); exact rfl; exact rfl; intro W hnew ho; replace hr := hr.only ho (by omega); replace hq := hq.only ho (by omega); replace hu := hnew; replace hb := ho.bel _ _ (by omega) hb) | ((with_reducible refine ld_qr NQ _ hu ?_ ?_ ?_); exact rfl; exact rfl) | ((with_reducible refine st_q0r w.heap.size _ (s.q0.rw' (s.q0.r.usw v)) _ hr ?_ ?_ ?_); exact rfl; exact rfl; intro W hnew ho; replace hq := hq.only ho (by omega); replace hu := hu.only ho (by omega); replace hr := hnew; replace hb := ho.bel _ _ (by omega) hb) | ((with_reducible refine ld_vr w.heap.size _ hr ?_ ?_ ?_); exact rfl; exact rfl) | ((with_reducible refine st_vr (w.heap.size + 1) _ (s.q0w (s.q0.rw' (s.q0.r.usw v))) hq ?_ ?_ ?_); exact rfl; exact rfl; intro W hnew ho; replace hr := hr.only ho (by omega); replace hq := hnew; replace hb := ho.bel _ _ (by omega) hb))
  all_goals (refine bodyPost_ret (results_cell_two' results27 _ _ (w.heap.size + 1) _ _ _ rfl hq underlying31 rfl size_vr) rfl ?_; exact ⟨rfl, hb⟩)
theorem rwd_132z_0 (s : V) (ok : s.Ok) (a v : Nat) (hv : v < 4294967296) (hm : accV s a = 0) (hs : s.se = 0) (hr0 : s.q0.rd = false) (h : a = 132) (h2 : v = 0) (w : World) :
    StViRWrD0 s a v w := by
  unfold StViRWrD0
  have HV : writeV s a v = (s, -1, 0) := by rw [wqV_w hm (by omega) (by omega)]; rw [wqV_mr0 s a v (by omega) hs hr0]; unfold regV V.qw V.q; rw [hs]; subst h; subst h2; rfl
  rw [HV]; clear HV
  have HC := hide (fun w => rvcheck_any s ok w)
  rw [(accV_ok hm).1] at HC
  replace HC : Hid (∀ w, Calls prog 14 #[.agg s.cells] w fun e w' => e = .returned (.int .i64 0) ∧ Below w.heap.size w w') := HC
  have hse : ((s.se : Nat) : Int) = 0 := by omega
  clear hs
  subst h2
  rw [show ((0 : Nat) : Int) = 0 from rfl]
  subst h
  rw [show ((132 : Nat) : Int) = 132 from rfl]
  go_enter func27, ntmps27
  go_wp2_with (first | ((with_reducible refine bx_vr w.heap.size s ?_ ?_ ?_); exact rfl; exact rfl; intro W hr hb hz; have fx := hr.cell) | ((with_reducible refine al_vr (w.heap.size + 1) ?_ ?_); exact hz.out; intro W hq hb' hz'; replace hr := hr.bl (hz.out ▸ hb'); replace hb := hb.trans (hb'.mono (by omega)); replace hz := hz'; replace fx := hr.cell) | (go_at_call 14; (with_reducible refine (HC.out _).mono ?_); rintro e W ⟨rfl, hbc⟩; replace hr := hr.bl hbc; replace hq := hq.bl hbc; replace fx := hr.cell; replace hb := below_bl rfl hb hbc) | ((with_reducible refine ld_se w.heap.size _ _ hr ?_ ?_ ?_); exact rfl; exact rfl) | ((with_reducible refine ld_q0r w.heap.size _ _ hr ?_ ?_ ?_); exact rfl; exact rfl) | (obtain ⟨NQ, hNQ⟩ : ∃ n, W.heap.size = n := ⟨_, rfl⟩; have lNQ : w.heap.size + 2 ≤ NQ := (by (have := hq.lt; omega)); (with_reducible refine al_qr NQ ?_ ?_); exact hNQ; intro W hu hb' hz'; replace hr := hr.bl (hNQ ▸ hb'); replace hq := hq.bl (hNQ ▸ hb'); replace hb := hb.trans (hb'.mono (by omega)); clear hNQ hb' hz'; (try clear fx)) | ((with_reducible refine st_qr NQ _ s.q0 hu ?_ ?_ ?_); exact rfl; exact rfl; intro W hnew ho; replace hr := hr.only ho (by omega); replace hq := hq.only ho (by omega); replace hu := hnew; replace hb := ho.bel _ _ (by omega) hb; have fu := hu.cell) | ((with_reducible refine ld_qr NQ _ hu ?_ ?_ ?_); exact rfl; exact rfl) | ((with_reducible refine st_q0r w.heap.size _ s.q0 _ hr ?_ ?_ ?_); exact rfl; exact rfl; intro W hnew ho; replace hq := hq.only ho (by omega); replace hu := hu.only ho (by omega); replace hr := hnew; replace hb := ho.bel _ _ (by omega) hb) | ((with_reducible refine ld_vr w.heap.size _ hr ?_ ?_ ?_); exact rfl; exact rfl) | ((with_reducible refine st_vr (w.heap.size + 1) _ s hq ?_ ?_ ?_); exact rfl; exact rfl; intro W hnew ho; replace hr := hr.only ho (by omega); replace hq := hnew; replace hb := ho.bel _ _ (by omega) hb))
  all_goals (refine bodyPost_ret (results_cell_two' results27 _ _ (w.heap.size + 1) _ _ _ rfl hq underlying31 rfl size_vr) rfl ?_; exact ⟨rfl, hb⟩)
theorem rwd_132f_0 (s : V) (ok : s.Ok) (a v : Nat) (hv : v < 4294967296) (hm : accV s a = 0) (hs : s.se = 0) (hr0 : s.q0.rd = false) (h : a = 132) (h2 : v ≠ 0) (w : World) :
    StViRWrD0 s a v w := by
  unfold StViRWrD0
  have HV : writeV s a v = (failV s, -1, 0) := by rw [wqV_w hm (by omega) (by omega)]; rw [wqV_mr0 s a v (by omega) hs hr0]; unfold regV V.qw V.q; rw [hs]; subst h; simp [h2]
  rw [HV]; clear HV
  have HC := hide (fun w => rvcheck_any s ok w)
  rw [(accV_ok hm).1] at HC
  replace HC : Hid (∀ w, Calls prog 14 #[.agg s.cells] w fun e w' => e = .returned (.int .i64 0) ∧ Below w.heap.size w w') := HC
  have hse : ((s.se : Nat) : Int) = 0 := by omega
  have HF := hide (fun w => rfail_any s ok w)
  generalize failV s = z at HF ⊢
  have lv : ((v : Int) != 0) = true := by simp; omega
  have lvb : (v != 0) = true := by simp; omega
  clear hs h2
  subst h
  rw [show ((132 : Nat) : Int) = 132 from rfl]
  go_enter func27, ntmps27
  go_wp2_with (first | ((with_reducible refine bx_vr w.heap.size s ?_ ?_ ?_); exact rfl; exact rfl; intro W hr hb hz; have fx := hr.cell) | ((with_reducible refine al_vr (w.heap.size + 1) ?_ ?_); exact hz.out; intro W hq hb' hz'; replace hr := hr.bl (hz.out ▸ hb'); replace hb := hb.trans (hb'.mono (by omega)); replace hz := hz'; replace fx := hr.cell) | (go_at_call 14; (with_reducible refine (HC.out _).mono ?_); rintro e W ⟨rfl, hbc⟩; replace hr := hr.bl hbc; replace hq := hq.bl hbc; replace fx := hr.cell; replace hb := below_bl rfl hb hbc) | ((with_reducible refine ld_se w.heap.size _ _ hr ?_ ?_ ?_); exact rfl; exact rfl) | ((with_reducible refine ld_q0r w.heap.size _ _ hr ?_ ?_ ?_); exact rfl; exact rfl) | (obtain ⟨NQ, hNQ⟩ : ∃ n, W.heap.size = n := ⟨_, rfl⟩; have lNQ : w.heap.size + 2 ≤ NQ := (by (have := hq.lt; omega)); (with_reducible refine al_qr NQ ?_ ?_); exact hNQ; intro W hu hb' hz'; replace hr := hr.bl (hNQ ▸ hb'); replace hq := hq.bl (hNQ ▸ hb'); replace hb := hb.trans (hb'.mono (by omega)); clear hNQ hb' hz'; (try clear fx)) | ((with_reducible refine st_qr NQ _ s.q0 hu ?_ ?_ ?_); exact rfl; exact rfl; intro W hnew ho; replace hr := hr.only ho (by omega); replace hq := hq.only ho (by omega); replace hu := hnew; replace hb := ho.bel _ _ (by omega) hb; have fu := hu.cell) | (go_at_call 46; (with_reducible refine (HF.out _).mono ?_); rintro e W ⟨rfl, hbc⟩; replace hr := hr.bl hbc; replace hq := hq.bl hbc; replace hu := hu.bl hbc; replace hb := below_bl rfl hb hbc) | ((with_reducible refine ld_vr w.heap.size _ hr ?_ ?_ ?_); exact rfl; exact rfl) | ((with_reducible refine st_vr (w.heap.size + 1) _ z hq ?_ ?_ ?_); exact rfl; exact rfl; intro W hnew ho; replace hr := hr.only ho (by omega); replace hq := hnew; replace hb := ho.bel _ _ (by omega) hb))
  all_goals (refine bodyPost_ret (results_cell_two' results27 _ _ (w.heap.size + 1) _ _ _ rfl hq underlying31 rfl size_vr) rfl ?_; exact ⟨rfl, hb⟩)
theorem rwd_148z_0 (s : V) (ok : s.Ok) (a v : Nat) (hv : v < 4294967296) (hm : accV s a = 0) (hs : s.se = 0) (hr0 : s.q0.rd = false) (h : a = 148) (h2 : v = 0) (w : World) :
    StViRWrD0 s a v w := by
  unfold StViRWrD0
  have HV : writeV s a v = (s, -1, 0) := by rw [wqV_w hm (by omega) (by omega)]; rw [wqV_mr0 s a v (by omega) hs hr0]; unfold regV V.qw V.q; rw [hs]; subst h; subst h2; rfl
  rw [HV]; clear HV
  have HC := hide (fun w => rvcheck_any s ok w)
  rw [(accV_ok hm).1] at HC
  replace HC : Hid (∀ w, Calls prog 14 #[.agg s.cells] w fun e w' => e = .returned (.int .i64 0) ∧ Below w.heap.size w w') := HC
  have hse : ((s.se : Nat) : Int) = 0 := by omega
  clear hs
  subst h2
  rw [show ((0 : Nat) : Int) = 0 from rfl]
  subst h
  rw [show ((148 : Nat) : Int) = 148 from rfl]
  go_enter func27, ntmps27
  go_wp2_with (first | ((with_reducible refine bx_vr w.heap.size s ?_ ?_ ?_); exact rfl; exact rfl; intro W hr hb hz; have fx := hr.cell) | ((with_reducible refine al_vr (w.heap.size + 1) ?_ ?_); exact hz.out; intro W hq hb' hz'; replace hr := hr.bl (hz.out ▸ hb'); replace hb := hb.trans (hb'.mono (by omega)); replace hz := hz'; replace fx := hr.cell) | (go_at_call 14; (with_reducible refine (HC.out _).mono ?_); rintro e W ⟨rfl, hbc⟩; replace hr := hr.bl hbc; replace hq := hq.bl hbc; replace fx := hr.cell; replace hb := below_bl rfl hb hbc) | ((with_reducible refine ld_se w.heap.size _ _ hr ?_ ?_ ?_); exact rfl; exact rfl) | ((with_reducible refine ld_q0r w.heap.size _ _ hr ?_ ?_ ?_); exact rfl; exact rfl) | (obtain ⟨NQ, hNQ⟩ : ∃ n, W.heap.size = n := ⟨_, rfl⟩; have lNQ : w.heap.size + 2 ≤ NQ := (by (have := hq.lt; omega)); (with_reducible refine al_qr NQ ?_ ?_); exact hNQ; intro W hu hb' hz'; replace hr := hr.bl (hNQ ▸ hb'); replace hq := hq.bl (hNQ ▸ hb'); replace hb := hb.trans (hb'.mono (by omega)); clear hNQ hb' hz'; (try clear fx)) | ((with_reducible refine st_qr NQ _ s.q0 hu ?_ ?_ ?_); exact rfl; exact rfl; intro W hnew ho; replace hr := hr.only ho (by omega); replace hq := hq.only ho (by omega); replace hu := hnew; replace hb := ho.bel _ _ (by omega) hb; have fu := hu.cell) | ((with_reducible refine ld_qr NQ _ hu ?_ ?_ ?_); exact rfl; exact rfl) | ((with_reducible refine st_q0r w.heap.size _ s.q0 _ hr ?_ ?_ ?_); exact rfl; exact rfl; intro W hnew ho; replace hq := hq.only ho (by omega); replace hu := hu.only ho (by omega); replace hr := hnew; replace hb := ho.bel _ _ (by omega) hb) | ((with_reducible refine ld_vr w.heap.size _ hr ?_ ?_ ?_); exact rfl; exact rfl) | ((with_reducible refine st_vr (w.heap.size + 1) _ s hq ?_ ?_ ?_); exact rfl; exact rfl; intro W hnew ho; replace hr := hr.only ho (by omega); replace hq := hnew; replace hb := ho.bel _ _ (by omega) hb))
  all_goals (refine bodyPost_ret (results_cell_two' results27 _ _ (w.heap.size + 1) _ _ _ rfl hq underlying31 rfl size_vr) rfl ?_; exact ⟨rfl, hb⟩)
theorem rwd_148f_0 (s : V) (ok : s.Ok) (a v : Nat) (hv : v < 4294967296) (hm : accV s a = 0) (hs : s.se = 0) (hr0 : s.q0.rd = false) (h : a = 148) (h2 : v ≠ 0) (w : World) :
    StViRWrD0 s a v w := by
  unfold StViRWrD0
  have HV : writeV s a v = (failV s, -1, 0) := by rw [wqV_w hm (by omega) (by omega)]; rw [wqV_mr0 s a v (by omega) hs hr0]; unfold regV V.qw V.q; rw [hs]; subst h; simp [h2]
  rw [HV]; clear HV
  have HC := hide (fun w => rvcheck_any s ok w)
  rw [(accV_ok hm).1] at HC
  replace HC : Hid (∀ w, Calls prog 14 #[.agg s.cells] w fun e w' => e = .returned (.int .i64 0) ∧ Below w.heap.size w w') := HC
  have hse : ((s.se : Nat) : Int) = 0 := by omega
  have HF := hide (fun w => rfail_any s ok w)
  generalize failV s = z at HF ⊢
  have lv : ((v : Int) != 0) = true := by simp; omega
  have lvb : (v != 0) = true := by simp; omega
  clear hs h2
  subst h
  rw [show ((148 : Nat) : Int) = 148 from rfl]
  go_enter func27, ntmps27
  go_wp2_with (first | ((with_reducible refine bx_vr w.heap.size s ?_ ?_ ?_); exact rfl; exact rfl; intro W hr hb hz; have fx := hr.cell) | ((with_reducible refine al_vr (w.heap.size + 1) ?_ ?_); exact hz.out; intro W hq hb' hz'; replace hr := hr.bl (hz.out ▸ hb'); replace hb := hb.trans (hb'.mono (by omega)); replace hz := hz'; replace fx := hr.cell) | (go_at_call 14; (with_reducible refine (HC.out _).mono ?_); rintro e W ⟨rfl, hbc⟩; replace hr := hr.bl hbc; replace hq := hq.bl hbc; replace fx := hr.cell; replace hb := below_bl rfl hb hbc) | ((with_reducible refine ld_se w.heap.size _ _ hr ?_ ?_ ?_); exact rfl; exact rfl) | ((with_reducible refine ld_q0r w.heap.size _ _ hr ?_ ?_ ?_); exact rfl; exact rfl) | (obtain ⟨NQ, hNQ⟩ : ∃ n, W.heap.size = n := ⟨_, rfl⟩; have lNQ : w.heap.size + 2 ≤ NQ := (by (have := hq.lt; omega)); (with_reducible refine al_qr NQ ?_ ?_); exact hNQ; intro W hu hb' hz'; replace hr := hr.bl (hNQ ▸ hb'); replace hq := hq.bl (hNQ ▸ hb'); replace hb := hb.trans (hb'.mono (by omega)); clear hNQ hb' hz'; (try clear fx)) | ((with_reducible refine st_qr NQ _ s.q0 hu ?_ ?_ ?_); exact rfl; exact rfl; intro W hnew ho; replace hr := hr.only ho (by omega); replace hq := hq.only ho (by omega); replace hu := hnew; replace hb := ho.bel _ _ (by omega) hb; have fu := hu.cell) | (go_at_call 46; (with_reducible refine (HF.out _).mono ?_); rintro e W ⟨rfl, hbc⟩; replace hr := hr.bl hbc; replace hq := hq.bl hbc; replace hu := hu.bl hbc; replace hb := below_bl rfl hb hbc) | ((with_reducible refine ld_vr w.heap.size _ hr ?_ ?_ ?_); exact rfl; exact rfl) | ((with_reducible refine st_vr (w.heap.size + 1) _ z hq ?_ ?_ ?_); exact rfl; exact rfl; intro W hnew ho; replace hr := hr.only ho (by omega); replace hq := hnew; replace hb := ho.bel _ _ (by omega) hb))
  all_goals (refine bodyPost_ret (results_cell_two' results27 _ _ (w.heap.size + 1) _ _ _ rfl hq underlying31 rfl size_vr) rfl ?_; exact ⟨rfl, hb⟩)
theorem rwd_164z_0 (s : V) (ok : s.Ok) (a v : Nat) (hv : v < 4294967296) (hm : accV s a = 0) (hs : s.se = 0) (hr0 : s.q0.rd = false) (h : a = 164) (h2 : v = 0) (w : World) :
    StViRWrD0 s a v w := by
  unfold StViRWrD0
  have HV : writeV s a v = (s, -1, 0) := by rw [wqV_w hm (by omega) (by omega)]; rw [wqV_mr0 s a v (by omega) hs hr0]; unfold regV V.qw V.q; rw [hs]; subst h; subst h2; rfl
  rw [HV]; clear HV
  have HC := hide (fun w => rvcheck_any s ok w)
  rw [(accV_ok hm).1] at HC
  replace HC : Hid (∀ w, Calls prog 14 #[.agg s.cells] w fun e w' => e = .returned (.int .i64 0) ∧ Below w.heap.size w w') := HC
  have hse : ((s.se : Nat) : Int) = 0 := by omega
  clear hs
  subst h2
  rw [show ((0 : Nat) : Int) = 0 from rfl]
  subst h
  rw [show ((164 : Nat) : Int) = 164 from rfl]
  go_enter func27, ntmps27
  go_wp2_with (first | ((with_reducible refine bx_vr w.heap.size s ?_ ?_ ?_); exact rfl; exact rfl; intro W hr hb hz; have fx := hr.cell) | ((with_reducible refine al_vr (w.heap.size + 1) ?_ ?_); exact hz.out; intro W hq hb' hz'; replace hr := hr.bl (hz.out ▸ hb'); replace hb := hb.trans (hb'.mono (by omega)); replace hz := hz'; replace fx := hr.cell) | (go_at_call 14; (with_reducible refine (HC.out _).mono ?_); rintro e W ⟨rfl, hbc⟩; replace hr := hr.bl hbc; replace hq := hq.bl hbc; replace fx := hr.cell; replace hb := below_bl rfl hb hbc) | ((with_reducible refine ld_se w.heap.size _ _ hr ?_ ?_ ?_); exact rfl; exact rfl) | ((with_reducible refine ld_q0r w.heap.size _ _ hr ?_ ?_ ?_); exact rfl; exact rfl) | (obtain ⟨NQ, hNQ⟩ : ∃ n, W.heap.size = n := ⟨_, rfl⟩; have lNQ : w.heap.size + 2 ≤ NQ := (by (have := hq.lt; omega)); (with_reducible refine al_qr NQ ?_ ?_); exact hNQ; intro W hu hb' hz'; replace hr := hr.bl (hNQ ▸ hb'); replace hq := hq.bl (hNQ ▸ hb'); replace hb := hb.trans (hb'.mono (by omega)); clear hNQ hb' hz'; (try clear fx)) | ((with_reducible refine st_qr NQ _ s.q0 hu ?_ ?_ ?_); exact rfl; exact rfl; intro W hnew ho; replace hr := hr.only ho (by omega); replace hq := hq.only ho (by omega); replace hu := hnew; replace hb := ho.bel _ _ (by omega) hb; have fu := hu.cell) | ((with_reducible refine ld_qr NQ _ hu ?_ ?_ ?_); exact rfl; exact rfl) | ((with_reducible refine st_q0r w.heap.size _ s.q0 _ hr ?_ ?_ ?_); exact rfl; exact rfl; intro W hnew ho; replace hq := hq.only ho (by omega); replace hu := hu.only ho (by omega); replace hr := hnew; replace hb := ho.bel _ _ (by omega) hb) | ((with_reducible refine ld_vr w.heap.size _ hr ?_ ?_ ?_); exact rfl; exact rfl) | ((with_reducible refine st_vr (w.heap.size + 1) _ s hq ?_ ?_ ?_); exact rfl; exact rfl; intro W hnew ho; replace hr := hr.only ho (by omega); replace hq := hnew; replace hb := ho.bel _ _ (by omega) hb))
  all_goals (refine bodyPost_ret (results_cell_two' results27 _ _ (w.heap.size + 1) _ _ _ rfl hq underlying31 rfl size_vr) rfl ?_; exact ⟨rfl, hb⟩)
theorem rwd_164f_0 (s : V) (ok : s.Ok) (a v : Nat) (hv : v < 4294967296) (hm : accV s a = 0) (hs : s.se = 0) (hr0 : s.q0.rd = false) (h : a = 164) (h2 : v ≠ 0) (w : World) :
    StViRWrD0 s a v w := by
  unfold StViRWrD0
  have HV : writeV s a v = (failV s, -1, 0) := by rw [wqV_w hm (by omega) (by omega)]; rw [wqV_mr0 s a v (by omega) hs hr0]; unfold regV V.qw V.q; rw [hs]; subst h; simp [h2]
  rw [HV]; clear HV
  have HC := hide (fun w => rvcheck_any s ok w)
  rw [(accV_ok hm).1] at HC
  replace HC : Hid (∀ w, Calls prog 14 #[.agg s.cells] w fun e w' => e = .returned (.int .i64 0) ∧ Below w.heap.size w w') := HC
  have hse : ((s.se : Nat) : Int) = 0 := by omega
  have HF := hide (fun w => rfail_any s ok w)
  generalize failV s = z at HF ⊢
  have lv : ((v : Int) != 0) = true := by simp; omega
  have lvb : (v != 0) = true := by simp; omega
  clear hs h2
  subst h
  rw [show ((164 : Nat) : Int) = 164 from rfl]
  go_enter func27, ntmps27
  go_wp2_with (first | ((with_reducible refine bx_vr w.heap.size s ?_ ?_ ?_); exact rfl; exact rfl; intro W hr hb hz; have fx := hr.cell) | ((with_reducible refine al_vr (w.heap.size + 1) ?_ ?_); exact hz.out; intro W hq hb' hz'; replace hr := hr.bl (hz.out ▸ hb'); replace hb := hb.trans (hb'.mono (by omega)); replace hz := hz'; replace fx := hr.cell) | (go_at_call 14; (with_reducible refine (HC.out _).mono ?_); rintro e W ⟨rfl, hbc⟩; replace hr := hr.bl hbc; replace hq := hq.bl hbc; replace fx := hr.cell; replace hb := below_bl rfl hb hbc) | ((with_reducible refine ld_se w.heap.size _ _ hr ?_ ?_ ?_); exact rfl; exact rfl) | ((with_reducible refine ld_q0r w.heap.size _ _ hr ?_ ?_ ?_); exact rfl; exact rfl) | (obtain ⟨NQ, hNQ⟩ : ∃ n, W.heap.size = n := ⟨_, rfl⟩; have lNQ : w.heap.size + 2 ≤ NQ := (by (have := hq.lt; omega)); (with_reducible refine al_qr NQ ?_ ?_); exact hNQ; intro W hu hb' hz'; replace hr := hr.bl (hNQ ▸ hb'); replace hq := hq.bl (hNQ ▸ hb'); replace hb := hb.trans (hb'.mono (by omega)); clear hNQ hb' hz'; (try clear fx)) | ((with_reducible refine st_qr NQ _ s.q0 hu ?_ ?_ ?_); exact rfl; exact rfl; intro W hnew ho; replace hr := hr.only ho (by omega); replace hq := hq.only ho (by omega); replace hu := hnew; replace hb := ho.bel _ _ (by omega) hb; have fu := hu.cell) | (go_at_call 46; (with_reducible refine (HF.out _).mono ?_); rintro e W ⟨rfl, hbc⟩; replace hr := hr.bl hbc; replace hq := hq.bl hbc; replace hu := hu.bl hbc; replace hb := below_bl rfl hb hbc) | ((with_reducible refine ld_vr w.heap.size _ hr ?_ ?_ ?_); exact rfl; exact rfl) | ((with_reducible refine st_vr (w.heap.size + 1) _ z hq ?_ ?_ ?_); exact rfl; exact rfl; intro W hnew ho; replace hr := hr.only ho (by omega); replace hq := hnew; replace hb := ho.bel _ _ (by omega) hb))
  all_goals (refine bodyPost_ret (results_cell_two' results27 _ _ (w.heap.size + 1) _ _ _ rfl hq underlying31 rfl size_vr) rfl ?_; exact ⟨rfl, hb⟩)
theorem rwd_n0 (s : V) (ok : s.Ok) (a v : Nat) (hv : v < 4294967296) (hm : accV s a = 0) (hs : s.se = 0) (hr0 : s.q0.rd = false) (n20 : a ≠ 20) (n36 : a ≠ 36) (n32 : a ≠ 32) (n48 : a ≠ 48) (n80 : a ≠ 80) (n100 : a ≠ 100) (n112 : a ≠ 112) (n68 : a ≠ 68) (n56 : a ≠ 56) (n128 : a ≠ 128) (n144 : a ≠ 144) (n160 : a ≠ 160) (n132 : a ≠ 132) (n148 : a ≠ 148) (n164 : a ≠ 164) (w : World) :
    StViRWrD0 s a v w := by
  unfold StViRWrD0
  have HV : writeV s a v = (s, -1, 0) := by rw [wqV_w hm (by omega) (by omega)]; rw [wqV_mr0 s a v (by omega) hs hr0]; unfold regV V.qw V.q; rw [hs]; rw [if_neg n56, if_neg n128, if_neg n144, if_neg n160, if_neg (by omega)]
  rw [HV]; clear HV
  have HC := hide (fun w => rvcheck_any s ok w)
  rw [(accV_ok hm).1] at HC
  replace HC : Hid (∀ w, Calls prog 14 #[.agg s.cells] w fun e w' => e = .returned (.int .i64 0) ∧ Below w.heap.size w w') := HC
  have hse : ((s.se : Nat) : Int) = 0 := by omega
  have hA := accV_ok hm
  have h256 := hA.2.1
  have h4 := hA.2.2
  have g1 : decide ((a : Int) > 255) = false := by simp; omega
  have g2 : decide ((255 : Int) < (a : Int)) = false := by simp; omega
  have g3 : decide (255 < a) = false := by simp; omega
  have o1 : (((a : Int) % 4) != 0) = false := by simp; omega
  have o2 : ((((a % 4 : Nat)) : Int) != 0) = false := by simp; omega
  clear hA h4
  have l20 : ((a : Int) == 20) = false := by simp; omega
  have m20 : (a == 20) = false := by simp; omega
  have l36 : ((a : Int) == 36) = false := by simp; omega
  have m36 : (a == 36) = false := by simp; omega
  have l32 : ((a : Int) == 32) = false := by simp; omega
  have m32 : (a == 32) = false := by simp; omega
  have l48 : ((a : Int) == 48) = false := by simp; omega
  have m48 : (a == 48) = false := by simp; omega
  have l80 : ((a : Int) == 80) = false := by simp; omega
  have m80 : (a == 80) = false := by simp; omega
  have l100 : ((a : Int) == 100) = false := by simp; omega
  have m100 : (a == 100) = false := by simp; omega
  have l112 : ((a : Int) == 112) = false := by simp; omega
  have m112 : (a == 112) = false := by simp; omega
  have l68 : ((a : Int) == 68) = false := by simp; omega
  have m68 : (a == 68) = false := by simp; omega
  have l56 : ((a : Int) == 56) = false := by simp; omega
  have m56 : (a == 56) = false := by simp; omega
  have l128 : ((a : Int) == 128) = false := by simp; omega
  have m128 : (a == 128) = false := by simp; omega
  have l144 : ((a : Int) == 144) = false := by simp; omega
  have m144 : (a == 144) = false := by simp; omega
  have l160 : ((a : Int) == 160) = false := by simp; omega
  have m160 : (a == 160) = false := by simp; omega
  have l132 : ((a : Int) == 132) = false := by simp; omega
  have m132 : (a == 132) = false := by simp; omega
  have l148 : ((a : Int) == 148) = false := by simp; omega
  have m148 : (a == 148) = false := by simp; omega
  have l164 : ((a : Int) == 164) = false := by simp; omega
  have m164 : (a == 164) = false := by simp; omega
  clear hs n20 n36 n32 n48 n80 n100 n112 n68 n56 n128 n144 n160 n132 n148 n164
  go_enter func27, ntmps27
  go_wp2_with (first | ((with_reducible refine bx_vr w.heap.size s ?_ ?_ ?_); exact rfl; exact rfl; intro W hr hb hz; have fx := hr.cell) | ((with_reducible refine al_vr (w.heap.size + 1) ?_ ?_); exact hz.out; intro W hq hb' hz'; replace hr := hr.bl (hz.out ▸ hb'); replace hb := hb.trans (hb'.mono (by omega)); replace hz := hz'; replace fx := hr.cell) | (go_at_call 14; (with_reducible refine (HC.out _).mono ?_); rintro e W ⟨rfl, hbc⟩; replace hr := hr.bl hbc; replace hq := hq.bl hbc; replace fx := hr.cell; replace hb := below_bl rfl hb hbc) | ((with_reducible refine ld_se w.heap.size _ _ hr ?_ ?_ ?_); exact rfl; exact rfl) | ((with_reducible refine ld_q0r w.heap.size _ _ hr ?_ ?_ ?_); exact rfl; exact rfl) | (obtain ⟨NQ, hNQ⟩ : ∃ n, W.heap.size = n := ⟨_, rfl⟩; have lNQ : w.heap.size + 2 ≤ NQ := (by (have := hq.lt; omega)); (with_reducible refine al_qr NQ ?_ ?_); exact hNQ; intro W hu hb' hz'; replace hr := hr.bl (hNQ ▸ hb'); replace hq := hq.bl (hNQ ▸ hb'); replace hb := hb.trans (hb'.mono (by omega)); clear hNQ hb' hz'; (try clear fx)) | ((with_reducible refine st_qr NQ _ s.q0 hu ?_ ?_ ?_); exact rfl; exact rfl; intro W hnew ho; replace hr := hr.only ho (by omega); replace hq := hq.only ho (by omega); replace hu := hnew; replace hb := ho.bel _ _ (by omega) hb; have fu := hu.cell) | ((with_reducible refine ld_qr NQ _ hu ?_ ?_ ?_); exact rfl; exact rfl) | ((with_reducible refine st_q0r w.heap.size _ s.q0 _ hr ?_ ?_ ?_); exact rfl; exact rfl; intro W hnew ho; replace hq := hq.only ho (by omega); replace hu := hu.only ho (by omega); replace hr := hnew; replace hb := ho.bel _ _ (by omega) hb) | ((with_reducible refine ld_vr w.heap.size _ hr ?_ ?_ ?_); exact rfl; exact rfl) | ((with_reducible refine st_vr (w.heap.size + 1) _ s hq ?_ ?_ ?_); exact rfl; exact rfl; intro W hnew ho; replace hr := hr.only ho (by omega); replace hq := hnew; replace hb := ho.bel _ _ (by omega) hb))
  all_goals (refine bodyPost_ret (results_cell_two' results27 _ _ (w.heap.size + 1) _ _ _ rfl hq underlying31 rfl size_vr) rfl ?_; exact ⟨rfl, hb⟩)
end Go.Proofs.YtbggkoahofnnjaaGreatDoor
